/-
  'span' of package token, at every text, place within it and each of the four function values that the program hands it: it answers the place where the bytes end of which it goes on, and leaves the world as it was.
-/
import Derived.Test.YtcnnjladaoaeiaaGreatDoorPreds
namespace Go.Proofs.YtcnnjladaoaeiaaGreatDoor
open Go.RowKit

/-- how many bytes of a list, from its head on, are so -/
def runL (p : UInt8 → Bool) (l : List UInt8) : Nat := (l.takeWhile p).length

theorem runL_le (p : UInt8 → Bool) (l : List UInt8) : runL p l ≤ l.length := by
  unfold runL; exact (List.takeWhile_sublist p).length_le

theorem runL_cons (p : UInt8 → Bool) (c : UInt8) (l : List UInt8) : runL p (c :: l) = if p c = true then runL p l + 1 else 0 := by
  unfold runL; rw [List.takeWhile_cons]; split <;> simp

/-- the place where it ends, from a place on -/
def spanE (p : UInt8 → Bool) (s : ByteArray) (a : Nat) : Nat := a + runL p (s.data.toList.drop a)

theorem drop_at (s : ByteArray) (k : Nat) (h : k < s.size) : s.data.toList.drop k = s[k] :: s.data.toList.drop (k + 1) := by
  rw [List.drop_eq_getElem_cons (by simpa using h)]; rfl

theorem spanE_yes (p : UInt8 → Bool) (s : ByteArray) (k : Nat) (h : k < s.size) (hp : p s[k] = true) : spanE p s k = spanE p s (k + 1) := by
  unfold spanE; rw [drop_at s k h, runL_cons, if_pos hp]; omega

theorem spanE_no (p : UInt8 → Bool) (s : ByteArray) (k : Nat) (h : k < s.size) (hp : p s[k] = false) : spanE p s k = k := by
  unfold spanE; rw [drop_at s k h, runL_cons, if_neg (by simp [hp])]; omega

theorem spanE_end (p : UInt8 → Bool) (s : ByteArray) (k : Nat) (h : ¬ k < s.size) : spanE p s k = k := by
  unfold spanE; rw [List.drop_eq_nil_of_le (by simp; omega)]; simp [runL]

theorem spanE_ge (p : UInt8 → Bool) (s : ByteArray) (k : Nat) : k ≤ spanE p s k := by unfold spanE; omega

theorem spanE_le (p : UInt8 → Bool) (s : ByteArray) (k : Nat) (h : k ≤ s.size) : spanE p s k ≤ s.size := by
  unfold spanE; have := runL_le p (s.data.toList.drop k); simp at this; omega

set_option maxHeartbeats 400000 in
theorem span_parts (s : ByteArray) (a : Nat) (w : World) (hs : s.size ≤ 9223372036854775000) (ha : a ≤ s.size) :
    Calls Tryz.prog 192 #[.string s, .int .i64 (a : Int), .func (.func 193) #[] #[]] w fun e w' => e = .returned (.int .i64 (spanE isB s a : Nat)) ∧ w' = w := by
  go_enter Tryz.func192, Tryz.ntmps192
  go_wp2
  go_loop [1] (fun i => ∃ k : Nat, k ≤ s.size ∧ i = .int .i64 k ∧ Hid (spanE isB s k = spanE isB s a)) (fun i => s.size - (intOf i).toNat)
  case atStart => exact ⟨a, ha, rfl, rfl⟩
  case round =>
    obtain ⟨k, hk, rfl, hE⟩ := hrel
    by_cases hlt : k < s.size
    · cases hp : isB s[k]
      · have hend := spanE_no isB s k hlt hp
        have h1 := parts_any s[k]
        rw [hp] at h1
        rw [hE.out] at hend
        have HE : Hid (spanE isB s a = k) := hend
        clear hend hE hp
        go_wp2_with (go_at_call 193; refine (h1 _).mono ?_; rintro e w' ⟨rfl, rfl⟩)
        go_ret
        exact ⟨ret_int (by rw [HE.out]), rfl⟩
      · have hend := spanE_yes isB s k hlt hp
        have h1 := parts_any s[k]
        rw [hp] at h1
        rw [hE.out] at hend
        have HE : Hid (spanE isB s (k + 1) = spanE isB s a) := hend.symm
        clear hend hE hp
        go_wp2_with (go_at_call 193; refine (h1 _).mono ?_; rintro e w' ⟨rfl, rfl⟩)
        go_round
        case rel => exact ⟨k + 1, by omega, by go_num, HE⟩
        case measure => simp [intOf]; omega
    · have hend := spanE_end isB s k hlt
      rw [hE.out] at hend
      have HE : Hid (spanE isB s a = k) := hend
      clear hend hE
      go_wp2
      go_ret
      exact ⟨ret_int (by rw [HE.out]), rfl⟩

set_option maxHeartbeats 400000 in
theorem span_word (s : ByteArray) (a : Nat) (w : World) (hs : s.size ≤ 9223372036854775000) (ha : a ≤ s.size) :
    Calls Tryz.prog 192 #[.string s, .int .i64 (a : Int), .func (.func 213) #[] #[]] w fun e w' => e = .returned (.int .i64 (spanE isW s a : Nat)) ∧ w' = w := by
  go_enter Tryz.func192, Tryz.ntmps192
  go_wp2
  go_loop [1] (fun i => ∃ k : Nat, k ≤ s.size ∧ i = .int .i64 k ∧ Hid (spanE isW s k = spanE isW s a)) (fun i => s.size - (intOf i).toNat)
  case atStart => exact ⟨a, ha, rfl, rfl⟩
  case round =>
    obtain ⟨k, hk, rfl, hE⟩ := hrel
    by_cases hlt : k < s.size
    · cases hp : isW s[k]
      · have hend := spanE_no isW s k hlt hp
        have h1 := word_any s[k]
        rw [hp] at h1
        rw [hE.out] at hend
        have HE : Hid (spanE isW s a = k) := hend
        clear hend hE hp
        go_wp2_with (go_at_call 213; refine (h1 _).mono ?_; rintro e w' ⟨rfl, rfl⟩)
        go_ret
        exact ⟨ret_int (by rw [HE.out]), rfl⟩
      · have hend := spanE_yes isW s k hlt hp
        have h1 := word_any s[k]
        rw [hp] at h1
        rw [hE.out] at hend
        have HE : Hid (spanE isW s (k + 1) = spanE isW s a) := hend.symm
        clear hend hE hp
        go_wp2_with (go_at_call 213; refine (h1 _).mono ?_; rintro e w' ⟨rfl, rfl⟩)
        go_round
        case rel => exact ⟨k + 1, by omega, by go_num, HE⟩
        case measure => simp [intOf]; omega
    · have hend := spanE_end isW s k hlt
      rw [hE.out] at hend
      have HE : Hid (spanE isW s a = k) := hend
      clear hend hE
      go_wp2
      go_ret
      exact ⟨ret_int (by rw [HE.out]), rfl⟩

set_option maxHeartbeats 400000 in
theorem span_digit (s : ByteArray) (a : Nat) (w : World) (hs : s.size ≤ 9223372036854775000) (ha : a ≤ s.size) :
    Calls Tryz.prog 192 #[.string s, .int .i64 (a : Int), .func (.func 214) #[] #[]] w fun e w' => e = .returned (.int .i64 (spanE isD s a : Nat)) ∧ w' = w := by
  go_enter Tryz.func192, Tryz.ntmps192
  go_wp2
  go_loop [1] (fun i => ∃ k : Nat, k ≤ s.size ∧ i = .int .i64 k ∧ Hid (spanE isD s k = spanE isD s a)) (fun i => s.size - (intOf i).toNat)
  case atStart => exact ⟨a, ha, rfl, rfl⟩
  case round =>
    obtain ⟨k, hk, rfl, hE⟩ := hrel
    by_cases hlt : k < s.size
    · cases hp : isD s[k]
      · have hend := spanE_no isD s k hlt hp
        have h1 := digit_any s[k]
        rw [hp] at h1
        rw [hE.out] at hend
        have HE : Hid (spanE isD s a = k) := hend
        clear hend hE hp
        go_wp2_with (go_at_call 214; refine (h1 _).mono ?_; rintro e w' ⟨rfl, rfl⟩)
        go_ret
        exact ⟨ret_int (by rw [HE.out]), rfl⟩
      · have hend := spanE_yes isD s k hlt hp
        have h1 := digit_any s[k]
        rw [hp] at h1
        rw [hE.out] at hend
        have HE : Hid (spanE isD s (k + 1) = spanE isD s a) := hend.symm
        clear hend hE hp
        go_wp2_with (go_at_call 214; refine (h1 _).mono ?_; rintro e w' ⟨rfl, rfl⟩)
        go_round
        case rel => exact ⟨k + 1, by omega, by go_num, HE⟩
        case measure => simp [intOf]; omega
    · have hend := spanE_end isD s k hlt
      rw [hE.out] at hend
      have HE : Hid (spanE isD s a = k) := hend
      clear hend hE
      go_wp2
      go_ret
      exact ⟨ret_int (by rw [HE.out]), rfl⟩

set_option maxHeartbeats 400000 in
theorem span_quot (s : ByteArray) (a : Nat) (w : World) (hs : s.size ≤ 9223372036854775000) (ha : a ≤ s.size) :
    Calls Tryz.prog 192 #[.string s, .int .i64 (a : Int), .func (.func 215) #[] #[]] w fun e w' => e = .returned (.int .i64 (spanE isQ s a : Nat)) ∧ w' = w := by
  go_enter Tryz.func192, Tryz.ntmps192
  go_wp2
  go_loop [1] (fun i => ∃ k : Nat, k ≤ s.size ∧ i = .int .i64 k ∧ Hid (spanE isQ s k = spanE isQ s a)) (fun i => s.size - (intOf i).toNat)
  case atStart => exact ⟨a, ha, rfl, rfl⟩
  case round =>
    obtain ⟨k, hk, rfl, hE⟩ := hrel
    by_cases hlt : k < s.size
    · cases hp : isQ s[k]
      · have hend := spanE_no isQ s k hlt hp
        have h1 := quot_any s[k]
        rw [hp] at h1
        rw [hE.out] at hend
        have HE : Hid (spanE isQ s a = k) := hend
        clear hend hE hp
        go_wp2_with (go_at_call 215; refine (h1 _).mono ?_; rintro e w' ⟨rfl, rfl⟩)
        go_ret
        exact ⟨ret_int (by rw [HE.out]), rfl⟩
      · have hend := spanE_yes isQ s k hlt hp
        have h1 := quot_any s[k]
        rw [hp] at h1
        rw [hE.out] at hend
        have HE : Hid (spanE isQ s (k + 1) = spanE isQ s a) := hend.symm
        clear hend hE hp
        go_wp2_with (go_at_call 215; refine (h1 _).mono ?_; rintro e w' ⟨rfl, rfl⟩)
        go_round
        case rel => exact ⟨k + 1, by omega, by go_num, HE⟩
        case measure => simp [intOf]; omega
    · have hend := spanE_end isQ s k hlt
      rw [hE.out] at hend
      have HE : Hid (spanE isQ s a = k) := hend
      clear hend hE
      go_wp2
      go_ret
      exact ⟨ret_int (by rw [HE.out]), rfl⟩

end Go.Proofs.YtcnnjladaoaeiaaGreatDoor
