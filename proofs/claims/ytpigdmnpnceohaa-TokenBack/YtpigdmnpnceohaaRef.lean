/-
  The document's own small functions (package overhaulref), as the laws call them: they answer the same plain functions.
-/
import Derived.Test.YtpigdmnpnceohaaBegun
namespace Go.Proofs.Ytpigdmnpnceohaa
open Go.RowKit

theorem hide {p : Prop} (h : p) : Hid p := h

set_option maxHeartbeats 400000 in
theorem between_any (n a b : Int) (w : World) :
    Calls Try.prog 38 #[.int .i64 n, .int .i64 a, .int .i64 b] w fun e w' => e = .returned (.bool (decide (a ≤ n) && decide (n ≤ b))) ∧ w' = w := by
  go_enter Try.func38, Try.ntmps38
  go_wp2
  all_goals go_ret
  all_goals exact ⟨ret_bool (by simp [*] <;> omega), rfl⟩

set_option maxHeartbeats 400000 in
theorem refL_any (c : UInt8) (w : World) :
    Calls Try.prog 32 #[.int .u8 (c.toNat : Int)] w fun e w' => e = .returned (.bool (isL c)) ∧ w' = w := by
  have hc : (c.toNat : Int) ≤ 255 := by have := c.toNat_lt; omega
  go_enter Try.func32, Try.ntmps32
  go_wp2_with (go_at_call 38; refine (between_any _ _ _ _).mono ?_; rintro e w' ⟨rfl, rfl⟩)
  go_ret
  exact ⟨ret_bool (by rfl), rfl⟩

set_option maxHeartbeats 400000 in
theorem refD_any (c : UInt8) (w : World) :
    Calls Try.prog 33 #[.int .u8 (c.toNat : Int)] w fun e w' => e = .returned (.bool (isD c)) ∧ w' = w := by
  have hc : (c.toNat : Int) ≤ 255 := by have := c.toNat_lt; omega
  go_enter Try.func33, Try.ntmps33
  go_wp2_with (go_at_call 38; refine (between_any _ _ _ _).mono ?_; rintro e w' ⟨rfl, rfl⟩)
  go_ret
  exact ⟨ret_bool (by rfl), rfl⟩

set_option maxHeartbeats 400000 in
theorem refQ_any (c : UInt8) (w : World) :
    Calls Try.prog 34 #[.int .u8 (c.toNat : Int)] w fun e w' => e = .returned (.bool (isQ c)) ∧ w' = w := by
  have hc : (c.toNat : Int) ≤ 255 := by have := c.toNat_lt; omega
  cases h : (decide ((32 : Int) ≤ (c.toNat : Int)) && decide ((c.toNat : Int) ≤ 126))
  · have H : Hid ((decide ((32 : Int) ≤ (c.toNat : Int)) && decide ((c.toNat : Int) ≤ 126)) = false) := h
    have hb := between_any c.toNat 32 126
    rw [h] at hb
    clear h
    go_enter Try.func34, Try.ntmps34
    go_wp2_with (go_at_call 38; refine (hb _).mono ?_; rintro e w' ⟨rfl, rfl⟩)
    go_ret
    exact ⟨ret_bool (by unfold isQ; rw [H.out]; rfl), rfl⟩
  · have H : Hid ((decide ((32 : Int) ≤ (c.toNat : Int)) && decide ((c.toNat : Int) ≤ 126)) = true) := h
    have hb := between_any c.toNat 32 126
    rw [h] at hb
    clear h
    go_enter Try.func34, Try.ntmps34
    go_wp2_with (go_at_call 38; refine (hb _).mono ?_; rintro e w' ⟨rfl, rfl⟩)
    go_ret
    exact ⟨ret_bool (by unfold isQ; rw [H.out]; rfl), rfl⟩

theorem refL_rw {c : UInt8} {b : Bool} (h : isL c = b) (w : World) : Calls Try.prog 32 #[.int .u8 (c.toNat : Int)] w fun e w' => e = .returned (.bool b) ∧ w' = w := by
  rw [← h]; exact refL_any c w
theorem refD_rw {c : UInt8} {b : Bool} (h : isD c = b) (w : World) : Calls Try.prog 33 #[.int .u8 (c.toNat : Int)] w fun e w' => e = .returned (.bool b) ∧ w' = w := by
  rw [← h]; exact refD_any c w
theorem refQ_rw {c : UInt8} {b : Bool} (h : isQ c = b) (w : World) : Calls Try.prog 34 #[.int .u8 (c.toNat : Int)] w fun e w' => e = .returned (.bool b) ∧ w' = w := by
  rw [← h]; exact refQ_any c w

set_option maxHeartbeats 800000 in
theorem at_name (s : ByteArray) (a : Nat) (w : World) (hs : s.size ≤ 2000) (ha : a < s.size) (hc : isL s[a] = true) :
    Calls Try.prog 17 #[.string s, .int .i64 (a : Int)] w fun e w' => e = .returned (.tuple #[.int .i64 1, .int .i64 ((spanE isW s (a + 1) - a : Nat) : Int)]) ∧ w' = w := by
  have h1 := refL_rw hc
  clear hc
  go_enter Try.func17, Try.ntmps17
  go_wp2_with (go_at_call 32; refine (h1 _).mono ?_; rintro e w' ⟨rfl, hw'⟩; obtain rfl := hw'.symm; clear hw')
  clear h1
  go_loop [7] (fun i => ∃ n : Nat, 1 ≤ n ∧ a + n ≤ s.size ∧ i = .int .i64 n ∧ Hid (spanE isW s (a + n) = spanE isW s (a + 1))) (fun i => s.size - (intOf i).toNat)
  case atStart => exact ⟨1, by omega, by omega, rfl, rfl⟩
  case round =>
    obtain ⟨n, hn1, hn2, rfl, HE⟩ := hrel
    by_cases hlt : a + n < s.size
    · cases hL : isL s[a + n]
      · cases hD : isD s[a + n]
        · have h1 := refL_rw hL
          have h2 := refD_rw hD
          have hend := spanE_no isW s (a + n) hlt (by simp [isW, hL, hD])
          rw [HE.out] at hend
          have HG : Hid (spanE isW s (a + 1) = a + n) := hend
          clear hend HE hL hD
          go_wp2_with (first | (go_at_call 32; refine (h1 _).mono ?_; rintro e w' ⟨rfl, hw'⟩; obtain rfl := hw'.symm; clear hw') | (go_at_call 33; refine (h2 _).mono ?_; rintro e w' ⟨rfl, hw'⟩; obtain rfl := hw'.symm; clear hw'))
          go_ret2
          rw [HG.out, Nat.add_sub_cancel_left]
          exact ⟨rfl, rfl⟩
        · have h1 := refL_rw hL
          have h2 := refD_rw hD
          have hend := spanE_yes isW s (a + n) hlt (by simp [isW, hL, hD])
          rw [HE.out] at hend
          have HG : Hid (spanE isW s (a + (n + 1)) = spanE isW s (a + 1)) := hend.symm
          clear hend HE hL hD
          go_wp2_with (first | (go_at_call 32; refine (h1 _).mono ?_; rintro e w' ⟨rfl, hw'⟩; obtain rfl := hw'.symm; clear hw') | (go_at_call 33; refine (h2 _).mono ?_; rintro e w' ⟨rfl, hw'⟩; obtain rfl := hw'.symm; clear hw'))
          go_round
          case rel => exact ⟨n + 1, by omega, by omega, by go_num, HG⟩
          case measure => simp [intOf]; omega
      · have h1 := refL_rw hL
        have hend := spanE_yes isW s (a + n) hlt (by simp [isW, hL])
        rw [HE.out] at hend
        have HG : Hid (spanE isW s (a + (n + 1)) = spanE isW s (a + 1)) := hend.symm
        clear hend HE hL
        go_wp2_with (go_at_call 32; refine (h1 _).mono ?_; rintro e w' ⟨rfl, hw'⟩; obtain rfl := hw'.symm; clear hw')
        go_round
        case rel => exact ⟨n + 1, by omega, by omega, by go_num, HG⟩
        case measure => simp [intOf]; omega
    · have hend := spanE_end isW s (a + n) hlt
      rw [HE.out] at hend
      have HG : Hid (spanE isW s (a + 1) = a + n) := hend
      clear hend HE
      go_wp2
      go_ret2
      rw [HG.out, Nat.add_sub_cancel_left]
      exact ⟨rfl, rfl⟩

set_option maxHeartbeats 800000 in
theorem at_number (s : ByteArray) (a : Nat) (w : World) (hs : s.size ≤ 2000) (ha : a < s.size) (hc : isL s[a] = false) (hd : isD s[a] = true) :
    Calls Try.prog 17 #[.string s, .int .i64 (a : Int)] w fun e w' => e = .returned (.tuple #[.int .i64 2, .int .i64 ((spanE isD s (a + 1) - a : Nat) : Int)]) ∧ w' = w := by
  have h1 := refL_rw hc
  have h2 := refD_rw hd
  clear hc hd
  go_enter Try.func17, Try.ntmps17
  go_wp2_with (first | (go_at_call 32; refine (h1 _).mono ?_; rintro e w' ⟨rfl, hw'⟩; obtain rfl := hw'.symm; clear hw') | (go_at_call 33; refine (h2 _).mono ?_; rintro e w' ⟨rfl, hw'⟩; obtain rfl := hw'.symm; clear hw'))
  clear h1 h2
  go_loop [7] (fun i => ∃ n : Nat, 1 ≤ n ∧ a + n ≤ s.size ∧ i = .int .i64 n ∧ Hid (spanE isD s (a + n) = spanE isD s (a + 1))) (fun i => s.size - (intOf i).toNat)
  case atStart => exact ⟨1, by omega, by omega, rfl, rfl⟩
  case round =>
    obtain ⟨n, hn1, hn2, rfl, HE⟩ := hrel
    by_cases hlt : a + n < s.size
    · cases hD : isD s[a + n]
      · have h2 := refD_rw hD
        have hend := spanE_no isD s (a + n) hlt hD
        rw [HE.out] at hend
        have HG : Hid (spanE isD s (a + 1) = a + n) := hend
        clear hend HE hD
        go_wp2_with (go_at_call 33; refine (h2 _).mono ?_; rintro e w' ⟨rfl, hw'⟩; obtain rfl := hw'.symm; clear hw')
        go_ret2
        rw [HG.out, Nat.add_sub_cancel_left]
        exact ⟨rfl, rfl⟩
      · have h2 := refD_rw hD
        have hend := spanE_yes isD s (a + n) hlt hD
        rw [HE.out] at hend
        have HG : Hid (spanE isD s (a + (n + 1)) = spanE isD s (a + 1)) := hend.symm
        clear hend HE hD
        go_wp2_with (go_at_call 33; refine (h2 _).mono ?_; rintro e w' ⟨rfl, hw'⟩; obtain rfl := hw'.symm; clear hw')
        go_round
        case rel => exact ⟨n + 1, by omega, by omega, by go_num, HG⟩
        case measure => simp [intOf]; omega
    · have hend := spanE_end isD s (a + n) hlt
      rw [HE.out] at hend
      have HG : Hid (spanE isD s (a + 1) = a + n) := hend
      clear hend HE
      go_wp2
      go_ret2
      rw [HG.out, Nat.add_sub_cancel_left]
      exact ⟨rfl, rfl⟩

set_option maxHeartbeats 800000 in
theorem at_text (s : ByteArray) (a : Nat) (w : World) (hs : s.size ≤ 2000) (ha : a < s.size) (hc : isL s[a] = false) (hd : isD s[a] = false) (hq : ((s[a].toNat : Int) == 39) = true)
    (hyp : ∃ h : spanE isQ s (a + 1) < s.size, ((s[spanE isQ s (a + 1)].toNat : Int) == 39) = true) :
    Calls Try.prog 17 #[.string s, .int .i64 (a : Int)] w fun e w' => e = .returned (.tuple #[.int .i64 3, .int .i64 ((spanE isQ s (a + 1) - a + 1 : Nat) : Int)]) ∧ w' = w := by
  have h1 := refL_rw hc
  have h2 := refD_rw hd
  have HZ := hide hyp
  clear hc hd hyp
  go_enter Try.func17, Try.ntmps17
  go_wp2_with (first | (go_at_call 32; refine (h1 _).mono ?_; rintro e w' ⟨rfl, hw'⟩; obtain rfl := hw'.symm; clear hw') | (go_at_call 33; refine (h2 _).mono ?_; rintro e w' ⟨rfl, hw'⟩; obtain rfl := hw'.symm; clear hw'))
  clear h1 h2
  go_loop [7] (fun i => ∃ n : Nat, 1 ≤ n ∧ a + n ≤ s.size ∧ i = .int .i64 n ∧ Hid (spanE isQ s (a + n) = spanE isQ s (a + 1))) (fun i => s.size - (intOf i).toNat)
  case atStart => exact ⟨1, by omega, by omega, rfl, rfl⟩
  case round =>
    obtain ⟨n, hn1, hn2, rfl, HE⟩ := hrel
    by_cases hlt : a + n < s.size
    · cases hD : isQ s[a + n]
      · have h2 := refQ_rw hD
        have hend := spanE_no isQ s (a + n) hlt hD
        rw [HE.out] at hend
        have HG : Hid (spanE isQ s (a + 1) = a + n) := hend
        clear hend HE hD
        have hz : ((s[a + n].toNat : Int) == 39) = true := by obtain ⟨h, hz⟩ := HZ.out; simpa only [HG.out] using hz
        go_wp2_with (go_at_call 34; refine (h2 _).mono ?_; rintro e w' ⟨rfl, hw'⟩; obtain rfl := hw'.symm; clear hw')
        go_ret2
        rw [HG.out, Nat.add_sub_cancel_left]
        exact ⟨rfl, rfl⟩
      · have h2 := refQ_rw hD
        have hend := spanE_yes isQ s (a + n) hlt hD
        rw [HE.out] at hend
        have HG : Hid (spanE isQ s (a + (n + 1)) = spanE isQ s (a + 1)) := hend.symm
        clear hend HE hD
        go_wp2_with (go_at_call 34; refine (h2 _).mono ?_; rintro e w' ⟨rfl, hw'⟩; obtain rfl := hw'.symm; clear hw')
        go_round
        case rel => exact ⟨n + 1, by omega, by omega, by go_num, HG⟩
        case measure => simp [intOf]; omega
    · have hend := spanE_end isQ s (a + n) hlt
      rw [HE.out] at hend
      have HG : Hid (spanE isQ s (a + 1) = a + n) := hend
      clear hend HE
      exact absurd (HZ.out.1) (by rw [HG.out]; exact hlt)

set_option maxHeartbeats 800000 in
theorem at_open (s : ByteArray) (a : Nat) (w : World) (hs : s.size ≤ 2000) (ha : a < s.size) (hc : isL s[a] = false) (hd : isD s[a] = false) (hq : ((s[a].toNat : Int) == 39) = true)
    (hyp : ¬ ∃ h : spanE isQ s (a + 1) < s.size, ((s[spanE isQ s (a + 1)].toNat : Int) == 39) = true) :
    Calls Try.prog 17 #[.string s, .int .i64 (a : Int)] w fun e w' => e = .returned (.tuple #[.int .i64 0, .int .i64 0]) ∧ w' = w := by
  have h1 := refL_rw hc
  have h2 := refD_rw hd
  have HZ := hide hyp
  clear hc hd hyp
  go_enter Try.func17, Try.ntmps17
  go_wp2_with (first | (go_at_call 32; refine (h1 _).mono ?_; rintro e w' ⟨rfl, hw'⟩; obtain rfl := hw'.symm; clear hw') | (go_at_call 33; refine (h2 _).mono ?_; rintro e w' ⟨rfl, hw'⟩; obtain rfl := hw'.symm; clear hw'))
  clear h1 h2
  go_loop [7] (fun i => ∃ n : Nat, 1 ≤ n ∧ a + n ≤ s.size ∧ i = .int .i64 n ∧ Hid (spanE isQ s (a + n) = spanE isQ s (a + 1))) (fun i => s.size - (intOf i).toNat)
  case atStart => exact ⟨1, by omega, by omega, rfl, rfl⟩
  case round =>
    obtain ⟨n, hn1, hn2, rfl, HE⟩ := hrel
    by_cases hlt : a + n < s.size
    · cases hD : isQ s[a + n]
      · have h2 := refQ_rw hD
        have hend := spanE_no isQ s (a + n) hlt hD
        rw [HE.out] at hend
        have HG : Hid (spanE isQ s (a + 1) = a + n) := hend
        clear hend HE hD
        have hz : ((s[a + n].toNat : Int) == 39) = false := by
          cases hz : ((s[a + n].toNat : Int) == 39)
          · rfl
          · exact absurd ⟨by rw [HG.out]; exact hlt, by simpa only [HG.out] using hz⟩ HZ.out
        go_wp2_with (go_at_call 34; refine (h2 _).mono ?_; rintro e w' ⟨rfl, hw'⟩; obtain rfl := hw'.symm; clear hw')
        go_ret2
        exact ⟨rfl, rfl⟩
      · have h2 := refQ_rw hD
        have hend := spanE_yes isQ s (a + n) hlt hD
        rw [HE.out] at hend
        have HG : Hid (spanE isQ s (a + (n + 1)) = spanE isQ s (a + 1)) := hend.symm
        clear hend HE hD
        go_wp2_with (go_at_call 34; refine (h2 _).mono ?_; rintro e w' ⟨rfl, hw'⟩; obtain rfl := hw'.symm; clear hw')
        go_round
        case rel => exact ⟨n + 1, by omega, by omega, by go_num, HG⟩
        case measure => simp [intOf]; omega
    · have hend := spanE_end isQ s (a + n) hlt
      rw [HE.out] at hend
      have HG : Hid (spanE isQ s (a + 1) = a + n) := hend
      clear hend HE
      go_wp2
      go_ret2
      exact ⟨rfl, rfl⟩

set_option maxHeartbeats 800000 in
theorem at_bars (s : ByteArray) (a : Nat) (w : World) (hs : s.size ≤ 2000) (ha : a + 1 < s.size) (hc : isL s[a] = false) (hd : isD s[a] = false) (hq : ((s[a].toNat : Int) == 39) = false)
    (hp : ((s[a].toNat : Int) == 124) = true) (hp2 : ((s[a + 1].toNat : Int) == 124) = true) :
    Calls Try.prog 17 #[.string s, .int .i64 (a : Int)] w fun e w' => e = .returned (.tuple #[.int .i64 4, .int .i64 2]) ∧ w' = w := by
  have h1 := refL_rw hc
  have h2 := refD_rw hd
  clear hc hd
  go_enter Try.func17, Try.ntmps17
  go_wp2_with (first | (go_at_call 32; refine (h1 _).mono ?_; rintro e w' ⟨rfl, hw'⟩; obtain rfl := hw'.symm; clear hw') | (go_at_call 33; refine (h2 _).mono ?_; rintro e w' ⟨rfl, hw'⟩; obtain rfl := hw'.symm; clear hw'))
  go_ret2
  exact ⟨rfl, rfl⟩

/-- the signs of one byte -/
def sg : List UInt8 := [40, 41, 44, 59, 42, 61, 60, 43, 45]

theorem sg_at (n : Nat) (h : n < sg.length) (h' : n < (⟨#[40, 41, 44, 59, 42, 61, 60, 43, 45]⟩ : ByteArray).size) : (⟨#[40, 41, 44, 59, 42, 61, 60, 43, 45]⟩ : ByteArray)[n] = sg[n]'h := rfl

theorem sg_step {c : UInt8} {n : Nat} (h' : n < (⟨#[40, 41, 44, 59, 42, 61, 60, 43, 45]⟩ : ByteArray).size) (HE : ∀ j (h : j < sg.length), j < n → sg[j] ≠ c)
    (hz : (((⟨#[40, 41, 44, 59, 42, 61, 60, 43, 45]⟩ : ByteArray)[n].toNat : Int) == (c.toNat : Int)) = false) : ∀ j (h : j < sg.length), j < n + 1 → sg[j] ≠ c := by
  intro j h hj
  by_cases e : j = n
  · subst e
    intro e2
    have hz2 : ((sg[j].toNat : Int) == (c.toNat : Int)) = false := hz
    exact (beq_eq_false_iff_ne.1 hz2) (congrArg (fun x : UInt8 => (x.toNat : Int)) e2)
  · exact HE j h (by omega)

theorem sg_hit {c : UInt8} {n : Nat} (h' : n < (⟨#[40, 41, 44, 59, 42, 61, 60, 43, 45]⟩ : ByteArray).size)
    (hz : (((⟨#[40, 41, 44, 59, 42, 61, 60, 43, 45]⟩ : ByteArray)[n].toNat : Int) == (c.toNat : Int)) = true) : isS c = true := by
  have h : n < sg.length := h'
  rw [sg_at n h h'] at hz
  have e : sg[n] = c := by apply UInt8.toNat_inj.1; have := eq_of_beq hz; omega
  unfold isS
  rw [decide_eq_true_eq, ← e]
  exact List.getElem_mem h

theorem sg_miss {c : UInt8} (HE : ∀ j (h : j < sg.length), j < 9 → sg[j] ≠ c) : isS c = false := by
  unfold isS
  rw [decide_eq_false_iff_not]
  intro h
  obtain ⟨j, hj, e⟩ := List.getElem_of_mem (show c ∈ sg from h)
  exact HE j hj hj e

set_option maxHeartbeats 800000 in
theorem at_sign (s : ByteArray) (a : Nat) (w : World) (_hs : s.size ≤ 2000) (ha : a < s.size) (hc : isL s[a] = false) (hd : isD s[a] = false) (hq : ((s[a].toNat : Int) == 39) = false)
    (hp : ((s[a].toNat : Int) == 124) = false) (hS : isS s[a] = true) :
    Calls Try.prog 17 #[.string s, .int .i64 (a : Int)] w fun e w' => e = .returned (.tuple #[.int .i64 4, .int .i64 1]) ∧ w' = w := by
  have h1 := refL_rw hc
  have h2 := refD_rw hd
  have HS := hide hS
  clear hc hd hS
  go_enter Try.func17, Try.ntmps17
  go_wp2_with (first | (go_at_call 32; refine (h1 _).mono ?_; rintro e w' ⟨rfl, hw'⟩; obtain rfl := hw'.symm; clear hw') | (go_at_call 33; refine (h2 _).mono ?_; rintro e w' ⟨rfl, hw'⟩; obtain rfl := hw'.symm; clear hw'))
  clear h1 h2
  go_loop [9] (fun i => ∃ n : Nat, n ≤ 9 ∧ i = .int .i64 n ∧ Hid (∀ j (h : j < sg.length), j < n → sg[j] ≠ s[a])) (fun i => 9 - (intOf i).toNat)
  case atStart => exact ⟨0, by omega, rfl, fun j _ h => by omega⟩
  case round =>
    obtain ⟨n, hn, rfl, HE⟩ := hrel
    by_cases hlt : n < 9
    · go_wp2
      · go_ret2
        exact ⟨rfl, rfl⟩
      · go_round
        case rel => exact ⟨n + 1, by omega, by go_num, hide (sg_step hlt HE.out ‹_›)⟩
        case measure => simp [intOf]; omega
    · have hn9 : n = 9 := by omega
      have hm := sg_miss (by have := HE.out; rw [hn9] at this; exact this)
      clear hn9
      rw [HS.out] at hm; cases hm

set_option maxHeartbeats 800000 in
theorem at_none (s : ByteArray) (a : Nat) (w : World) (_hs : s.size ≤ 2000) (ha : a < s.size) (hc : isL s[a] = false) (hd : isD s[a] = false) (hq : ((s[a].toNat : Int) == 39) = false)
    (hp : ((s[a].toNat : Int) == 124) = false) (hS : isS s[a] = false) :
    Calls Try.prog 17 #[.string s, .int .i64 (a : Int)] w fun e w' => e = .returned (.tuple #[.int .i64 0, .int .i64 0]) ∧ w' = w := by
  have h1 := refL_rw hc
  have h2 := refD_rw hd
  have HS := hide hS
  clear hc hd hS
  go_enter Try.func17, Try.ntmps17
  go_wp2_with (first | (go_at_call 32; refine (h1 _).mono ?_; rintro e w' ⟨rfl, hw'⟩; obtain rfl := hw'.symm; clear hw') | (go_at_call 33; refine (h2 _).mono ?_; rintro e w' ⟨rfl, hw'⟩; obtain rfl := hw'.symm; clear hw'))
  clear h1 h2
  go_loop [9] (fun i => ∃ n : Nat, n ≤ 9 ∧ i = .int .i64 n ∧ Hid (∀ j (h : j < sg.length), j < n → sg[j] ≠ s[a])) (fun i => 9 - (intOf i).toNat)
  case atStart => exact ⟨0, by omega, rfl, fun j _ h => by omega⟩
  case round =>
    obtain ⟨n, hn, rfl, HE⟩ := hrel
    by_cases hlt : n < 9
    · go_wp2
      · have hh := sg_hit hlt ‹_›
        rw [HS.out] at hh; cases hh
      · go_round
        case rel => exact ⟨n + 1, by omega, by go_num, hide (sg_step hlt HE.out ‹_›)⟩
        case measure => simp [intOf]; omega
    · have hn9 : n = 9 := by omega
      have hm := sg_miss (by have := HE.out; rw [hn9] at this; exact this)
      clear hn9
      clear hm
      go_wp2
      go_ret2
      exact ⟨rfl, rfl⟩

set_option maxHeartbeats 800000 in
theorem at_bar_end (s : ByteArray) (a : Nat) (w : World) (hs : s.size ≤ 2000) (ha : a < s.size) (hc : isL s[a] = false) (hd : isD s[a] = false) (hq : ((s[a].toNat : Int) == 39) = false)
    (hp : ((s[a].toNat : Int) == 124) = true) (he : ¬ a + 1 < s.size) (hS : isS s[a] = false) :
    Calls Try.prog 17 #[.string s, .int .i64 (a : Int)] w fun e w' => e = .returned (.tuple #[.int .i64 0, .int .i64 0]) ∧ w' = w := by
  have h1 := refL_rw hc
  have h2 := refD_rw hd
  have HS := hide hS
  clear hc hd hS
  go_enter Try.func17, Try.ntmps17
  go_wp2_with (first | (go_at_call 32; refine (h1 _).mono ?_; rintro e w' ⟨rfl, hw'⟩; obtain rfl := hw'.symm; clear hw') | (go_at_call 33; refine (h2 _).mono ?_; rintro e w' ⟨rfl, hw'⟩; obtain rfl := hw'.symm; clear hw'))
  clear h1 h2
  go_loop [9] (fun i => ∃ n : Nat, n ≤ 9 ∧ i = .int .i64 n ∧ Hid (∀ j (h : j < sg.length), j < n → sg[j] ≠ s[a])) (fun i => 9 - (intOf i).toNat)
  case atStart => exact ⟨0, by omega, rfl, fun j _ h => by omega⟩
  case round =>
    obtain ⟨n, hn, rfl, HE⟩ := hrel
    by_cases hlt : n < 9
    · go_wp2
      · have hh := sg_hit hlt ‹_›
        rw [HS.out] at hh; cases hh
      · go_round
        case rel => exact ⟨n + 1, by omega, by go_num, hide (sg_step hlt HE.out ‹_›)⟩
        case measure => simp [intOf]; omega
    · have hn9 : n = 9 := by omega
      have hm := sg_miss (by have := HE.out; rw [hn9] at this; exact this)
      clear hn9
      clear hm
      go_wp2
      go_ret2
      exact ⟨rfl, rfl⟩

set_option maxHeartbeats 800000 in
theorem at_bar_one (s : ByteArray) (a : Nat) (w : World) (hs : s.size ≤ 2000) (ha : a < s.size) (hc : isL s[a] = false) (hd : isD s[a] = false) (hq : ((s[a].toNat : Int) == 39) = false)
    (hp : ((s[a].toNat : Int) == 124) = true) (he : a + 1 < s.size) (hp2 : ((s[a + 1].toNat : Int) == 124) = false) (hS : isS s[a] = false) :
    Calls Try.prog 17 #[.string s, .int .i64 (a : Int)] w fun e w' => e = .returned (.tuple #[.int .i64 0, .int .i64 0]) ∧ w' = w := by
  have h1 := refL_rw hc
  have h2 := refD_rw hd
  have HS := hide hS
  clear hc hd hS
  go_enter Try.func17, Try.ntmps17
  go_wp2_with (first | (go_at_call 32; refine (h1 _).mono ?_; rintro e w' ⟨rfl, hw'⟩; obtain rfl := hw'.symm; clear hw') | (go_at_call 33; refine (h2 _).mono ?_; rintro e w' ⟨rfl, hw'⟩; obtain rfl := hw'.symm; clear hw'))
  clear h1 h2
  go_loop [9] (fun i => ∃ n : Nat, n ≤ 9 ∧ i = .int .i64 n ∧ Hid (∀ j (h : j < sg.length), j < n → sg[j] ≠ s[a])) (fun i => 9 - (intOf i).toNat)
  case atStart => exact ⟨0, by omega, rfl, fun j _ h => by omega⟩
  case round =>
    obtain ⟨n, hn, rfl, HE⟩ := hrel
    by_cases hlt : n < 9
    · go_wp2
      · have hh := sg_hit hlt ‹_›
        rw [HS.out] at hh; cases hh
      · go_round
        case rel => exact ⟨n + 1, by omega, by go_num, hide (sg_step hlt HE.out ‹_›)⟩
        case measure => simp [intOf]; omega
    · have hn9 : n = 9 := by omega
      have hm := sg_miss (by have := HE.out; rw [hn9] at this; exact this)
      clear hn9
      clear hm
      go_wp2
      go_ret2
      exact ⟨rfl, rfl⟩

/-- what 'TokenAt' answers -/
def atV (s : ByteArray) (a : Nat) : Value := .tuple #[.int .i64 ((tokL (s.data.toList.drop a)).1 : Nat), .int .i64 ((tokL (s.data.toList.drop a)).2 : Nat)]

theorem u8_is (c d : UInt8) : ((c.toNat : Int) == (d.toNat : Int)) = decide (c = d) := by
  rw [Bool.eq_iff_iff]
  simp only [beq_iff_eq, decide_eq_true_eq]
  constructor
  · intro h; apply UInt8.toNat_inj.1; omega
  · intro h; rw [h]

theorem isBars_cons (c : UInt8) (r : List UInt8) : isBars (c :: r) = (decide (c = 124) && decide (r.head? = some 124)) := by
  unfold isBars Lib.hasPrefix
  cases r with
  | nil => simp [List.isPrefixOf]
  | cons d r => simp [List.isPrefixOf]; rw [Bool.eq_iff_iff]; simp [eq_comm (a := (124 : UInt8))]

theorem at_any (s : ByteArray) (a : Nat) (w : World) (hs : s.size ≤ 2000) (ha : a < s.size) :
    Calls Try.prog 17 #[.string s, .int .i64 (a : Int)] w fun e w' => e = .returned (atV s a) ∧ w' = w := by
  have hd := drop_at s a ha
  have get : ∀ j, (h : j < s.size) → a + 1 ≤ j → (s.data.toList.drop (a + 1))[j - (a + 1)]? = some s[j] := by
    intro j h hj
    rw [List.getElem?_drop, show a + 1 + (j - (a + 1)) = j by omega, List.getElem?_eq_getElem (by simpa using h)]; rfl
  have val : ∀ K N, tokL (s.data.toList.drop a) = (K, N) → atV s a = .tuple #[.int .i64 (K : Nat), .int .i64 (N : Nat)] := by
    intro K N h; unfold atV; rw [h]
  rw [hd] at val
  cases hL : isL s[a]
  case true =>
    rw [val 1 (runL isW (s.data.toList.drop (a + 1)) + 1) (by simp [tokL, hL]), show runL isW (s.data.toList.drop (a + 1)) + 1 = spanE isW s (a + 1) - a by unfold spanE; omega]
    exact at_name s a w hs ha hL
  case false =>
  cases hD : isD s[a]
  case true =>
    rw [val 2 (runL isD (s.data.toList.drop (a + 1)) + 1) (by simp [tokL, hL, hD]), show runL isD (s.data.toList.drop (a + 1)) + 1 = spanE isD s (a + 1) - a by unfold spanE; omega]
    exact at_number s a w hs ha hL hD
  case false =>
  cases hQ : ((s[a].toNat : Int) == 39)
  case true =>
    have hq : s[a] = 39 := by rw [u8_39] at hQ; simpa using hQ
    have l39 : isL 39 = false := by decide
    have d39 : isD 39 = false := by decide
    have hsp : spanE isQ s (a + 1) = a + 1 + runL isQ (s.data.toList.drop (a + 1)) := rfl
    by_cases he : ∃ h : spanE isQ s (a + 1) < s.size, ((s[spanE isQ s (a + 1)].toNat : Int) == 39) = true
    · obtain ⟨h1, h2⟩ := he
      have hg := get _ h1 (spanE_ge isQ s (a + 1))
      rw [show spanE isQ s (a + 1) - (a + 1) = runL isQ (s.data.toList.drop (a + 1)) by omega] at hg
      have hz : s[spanE isQ s (a + 1)] = 39 := by rw [u8_39] at h2; simpa using h2
      rw [val 3 (runL isQ (s.data.toList.drop (a + 1)) + 2) (by simp only [tokL, l39, d39, hq, hg, hz]; rfl), show runL isQ (s.data.toList.drop (a + 1)) + 2 = spanE isQ s (a + 1) - a + 1 by omega]
      exact at_text s a w hs ha hL hD hQ ⟨h1, h2⟩
    · have hg : ¬ (s.data.toList.drop (a + 1))[runL isQ (s.data.toList.drop (a + 1))]? = some 39 := by
        intro hg
        have h1 : spanE isQ s (a + 1) < s.size := by
          rcases Nat.lt_or_ge (spanE isQ s (a + 1)) s.size with h | h
          · exact h
          · rw [List.getElem?_eq_none (by simp; omega)] at hg; cases hg
        have hg2 := get _ h1 (spanE_ge isQ s (a + 1))
        rw [show spanE isQ s (a + 1) - (a + 1) = runL isQ (s.data.toList.drop (a + 1)) by omega, hg] at hg2
        exact he ⟨h1, by rw [u8_39]; simpa using (Option.some.inj hg2).symm⟩
      rw [val 0 0 (by simp only [tokL, l39, d39, hq, hg, Bool.false_eq_true, if_false, if_true])]
      exact at_open s a w hs ha hL hD hQ he
  case false =>
  have hq : ¬ s[a] = 39 := by rw [u8_39] at hQ; simpa using hQ
  have hb := isBars_cons s[a] (s.data.toList.drop (a + 1))
  cases hP : ((s[a].toNat : Int) == 124)
  case false =>
    have hp : ¬ s[a] = 124 := by rw [show (124 : Int) = ((124 : UInt8).toNat : Int) from rfl, u8_is] at hP; simpa using hP
    have hb0 : isBars (s[a] :: s.data.toList.drop (a + 1)) = false := by rw [hb]; simp [hp]
    cases hS : isS s[a]
    case true =>
      rw [val 4 1 (by simp [tokL, hL, hD, hq, hb0, hS])]
      exact at_sign s a w hs ha hL hD hQ hP hS
    case false =>
      rw [val 0 0 (by simp [tokL, hL, hD, hq, hb0, hS])]
      exact at_none s a w hs ha hL hD hQ hP hS
  case true =>
    have hp : s[a] = 124 := by rw [show (124 : Int) = ((124 : UInt8).toNat : Int) from rfl, u8_is] at hP; simpa using hP
    have hS : isS s[a] = false := by rw [hp]; decide
    by_cases he : a + 1 < s.size
    · have hh : (s.data.toList.drop (a + 1)).head? = some s[a + 1] := by rw [drop_at s (a + 1) he]; rfl
      cases hP2 : ((s[a + 1].toNat : Int) == 124)
      case true =>
        have hp2 : s[a + 1] = 124 := by rw [show (124 : Int) = ((124 : UInt8).toNat : Int) from rfl, u8_is] at hP2; simpa using hP2
        have hb0 : isBars (s[a] :: s.data.toList.drop (a + 1)) = true := by rw [hb, hh]; simp [hp, hp2]
        rw [val 4 2 (by simp [tokL, hL, hD, hq, hb0])]
        exact at_bars s a w hs he hL hD hQ hP hP2
      case false =>
        have hp2 : ¬ s[a + 1] = 124 := by rw [show (124 : Int) = ((124 : UInt8).toNat : Int) from rfl, u8_is] at hP2; simpa using hP2
        have hb0 : isBars (s[a] :: s.data.toList.drop (a + 1)) = false := by rw [hb, hh]; simp [hp2]
        rw [val 0 0 (by simp [tokL, hL, hD, hq, hb0, hS])]
        exact at_bar_one s a w hs ha hL hD hQ hP he hP2 hS
    · have hh : (s.data.toList.drop (a + 1)).head? = none := by rw [List.drop_eq_nil_of_le (by simp; omega)]; rfl
      have hb0 : isBars (s[a] :: s.data.toList.drop (a + 1)) = false := by rw [hb, hh]; simp
      rw [val 0 0 (by simp [tokL, hL, hD, hq, hb0, hS])]
      exact at_bar_end s a w hs ha hL hD hQ hP he hS

end Go.Proofs.Ytpigdmnpnceohaa
