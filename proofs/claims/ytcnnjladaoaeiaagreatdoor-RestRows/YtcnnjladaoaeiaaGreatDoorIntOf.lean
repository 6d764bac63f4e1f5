/-
  'intOf' of package value.
-/
import Derived.Test.YtcnnjladaoaeiaaGreatDoorMap
namespace Go.Proofs.YtcnnjladaoaeiaaGreatDoor
open Go.RowKit

/-- the int whose digits a text just is -/
def intV (S : List UInt8) : Option Int :=
  match Lib.atoiAll S with
  | .ok v => if isInt v = true ∧ Lib.itoa v = S then some v else none
  | _ => none

theorem bytes_below (w : World) (t : ByteArray) : Below w.heap.size w (Lib.bytesWorld w 5 t) := by
  unfold Lib.bytesWorld
  exact Lib.below_freeze ((Below.refl _ _).drew.alloc (Nat.le_refl _) _) (by simp) _

theorem atoi_ok (s : ByteArray) (w : World) (hs : s.size ≤ 140737488355328) (v : Int) (h : Lib.atoiAll s.data.toList = .ok v) :
    Calls Tryz.prog 190 #[.string s] w fun e w' => e = .returned (.tuple #[.int .i64 v, .nilIface]) ∧ Below w.heap.size w w' := by
  refine (Tryz.strconv_Atoi_ok s (by omega) v h w).mono ?_
  rintro e w' ⟨rfl, rfl | ⟨t, rfl⟩⟩
  · exact ⟨rfl, Below.refl _ _⟩
  · exact ⟨rfl, bytes_below w t⟩

theorem atoi_err (s : ByteArray) (w : World) (hs : s.size ≤ 140737488355328) (hl : Laid w) (h : ∀ v, Lib.atoiAll s.data.toList ≠ .ok v) :
    Calls Tryz.prog 190 #[.string s] w fun e w' => (∃ n N, e = .returned (.tuple #[.int .i64 n, .iface 245 (.pointer (some ⟨N, 0, none⟩))])) ∧ Below w.heap.size w w' := by
  obtain ⟨_, ⟨tp, p, hv⟩, tq, q, hw⟩ := hl
  cases hr : Lib.atoiAll s.data.toList with
  | ok v => exact absurd hr (h v)
  | range =>
    refine (Any.strconv_Atoi_range_var Tryz.laysC172 s (by omega) hr tq q w hw).mono ?_
    rintro e w' ⟨N, rfl, _, _, hb⟩
    exact ⟨⟨_, _, rfl⟩, hb⟩
  | _ =>
    refine (Any.strconv_Atoi_syntax_var Tryz.laysC172 s (by omega) hr tp p w hv).mono ?_
    rintro e w' ⟨N, rfl, _, _, hb⟩
    exact ⟨⟨_, _, rfl⟩, hb⟩

set_option maxRecDepth 100000 in
set_option maxHeartbeats 400000 in
theorem intOf_err (s : ByteArray) (w : World) (hs : s.size ≤ 140737488355328) (hl : Laid w) (h : ∀ v, Lib.atoiAll s.data.toList ≠ .ok v) :
    Calls Tryz.prog 173 #[.string s] w fun e w' => e = .returned (.tuple #[.int .i64 0, .bool false]) ∧ Below w.heap.size w w' := by
  have ha := atoi_err s w hs hl h
  clear h hl
  go_enter Tryz.func173, Tryz.ntmps173
  go_wp2_with (go_at_call 190; refine ha.mono ?_; rintro e w' ⟨⟨n, N, rfl⟩, hb⟩)
  go_ret2
  exact ⟨rfl, hb⟩

set_option maxRecDepth 100000 in
set_option maxHeartbeats 400000 in
theorem intOf_range (s : ByteArray) (w : World) (v : Int) (ha : Calls Tryz.prog 190 #[.string s] w fun e w' => e = .returned (.tuple #[.int .i64 v, .nilIface]) ∧ Below w.heap.size w w') (hi : isInt v = false) :
    Calls Tryz.prog 173 #[.string s] w fun e w' => e = .returned (.tuple #[.int .i64 0, .bool false]) ∧ Below w.heap.size w w' := by
  have h2 := isInt_any v
  rw [hi] at h2
  clear hi
  go_enter Tryz.func173, Tryz.ntmps173
  go_wp2_with (first | (go_at_call 190; refine ha.mono ?_; rintro e w' ⟨rfl, hb⟩) | (go_at_call 152; refine (h2 _).mono ?_; rintro e w' ⟨rfl, hw'⟩; obtain rfl := hw'.symm; clear hw'))
  go_ret2
  exact ⟨rfl, hb⟩

set_option maxRecDepth 100000 in
set_option maxHeartbeats 400000 in
theorem intOf_other (s : ByteArray) (w : World) (hl : Laid w) (v : Int) (ha : Calls Tryz.prog 190 #[.string s] w fun e w' => e = .returned (.tuple #[.int .i64 v, .nilIface]) ∧ Below w.heap.size w w') (hi : isInt v = true) (h0 : -999999999 ≤ v) (h1 : v ≤ 999999999)
    (hd : (Lib.itoa v == s.toList) = false) :
    Calls Tryz.prog 173 #[.string s] w fun e w' => e = .returned (.tuple #[.int .i64 0, .bool false]) ∧ Below w.heap.size w w' := by
  have h2 := isInt_any v
  rw [hi] at h2
  have h3 := fun W hW => itoa_any v W (by omega) (by omega) (hl.below hW)
  generalize Lib.itoa v = D at *
  clear hi hl
  go_enter Tryz.func173, Tryz.ntmps173
  go_wp2_with (first | (go_at_call 190; refine ha.mono ?_; rintro e w1 ⟨rfl, hb⟩) | (go_at_call 152; refine (h2 _).mono ?_; rintro e w' ⟨rfl, hw'⟩; obtain rfl := hw'.symm; clear hw') | (go_at_call 163; refine (h3 _ hb).mono ?_; rintro e w2 ⟨rfl, hb2⟩))
  go_ret2
  exact ⟨rfl, hb.trans (hb2.mono hb.size)⟩

set_option maxRecDepth 100000 in
set_option maxHeartbeats 400000 in
theorem intOf_yes (s : ByteArray) (w : World) (hl : Laid w) (v : Int) (ha : Calls Tryz.prog 190 #[.string s] w fun e w' => e = .returned (.tuple #[.int .i64 v, .nilIface]) ∧ Below w.heap.size w w') (hi : isInt v = true) (h0 : -999999999 ≤ v) (h1 : v ≤ 999999999)
    (hd : (Lib.itoa v == s.toList) = true) :
    Calls Tryz.prog 173 #[.string s] w fun e w' => e = .returned (.tuple #[.int .i64 v, .bool true]) ∧ Below w.heap.size w w' := by
  have h2 := isInt_any v
  rw [hi] at h2
  have h3 := fun W hW => itoa_any v W (by omega) (by omega) (hl.below hW)
  generalize Lib.itoa v = D at *
  clear hi hl
  go_enter Tryz.func173, Tryz.ntmps173
  go_wp2_with (first | (go_at_call 190; refine ha.mono ?_; rintro e w1 ⟨rfl, hb⟩) | (go_at_call 152; refine (h2 _).mono ?_; rintro e w' ⟨rfl, hw'⟩; obtain rfl := hw'.symm; clear hw') | (go_at_call 163; refine (h3 _ hb).mono ?_; rintro e w2 ⟨rfl, hb2⟩))
  go_ret2
  exact ⟨rfl, hb.trans (hb2.mono hb.size)⟩

theorem intOf_any (s : ByteArray) (w : World) (hs : s.size ≤ 140737488355328) (hl : Laid w) :
    Calls Tryz.prog 173 #[.string s] w fun e w' => e = .returned (.tuple #[.int .i64 ((intV s.data.toList).getD 0), .bool (intV s.data.toList).isSome]) ∧ Below w.heap.size w w' := by
  by_cases h : ∃ v, Lib.atoiAll s.data.toList = .ok v
  · obtain ⟨v, hv⟩ := h
    have ha := atoi_ok s w hs v hv
    cases hi : isInt v
    · rw [show intV s.data.toList = none by simp [intV, hv, hi]]
      exact intOf_range s w v ha hi
    · have hb : -999999999 ≤ v ∧ v ≤ 999999999 := by simpa [isInt] using hi
      by_cases hd : Lib.itoa v = s.data.toList
      · rw [show intV s.data.toList = some v by simp [intV, hv, hi, hd]]
        exact intOf_yes s w hl v ha hi hb.1 hb.2 (by rw [Lib.toList_data]; simp [hd])
      · rw [show intV s.data.toList = none by simp [intV, hv, hd]]
        exact intOf_other s w hl v ha hi hb.1 hb.2 (by rw [Lib.toList_data]; simp [hd])
  · have h' : ∀ v, Lib.atoiAll s.data.toList ≠ .ok v := fun v e => h ⟨v, e⟩
    have hn : intV s.data.toList = none := by
      unfold intV
      split
      · rename_i v hv; exact absurd hv (h' v)
      · rfl
    rw [hn]
    exact intOf_err s w hs hl h'

end Go.Proofs.YtcnnjladaoaeiaaGreatDoor
