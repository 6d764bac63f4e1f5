/-
  'KeyOf' and 'ValueText' of package overhaulref.
-/
import Derived.Test.YtcnnjladaoaeiaaGreatDoorOrdV
namespace Go.Proofs.YtcnnjladaoaeiaaGreatDoor
open Go.RowKit

set_option maxRecDepth 100000 in
set_option maxHeartbeats 400000 in
theorem kv_0 (N : Int) (s : ByteArray) (w : World) :
    Calls Tryz.prog 82 #[.agg #[.int .i64 0, .int .i64 N, .string s]] w fun e w' => e = .returned (.string ⟨#[48]⟩) ∧ Below w.heap.size w w' := by
  go_enter Tryz.func82, Tryz.ntmps82
  go_wp2
  go_ret
  exact ⟨rfl, (Below.refl _ _).alloc (Nat.le_refl _) _⟩

set_option maxRecDepth 100000 in
set_option maxHeartbeats 400000 in
theorem kv_2 (N : Int) (s : ByteArray) (w : World) (hs : s.size ≤ 140737488355328) :
    Calls Tryz.prog 82 #[.agg #[.int .i64 2, .int .i64 N, .string s]] w fun e w' => e = .returned (.string ⟨(50 :: s.data.toList).toArray⟩) ∧ Below w.heap.size w w' := by
  go_enter Tryz.func82, Tryz.ntmps82
  go_wp2
  go_ret
  refine ⟨?_, (Below.refl _ _).alloc (Nat.le_refl _) _⟩
  rw [show (50 :: s.data.toList) = [50] ++ s.data.toList from rfl, ← mk_append]
  rfl

theorem itoa_len (N : Int) (h0 : -999999999999999999 ≤ N) (h1 : N ≤ 999999999999999999) : (Lib.itoa N).length ≤ 19 := by
  unfold Lib.itoa
  by_cases h : N < 0
  · rw [if_pos h]
    have := decDigits_len 17 N.natAbs (by omega)
    simp; omega
  · rw [if_neg h]
    have := decDigits_len 17 N.toNat (by omega)
    omega

set_option maxRecDepth 100000 in
set_option maxHeartbeats 400000 in
theorem kv_3 (N : Int) (s : ByteArray) (w : World) (h0 : 0 ≤ N) (h1 : N ≤ 1) :
    Calls Tryz.prog 82 #[.agg #[.int .i64 3, .int .i64 N, .string s]] w fun e w' => e = .returned (.string ⟨(51 :: Lib.itoa N).toArray⟩) ∧ Below w.heap.size w w' := by
  have hd := fun W => digits_any N W (by omega) (by omega)
  have hT := itoa_len N (by omega) (by omega)
  generalize Lib.itoa N = T at *
  have hts := size_mk T
  go_enter Tryz.func82, Tryz.ntmps82
  go_wp2_with (go_at_call 113; refine (hd _).mono ?_; rintro e w1 ⟨rfl, b1⟩)
  go_ret
  refine ⟨?_, ((Below.refl _ _).alloc (Nat.le_refl _) _).trans (b1.mono (by simp))⟩
  rw [show (51 :: T) = [51] ++ T from rfl, ← mk_append]
  rfl

set_option maxRecDepth 100000 in
set_option maxHeartbeats 800000 in
theorem kv_1 (N : Int) (s : ByteArray) (w : World) (h0 : -999999999 ≤ N) (h1 : N ≤ 999999999) :
    Calls Tryz.prog 82 #[.agg #[.int .i64 1, .int .i64 N, .string s]] w fun e w' => e = .returned (.string ⟨(49 :: tenL (N + 1000000000)).toArray⟩) ∧ Below w.heap.size w w' := by
  have hd := fun W => digits_any (N + 1000000000) W (by omega) (by omega)
  have hL : (Lib.itoa (N + 1000000000)).length ≤ 10 := by
    unfold Lib.itoa
    rw [if_neg (by omega)]
    exact (decDigits_len 9 _ (by omega)).2
  have hT : tenL (N + 1000000000) = Lib.repeatL [48] (10 - (Lib.itoa (N + 1000000000)).length) ++ Lib.itoa (N + 1000000000) := rfl
  generalize Lib.itoa (N + 1000000000) = I at *
  generalize tenL (N + 1000000000) = T at *
  have HT := hide hT
  clear hT
  have hI := size_mk I
  go_enter Tryz.func82, Tryz.ntmps82
  go_wp2_with (go_at_call 113; refine (hd _).mono ?_; rintro e w1 ⟨rfl, b1⟩)
  have q1 : Below w.heap.size w w1 := ((Below.refl _ _).alloc (Nat.le_refl _) _).trans (b1.mono (by simp))
  clear hd b1
  go_loop [3] (fun v => ∃ l : List UInt8, v = .string ⟨l.toArray⟩ ∧ l.length ≤ 10 ∧ Hid (T = Lib.repeatL [48] (10 - l.length) ++ l)) (fun v => 10 - (match v with | .string b => b.size | _ => 0))
  case atStart => exact ⟨I, rfl, hL, HT.out⟩
  case round =>
    obtain ⟨l, rfl, hl, HE⟩ := hrel
    clear HT hL hI
    have hsz := size_mk l
    by_cases h : l.length < 10
    · have HG : Hid (T = Lib.repeatL [48] (10 - ([48] ++ l).length) ++ ([48] ++ l)) := by
        have := HE.out
        rw [show 10 - l.length = (10 - ([48] ++ l).length) + 1 by simp; omega, repeat_last, List.append_assoc] at this
        exact this
      clear HE
      go_wp2
      go_round
      case rel => exact ⟨[48] ++ l, by rw [← mk_append], by simp; omega, HG⟩
      case measure =>
        have := size_mk ([48] ++ l)
        rw [← mk_append] at this
        simp only [List.length_append, List.length_singleton] at this
        first | omega | (simp at this ⊢; omega)
    · have HG : Hid (T = l) := by
        have := HE.out
        rw [show 10 - l.length = 0 by omega] at this
        exact this
      clear HE
      go_wp2
      go_ret
      refine ⟨?_, q1⟩
      rw [HG.out, show (49 :: l) = [49] ++ l from rfl, ← mk_append]
      rfl

/-- KeyOf of a right value -/
theorem kv_any (K N : Int) (s : ByteArray) (w : World) (hs : s.size ≤ 140737488355328) (h : chkV K N s.data.toList = 0) :
    Calls Tryz.prog 82 #[.agg #[.int .i64 K, .int .i64 N, .string s]] w fun e w' => e = .returned (.string ⟨(keyV K N s.data.toList).toArray⟩) ∧ Below w.heap.size w w' := by
  rcases chk_zero h with ⟨rfl, _⟩ | ⟨rfl, ⟨h1, h2⟩, _⟩ | ⟨rfl, _⟩ | ⟨rfl, h1, _⟩
  · exact kv_0 N s w
  · exact kv_1 N s w h1 h2
  · exact kv_2 N s w hs
  · exact kv_3 N s w (by omega) (by omega)

set_option maxRecDepth 100000 in
set_option maxHeartbeats 400000 in
theorem text_3 (N : Int) (s : ByteArray) (w : World) :
    Calls Tryz.prog 114 #[.agg #[.int .i64 3, .int .i64 N, .string s]] w fun e w' => e = .returned (.string ⟨(Lib.formatBool (N == 1)).toArray⟩) ∧ Below w.heap.size w w' := by
  cases h : (N == 1)
  · go_enter Tryz.func114, Tryz.ntmps114
    go_wp2
    go_ret
    exact ⟨rfl, (Below.refl _ _).alloc (Nat.le_refl _) _⟩
  · go_enter Tryz.func114, Tryz.ntmps114
    go_wp2
    go_ret
    exact ⟨rfl, (Below.refl _ _).alloc (Nat.le_refl _) _⟩

end Go.Proofs.YtcnnjladaoaeiaaGreatDoor
