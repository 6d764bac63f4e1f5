/-
  'Digits' of package overhaulref.
-/
import Derived.Test.YtcnnjladaoaeiaaGreatDoorRefs
import Derived.Laws.IdiomStrings
namespace Go.Proofs.YtcnnjladaoaeiaaGreatDoor
open Go.RowKit

theorem conv_one (u : Nat) (w : World) (hu : u < 10) :
    (convert 134 9 (.slice (some ⟨w.heap.size, 0, none⟩) 1 1)).run Tryz.prog (w.alloc (.cells #[.int .u8 (48 + (u : Int))] 5)) = .ok (.string ⟨#[UInt8.ofNat (48 + u)]⟩) (w.alloc (.cells #[.int .u8 (48 + (u : Int))] 5)) := by
  have h := run_convert_bytes_back (P := Tryz.prog) (w.alloc (.cells #[.int .u8 (48 + (u : Int))] 5)) 134 9 5 ⟨w.heap.size, 0, none⟩ 1 [UInt8.ofNat (48 + u)] Tryz.underlying134 Tryz.underlying5 Tryz.underlying9 (by
    intro j hj
    have : j = 0 := by simpa using hj
    subst this
    have e : ((48 + u) % 256 : Nat) = 48 + u := by omega
    simp [Addr.add, e])
  exact h

set_option maxRecDepth 100000 in
set_option maxHeartbeats 400000 in
theorem digits_one (u : Nat) (w : World) (hu : u < 10) : Calls Tryz.prog 113 #[.int .i64 (u : Int)] w fun e w' => e = .returned (.string ⟨(Lib.decDigits u).toArray⟩) ∧ Below w.heap.size w w' := by
  rw [Lib.decDigits, dif_pos hu]
  have hc := conv_one u w hu
  go_enter Tryz.func113, Tryz.ntmps113
  go_wp2
  go_ret
  exact ⟨rfl, (Below.refl _ _).alloc (Nat.le_refl _) _⟩

set_option maxRecDepth 100000 in
set_option maxHeartbeats 400000 in
theorem digits_two (u : Nat) (w : World) (h10 : 10 ≤ u) (hm : u < 1000000000000000000) (A B : List UInt8) (hA : A.length ≤ 30) (hB : B.length ≤ 30)
    (h1 : ∀ W : World, Calls Tryz.prog 113 #[.int .i64 ((u : Int) / 10)] W fun e w' => e = .returned (.string ⟨A.toArray⟩) ∧ Below W.heap.size W w')
    (h2 : ∀ W : World, Calls Tryz.prog 113 #[.int .i64 ((u : Int) % 10)] W fun e w' => e = .returned (.string ⟨B.toArray⟩) ∧ Below W.heap.size W w') :
    Calls Tryz.prog 113 #[.int .i64 (u : Int)] w fun e w' => e = .returned (.string ⟨(A ++ B).toArray⟩) ∧ Below w.heap.size w w' := by
  have sA := size_mk A
  have sB := size_mk B
  go_enter Tryz.func113, Tryz.ntmps113
  go_wp2_with fail
  refine (h1 _).mono ?_
  rintro e w1 ⟨rfl, b1⟩
  go_wp2_with fail
  refine (h2 _).mono ?_
  rintro e w2 ⟨rfl, b2⟩
  go_wp2
  go_ret
  refine ⟨?_, b1.trans (b2.mono b1.size)⟩
  rw [← mk_append]
  rfl

theorem digits_nat : ∀ (u : Nat), u < 1000000000000000000 → ∀ w : World, Calls Tryz.prog 113 #[.int .i64 (u : Int)] w fun e w' => e = .returned (.string ⟨(Lib.decDigits u).toArray⟩) ∧ Below w.heap.size w w' := by
  intro u
  induction u using Nat.strongRecOn with
  | _ u ih =>
    intro hu w
    by_cases h : u < 10
    · exact digits_one u w h
    · have e : Lib.decDigits u = Lib.decDigits (u / 10) ++ Lib.decDigits (u % 10) := by
        rw [Lib.decDigits, dif_neg h]
        congr 1
        rw [Lib.decDigits, dif_pos (Nat.mod_lt _ (by decide))]
      rw [e]
      have l1 := decDigits_len 17 (u / 10) (by omega)
      have l2 := decDigits_len 17 (u % 10) (by omega)
      exact digits_two u w (by omega) hu _ _ (by omega) (by omega) (fun W => ih (u / 10) (by omega) (by omega) W) (fun W => ih (u % 10) (by omega) (by omega) W)

set_option maxRecDepth 100000 in
set_option maxHeartbeats 400000 in
theorem digits_neg1 (n : Int) (w : World) (h0 : n < 0) (h1 : -10 < n) (A : List UInt8) (hA : A.length ≤ 30)
    (hd : ∀ W : World, Calls Tryz.prog 113 #[.int .i64 (-n)] W fun e w' => e = .returned (.string ⟨A.toArray⟩) ∧ Below W.heap.size W w') :
    Calls Tryz.prog 113 #[.int .i64 n] w fun e w' => e = .returned (.string ⟨(45 :: A).toArray⟩) ∧ Below w.heap.size w w' := by
  have sA := size_mk A
  go_enter Tryz.func113, Tryz.ntmps113
  go_wp2_with fail
  refine (hd _).mono ?_
  rintro e w1 ⟨rfl, b1⟩
  go_wp2
  go_ret
  refine ⟨?_, b1⟩
  rw [show (45 :: A) = [45] ++ A from rfl, ← mk_append]
  rfl

set_option maxRecDepth 100000 in
set_option maxHeartbeats 400000 in
theorem digits_neg2 (n : Int) (w : World) (h0 : n ≤ -10) (h1 : -999999999999999999 ≤ n) (A B : List UInt8) (hA : A.length ≤ 30) (hB : B.length ≤ 30)
    (ha : ∀ W : World, Calls Tryz.prog 113 #[.int .i64 (wrap64 (-n.tdiv 10))] W fun e w' => e = .returned (.string ⟨A.toArray⟩) ∧ Below W.heap.size W w')
    (hb : ∀ W : World, Calls Tryz.prog 113 #[.int .i64 (wrap64 (-n.tmod 10))] W fun e w' => e = .returned (.string ⟨B.toArray⟩) ∧ Below W.heap.size W w') :
    Calls Tryz.prog 113 #[.int .i64 n] w fun e w' => e = .returned (.string ⟨(45 :: (A ++ B)).toArray⟩) ∧ Below w.heap.size w w' := by
  have sA := size_mk A
  have sB := size_mk B
  go_enter Tryz.func113, Tryz.ntmps113
  go_wp2_with fail
  refine (ha _).mono ?_
  rintro e w1 ⟨rfl, b1⟩
  go_wp2_with fail
  refine (hb _).mono ?_
  rintro e w2 ⟨rfl, b2⟩
  go_wp2
  go_ret
  refine ⟨?_, b1.trans (b2.mono b1.size)⟩
  rw [show (45 :: (A ++ B)) = ([45] ++ A) ++ B from rfl, ← mk_append, ← mk_append]
  rfl

theorem digits_any (n : Int) (w : World) (h0 : -999999999999999999 ≤ n) (h1 : n ≤ 999999999999999999) :
    Calls Tryz.prog 113 #[.int .i64 n] w fun e w' => e = .returned (.string ⟨(Lib.itoa n).toArray⟩) ∧ Below w.heap.size w w' := by
  unfold Lib.itoa
  by_cases h : n < 0
  · rw [if_pos h]
    obtain ⟨u, rfl⟩ : ∃ u : Nat, n = -(u : Int) := ⟨n.natAbs, by omega⟩
    have hu : (-(u : Int)).natAbs = u := by omega
    rw [hu]
    by_cases h2 : u < 10
    · have l := decDigits_len 17 u (by omega)
      refine digits_neg1 _ w h (by omega) _ (by omega) fun W => ?_
      have := digits_nat u (by omega) W
      rw [show - -(u : Int) = (u : Int) by omega]
      exact this
    · have e : Lib.decDigits u = Lib.decDigits (u / 10) ++ Lib.decDigits (u % 10) := by
        rw [Lib.decDigits, dif_neg h2]
        congr 1
        rw [Lib.decDigits, dif_pos (Nat.mod_lt _ (by decide))]
      have l1 := decDigits_len 17 (u / 10) (by omega)
      have l2 := decDigits_len 17 (u % 10) (by omega)
      have q : wrap64 (-(-(u : Int)).tdiv 10) = ((u / 10 : Nat) : Int) := by
        rw [Int.neg_tdiv, Int.neg_neg, Int.tdiv_eq_ediv_of_nonneg (by omega)]
        unfold wrap64
        omega
      have r : wrap64 (-(-(u : Int)).tmod 10) = ((u % 10 : Nat) : Int) := by
        rw [Int.neg_tmod, Int.neg_neg, Int.tmod_eq_emod_of_nonneg (by omega)]
        unfold wrap64
        omega
      rw [e]
      refine digits_neg2 _ w (by omega) (by omega) _ _ (by omega) (by omega) (fun W => ?_) (fun W => ?_)
      · rw [q]; exact digits_nat _ (by omega) W
      · rw [r]; exact digits_nat _ (by omega) W
  · rw [if_neg h]
    obtain ⟨u, rfl⟩ : ∃ u : Nat, n = (u : Int) := ⟨n.toNat, by omega⟩
    rw [Int.toNat_natCast]
    exact digits_nat u (by omega) w

end Go.Proofs.YtcnnjladaoaeiaaGreatDoor
