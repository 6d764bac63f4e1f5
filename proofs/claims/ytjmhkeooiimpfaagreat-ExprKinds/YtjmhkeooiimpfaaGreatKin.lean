/-
  'Kind' of package expr.
-/
import Derived.Test.YtjmhkeooiimpfaaGreatKog
namespace Go.Proofs.YtjmhkeooiimpfaaGreat
open Go.RowKit

set_option maxRecDepth 100000 in
set_option maxHeartbeats 1600000 in
theorem kn_long (cv : Value) (k : Int) (v : Vl) (nm : List UInt8) (ao : Option Addr) (n ca : Nat) (w : World) (h17 : ∀ W : World, Below w.heap.size w W → Calls Tryz.prog 13 #[exL k v nm (.slice ao n ca)] W fun e w' => e = .returned (.bool true) ∧ Below W.heap.size W w') :
    Calls Tryz.prog 6 #[cv, exL k v nm (.slice ao n ca)] w fun e w' => e = .returned (.tuple #[.int .i64 0, .int .i64 2]) ∧ Below w.heap.size w w' := by
  go_enter Tryz.func6, Tryz.ntmps6
  go_wp2_with (first | (go_at_call 13; refine (h17 _ ((Below.refl w.heap.size w).alloc (Nat.le_refl _) (.cells #[.int .i64 k, .int .i64 v.k, .int .i64 v.n, .string ⟨v.s.toArray⟩, .string ⟨nm.toArray⟩, .slice ao n ca] 28))).mono ?_; rintro e w1 ⟨rfl, b1⟩; have z1 : w.heap.size < w1.heap.size := (by have := b1.size; simp at this; omega); have d0 := (b1.cell (p := ⟨w.heap.size, 0, none⟩) (by simp)).trans (by simp : _ = some (.int .i64 k)); have d1 := (b1.cell (p := ⟨w.heap.size, 1, none⟩) (by simp)).trans (by simp : _ = some (.int .i64 v.k)); have d2 := (b1.cell (p := ⟨w.heap.size, 2, none⟩) (by simp)).trans (by simp : _ = some (.int .i64 v.n)); have d3 := (b1.cell (p := ⟨w.heap.size, 3, none⟩) (by simp)).trans (by simp : _ = some (.string ⟨v.s.toArray⟩)); have d4 := (b1.cell (p := ⟨w.heap.size, 4, none⟩) (by simp)).trans (by simp : _ = some (.string ⟨nm.toArray⟩)); have d5 := (b1.cell (p := ⟨w.heap.size, 5, none⟩) (by simp)).trans (by simp : _ = some (.slice ao n ca)); have q1 : Below w.heap.size w w1 := ((Below.refl w.heap.size w).alloc (Nat.le_refl _) _).trans (b1.mono (by simp)); clear h17 b1))
  go_ret2
  exact ⟨rfl, q1⟩

set_option maxRecDepth 100000 in
set_option maxHeartbeats 1600000 in
theorem kn_bad (cv : Value) (k : Int) (v : Vl) (nm : List UInt8) (ao : Option Addr) (n ca : Nat) (w : World) (F : Nat) (hF : ((F : Int) != 0) = true) (h17 : ∀ W : World, Below w.heap.size w W → Calls Tryz.prog 13 #[exL k v nm (.slice ao n ca)] W fun e w' => e = .returned (.bool false) ∧ Below W.heap.size W w') (h18 : ∀ W : World, Below w.heap.size w W → Calls Tryz.prog 14 #[cv, exL k v nm (.slice ao n ca)] W fun e w' => e = .returned (.int .i64 (F : Nat)) ∧ Below W.heap.size W w') :
    Calls Tryz.prog 6 #[cv, exL k v nm (.slice ao n ca)] w fun e w' => e = .returned (.tuple #[.int .i64 0, .int .i64 (F : Nat)]) ∧ Below w.heap.size w w' := by
  go_enter Tryz.func6, Tryz.ntmps6
  go_wp2_with (first | (go_at_call 13; refine (h17 _ ((Below.refl w.heap.size w).alloc (Nat.le_refl _) (.cells #[.int .i64 k, .int .i64 v.k, .int .i64 v.n, .string ⟨v.s.toArray⟩, .string ⟨nm.toArray⟩, .slice ao n ca] 28))).mono ?_; rintro e w1 ⟨rfl, b1⟩; have z1 : w.heap.size < w1.heap.size := (by have := b1.size; simp at this; omega); have d0 := (b1.cell (p := ⟨w.heap.size, 0, none⟩) (by simp)).trans (by simp : _ = some (.int .i64 k)); have d1 := (b1.cell (p := ⟨w.heap.size, 1, none⟩) (by simp)).trans (by simp : _ = some (.int .i64 v.k)); have d2 := (b1.cell (p := ⟨w.heap.size, 2, none⟩) (by simp)).trans (by simp : _ = some (.int .i64 v.n)); have d3 := (b1.cell (p := ⟨w.heap.size, 3, none⟩) (by simp)).trans (by simp : _ = some (.string ⟨v.s.toArray⟩)); have d4 := (b1.cell (p := ⟨w.heap.size, 4, none⟩) (by simp)).trans (by simp : _ = some (.string ⟨nm.toArray⟩)); have d5 := (b1.cell (p := ⟨w.heap.size, 5, none⟩) (by simp)).trans (by simp : _ = some (.slice ao n ca)); have q1 : Below w.heap.size w w1 := ((Below.refl w.heap.size w).alloc (Nat.le_refl _) _).trans (b1.mono (by simp)); clear h17 b1) | (go_at_call 14; refine (h18 _ q1).mono ?_; rintro e w2 ⟨rfl, b2⟩; have z2 : w.heap.size < w2.heap.size := (by have := b2.size; omega); have e0 := (b2.cell (p := ⟨w.heap.size, 0, none⟩) z1).trans d0; have e1 := (b2.cell (p := ⟨w.heap.size, 1, none⟩) z1).trans d1; have e2 := (b2.cell (p := ⟨w.heap.size, 2, none⟩) z1).trans d2; have e3 := (b2.cell (p := ⟨w.heap.size, 3, none⟩) z1).trans d3; have e4 := (b2.cell (p := ⟨w.heap.size, 4, none⟩) z1).trans d4; have e5 := (b2.cell (p := ⟨w.heap.size, 5, none⟩) z1).trans d5; have q2 : Below w.heap.size w w2 := q1.trans (b2.mono q1.size); clear h18 b2 d0 d1 d2 d3 d4 d5))
  go_ret2
  exact ⟨rfl, q2⟩

set_option maxRecDepth 100000 in
set_option maxHeartbeats 1600000 in
theorem kn_no (cv : Value) (k : Int) (v : Vl) (nm : List UInt8) (ao : Option Addr) (n ca : Nat) (w : World) (h17 : ∀ W : World, Below w.heap.size w W → Calls Tryz.prog 13 #[exL k v nm (.slice ao n ca)] W fun e w' => e = .returned (.bool false) ∧ Below W.heap.size W w') (h18 : ∀ W : World, Below w.heap.size w W → Calls Tryz.prog 14 #[cv, exL k v nm (.slice ao n ca)] W fun e w' => e = .returned (.int .i64 0) ∧ Below W.heap.size W w') (h19 : ∀ W : World, Below w.heap.size w W → Calls Tryz.prog 15 #[cv, exL k v nm (.slice ao n ca)] W fun e w' => e = .returned (.tuple #[.int .i64 0, .bool false]) ∧ Below W.heap.size W w') :
    Calls Tryz.prog 6 #[cv, exL k v nm (.slice ao n ca)] w fun e w' => e = .returned (.tuple #[.int .i64 0, .int .i64 4]) ∧ Below w.heap.size w w' := by
  go_enter Tryz.func6, Tryz.ntmps6
  go_wp2_with (first | (go_at_call 13; refine (h17 _ ((Below.refl w.heap.size w).alloc (Nat.le_refl _) (.cells #[.int .i64 k, .int .i64 v.k, .int .i64 v.n, .string ⟨v.s.toArray⟩, .string ⟨nm.toArray⟩, .slice ao n ca] 28))).mono ?_; rintro e w1 ⟨rfl, b1⟩; have z1 : w.heap.size < w1.heap.size := (by have := b1.size; simp at this; omega); have d0 := (b1.cell (p := ⟨w.heap.size, 0, none⟩) (by simp)).trans (by simp : _ = some (.int .i64 k)); have d1 := (b1.cell (p := ⟨w.heap.size, 1, none⟩) (by simp)).trans (by simp : _ = some (.int .i64 v.k)); have d2 := (b1.cell (p := ⟨w.heap.size, 2, none⟩) (by simp)).trans (by simp : _ = some (.int .i64 v.n)); have d3 := (b1.cell (p := ⟨w.heap.size, 3, none⟩) (by simp)).trans (by simp : _ = some (.string ⟨v.s.toArray⟩)); have d4 := (b1.cell (p := ⟨w.heap.size, 4, none⟩) (by simp)).trans (by simp : _ = some (.string ⟨nm.toArray⟩)); have d5 := (b1.cell (p := ⟨w.heap.size, 5, none⟩) (by simp)).trans (by simp : _ = some (.slice ao n ca)); have q1 : Below w.heap.size w w1 := ((Below.refl w.heap.size w).alloc (Nat.le_refl _) _).trans (b1.mono (by simp)); clear h17 b1) | (go_at_call 14; refine (h18 _ q1).mono ?_; rintro e w2 ⟨rfl, b2⟩; have z2 : w.heap.size < w2.heap.size := (by have := b2.size; omega); have e0 := (b2.cell (p := ⟨w.heap.size, 0, none⟩) z1).trans d0; have e1 := (b2.cell (p := ⟨w.heap.size, 1, none⟩) z1).trans d1; have e2 := (b2.cell (p := ⟨w.heap.size, 2, none⟩) z1).trans d2; have e3 := (b2.cell (p := ⟨w.heap.size, 3, none⟩) z1).trans d3; have e4 := (b2.cell (p := ⟨w.heap.size, 4, none⟩) z1).trans d4; have e5 := (b2.cell (p := ⟨w.heap.size, 5, none⟩) z1).trans d5; have q2 : Below w.heap.size w w2 := q1.trans (b2.mono q1.size); clear h18 b2 d0 d1 d2 d3 d4 d5) | (go_at_call 15; refine (h19 _ q2).mono ?_; rintro e w3 ⟨rfl, b3⟩; have q3 : Below w.heap.size w w3 := q2.trans (b3.mono q2.size); clear h19 b3 e0 e1 e2 e3 e4 e5))
  go_ret2
  exact ⟨rfl, q3⟩

set_option maxRecDepth 100000 in
set_option maxHeartbeats 1600000 in
theorem kn_ok (cv : Value) (k : Int) (v : Vl) (nm : List UInt8) (ao : Option Addr) (n ca : Nat) (w : World) (K : Int) (h17 : ∀ W : World, Below w.heap.size w W → Calls Tryz.prog 13 #[exL k v nm (.slice ao n ca)] W fun e w' => e = .returned (.bool false) ∧ Below W.heap.size W w') (h18 : ∀ W : World, Below w.heap.size w W → Calls Tryz.prog 14 #[cv, exL k v nm (.slice ao n ca)] W fun e w' => e = .returned (.int .i64 0) ∧ Below W.heap.size W w') (h19 : ∀ W : World, Below w.heap.size w W → Calls Tryz.prog 15 #[cv, exL k v nm (.slice ao n ca)] W fun e w' => e = .returned (.tuple #[.int .i64 K, .bool true]) ∧ Below W.heap.size W w') :
    Calls Tryz.prog 6 #[cv, exL k v nm (.slice ao n ca)] w fun e w' => e = .returned (.tuple #[.int .i64 K, .int .i64 0]) ∧ Below w.heap.size w w' := by
  go_enter Tryz.func6, Tryz.ntmps6
  go_wp2_with (first | (go_at_call 13; refine (h17 _ ((Below.refl w.heap.size w).alloc (Nat.le_refl _) (.cells #[.int .i64 k, .int .i64 v.k, .int .i64 v.n, .string ⟨v.s.toArray⟩, .string ⟨nm.toArray⟩, .slice ao n ca] 28))).mono ?_; rintro e w1 ⟨rfl, b1⟩; have z1 : w.heap.size < w1.heap.size := (by have := b1.size; simp at this; omega); have d0 := (b1.cell (p := ⟨w.heap.size, 0, none⟩) (by simp)).trans (by simp : _ = some (.int .i64 k)); have d1 := (b1.cell (p := ⟨w.heap.size, 1, none⟩) (by simp)).trans (by simp : _ = some (.int .i64 v.k)); have d2 := (b1.cell (p := ⟨w.heap.size, 2, none⟩) (by simp)).trans (by simp : _ = some (.int .i64 v.n)); have d3 := (b1.cell (p := ⟨w.heap.size, 3, none⟩) (by simp)).trans (by simp : _ = some (.string ⟨v.s.toArray⟩)); have d4 := (b1.cell (p := ⟨w.heap.size, 4, none⟩) (by simp)).trans (by simp : _ = some (.string ⟨nm.toArray⟩)); have d5 := (b1.cell (p := ⟨w.heap.size, 5, none⟩) (by simp)).trans (by simp : _ = some (.slice ao n ca)); have q1 : Below w.heap.size w w1 := ((Below.refl w.heap.size w).alloc (Nat.le_refl _) _).trans (b1.mono (by simp)); clear h17 b1) | (go_at_call 14; refine (h18 _ q1).mono ?_; rintro e w2 ⟨rfl, b2⟩; have z2 : w.heap.size < w2.heap.size := (by have := b2.size; omega); have e0 := (b2.cell (p := ⟨w.heap.size, 0, none⟩) z1).trans d0; have e1 := (b2.cell (p := ⟨w.heap.size, 1, none⟩) z1).trans d1; have e2 := (b2.cell (p := ⟨w.heap.size, 2, none⟩) z1).trans d2; have e3 := (b2.cell (p := ⟨w.heap.size, 3, none⟩) z1).trans d3; have e4 := (b2.cell (p := ⟨w.heap.size, 4, none⟩) z1).trans d4; have e5 := (b2.cell (p := ⟨w.heap.size, 5, none⟩) z1).trans d5; have q2 : Below w.heap.size w w2 := q1.trans (b2.mono q1.size); clear h18 b2 d0 d1 d2 d3 d4 d5) | (go_at_call 15; refine (h19 _ q2).mono ?_; rintro e w3 ⟨rfl, b3⟩; have q3 : Below w.heap.size w w3 := q2.trans (b3.mono q2.size); clear h19 b3 e0 e1 e2 e3 e4 e5))
  go_ret2
  exact ⟨rfl, q3⟩

/-- what Kind answers -/
def kindX (L : List Cl) (x : Ex) : Int × Nat := if 15 < sizeE x then (0, 2) else if faultE L x ≠ 0 then (0, faultE L x) else ((kindE L x).getD 0, if (kindE L x).isSome = true then 0 else 4)

theorem Kind_any (L : List Cl) (cv : Value) {w : World} {u : Value} {x : Ex} (h : ExAt 0 w u x) (hf : Fit x) (hC : CsAt w cv L) :
    Calls Tryz.prog 6 #[cv, u] w fun e w' => e = .returned (.tuple #[.int .i64 (kindX L x).1, .int .i64 ((kindX L x).2 : Nat)]) ∧ Below w.heap.size w w' := by
  have h17 := fun (W : World) (hW : Below w.heap.size w W) => islong_any (h.under hW) hf
  have h18 := fun (W : World) (hW : Below w.heap.size w W) => flt_any L cv h hf W hW (hC.below hW)
  have h19 := fun (h0 : faultE L x = 0) (W : World) (hW : Below w.heap.size w W) => kindOf_any L cv h hf h0 W hW (hC.below hW)
  obtain ⟨ao, ca, rfl⟩ := h.len
  unfold kindX
  by_cases h1 : 15 < sizeE x
  · rw [if_pos h1]
    rw [decide_eq_true h1] at h17
    exact kn_long cv _ _ _ _ _ _ w h17
  rw [if_neg h1]
  rw [decide_eq_false h1] at h17
  by_cases h2 : faultE L x ≠ 0
  · rw [if_pos h2]
    exact kn_bad cv _ _ _ _ _ _ w _ (by simpa using h2) h17 h18
  rw [if_neg h2]
  replace h2 := Classical.not_not.1 h2
  rw [h2] at h18
  have h19 := h19 h2
  cases hk : kindE L x with
  | none =>
    rw [hk] at h19
    exact kn_no cv _ _ _ _ _ _ w h17 h18 h19
  | some K =>
    rw [hk] at h19
    exact kn_ok cv _ _ _ _ _ _ w K h17 h18 h19

end Go.Proofs.YtjmhkeooiimpfaaGreat
