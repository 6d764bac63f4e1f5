/-
  'Eval' and 'Holds' of package expr.
-/
import Derived.Test.YtjmhkeooiimpfaaGreatVoh
namespace Go.Proofs.YtjmhkeooiimpfaaGreat
open Go.RowKit

/-- what Eval answers -/
def evalX (L : List Cl) (r : List Vl) (x : Ex) : Vl × Nat := if (kindX L x).2 ≠ 0 then (vl0, (kindX L x).2) else if rowF L r ≠ 0 then (vl0, rowF L r) else (evalE L r x, 0)

theorem kindX_zero {L : List Cl} {x : Ex} (h : (kindX L x).2 = 0) : sizeE x ≤ 15 ∧ faultE L x = 0 ∧ ∃ K, kindE L x = some K ∧ (kindX L x).1 = K := by
  unfold kindX at h ⊢
  by_cases h1 : 15 < sizeE x
  · rw [if_pos h1] at h; cases h
  rw [if_neg h1] at h ⊢
  by_cases h2 : faultE L x ≠ 0
  · rw [if_pos h2] at h; exact absurd h h2
  rw [if_neg h2] at h ⊢
  refine ⟨by omega, Classical.not_not.1 h2, ?_⟩
  cases e : kindE L x with
  | none => rw [e] at h; cases h
  | some K => exact ⟨K, rfl, rfl⟩

set_option maxRecDepth 100000 in
set_option maxHeartbeats 1600000 in
theorem ev_bad (cv rv : Value) (k : Int) (v : Vl) (nm : List UInt8) (ao : Option Addr) (n ca : Nat) (w : World) (F : Nat) (hF : ((F : Int) != 0) = true) (K : Int) (h6 : ∀ W : World, Below w.heap.size w W → Calls Tryz.prog 6 #[cv, exL k v nm (.slice ao n ca)] W fun e w' => e = .returned (.tuple #[.int .i64 K, .int .i64 (F : Nat)]) ∧ Below W.heap.size W w') :
    Calls Tryz.prog 7 #[cv, rv, exL k v nm (.slice ao n ca)] w fun e w' => e = .returned (.tuple #[vlV vl0, .int .i64 (F : Nat)]) ∧ Below w.heap.size w w' := by
  have b0 := ((Below.refl w.heap.size w).alloc (Nat.le_refl _) (.cells #[.int .i64 k, .int .i64 v.k, .int .i64 v.n, .string ⟨v.s.toArray⟩, .string ⟨nm.toArray⟩, .slice ao n ca] 28)).alloc (by simp) (.cells #[.int .i64 0, .int .i64 0, .string ⟨#[]⟩] 25)
  have hD : ∀ W' : World, Below ((w.alloc (.cells #[.int .i64 k, .int .i64 v.k, .int .i64 v.n, .string ⟨v.s.toArray⟩, .string ⟨nm.toArray⟩, .slice ao n ca] 28)).alloc (.cells #[.int .i64 0, .int .i64 0, .string ⟨#[]⟩] 25)).heap.size ((w.alloc (.cells #[.int .i64 k, .int .i64 v.k, .int .i64 v.n, .string ⟨v.s.toArray⟩, .string ⟨nm.toArray⟩, .slice ao n ca] 28)).alloc (.cells #[.int .i64 0, .int .i64 0, .string ⟨#[]⟩] 25)) W' → W'.cell? ⟨w.heap.size, 0, none⟩ = some (.int .i64 k) ∧ W'.cell? ⟨w.heap.size, 1, none⟩ = some (.int .i64 v.k) ∧ W'.cell? ⟨w.heap.size, 2, none⟩ = some (.int .i64 v.n) ∧ W'.cell? ⟨w.heap.size, 3, none⟩ = some (.string ⟨v.s.toArray⟩) ∧ W'.cell? ⟨w.heap.size, 4, none⟩ = some (.string ⟨nm.toArray⟩) ∧ W'.cell? ⟨w.heap.size, 5, none⟩ = some (.slice ao n ca) := fun W' hW =>
    ⟨(hW.cell (p := ⟨w.heap.size, 0, none⟩) (by simp; omega)).trans (by simp), (hW.cell (p := ⟨w.heap.size, 1, none⟩) (by simp; omega)).trans (by simp), (hW.cell (p := ⟨w.heap.size, 2, none⟩) (by simp; omega)).trans (by simp), (hW.cell (p := ⟨w.heap.size, 3, none⟩) (by simp; omega)).trans (by simp), (hW.cell (p := ⟨w.heap.size, 4, none⟩) (by simp; omega)).trans (by simp), (hW.cell (p := ⟨w.heap.size, 5, none⟩) (by simp; omega)).trans (by simp)⟩
  have c9 : ((w.alloc (.cells #[.int .i64 k, .int .i64 v.k, .int .i64 v.n, .string ⟨v.s.toArray⟩, .string ⟨nm.toArray⟩, .slice ao n ca] 28)).alloc (.cells #[.int .i64 0, .int .i64 0, .string ⟨#[]⟩] 25)).heap[w.heap.size + 1]? = some (.cells #[.int .i64 0, .int .i64 0, .string ⟨#[]⟩] 25) := by
    have hz : (w.alloc (.cells #[.int .i64 k, .int .i64 v.k, .int .i64 v.n, .string ⟨v.s.toArray⟩, .string ⟨nm.toArray⟩, .slice ao n ca] 28)).heap.size = w.heap.size + 1 := by simp
    rw [← hz]; exact heap_alloc_new _ _
  have z0 : ((w.alloc (.cells #[.int .i64 k, .int .i64 v.k, .int .i64 v.n, .string ⟨v.s.toArray⟩, .string ⟨nm.toArray⟩, .slice ao n ca] 28)).alloc (.cells #[.int .i64 0, .int .i64 0, .string ⟨#[]⟩] 25)).heap.size = w.heap.size + 2 := by simp
  have HD := hide hD
  clear hD
  unfold vlV
  go_enter Tryz.func7, Tryz.ntmps7
  go_wp2_with fail
  refine (h6 _ (b0.trans ((Below.refl _ _).mono b0.size))).mono ?_
  rintro e w1 ⟨rfl, b1⟩
  have p1 : Below ((w.alloc (.cells #[.int .i64 k, .int .i64 v.k, .int .i64 v.n, .string ⟨v.s.toArray⟩, .string ⟨nm.toArray⟩, .slice ao n ca] 28)).alloc (.cells #[.int .i64 0, .int .i64 0, .string ⟨#[]⟩] 25)).heap.size ((w.alloc (.cells #[.int .i64 k, .int .i64 v.k, .int .i64 v.n, .string ⟨v.s.toArray⟩, .string ⟨nm.toArray⟩, .slice ao n ca] 28)).alloc (.cells #[.int .i64 0, .int .i64 0, .string ⟨#[]⟩] 25)) w1 := b1
  obtain ⟨d0, d1, d2, d3, d4, d5⟩ := HD.out w1 p1
  clear b1 h6
  have c := (p1.block (w.heap.size + 1) (by rw [z0]; omega)).trans c9
  have q1 : Below w.heap.size w w1 := b0.trans (p1.mono b0.size)
  obtain ⟨⟨c0, c1, c2⟩, f0, f1, f2⟩ := three c
  obtain ⟨⟨s0, s1, s2⟩, -⟩ := three (three_set c (.int .i64 0) (.int .i64 0) (.string ⟨#[]⟩))
  clear c c9 HD b0 z0
  go_wp2_with fail
  have q2 : Below w.heap.size w (((w1.setCell ⟨w.heap.size + 1, 0, none⟩ (.int .i64 0)).setCell ⟨w.heap.size + 1, 1, none⟩ (.int .i64 0)).setCell ⟨w.heap.size + 1, 2, none⟩ (.string ⟨#[]⟩)) := ((q1.setCell (by simp) _).setCell (by simp) _).setCell (by simp) _
  generalize (((w1.setCell ⟨w.heap.size + 1, 0, none⟩ (.int .i64 0)).setCell ⟨w.heap.size + 1, 1, none⟩ (.int .i64 0)).setCell ⟨w.heap.size + 1, 2, none⟩ (.string ⟨#[]⟩)) = w9 at *
  refine bodyPost_ret (v := .tuple #[.agg #[.int .i64 0, .int .i64 0, .string ⟨#[]⟩], .int .i64 (F : Nat)]) ?_ rfl ⟨rfl, q2⟩
  simp [results, Tryz.results7, go_sem, s0, s1, s2]

set_option maxRecDepth 100000 in
set_option maxHeartbeats 1600000 in
theorem ev_row (cv rv : Value) (k : Int) (v : Vl) (nm : List UInt8) (ao : Option Addr) (n ca : Nat) (w : World) (K : Int) (h6 : ∀ W : World, Below w.heap.size w W → Calls Tryz.prog 6 #[cv, exL k v nm (.slice ao n ca)] W fun e w' => e = .returned (.tuple #[.int .i64 K, .int .i64 0]) ∧ Below W.heap.size W w') (F : Nat) (hF : ((F : Int) != 0) = true) (h20 : ∀ W : World, Below w.heap.size w W → Calls Tryz.prog 16 #[cv, rv] W fun e w' => e = .returned (.int .i64 (F : Nat)) ∧ Below W.heap.size W w') :
    Calls Tryz.prog 7 #[cv, rv, exL k v nm (.slice ao n ca)] w fun e w' => e = .returned (.tuple #[vlV vl0, .int .i64 (F : Nat)]) ∧ Below w.heap.size w w' := by
  have b0 := ((Below.refl w.heap.size w).alloc (Nat.le_refl _) (.cells #[.int .i64 k, .int .i64 v.k, .int .i64 v.n, .string ⟨v.s.toArray⟩, .string ⟨nm.toArray⟩, .slice ao n ca] 28)).alloc (by simp) (.cells #[.int .i64 0, .int .i64 0, .string ⟨#[]⟩] 25)
  have hD : ∀ W' : World, Below ((w.alloc (.cells #[.int .i64 k, .int .i64 v.k, .int .i64 v.n, .string ⟨v.s.toArray⟩, .string ⟨nm.toArray⟩, .slice ao n ca] 28)).alloc (.cells #[.int .i64 0, .int .i64 0, .string ⟨#[]⟩] 25)).heap.size ((w.alloc (.cells #[.int .i64 k, .int .i64 v.k, .int .i64 v.n, .string ⟨v.s.toArray⟩, .string ⟨nm.toArray⟩, .slice ao n ca] 28)).alloc (.cells #[.int .i64 0, .int .i64 0, .string ⟨#[]⟩] 25)) W' → W'.cell? ⟨w.heap.size, 0, none⟩ = some (.int .i64 k) ∧ W'.cell? ⟨w.heap.size, 1, none⟩ = some (.int .i64 v.k) ∧ W'.cell? ⟨w.heap.size, 2, none⟩ = some (.int .i64 v.n) ∧ W'.cell? ⟨w.heap.size, 3, none⟩ = some (.string ⟨v.s.toArray⟩) ∧ W'.cell? ⟨w.heap.size, 4, none⟩ = some (.string ⟨nm.toArray⟩) ∧ W'.cell? ⟨w.heap.size, 5, none⟩ = some (.slice ao n ca) := fun W' hW =>
    ⟨(hW.cell (p := ⟨w.heap.size, 0, none⟩) (by simp; omega)).trans (by simp), (hW.cell (p := ⟨w.heap.size, 1, none⟩) (by simp; omega)).trans (by simp), (hW.cell (p := ⟨w.heap.size, 2, none⟩) (by simp; omega)).trans (by simp), (hW.cell (p := ⟨w.heap.size, 3, none⟩) (by simp; omega)).trans (by simp), (hW.cell (p := ⟨w.heap.size, 4, none⟩) (by simp; omega)).trans (by simp), (hW.cell (p := ⟨w.heap.size, 5, none⟩) (by simp; omega)).trans (by simp)⟩
  have c9 : ((w.alloc (.cells #[.int .i64 k, .int .i64 v.k, .int .i64 v.n, .string ⟨v.s.toArray⟩, .string ⟨nm.toArray⟩, .slice ao n ca] 28)).alloc (.cells #[.int .i64 0, .int .i64 0, .string ⟨#[]⟩] 25)).heap[w.heap.size + 1]? = some (.cells #[.int .i64 0, .int .i64 0, .string ⟨#[]⟩] 25) := by
    have hz : (w.alloc (.cells #[.int .i64 k, .int .i64 v.k, .int .i64 v.n, .string ⟨v.s.toArray⟩, .string ⟨nm.toArray⟩, .slice ao n ca] 28)).heap.size = w.heap.size + 1 := by simp
    rw [← hz]; exact heap_alloc_new _ _
  have z0 : ((w.alloc (.cells #[.int .i64 k, .int .i64 v.k, .int .i64 v.n, .string ⟨v.s.toArray⟩, .string ⟨nm.toArray⟩, .slice ao n ca] 28)).alloc (.cells #[.int .i64 0, .int .i64 0, .string ⟨#[]⟩] 25)).heap.size = w.heap.size + 2 := by simp
  have HD := hide hD
  clear hD
  unfold vlV
  go_enter Tryz.func7, Tryz.ntmps7
  go_wp2_with fail
  refine (h6 _ (b0.trans ((Below.refl _ _).mono b0.size))).mono ?_
  rintro e w1 ⟨rfl, b1⟩
  have p1 : Below ((w.alloc (.cells #[.int .i64 k, .int .i64 v.k, .int .i64 v.n, .string ⟨v.s.toArray⟩, .string ⟨nm.toArray⟩, .slice ao n ca] 28)).alloc (.cells #[.int .i64 0, .int .i64 0, .string ⟨#[]⟩] 25)).heap.size ((w.alloc (.cells #[.int .i64 k, .int .i64 v.k, .int .i64 v.n, .string ⟨v.s.toArray⟩, .string ⟨nm.toArray⟩, .slice ao n ca] 28)).alloc (.cells #[.int .i64 0, .int .i64 0, .string ⟨#[]⟩] 25)) w1 := b1
  obtain ⟨d0, d1, d2, d3, d4, d5⟩ := HD.out w1 p1
  clear b1 h6
  go_wp2_with fail
  refine (h20 _ (b0.trans (p1.mono (by omega)))).mono ?_
  rintro e w2 ⟨rfl, b2⟩
  have p2 : Below ((w.alloc (.cells #[.int .i64 k, .int .i64 v.k, .int .i64 v.n, .string ⟨v.s.toArray⟩, .string ⟨nm.toArray⟩, .slice ao n ca] 28)).alloc (.cells #[.int .i64 0, .int .i64 0, .string ⟨#[]⟩] 25)).heap.size ((w.alloc (.cells #[.int .i64 k, .int .i64 v.k, .int .i64 v.n, .string ⟨v.s.toArray⟩, .string ⟨nm.toArray⟩, .slice ao n ca] 28)).alloc (.cells #[.int .i64 0, .int .i64 0, .string ⟨#[]⟩] 25)) w2 := p1.trans (b2.mono p1.size)
  clear d0 d1 d2 d3 d4 d5
  obtain ⟨d0, d1, d2, d3, d4, d5⟩ := HD.out w2 p2
  clear b2 h20
  have c := (p2.block (w.heap.size + 1) (by rw [z0]; omega)).trans c9
  have q1 : Below w.heap.size w w2 := b0.trans (p2.mono b0.size)
  obtain ⟨⟨c0, c1, c2⟩, f0, f1, f2⟩ := three c
  obtain ⟨⟨s0, s1, s2⟩, -⟩ := three (three_set c (.int .i64 0) (.int .i64 0) (.string ⟨#[]⟩))
  clear c c9 HD b0 z0
  go_wp2_with fail
  have q2 : Below w.heap.size w (((w2.setCell ⟨w.heap.size + 1, 0, none⟩ (.int .i64 0)).setCell ⟨w.heap.size + 1, 1, none⟩ (.int .i64 0)).setCell ⟨w.heap.size + 1, 2, none⟩ (.string ⟨#[]⟩)) := ((q1.setCell (by simp) _).setCell (by simp) _).setCell (by simp) _
  generalize (((w2.setCell ⟨w.heap.size + 1, 0, none⟩ (.int .i64 0)).setCell ⟨w.heap.size + 1, 1, none⟩ (.int .i64 0)).setCell ⟨w.heap.size + 1, 2, none⟩ (.string ⟨#[]⟩)) = w9 at *
  refine bodyPost_ret (v := .tuple #[.agg #[.int .i64 0, .int .i64 0, .string ⟨#[]⟩], .int .i64 (F : Nat)]) ?_ rfl ⟨rfl, q2⟩
  simp [results, Tryz.results7, go_sem, s0, s1, s2]

set_option maxRecDepth 100000 in
set_option maxHeartbeats 1600000 in
theorem ev_ok (cv rv : Value) (k : Int) (v : Vl) (nm : List UInt8) (ao : Option Addr) (n ca : Nat) (w : World) (K : Int) (h6 : ∀ W : World, Below w.heap.size w W → Calls Tryz.prog 6 #[cv, exL k v nm (.slice ao n ca)] W fun e w' => e = .returned (.tuple #[.int .i64 K, .int .i64 0]) ∧ Below W.heap.size W w') (h20 : ∀ W : World, Below w.heap.size w W → Calls Tryz.prog 16 #[cv, rv] W fun e w' => e = .returned (.int .i64 0) ∧ Below W.heap.size W w') (V : Vl) (h21 : ∀ W : World, Below w.heap.size w W → Calls Tryz.prog 17 #[cv, rv, exL k v nm (.slice ao n ca)] W fun e w' => e = .returned (vlV V) ∧ Below W.heap.size W w') :
    Calls Tryz.prog 7 #[cv, rv, exL k v nm (.slice ao n ca)] w fun e w' => e = .returned (.tuple #[vlV V, .int .i64 0]) ∧ Below w.heap.size w w' := by
  have b0 := ((Below.refl w.heap.size w).alloc (Nat.le_refl _) (.cells #[.int .i64 k, .int .i64 v.k, .int .i64 v.n, .string ⟨v.s.toArray⟩, .string ⟨nm.toArray⟩, .slice ao n ca] 28)).alloc (by simp) (.cells #[.int .i64 0, .int .i64 0, .string ⟨#[]⟩] 25)
  have hD : ∀ W' : World, Below ((w.alloc (.cells #[.int .i64 k, .int .i64 v.k, .int .i64 v.n, .string ⟨v.s.toArray⟩, .string ⟨nm.toArray⟩, .slice ao n ca] 28)).alloc (.cells #[.int .i64 0, .int .i64 0, .string ⟨#[]⟩] 25)).heap.size ((w.alloc (.cells #[.int .i64 k, .int .i64 v.k, .int .i64 v.n, .string ⟨v.s.toArray⟩, .string ⟨nm.toArray⟩, .slice ao n ca] 28)).alloc (.cells #[.int .i64 0, .int .i64 0, .string ⟨#[]⟩] 25)) W' → W'.cell? ⟨w.heap.size, 0, none⟩ = some (.int .i64 k) ∧ W'.cell? ⟨w.heap.size, 1, none⟩ = some (.int .i64 v.k) ∧ W'.cell? ⟨w.heap.size, 2, none⟩ = some (.int .i64 v.n) ∧ W'.cell? ⟨w.heap.size, 3, none⟩ = some (.string ⟨v.s.toArray⟩) ∧ W'.cell? ⟨w.heap.size, 4, none⟩ = some (.string ⟨nm.toArray⟩) ∧ W'.cell? ⟨w.heap.size, 5, none⟩ = some (.slice ao n ca) := fun W' hW =>
    ⟨(hW.cell (p := ⟨w.heap.size, 0, none⟩) (by simp; omega)).trans (by simp), (hW.cell (p := ⟨w.heap.size, 1, none⟩) (by simp; omega)).trans (by simp), (hW.cell (p := ⟨w.heap.size, 2, none⟩) (by simp; omega)).trans (by simp), (hW.cell (p := ⟨w.heap.size, 3, none⟩) (by simp; omega)).trans (by simp), (hW.cell (p := ⟨w.heap.size, 4, none⟩) (by simp; omega)).trans (by simp), (hW.cell (p := ⟨w.heap.size, 5, none⟩) (by simp; omega)).trans (by simp)⟩
  have c9 : ((w.alloc (.cells #[.int .i64 k, .int .i64 v.k, .int .i64 v.n, .string ⟨v.s.toArray⟩, .string ⟨nm.toArray⟩, .slice ao n ca] 28)).alloc (.cells #[.int .i64 0, .int .i64 0, .string ⟨#[]⟩] 25)).heap[w.heap.size + 1]? = some (.cells #[.int .i64 0, .int .i64 0, .string ⟨#[]⟩] 25) := by
    have hz : (w.alloc (.cells #[.int .i64 k, .int .i64 v.k, .int .i64 v.n, .string ⟨v.s.toArray⟩, .string ⟨nm.toArray⟩, .slice ao n ca] 28)).heap.size = w.heap.size + 1 := by simp
    rw [← hz]; exact heap_alloc_new _ _
  have z0 : ((w.alloc (.cells #[.int .i64 k, .int .i64 v.k, .int .i64 v.n, .string ⟨v.s.toArray⟩, .string ⟨nm.toArray⟩, .slice ao n ca] 28)).alloc (.cells #[.int .i64 0, .int .i64 0, .string ⟨#[]⟩] 25)).heap.size = w.heap.size + 2 := by simp
  have HD := hide hD
  clear hD
  unfold vlV at *
  go_enter Tryz.func7, Tryz.ntmps7
  go_wp2_with fail
  refine (h6 _ (b0.trans ((Below.refl _ _).mono b0.size))).mono ?_
  rintro e w1 ⟨rfl, b1⟩
  have p1 : Below ((w.alloc (.cells #[.int .i64 k, .int .i64 v.k, .int .i64 v.n, .string ⟨v.s.toArray⟩, .string ⟨nm.toArray⟩, .slice ao n ca] 28)).alloc (.cells #[.int .i64 0, .int .i64 0, .string ⟨#[]⟩] 25)).heap.size ((w.alloc (.cells #[.int .i64 k, .int .i64 v.k, .int .i64 v.n, .string ⟨v.s.toArray⟩, .string ⟨nm.toArray⟩, .slice ao n ca] 28)).alloc (.cells #[.int .i64 0, .int .i64 0, .string ⟨#[]⟩] 25)) w1 := b1
  obtain ⟨d0, d1, d2, d3, d4, d5⟩ := HD.out w1 p1
  clear b1 h6
  go_wp2_with fail
  refine (h20 _ (b0.trans (p1.mono (by omega)))).mono ?_
  rintro e w2 ⟨rfl, b2⟩
  have p2 : Below ((w.alloc (.cells #[.int .i64 k, .int .i64 v.k, .int .i64 v.n, .string ⟨v.s.toArray⟩, .string ⟨nm.toArray⟩, .slice ao n ca] 28)).alloc (.cells #[.int .i64 0, .int .i64 0, .string ⟨#[]⟩] 25)).heap.size ((w.alloc (.cells #[.int .i64 k, .int .i64 v.k, .int .i64 v.n, .string ⟨v.s.toArray⟩, .string ⟨nm.toArray⟩, .slice ao n ca] 28)).alloc (.cells #[.int .i64 0, .int .i64 0, .string ⟨#[]⟩] 25)) w2 := p1.trans (b2.mono p1.size)
  clear d0 d1 d2 d3 d4 d5
  obtain ⟨d0, d1, d2, d3, d4, d5⟩ := HD.out w2 p2
  clear b2 h20
  go_wp2_with fail
  refine (h21 _ (b0.trans (p2.mono (by omega)))).mono ?_
  rintro e w3 ⟨rfl, b3⟩
  have p3 : Below ((w.alloc (.cells #[.int .i64 k, .int .i64 v.k, .int .i64 v.n, .string ⟨v.s.toArray⟩, .string ⟨nm.toArray⟩, .slice ao n ca] 28)).alloc (.cells #[.int .i64 0, .int .i64 0, .string ⟨#[]⟩] 25)).heap.size ((w.alloc (.cells #[.int .i64 k, .int .i64 v.k, .int .i64 v.n, .string ⟨v.s.toArray⟩, .string ⟨nm.toArray⟩, .slice ao n ca] 28)).alloc (.cells #[.int .i64 0, .int .i64 0, .string ⟨#[]⟩] 25)) w3 := p2.trans (b3.mono p2.size)
  clear d0 d1 d2 d3 d4 d5
  obtain ⟨d0, d1, d2, d3, d4, d5⟩ := HD.out w3 p3
  clear b3 h21
  have c := (p3.block (w.heap.size + 1) (by rw [z0]; omega)).trans c9
  have q1 : Below w.heap.size w w3 := b0.trans (p3.mono b0.size)
  obtain ⟨⟨c0, c1, c2⟩, f0, f1, f2⟩ := three c
  obtain ⟨⟨s0, s1, s2⟩, -⟩ := three (three_set c (.int .i64 V.k) (.int .i64 V.n) (.string ⟨V.s.toArray⟩))
  clear c c9 HD b0 z0
  go_wp2_with fail
  have q2 : Below w.heap.size w (((w3.setCell ⟨w.heap.size + 1, 0, none⟩ (.int .i64 V.k)).setCell ⟨w.heap.size + 1, 1, none⟩ (.int .i64 V.n)).setCell ⟨w.heap.size + 1, 2, none⟩ (.string ⟨V.s.toArray⟩)) := ((q1.setCell (by simp) _).setCell (by simp) _).setCell (by simp) _
  generalize (((w3.setCell ⟨w.heap.size + 1, 0, none⟩ (.int .i64 V.k)).setCell ⟨w.heap.size + 1, 1, none⟩ (.int .i64 V.n)).setCell ⟨w.heap.size + 1, 2, none⟩ (.string ⟨V.s.toArray⟩)) = w9 at *
  refine bodyPost_ret (v := .tuple #[.agg #[.int .i64 V.k, .int .i64 V.n, .string ⟨V.s.toArray⟩], .int .i64 0]) ?_ rfl ⟨rfl, q2⟩
  simp [results, Tryz.results7, go_sem, s0, s1, s2]

theorem Eval_any (L : List Cl) (cv : Value) (r : List Vl) (rv : Value) {w : World} {u : Value} {x : Ex} (h : ExAt 0 w u x) (hf : Fit x) (hC : CsAt w cv L) (hV : VsAt w rv r) :
    Calls Tryz.prog 7 #[cv, rv, u] w fun e w' => e = .returned (.tuple #[vlV (evalX L r x).1, .int .i64 ((evalX L r x).2 : Nat)]) ∧ Below w.heap.size w w' := by
  have h6 := fun (W : World) (hW : Below w.heap.size w W) => Kind_any L cv (h.under hW) hf (hC.below hW)
  have h20 := fun (W : World) (hW : Below w.heap.size w W) => rowFault_any L r cv rv W (hC.below hW) (hV.below hW)
  have hx : ∀ y : Ex × Value, y = (x, u) → True := fun _ _ => trivial
  obtain ⟨k, v, nm, args⟩ := x
  have hE : ∃ ao n ca, u = exL k v nm (.slice ao n ca) := by
    cases h with
    | nil k v nm ao cap hz => exact ⟨_, _, _, rfl⟩
    | args k v nm b off cap xs us hx hB hs hc hh => exact ⟨_, _, _, rfl⟩
  obtain ⟨ao, n, ca, rfl⟩ := hE
  clear hx
  unfold evalX
  by_cases h1 : (kindX L (.mk k v nm args)).2 ≠ 0
  · rw [if_pos h1]
    exact ev_bad cv rv k v nm ao n ca w _ (by simpa using h1) _ h6
  · rw [if_neg h1]
    have h0 : (kindX L (.mk k v nm args)).2 = 0 := Classical.not_not.1 h1
    rw [h0] at h6
    by_cases h2 : rowF L r ≠ 0
    · rw [if_pos h2]
      exact ev_row cv rv k v nm ao n ca w _ h6 _ (by simpa using h2) h20
    · rw [if_neg h2]
      have h3 : rowF L r = 0 := Classical.not_not.1 h2
      rw [h3] at h20
      have hz := kindX_zero h0
      obtain ⟨e1, e2, -⟩ := rowF_zero h3
      exact ev_ok cv rv k v nm ao n ca w _ h6 h20 _ fun W hW => valueOf_any L cv r rv e1 e2 h hf hz.2.1 W hW (hC.below hW) (hV.below hW)

end Go.Proofs.YtjmhkeooiimpfaaGreat
