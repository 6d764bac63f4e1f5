/-
  'despiteNothing' of package expr.
-/
import Derived.Test.YtjmhkeooiimpfaaGreatOf2
namespace Go.Proofs.YtjmhkeooiimpfaaGreat
open Go.RowKit

set_option maxRecDepth 100000 in
set_option maxHeartbeats 800000 in
theorem has_any (R : List Vl) (ru : Value) (y : Vl) (W : World) (p : Nat) (hp : W.cell? ⟨p, 0, none⟩ = some ru) (lp : p < W.heap.size) (hR : VsAt W ru R) :
    Calls Tryz.prog 41 #[vlV y, .pointer (some ⟨p, 0, none⟩)] W fun e w' => e = .returned (.bool (R.contains y)) ∧ Below W.heap.size W w' := by
  have b0 := (Below.refl W.heap.size W).alloc (Nat.le_refl _) (.cells #[.int .i64 y.k, .int .i64 y.n, .string ⟨y.s.toArray⟩] 25)
  have h := contains_any R ru y _ (hR.below b0)
  have hx : ∃ ao n ca, ru = .slice ao n ca := by obtain ⟨ao, cap, rfl, -⟩ := hR; exact ⟨_, _, _, rfl⟩
  clear hR
  obtain ⟨ao, n, ca, rfl⟩ := hx
  have a1 := (b0.cell (p := ⟨p, 0, none⟩) lp).trans hp
  generalize R.contains y = B at h ⊢
  unfold vlV at h ⊢
  clear hp
  go_enter Tryz.func41, Tryz.ntmps41
  go_wp2_with fail
  refine h.mono ?_
  rintro e w1 ⟨rfl, b1⟩
  have q1 : Below W.heap.size W w1 := b0.trans (b1.mono (by simp))
  clear h b0 b1
  go_wp2
  go_ret
  exact ⟨rfl, q1⟩

/-- what comes whether or not one of the Args is nothing -/
def dspO (k : Int) (vs : List Vl) : Option Vl :=
  if k = 4 then some (truthV (vs.contains vl0))
  else if k = 5 ∧ vs.contains (truthV false) = true then some (truthV false)
  else if k = 6 ∧ vs.contains (truthV true) = true then some (truthV true)
  else none

set_option maxRecDepth 100000 in
set_option maxHeartbeats 800000 in
theorem dsp_4 (R : List Vl) (ao : Option Addr) (n ca : Nat) (w : World) (hR : VsAt w (.slice ao n ca) R) :
    Calls Tryz.prog 29 #[.int .i64 4, .slice ao n ca] w fun e w' => e = .returned (.tuple #[vlV (truthV (R.contains vl0)), .bool true]) ∧ Below w.heap.size w w' := by
  have b0 := ((Below.refl w.heap.size w).alloc (Nat.le_refl _) (.cells #[.slice ao n ca] 23)).alloc (by simp) (.cells #[.int .i64 0, .int .i64 0, .string ⟨#[]⟩] 25)
  have hp : ((w.alloc (.cells #[.slice ao n ca] 23)).alloc (.cells #[.int .i64 0, .int .i64 0, .string ⟨#[]⟩] 25)).cell? ⟨w.heap.size, 0, none⟩ = some (.slice ao n ca) := by
    refine (((Below.refl _ _).alloc (Nat.le_refl _) _).cell (by simp)).trans ?_
    exact Lib.cell_of_heap (heap_alloc_new _ _) 0
  have c9 : ((w.alloc (.cells #[.slice ao n ca] 23)).alloc (.cells #[.int .i64 0, .int .i64 0, .string ⟨#[]⟩] 25)).heap[w.heap.size + 1]? = some (.cells #[.int .i64 0, .int .i64 0, .string ⟨#[]⟩] 25) := by
    have hz : (w.alloc (.cells #[.slice ao n ca] 23)).heap.size = w.heap.size + 1 := by simp
    rw [← hz]; exact heap_alloc_new _ _
  have z0 : ((w.alloc (.cells #[.slice ao n ca] 23)).alloc (.cells #[.int .i64 0, .int .i64 0, .string ⟨#[]⟩] 25)).heap.size = w.heap.size + 2 := by simp
  have hs := fun (y : Vl) (W' : World) (hW : Below ((w.alloc (.cells #[.slice ao n ca] 23)).alloc (.cells #[.int .i64 0, .int .i64 0, .string ⟨#[]⟩] 25)).heap.size ((w.alloc (.cells #[.slice ao n ca] 23)).alloc (.cells #[.int .i64 0, .int .i64 0, .string ⟨#[]⟩] 25)) W') => has_any R (.slice ao n ca) y W' w.heap.size ((hW.cell (p := ⟨w.heap.size, 0, none⟩) (by show w.heap.size < _; rw [z0]; omega)).trans hp) (Nat.lt_of_lt_of_le (by rw [z0]; omega) hW.size) (hR.below (b0.trans (hW.mono b0.size)))
  clear hR hp
  have h1 := fun (W' : World) (hW : Below ((w.alloc (.cells #[.slice ao n ca] 23)).alloc (.cells #[.int .i64 0, .int .i64 0, .string ⟨#[]⟩] 25)).heap.size ((w.alloc (.cells #[.slice ao n ca] 23)).alloc (.cells #[.int .i64 0, .int .i64 0, .string ⟨#[]⟩] 25)) W') => hs vl0 W' hW
  have h2 := fun (W' : World) => tr_any (R.contains vl0) W'
  clear hs
  generalize R.contains vl0 = B at h1 h2 ⊢
  unfold vlV at *
  simp only [vl0] at *
  go_enter Tryz.func29, Tryz.ntmps29
  go_wp2_with fail
  refine (h1 _ (Below.refl _ _)).mono ?_
  rintro e w1 ⟨rfl, b1⟩
  have p1 : Below ((w.alloc (.cells #[.slice ao n ca] 23)).alloc (.cells #[.int .i64 0, .int .i64 0, .string ⟨#[]⟩] 25)).heap.size ((w.alloc (.cells #[.slice ao n ca] 23)).alloc (.cells #[.int .i64 0, .int .i64 0, .string ⟨#[]⟩] 25)) w1 := b1
  clear b1 h1
  go_wp2_with fail
  refine (h2 _).mono ?_
  rintro e w2 ⟨rfl, b2⟩
  have p2 : Below ((w.alloc (.cells #[.slice ao n ca] 23)).alloc (.cells #[.int .i64 0, .int .i64 0, .string ⟨#[]⟩] 25)).heap.size ((w.alloc (.cells #[.slice ao n ca] 23)).alloc (.cells #[.int .i64 0, .int .i64 0, .string ⟨#[]⟩] 25)) w2 := p1.trans (b2.mono p1.size)
  clear b2 h2
  have c := (p2.block (w.heap.size + 1) (by rw [z0]; omega)).trans c9
  have q1 : Below w.heap.size w w2 := b0.trans (p2.mono b0.size)
  clear c9 b0 p2 z0 p1
  obtain ⟨⟨c0, c1, c2⟩, f0, f1, f2⟩ := three c
  obtain ⟨⟨d0, d1, d2⟩, -⟩ := three (three_set c (.int .i64 (truthV B).k) (.int .i64 (truthV B).n) (.string ⟨(truthV B).s.toArray⟩))
  clear c
  go_wp2_with fail
  have q2 : Below w.heap.size w (((w2.setCell ⟨w.heap.size + 1, 0, none⟩ (.int .i64 (truthV B).k)).setCell ⟨w.heap.size + 1, 1, none⟩ (.int .i64 (truthV B).n)).setCell ⟨w.heap.size + 1, 2, none⟩ (.string ⟨(truthV B).s.toArray⟩)) := ((q1.setCell (by simp) _).setCell (by simp) _).setCell (by simp) _
  generalize (((w2.setCell ⟨w.heap.size + 1, 0, none⟩ (.int .i64 (truthV B).k)).setCell ⟨w.heap.size + 1, 1, none⟩ (.int .i64 (truthV B).n)).setCell ⟨w.heap.size + 1, 2, none⟩ (.string ⟨(truthV B).s.toArray⟩)) = w9 at *
  refine bodyPost_ret (v := .tuple #[.agg #[.int .i64 (truthV B).k, .int .i64 (truthV B).n, .string ⟨(truthV B).s.toArray⟩], .bool true]) ?_ rfl ⟨rfl, q2⟩
  simp [results, Tryz.results29, go_sem, d0, d1, d2]

set_option maxRecDepth 100000 in
set_option maxHeartbeats 800000 in
theorem dsp_5t (R : List Vl) (ao : Option Addr) (n ca : Nat) (w : World) (hR : VsAt w (.slice ao n ca) R) (hB : R.contains (truthV false) = true) :
    Calls Tryz.prog 29 #[.int .i64 5, .slice ao n ca] w fun e w' => e = .returned (.tuple #[vlV (truthV false), .bool true]) ∧ Below w.heap.size w w' := by
  have b0 := ((Below.refl w.heap.size w).alloc (Nat.le_refl _) (.cells #[.slice ao n ca] 23)).alloc (by simp) (.cells #[.int .i64 0, .int .i64 0, .string ⟨#[]⟩] 25)
  have hp : ((w.alloc (.cells #[.slice ao n ca] 23)).alloc (.cells #[.int .i64 0, .int .i64 0, .string ⟨#[]⟩] 25)).cell? ⟨w.heap.size, 0, none⟩ = some (.slice ao n ca) := by
    refine (((Below.refl _ _).alloc (Nat.le_refl _) _).cell (by simp)).trans ?_
    exact Lib.cell_of_heap (heap_alloc_new _ _) 0
  have c9 : ((w.alloc (.cells #[.slice ao n ca] 23)).alloc (.cells #[.int .i64 0, .int .i64 0, .string ⟨#[]⟩] 25)).heap[w.heap.size + 1]? = some (.cells #[.int .i64 0, .int .i64 0, .string ⟨#[]⟩] 25) := by
    have hz : (w.alloc (.cells #[.slice ao n ca] 23)).heap.size = w.heap.size + 1 := by simp
    rw [← hz]; exact heap_alloc_new _ _
  have z0 : ((w.alloc (.cells #[.slice ao n ca] 23)).alloc (.cells #[.int .i64 0, .int .i64 0, .string ⟨#[]⟩] 25)).heap.size = w.heap.size + 2 := by simp
  have hs := fun (y : Vl) (W' : World) (hW : Below ((w.alloc (.cells #[.slice ao n ca] 23)).alloc (.cells #[.int .i64 0, .int .i64 0, .string ⟨#[]⟩] 25)).heap.size ((w.alloc (.cells #[.slice ao n ca] 23)).alloc (.cells #[.int .i64 0, .int .i64 0, .string ⟨#[]⟩] 25)) W') => has_any R (.slice ao n ca) y W' w.heap.size ((hW.cell (p := ⟨w.heap.size, 0, none⟩) (by show w.heap.size < _; rw [z0]; omega)).trans hp) (Nat.lt_of_lt_of_le (by rw [z0]; omega) hW.size) (hR.below (b0.trans (hW.mono b0.size)))
  clear hR hp
  have h1 := fun (W' : World) => tr_any false W'
  have h2 := fun (W' : World) (hW : Below ((w.alloc (.cells #[.slice ao n ca] 23)).alloc (.cells #[.int .i64 0, .int .i64 0, .string ⟨#[]⟩] 25)).heap.size ((w.alloc (.cells #[.slice ao n ca] 23)).alloc (.cells #[.int .i64 0, .int .i64 0, .string ⟨#[]⟩] 25)) W') => hs (truthV false) W' hW
  simp only [hB] at h2
  have h3 := fun (W' : World) => tr_any false W'
  clear hs
  unfold vlV at *
  go_enter Tryz.func29, Tryz.ntmps29
  go_wp2_with fail
  refine (h1 _).mono ?_
  rintro e w1 ⟨rfl, b1⟩
  have p1 : Below ((w.alloc (.cells #[.slice ao n ca] 23)).alloc (.cells #[.int .i64 0, .int .i64 0, .string ⟨#[]⟩] 25)).heap.size ((w.alloc (.cells #[.slice ao n ca] 23)).alloc (.cells #[.int .i64 0, .int .i64 0, .string ⟨#[]⟩] 25)) w1 := b1
  clear b1 h1
  go_wp2_with fail
  refine (h2 _ p1).mono ?_
  rintro e w2 ⟨rfl, b2⟩
  have p2 : Below ((w.alloc (.cells #[.slice ao n ca] 23)).alloc (.cells #[.int .i64 0, .int .i64 0, .string ⟨#[]⟩] 25)).heap.size ((w.alloc (.cells #[.slice ao n ca] 23)).alloc (.cells #[.int .i64 0, .int .i64 0, .string ⟨#[]⟩] 25)) w2 := p1.trans (b2.mono p1.size)
  clear b2 h2
  go_wp2_with fail
  refine (h3 _).mono ?_
  rintro e w3 ⟨rfl, b3⟩
  have p3 : Below ((w.alloc (.cells #[.slice ao n ca] 23)).alloc (.cells #[.int .i64 0, .int .i64 0, .string ⟨#[]⟩] 25)).heap.size ((w.alloc (.cells #[.slice ao n ca] 23)).alloc (.cells #[.int .i64 0, .int .i64 0, .string ⟨#[]⟩] 25)) w3 := p2.trans (b3.mono p2.size)
  clear b3 h3
  have c := (p3.block (w.heap.size + 1) (by rw [z0]; omega)).trans c9
  have q1 : Below w.heap.size w w3 := b0.trans (p3.mono b0.size)
  clear c9 b0 p3 z0 p1 p2
  obtain ⟨⟨c0, c1, c2⟩, f0, f1, f2⟩ := three c
  obtain ⟨⟨d0, d1, d2⟩, -⟩ := three (three_set c (.int .i64 (truthV false).k) (.int .i64 (truthV false).n) (.string ⟨(truthV false).s.toArray⟩))
  clear c
  go_wp2_with fail
  have q2 : Below w.heap.size w (((w3.setCell ⟨w.heap.size + 1, 0, none⟩ (.int .i64 (truthV false).k)).setCell ⟨w.heap.size + 1, 1, none⟩ (.int .i64 (truthV false).n)).setCell ⟨w.heap.size + 1, 2, none⟩ (.string ⟨(truthV false).s.toArray⟩)) := ((q1.setCell (by simp) _).setCell (by simp) _).setCell (by simp) _
  generalize (((w3.setCell ⟨w.heap.size + 1, 0, none⟩ (.int .i64 (truthV false).k)).setCell ⟨w.heap.size + 1, 1, none⟩ (.int .i64 (truthV false).n)).setCell ⟨w.heap.size + 1, 2, none⟩ (.string ⟨(truthV false).s.toArray⟩)) = w9 at *
  refine bodyPost_ret (v := .tuple #[.agg #[.int .i64 (truthV false).k, .int .i64 (truthV false).n, .string ⟨(truthV false).s.toArray⟩], .bool true]) ?_ rfl ⟨rfl, q2⟩
  simp [results, Tryz.results29, go_sem, d0, d1, d2]

set_option maxRecDepth 100000 in
set_option maxHeartbeats 800000 in
theorem dsp_5f (R : List Vl) (ao : Option Addr) (n ca : Nat) (w : World) (hR : VsAt w (.slice ao n ca) R) (hB : R.contains (truthV false) = false) :
    Calls Tryz.prog 29 #[.int .i64 5, .slice ao n ca] w fun e w' => e = .returned (.tuple #[vlV vl0, .bool false]) ∧ Below w.heap.size w w' := by
  have b0 := ((Below.refl w.heap.size w).alloc (Nat.le_refl _) (.cells #[.slice ao n ca] 23)).alloc (by simp) (.cells #[.int .i64 0, .int .i64 0, .string ⟨#[]⟩] 25)
  have hp : ((w.alloc (.cells #[.slice ao n ca] 23)).alloc (.cells #[.int .i64 0, .int .i64 0, .string ⟨#[]⟩] 25)).cell? ⟨w.heap.size, 0, none⟩ = some (.slice ao n ca) := by
    refine (((Below.refl _ _).alloc (Nat.le_refl _) _).cell (by simp)).trans ?_
    exact Lib.cell_of_heap (heap_alloc_new _ _) 0
  have c9 : ((w.alloc (.cells #[.slice ao n ca] 23)).alloc (.cells #[.int .i64 0, .int .i64 0, .string ⟨#[]⟩] 25)).heap[w.heap.size + 1]? = some (.cells #[.int .i64 0, .int .i64 0, .string ⟨#[]⟩] 25) := by
    have hz : (w.alloc (.cells #[.slice ao n ca] 23)).heap.size = w.heap.size + 1 := by simp
    rw [← hz]; exact heap_alloc_new _ _
  have z0 : ((w.alloc (.cells #[.slice ao n ca] 23)).alloc (.cells #[.int .i64 0, .int .i64 0, .string ⟨#[]⟩] 25)).heap.size = w.heap.size + 2 := by simp
  have hs := fun (y : Vl) (W' : World) (hW : Below ((w.alloc (.cells #[.slice ao n ca] 23)).alloc (.cells #[.int .i64 0, .int .i64 0, .string ⟨#[]⟩] 25)).heap.size ((w.alloc (.cells #[.slice ao n ca] 23)).alloc (.cells #[.int .i64 0, .int .i64 0, .string ⟨#[]⟩] 25)) W') => has_any R (.slice ao n ca) y W' w.heap.size ((hW.cell (p := ⟨w.heap.size, 0, none⟩) (by show w.heap.size < _; rw [z0]; omega)).trans hp) (Nat.lt_of_lt_of_le (by rw [z0]; omega) hW.size) (hR.below (b0.trans (hW.mono b0.size)))
  clear hR hp
  have h1 := fun (W' : World) => tr_any false W'
  have h2 := fun (W' : World) (hW : Below ((w.alloc (.cells #[.slice ao n ca] 23)).alloc (.cells #[.int .i64 0, .int .i64 0, .string ⟨#[]⟩] 25)).heap.size ((w.alloc (.cells #[.slice ao n ca] 23)).alloc (.cells #[.int .i64 0, .int .i64 0, .string ⟨#[]⟩] 25)) W') => hs (truthV false) W' hW
  simp only [hB] at h2
  clear hs
  unfold vlV at *
  go_enter Tryz.func29, Tryz.ntmps29
  go_wp2_with fail
  refine (h1 _).mono ?_
  rintro e w1 ⟨rfl, b1⟩
  have p1 : Below ((w.alloc (.cells #[.slice ao n ca] 23)).alloc (.cells #[.int .i64 0, .int .i64 0, .string ⟨#[]⟩] 25)).heap.size ((w.alloc (.cells #[.slice ao n ca] 23)).alloc (.cells #[.int .i64 0, .int .i64 0, .string ⟨#[]⟩] 25)) w1 := b1
  clear b1 h1
  go_wp2_with fail
  refine (h2 _ p1).mono ?_
  rintro e w2 ⟨rfl, b2⟩
  have p2 : Below ((w.alloc (.cells #[.slice ao n ca] 23)).alloc (.cells #[.int .i64 0, .int .i64 0, .string ⟨#[]⟩] 25)).heap.size ((w.alloc (.cells #[.slice ao n ca] 23)).alloc (.cells #[.int .i64 0, .int .i64 0, .string ⟨#[]⟩] 25)) w2 := p1.trans (b2.mono p1.size)
  clear b2 h2
  have c := (p2.block (w.heap.size + 1) (by rw [z0]; omega)).trans c9
  have q1 : Below w.heap.size w w2 := b0.trans (p2.mono b0.size)
  clear c9 b0 p2 z0 p1
  obtain ⟨⟨c0, c1, c2⟩, f0, f1, f2⟩ := three c
  obtain ⟨⟨d0, d1, d2⟩, -⟩ := three (three_set c (.int .i64 0) (.int .i64 0) (.string ⟨#[]⟩))
  clear c
  go_wp2_with fail
  have q2 : Below w.heap.size w (((w2.setCell ⟨w.heap.size + 1, 0, none⟩ (.int .i64 0)).setCell ⟨w.heap.size + 1, 1, none⟩ (.int .i64 0)).setCell ⟨w.heap.size + 1, 2, none⟩ (.string ⟨#[]⟩)) := ((q1.setCell (by simp) _).setCell (by simp) _).setCell (by simp) _
  generalize (((w2.setCell ⟨w.heap.size + 1, 0, none⟩ (.int .i64 0)).setCell ⟨w.heap.size + 1, 1, none⟩ (.int .i64 0)).setCell ⟨w.heap.size + 1, 2, none⟩ (.string ⟨#[]⟩)) = w9 at *
  refine bodyPost_ret (v := .tuple #[.agg #[.int .i64 0, .int .i64 0, .string ⟨#[]⟩], .bool false]) ?_ rfl ⟨rfl, q2⟩
  simp [results, Tryz.results29, go_sem, d0, d1, d2]

set_option maxRecDepth 100000 in
set_option maxHeartbeats 800000 in
theorem dsp_6t (R : List Vl) (ao : Option Addr) (n ca : Nat) (w : World) (hR : VsAt w (.slice ao n ca) R) (hB : R.contains (truthV true) = true) :
    Calls Tryz.prog 29 #[.int .i64 6, .slice ao n ca] w fun e w' => e = .returned (.tuple #[vlV (truthV true), .bool true]) ∧ Below w.heap.size w w' := by
  have b0 := ((Below.refl w.heap.size w).alloc (Nat.le_refl _) (.cells #[.slice ao n ca] 23)).alloc (by simp) (.cells #[.int .i64 0, .int .i64 0, .string ⟨#[]⟩] 25)
  have hp : ((w.alloc (.cells #[.slice ao n ca] 23)).alloc (.cells #[.int .i64 0, .int .i64 0, .string ⟨#[]⟩] 25)).cell? ⟨w.heap.size, 0, none⟩ = some (.slice ao n ca) := by
    refine (((Below.refl _ _).alloc (Nat.le_refl _) _).cell (by simp)).trans ?_
    exact Lib.cell_of_heap (heap_alloc_new _ _) 0
  have c9 : ((w.alloc (.cells #[.slice ao n ca] 23)).alloc (.cells #[.int .i64 0, .int .i64 0, .string ⟨#[]⟩] 25)).heap[w.heap.size + 1]? = some (.cells #[.int .i64 0, .int .i64 0, .string ⟨#[]⟩] 25) := by
    have hz : (w.alloc (.cells #[.slice ao n ca] 23)).heap.size = w.heap.size + 1 := by simp
    rw [← hz]; exact heap_alloc_new _ _
  have z0 : ((w.alloc (.cells #[.slice ao n ca] 23)).alloc (.cells #[.int .i64 0, .int .i64 0, .string ⟨#[]⟩] 25)).heap.size = w.heap.size + 2 := by simp
  have hs := fun (y : Vl) (W' : World) (hW : Below ((w.alloc (.cells #[.slice ao n ca] 23)).alloc (.cells #[.int .i64 0, .int .i64 0, .string ⟨#[]⟩] 25)).heap.size ((w.alloc (.cells #[.slice ao n ca] 23)).alloc (.cells #[.int .i64 0, .int .i64 0, .string ⟨#[]⟩] 25)) W') => has_any R (.slice ao n ca) y W' w.heap.size ((hW.cell (p := ⟨w.heap.size, 0, none⟩) (by show w.heap.size < _; rw [z0]; omega)).trans hp) (Nat.lt_of_lt_of_le (by rw [z0]; omega) hW.size) (hR.below (b0.trans (hW.mono b0.size)))
  clear hR hp
  have h1 := fun (W' : World) => tr_any true W'
  have h2 := fun (W' : World) (hW : Below ((w.alloc (.cells #[.slice ao n ca] 23)).alloc (.cells #[.int .i64 0, .int .i64 0, .string ⟨#[]⟩] 25)).heap.size ((w.alloc (.cells #[.slice ao n ca] 23)).alloc (.cells #[.int .i64 0, .int .i64 0, .string ⟨#[]⟩] 25)) W') => hs (truthV true) W' hW
  simp only [hB] at h2
  have h3 := fun (W' : World) => tr_any true W'
  clear hs
  unfold vlV at *
  go_enter Tryz.func29, Tryz.ntmps29
  go_wp2_with fail
  refine (h1 _).mono ?_
  rintro e w1 ⟨rfl, b1⟩
  have p1 : Below ((w.alloc (.cells #[.slice ao n ca] 23)).alloc (.cells #[.int .i64 0, .int .i64 0, .string ⟨#[]⟩] 25)).heap.size ((w.alloc (.cells #[.slice ao n ca] 23)).alloc (.cells #[.int .i64 0, .int .i64 0, .string ⟨#[]⟩] 25)) w1 := b1
  clear b1 h1
  go_wp2_with fail
  refine (h2 _ p1).mono ?_
  rintro e w2 ⟨rfl, b2⟩
  have p2 : Below ((w.alloc (.cells #[.slice ao n ca] 23)).alloc (.cells #[.int .i64 0, .int .i64 0, .string ⟨#[]⟩] 25)).heap.size ((w.alloc (.cells #[.slice ao n ca] 23)).alloc (.cells #[.int .i64 0, .int .i64 0, .string ⟨#[]⟩] 25)) w2 := p1.trans (b2.mono p1.size)
  clear b2 h2
  go_wp2_with fail
  refine (h3 _).mono ?_
  rintro e w3 ⟨rfl, b3⟩
  have p3 : Below ((w.alloc (.cells #[.slice ao n ca] 23)).alloc (.cells #[.int .i64 0, .int .i64 0, .string ⟨#[]⟩] 25)).heap.size ((w.alloc (.cells #[.slice ao n ca] 23)).alloc (.cells #[.int .i64 0, .int .i64 0, .string ⟨#[]⟩] 25)) w3 := p2.trans (b3.mono p2.size)
  clear b3 h3
  have c := (p3.block (w.heap.size + 1) (by rw [z0]; omega)).trans c9
  have q1 : Below w.heap.size w w3 := b0.trans (p3.mono b0.size)
  clear c9 b0 p3 z0 p1 p2
  obtain ⟨⟨c0, c1, c2⟩, f0, f1, f2⟩ := three c
  obtain ⟨⟨d0, d1, d2⟩, -⟩ := three (three_set c (.int .i64 (truthV true).k) (.int .i64 (truthV true).n) (.string ⟨(truthV true).s.toArray⟩))
  clear c
  go_wp2_with fail
  have q2 : Below w.heap.size w (((w3.setCell ⟨w.heap.size + 1, 0, none⟩ (.int .i64 (truthV true).k)).setCell ⟨w.heap.size + 1, 1, none⟩ (.int .i64 (truthV true).n)).setCell ⟨w.heap.size + 1, 2, none⟩ (.string ⟨(truthV true).s.toArray⟩)) := ((q1.setCell (by simp) _).setCell (by simp) _).setCell (by simp) _
  generalize (((w3.setCell ⟨w.heap.size + 1, 0, none⟩ (.int .i64 (truthV true).k)).setCell ⟨w.heap.size + 1, 1, none⟩ (.int .i64 (truthV true).n)).setCell ⟨w.heap.size + 1, 2, none⟩ (.string ⟨(truthV true).s.toArray⟩)) = w9 at *
  refine bodyPost_ret (v := .tuple #[.agg #[.int .i64 (truthV true).k, .int .i64 (truthV true).n, .string ⟨(truthV true).s.toArray⟩], .bool true]) ?_ rfl ⟨rfl, q2⟩
  simp [results, Tryz.results29, go_sem, d0, d1, d2]

set_option maxRecDepth 100000 in
set_option maxHeartbeats 800000 in
theorem dsp_6f (R : List Vl) (ao : Option Addr) (n ca : Nat) (w : World) (hR : VsAt w (.slice ao n ca) R) (hB : R.contains (truthV true) = false) :
    Calls Tryz.prog 29 #[.int .i64 6, .slice ao n ca] w fun e w' => e = .returned (.tuple #[vlV vl0, .bool false]) ∧ Below w.heap.size w w' := by
  have b0 := ((Below.refl w.heap.size w).alloc (Nat.le_refl _) (.cells #[.slice ao n ca] 23)).alloc (by simp) (.cells #[.int .i64 0, .int .i64 0, .string ⟨#[]⟩] 25)
  have hp : ((w.alloc (.cells #[.slice ao n ca] 23)).alloc (.cells #[.int .i64 0, .int .i64 0, .string ⟨#[]⟩] 25)).cell? ⟨w.heap.size, 0, none⟩ = some (.slice ao n ca) := by
    refine (((Below.refl _ _).alloc (Nat.le_refl _) _).cell (by simp)).trans ?_
    exact Lib.cell_of_heap (heap_alloc_new _ _) 0
  have c9 : ((w.alloc (.cells #[.slice ao n ca] 23)).alloc (.cells #[.int .i64 0, .int .i64 0, .string ⟨#[]⟩] 25)).heap[w.heap.size + 1]? = some (.cells #[.int .i64 0, .int .i64 0, .string ⟨#[]⟩] 25) := by
    have hz : (w.alloc (.cells #[.slice ao n ca] 23)).heap.size = w.heap.size + 1 := by simp
    rw [← hz]; exact heap_alloc_new _ _
  have z0 : ((w.alloc (.cells #[.slice ao n ca] 23)).alloc (.cells #[.int .i64 0, .int .i64 0, .string ⟨#[]⟩] 25)).heap.size = w.heap.size + 2 := by simp
  have hs := fun (y : Vl) (W' : World) (hW : Below ((w.alloc (.cells #[.slice ao n ca] 23)).alloc (.cells #[.int .i64 0, .int .i64 0, .string ⟨#[]⟩] 25)).heap.size ((w.alloc (.cells #[.slice ao n ca] 23)).alloc (.cells #[.int .i64 0, .int .i64 0, .string ⟨#[]⟩] 25)) W') => has_any R (.slice ao n ca) y W' w.heap.size ((hW.cell (p := ⟨w.heap.size, 0, none⟩) (by show w.heap.size < _; rw [z0]; omega)).trans hp) (Nat.lt_of_lt_of_le (by rw [z0]; omega) hW.size) (hR.below (b0.trans (hW.mono b0.size)))
  clear hR hp
  have h1 := fun (W' : World) => tr_any true W'
  have h2 := fun (W' : World) (hW : Below ((w.alloc (.cells #[.slice ao n ca] 23)).alloc (.cells #[.int .i64 0, .int .i64 0, .string ⟨#[]⟩] 25)).heap.size ((w.alloc (.cells #[.slice ao n ca] 23)).alloc (.cells #[.int .i64 0, .int .i64 0, .string ⟨#[]⟩] 25)) W') => hs (truthV true) W' hW
  simp only [hB] at h2
  clear hs
  unfold vlV at *
  go_enter Tryz.func29, Tryz.ntmps29
  go_wp2_with fail
  refine (h1 _).mono ?_
  rintro e w1 ⟨rfl, b1⟩
  have p1 : Below ((w.alloc (.cells #[.slice ao n ca] 23)).alloc (.cells #[.int .i64 0, .int .i64 0, .string ⟨#[]⟩] 25)).heap.size ((w.alloc (.cells #[.slice ao n ca] 23)).alloc (.cells #[.int .i64 0, .int .i64 0, .string ⟨#[]⟩] 25)) w1 := b1
  clear b1 h1
  go_wp2_with fail
  refine (h2 _ p1).mono ?_
  rintro e w2 ⟨rfl, b2⟩
  have p2 : Below ((w.alloc (.cells #[.slice ao n ca] 23)).alloc (.cells #[.int .i64 0, .int .i64 0, .string ⟨#[]⟩] 25)).heap.size ((w.alloc (.cells #[.slice ao n ca] 23)).alloc (.cells #[.int .i64 0, .int .i64 0, .string ⟨#[]⟩] 25)) w2 := p1.trans (b2.mono p1.size)
  clear b2 h2
  have c := (p2.block (w.heap.size + 1) (by rw [z0]; omega)).trans c9
  have q1 : Below w.heap.size w w2 := b0.trans (p2.mono b0.size)
  clear c9 b0 p2 z0 p1
  obtain ⟨⟨c0, c1, c2⟩, f0, f1, f2⟩ := three c
  obtain ⟨⟨d0, d1, d2⟩, -⟩ := three (three_set c (.int .i64 0) (.int .i64 0) (.string ⟨#[]⟩))
  clear c
  go_wp2_with fail
  have q2 : Below w.heap.size w (((w2.setCell ⟨w.heap.size + 1, 0, none⟩ (.int .i64 0)).setCell ⟨w.heap.size + 1, 1, none⟩ (.int .i64 0)).setCell ⟨w.heap.size + 1, 2, none⟩ (.string ⟨#[]⟩)) := ((q1.setCell (by simp) _).setCell (by simp) _).setCell (by simp) _
  generalize (((w2.setCell ⟨w.heap.size + 1, 0, none⟩ (.int .i64 0)).setCell ⟨w.heap.size + 1, 1, none⟩ (.int .i64 0)).setCell ⟨w.heap.size + 1, 2, none⟩ (.string ⟨#[]⟩)) = w9 at *
  refine bodyPost_ret (v := .tuple #[.agg #[.int .i64 0, .int .i64 0, .string ⟨#[]⟩], .bool false]) ?_ rfl ⟨rfl, q2⟩
  simp [results, Tryz.results29, go_sem, d0, d1, d2]

set_option maxRecDepth 100000 in
set_option maxHeartbeats 800000 in
theorem dsp_o (R : List Vl) (ao : Option Addr) (n ca : Nat) (k : Int) (w : World) (hR : VsAt w (.slice ao n ca) R) (k4 : (k == 4) = false) (k5 : (k == 5) = false) (k6 : (k == 6) = false) :
    Calls Tryz.prog 29 #[.int .i64 k, .slice ao n ca] w fun e w' => e = .returned (.tuple #[vlV vl0, .bool false]) ∧ Below w.heap.size w w' := by
  have b0 := ((Below.refl w.heap.size w).alloc (Nat.le_refl _) (.cells #[.slice ao n ca] 23)).alloc (by simp) (.cells #[.int .i64 0, .int .i64 0, .string ⟨#[]⟩] 25)
  have hp : ((w.alloc (.cells #[.slice ao n ca] 23)).alloc (.cells #[.int .i64 0, .int .i64 0, .string ⟨#[]⟩] 25)).cell? ⟨w.heap.size, 0, none⟩ = some (.slice ao n ca) := by
    refine (((Below.refl _ _).alloc (Nat.le_refl _) _).cell (by simp)).trans ?_
    exact Lib.cell_of_heap (heap_alloc_new _ _) 0
  have c9 : ((w.alloc (.cells #[.slice ao n ca] 23)).alloc (.cells #[.int .i64 0, .int .i64 0, .string ⟨#[]⟩] 25)).heap[w.heap.size + 1]? = some (.cells #[.int .i64 0, .int .i64 0, .string ⟨#[]⟩] 25) := by
    have hz : (w.alloc (.cells #[.slice ao n ca] 23)).heap.size = w.heap.size + 1 := by simp
    rw [← hz]; exact heap_alloc_new _ _
  have z0 : ((w.alloc (.cells #[.slice ao n ca] 23)).alloc (.cells #[.int .i64 0, .int .i64 0, .string ⟨#[]⟩] 25)).heap.size = w.heap.size + 2 := by simp
  have hs := fun (y : Vl) (W' : World) (hW : Below ((w.alloc (.cells #[.slice ao n ca] 23)).alloc (.cells #[.int .i64 0, .int .i64 0, .string ⟨#[]⟩] 25)).heap.size ((w.alloc (.cells #[.slice ao n ca] 23)).alloc (.cells #[.int .i64 0, .int .i64 0, .string ⟨#[]⟩] 25)) W') => has_any R (.slice ao n ca) y W' w.heap.size ((hW.cell (p := ⟨w.heap.size, 0, none⟩) (by show w.heap.size < _; rw [z0]; omega)).trans hp) (Nat.lt_of_lt_of_le (by rw [z0]; omega) hW.size) (hR.below (b0.trans (hW.mono b0.size)))
  clear hR hp
  clear hs
  unfold vlV at *
  go_enter Tryz.func29, Tryz.ntmps29
  have c := c9
  have q1 := b0
  clear c9 b0 z0
  clear c
  go_wp2_with fail
  refine bodyPost_ret (v := .tuple #[.agg #[.int .i64 0, .int .i64 0, .string ⟨#[]⟩], .bool false]) ?_ rfl ⟨rfl, q1⟩
  simp [results, Tryz.results29, go_sem]

theorem dsp_any (k : Int) (R : List Vl) (ru : Value) (w : World) (hR : VsAt w ru R) :
    Calls Tryz.prog 29 #[.int .i64 k, ru] w fun e w' => e = .returned (.tuple #[vlV ((dspO k R).getD vl0), .bool (dspO k R).isSome]) ∧ Below w.heap.size w w' := by
  have hx : ∃ ao n ca, ru = .slice ao n ca := by obtain ⟨ao, cap, rfl, -⟩ := hR; exact ⟨_, _, _, rfl⟩
  obtain ⟨ao, n, ca, rfl⟩ := hx
  unfold dspO
  by_cases h4 : k = 4
  · subst h4; rw [if_pos rfl]; exact dsp_4 R ao n ca w hR
  rw [if_neg h4]
  by_cases h5 : k = 5
  · subst h5
    cases hB : R.contains (truthV false)
    · rw [if_neg (fun h => absurd h.2 (by decide)), if_neg (fun h => absurd h.1 (by decide))]; exact dsp_5f R ao n ca w hR hB
    · rw [if_pos ⟨rfl, rfl⟩]; exact dsp_5t R ao n ca w hR hB
  rw [if_neg (fun h => h5 h.1)]
  by_cases h6 : k = 6
  · subst h6
    cases hB : R.contains (truthV true)
    · rw [if_neg (fun h => absurd h.2 (by decide))]; exact dsp_6f R ao n ca w hR hB
    · rw [if_pos ⟨rfl, rfl⟩]; exact dsp_6t R ao n ca w hR hB
  rw [if_neg (fun h => h6 h.1)]
  exact dsp_o R ao n ca k w hR (by simpa using h4) (by simpa using h5) (by simpa using h6)

end Go.Proofs.YtjmhkeooiimpfaaGreat
