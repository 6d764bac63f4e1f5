/-
  'orNothing' of package expr.
-/
import Derived.Test.YtjmhkeooiimpfaaGreatCnt
namespace Go.Proofs.YtjmhkeooiimpfaaGreat
open Go.RowKit

theorem three_set {W : World} {b : Nat} {x y z : Value} {t : TypeId} (h : W.heap[b]? = some (.cells #[x, y, z] t)) (x' y' z' : Value) :
    (((W.setCell ⟨b, 0, none⟩ x').setCell ⟨b, 1, none⟩ y').setCell ⟨b, 2, none⟩ z').heap[b]? = some (.cells #[x', y', z'] t) :=
  heap_setCell_same _ b 2 _ t z' (heap_setCell_same _ b 1 _ t y' (heap_setCell_same W b 0 _ t x' h))

set_option maxRecDepth 100000 in
set_option maxHeartbeats 800000 in
theorem orn_any (x : Vl) (hs : x.s.length ≤ 140737488355328) (w : World) : Calls Tryz.prog 43 #[vlV x] w fun e w' => e = .returned (vlV (orNo x)) ∧ Below w.heap.size w w' := by
  have hc := checkX x hs
  unfold vlV orNo
  by_cases h : chkV x.k x.n x.s = 0
  · simp only [if_pos h]
    rw [h] at hc
    clear h hs
    go_enter Tryz.func43, Tryz.ntmps43
    go_wp2_with fail
    refine (hc _).mono ?_
    rintro e w1 ⟨rfl, hb1⟩
    have hz : (w.alloc (.cells #[.int .i64 x.k, .int .i64 x.n, .string ⟨x.s.toArray⟩] 25)).heap.size = w.heap.size + 1 := by simp
    have c : w1.heap[w.heap.size + 1]? = some (.cells #[.int .i64 0, .int .i64 0, .string ⟨#[]⟩] 25) := (hb1.block _ (by simp)).trans (by rw [← hz]; exact heap_alloc_new _ _)
    have a0 : w1.cell? ⟨w.heap.size, 0, none⟩ = some (.int .i64 x.k) := (hb1.cell (by simp; omega)).trans (by simp)
    have a1 : w1.cell? ⟨w.heap.size, 1, none⟩ = some (.int .i64 x.n) := (hb1.cell (by simp; omega)).trans (by simp)
    have a2 : w1.cell? ⟨w.heap.size, 2, none⟩ = some (.string ⟨x.s.toArray⟩) := (hb1.cell (by simp; omega)).trans (by simp)
    obtain ⟨⟨c0, c1, c2⟩, f0, f1, f2⟩ := three c
    obtain ⟨⟨d0, d1, d2⟩, -⟩ := three (three_set c (.int .i64 x.k) (.int .i64 x.n) (.string ⟨x.s.toArray⟩))
    have q1 : Below w.heap.size w w1 := (((Below.refl _ _).alloc (Nat.le_refl _) _).alloc (by simp) _).trans (hb1.mono (by simp; omega))
    clear hc hb1 c hz
    go_wp2_with fail
    have q2 : Below w.heap.size w (((w1.setCell ⟨w.heap.size + 1, 0, none⟩ (.int .i64 x.k)).setCell ⟨w.heap.size + 1, 1, none⟩ (.int .i64 x.n)).setCell ⟨w.heap.size + 1, 2, none⟩ (.string ⟨x.s.toArray⟩)) := ((q1.setCell (by simp) _).setCell (by simp) _).setCell (by simp) _
    generalize ((w1.setCell ⟨w.heap.size + 1, 0, none⟩ (.int .i64 x.k)).setCell ⟨w.heap.size + 1, 1, none⟩ (.int .i64 x.n)).setCell ⟨w.heap.size + 1, 2, none⟩ (.string ⟨x.s.toArray⟩) = w2 at *
    refine bodyPost_ret (v := .agg #[.int .i64 x.k, .int .i64 x.n, .string ⟨x.s.toArray⟩]) ?_ rfl ⟨rfl, q2⟩
    simp [results, Tryz.results43, go_sem, d0, d1, d2]
  · simp only [if_neg h]
    have hE : (((chkV x.k x.n x.s : Nat) : Int) != 0) = true := by simpa using h
    generalize chkV x.k x.n x.s = E at hc hE
    clear h hs
    go_enter Tryz.func43, Tryz.ntmps43
    go_wp2_with fail
    refine (hc _).mono ?_
    rintro e w1 ⟨rfl, hb1⟩
    have hz : (w.alloc (.cells #[.int .i64 x.k, .int .i64 x.n, .string ⟨x.s.toArray⟩] 25)).heap.size = w.heap.size + 1 := by simp
    have c : w1.heap[w.heap.size + 1]? = some (.cells #[.int .i64 0, .int .i64 0, .string ⟨#[]⟩] 25) := (hb1.block _ (by simp)).trans (by rw [← hz]; exact heap_alloc_new _ _)
    obtain ⟨⟨c0, c1, c2⟩, f0, f1, f2⟩ := three c
    obtain ⟨⟨d0, d1, d2⟩, -⟩ := three (three_set c (.int .i64 0) (.int .i64 0) (.string ⟨#[]⟩))
    have q1 : Below w.heap.size w w1 := (((Below.refl _ _).alloc (Nat.le_refl _) _).alloc (by simp) _).trans (hb1.mono (by simp; omega))
    clear hc hb1 c hz
    go_wp2_with fail
    have q2 : Below w.heap.size w (((w1.setCell ⟨w.heap.size + 1, 0, none⟩ (.int .i64 0)).setCell ⟨w.heap.size + 1, 1, none⟩ (.int .i64 0)).setCell ⟨w.heap.size + 1, 2, none⟩ (.string ⟨#[]⟩)) := ((q1.setCell (by simp) _).setCell (by simp) _).setCell (by simp) _
    generalize ((w1.setCell ⟨w.heap.size + 1, 0, none⟩ (.int .i64 0)).setCell ⟨w.heap.size + 1, 1, none⟩ (.int .i64 0)).setCell ⟨w.heap.size + 1, 2, none⟩ (.string ⟨#[]⟩) = w2 at *
    refine bodyPost_ret (v := .agg #[.int .i64 0, .int .i64 0, .string ⟨#[]⟩]) ?_ rfl ⟨rfl, q2⟩
    simp [results, Tryz.results43, go_sem, d0, d1, d2]

end Go.Proofs.YtjmhkeooiimpfaaGreat
