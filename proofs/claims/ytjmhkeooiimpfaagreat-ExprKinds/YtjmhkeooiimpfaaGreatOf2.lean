/-
  'ofTwo' of package expr.
-/
import Derived.Test.YtjmhkeooiimpfaaGreatOrn
namespace Go.Proofs.YtjmhkeooiimpfaaGreat
open Go.RowKit

set_option maxRecDepth 100000 in
set_option maxHeartbeats 800000 in
theorem of2_5 (a b : Vl) (w : World) : Calls Tryz.prog 31 #[.int .i64 5, .agg #[.int .i64 a.k, .int .i64 a.n, .string ⟨a.s.toArray⟩], .agg #[.int .i64 b.k, .int .i64 b.n, .string ⟨b.s.toArray⟩]] w fun e w' => e = .returned (vlV (truthV true)) ∧ Below w.heap.size w w' := by
  have c9 : (((w.alloc (.cells #[.int .i64 a.k, .int .i64 a.n, .string ⟨a.s.toArray⟩] 25)).alloc (.cells #[.int .i64 b.k, .int .i64 b.n, .string ⟨b.s.toArray⟩] 25)).alloc (.cells #[.int .i64 0, .int .i64 0, .string ⟨#[]⟩] 25)).heap[w.heap.size + 2]? = some (.cells #[.int .i64 0, .int .i64 0, .string ⟨#[]⟩] 25) := by
    have hz : ((w.alloc (.cells #[.int .i64 a.k, .int .i64 a.n, .string ⟨a.s.toArray⟩] 25)).alloc (.cells #[.int .i64 b.k, .int .i64 b.n, .string ⟨b.s.toArray⟩] 25)).heap.size = w.heap.size + 2 := by simp
    rw [← hz]; exact heap_alloc_new _ _
  have q0 : Below w.heap.size w (((w.alloc (.cells #[.int .i64 a.k, .int .i64 a.n, .string ⟨a.s.toArray⟩] 25)).alloc (.cells #[.int .i64 b.k, .int .i64 b.n, .string ⟨b.s.toArray⟩] 25)).alloc (.cells #[.int .i64 0, .int .i64 0, .string ⟨#[]⟩] 25)) := (((Below.refl _ _).alloc (Nat.le_refl _) _).alloc (by simp) _).alloc (by simp; omega) _
  have hc := tr_any true (((w.alloc (.cells #[.int .i64 a.k, .int .i64 a.n, .string ⟨a.s.toArray⟩] 25)).alloc (.cells #[.int .i64 b.k, .int .i64 b.n, .string ⟨b.s.toArray⟩] 25)).alloc (.cells #[.int .i64 0, .int .i64 0, .string ⟨#[]⟩] 25))
  unfold vlV at hc ⊢
  generalize truthV true = V at hc ⊢
  go_enter Tryz.func31, Tryz.ntmps31
  go_wp2_with fail
  refine hc.mono ?_
  rintro e w1 ⟨rfl, b1⟩
  have c := (b1.block (w.heap.size + 2) (by simp)).trans c9
  have q1 : Below w.heap.size w w1 := q0.trans (b1.mono q0.size)
  clear c9 q0 b1
  clear hc
  obtain ⟨⟨c0, c1, c2⟩, f0, f1, f2⟩ := three c
  obtain ⟨⟨d0, d1, d2⟩, -⟩ := three (three_set c (.int .i64 (V).k) (.int .i64 (V).n) (.string ⟨(V).s.toArray⟩))
  clear c
  go_wp2_with fail
  have q2 : Below w.heap.size w (((w1.setCell ⟨w.heap.size + 2, 0, none⟩ (.int .i64 (V).k)).setCell ⟨w.heap.size + 2, 1, none⟩ (.int .i64 (V).n)).setCell ⟨w.heap.size + 2, 2, none⟩ (.string ⟨(V).s.toArray⟩)) := ((q1.setCell (by simp) _).setCell (by simp) _).setCell (by simp) _
  generalize (((w1.setCell ⟨w.heap.size + 2, 0, none⟩ (.int .i64 (V).k)).setCell ⟨w.heap.size + 2, 1, none⟩ (.int .i64 (V).n)).setCell ⟨w.heap.size + 2, 2, none⟩ (.string ⟨(V).s.toArray⟩)) = w2 at *
  refine bodyPost_ret (v := .agg #[.int .i64 (V).k, .int .i64 (V).n, .string ⟨(V).s.toArray⟩]) ?_ rfl ⟨rfl, q2⟩
  simp [results, Tryz.results31, go_sem, d0, d1, d2]

set_option maxRecDepth 100000 in
set_option maxHeartbeats 800000 in
theorem of2_6 (a b : Vl) (w : World) : Calls Tryz.prog 31 #[.int .i64 6, .agg #[.int .i64 a.k, .int .i64 a.n, .string ⟨a.s.toArray⟩], .agg #[.int .i64 b.k, .int .i64 b.n, .string ⟨b.s.toArray⟩]] w fun e w' => e = .returned (vlV (truthV false)) ∧ Below w.heap.size w w' := by
  have c9 : (((w.alloc (.cells #[.int .i64 a.k, .int .i64 a.n, .string ⟨a.s.toArray⟩] 25)).alloc (.cells #[.int .i64 b.k, .int .i64 b.n, .string ⟨b.s.toArray⟩] 25)).alloc (.cells #[.int .i64 0, .int .i64 0, .string ⟨#[]⟩] 25)).heap[w.heap.size + 2]? = some (.cells #[.int .i64 0, .int .i64 0, .string ⟨#[]⟩] 25) := by
    have hz : ((w.alloc (.cells #[.int .i64 a.k, .int .i64 a.n, .string ⟨a.s.toArray⟩] 25)).alloc (.cells #[.int .i64 b.k, .int .i64 b.n, .string ⟨b.s.toArray⟩] 25)).heap.size = w.heap.size + 2 := by simp
    rw [← hz]; exact heap_alloc_new _ _
  have q0 : Below w.heap.size w (((w.alloc (.cells #[.int .i64 a.k, .int .i64 a.n, .string ⟨a.s.toArray⟩] 25)).alloc (.cells #[.int .i64 b.k, .int .i64 b.n, .string ⟨b.s.toArray⟩] 25)).alloc (.cells #[.int .i64 0, .int .i64 0, .string ⟨#[]⟩] 25)) := (((Below.refl _ _).alloc (Nat.le_refl _) _).alloc (by simp) _).alloc (by simp; omega) _
  have hc := tr_any false (((w.alloc (.cells #[.int .i64 a.k, .int .i64 a.n, .string ⟨a.s.toArray⟩] 25)).alloc (.cells #[.int .i64 b.k, .int .i64 b.n, .string ⟨b.s.toArray⟩] 25)).alloc (.cells #[.int .i64 0, .int .i64 0, .string ⟨#[]⟩] 25))
  unfold vlV at hc ⊢
  generalize truthV false = V at hc ⊢
  go_enter Tryz.func31, Tryz.ntmps31
  go_wp2_with fail
  refine hc.mono ?_
  rintro e w1 ⟨rfl, b1⟩
  have c := (b1.block (w.heap.size + 2) (by simp)).trans c9
  have q1 : Below w.heap.size w w1 := q0.trans (b1.mono q0.size)
  clear c9 q0 b1
  clear hc
  obtain ⟨⟨c0, c1, c2⟩, f0, f1, f2⟩ := three c
  obtain ⟨⟨d0, d1, d2⟩, -⟩ := three (three_set c (.int .i64 (V).k) (.int .i64 (V).n) (.string ⟨(V).s.toArray⟩))
  clear c
  go_wp2_with fail
  have q2 : Below w.heap.size w (((w1.setCell ⟨w.heap.size + 2, 0, none⟩ (.int .i64 (V).k)).setCell ⟨w.heap.size + 2, 1, none⟩ (.int .i64 (V).n)).setCell ⟨w.heap.size + 2, 2, none⟩ (.string ⟨(V).s.toArray⟩)) := ((q1.setCell (by simp) _).setCell (by simp) _).setCell (by simp) _
  generalize (((w1.setCell ⟨w.heap.size + 2, 0, none⟩ (.int .i64 (V).k)).setCell ⟨w.heap.size + 2, 1, none⟩ (.int .i64 (V).n)).setCell ⟨w.heap.size + 2, 2, none⟩ (.string ⟨(V).s.toArray⟩)) = w2 at *
  refine bodyPost_ret (v := .agg #[.int .i64 (V).k, .int .i64 (V).n, .string ⟨(V).s.toArray⟩]) ?_ rfl ⟨rfl, q2⟩
  simp [results, Tryz.results31, go_sem, d0, d1, d2]

set_option maxRecDepth 100000 in
set_option maxHeartbeats 800000 in
theorem of2_7 (a b : Vl) (a1 : -999999999 ≤ a.n) (a2 : a.n ≤ 999999999) (b1' : -999999999 ≤ b.n) (b2' : b.n ≤ 999999999) (w : World) : Calls Tryz.prog 31 #[.int .i64 7, .agg #[.int .i64 a.k, .int .i64 a.n, .string ⟨a.s.toArray⟩], .agg #[.int .i64 b.k, .int .i64 b.n, .string ⟨b.s.toArray⟩]] w fun e w' => e = .returned (vlV (orNo ⟨1, a.n + b.n, []⟩)) ∧ Below w.heap.size w w' := by
  have c9 : (((w.alloc (.cells #[.int .i64 a.k, .int .i64 a.n, .string ⟨a.s.toArray⟩] 25)).alloc (.cells #[.int .i64 b.k, .int .i64 b.n, .string ⟨b.s.toArray⟩] 25)).alloc (.cells #[.int .i64 0, .int .i64 0, .string ⟨#[]⟩] 25)).heap[w.heap.size + 2]? = some (.cells #[.int .i64 0, .int .i64 0, .string ⟨#[]⟩] 25) := by
    have hz : ((w.alloc (.cells #[.int .i64 a.k, .int .i64 a.n, .string ⟨a.s.toArray⟩] 25)).alloc (.cells #[.int .i64 b.k, .int .i64 b.n, .string ⟨b.s.toArray⟩] 25)).heap.size = w.heap.size + 2 := by simp
    rw [← hz]; exact heap_alloc_new _ _
  have q0 : Below w.heap.size w (((w.alloc (.cells #[.int .i64 a.k, .int .i64 a.n, .string ⟨a.s.toArray⟩] 25)).alloc (.cells #[.int .i64 b.k, .int .i64 b.n, .string ⟨b.s.toArray⟩] 25)).alloc (.cells #[.int .i64 0, .int .i64 0, .string ⟨#[]⟩] 25)) := (((Below.refl _ _).alloc (Nat.le_refl _) _).alloc (by simp) _).alloc (by simp; omega) _
  have hc := orn_any ⟨1, a.n + b.n, []⟩ (by simp) (((w.alloc (.cells #[.int .i64 a.k, .int .i64 a.n, .string ⟨a.s.toArray⟩] 25)).alloc (.cells #[.int .i64 b.k, .int .i64 b.n, .string ⟨b.s.toArray⟩] 25)).alloc (.cells #[.int .i64 0, .int .i64 0, .string ⟨#[]⟩] 25))
  unfold vlV at hc ⊢
  generalize orNo ⟨1, a.n + b.n, []⟩ = V at hc ⊢
  go_enter Tryz.func31, Tryz.ntmps31
  go_wp2_with fail
  refine hc.mono ?_
  rintro e w1 ⟨rfl, b1⟩
  have c := (b1.block (w.heap.size + 2) (by simp)).trans c9
  have q1 : Below w.heap.size w w1 := q0.trans (b1.mono q0.size)
  clear c9 q0 b1
  clear hc
  obtain ⟨⟨c0, c1, c2⟩, f0, f1, f2⟩ := three c
  obtain ⟨⟨d0, d1, d2⟩, -⟩ := three (three_set c (.int .i64 (V).k) (.int .i64 (V).n) (.string ⟨(V).s.toArray⟩))
  clear c
  go_wp2_with fail
  have q2 : Below w.heap.size w (((w1.setCell ⟨w.heap.size + 2, 0, none⟩ (.int .i64 (V).k)).setCell ⟨w.heap.size + 2, 1, none⟩ (.int .i64 (V).n)).setCell ⟨w.heap.size + 2, 2, none⟩ (.string ⟨(V).s.toArray⟩)) := ((q1.setCell (by simp) _).setCell (by simp) _).setCell (by simp) _
  generalize (((w1.setCell ⟨w.heap.size + 2, 0, none⟩ (.int .i64 (V).k)).setCell ⟨w.heap.size + 2, 1, none⟩ (.int .i64 (V).n)).setCell ⟨w.heap.size + 2, 2, none⟩ (.string ⟨(V).s.toArray⟩)) = w2 at *
  refine bodyPost_ret (v := .agg #[.int .i64 (V).k, .int .i64 (V).n, .string ⟨(V).s.toArray⟩]) ?_ rfl ⟨rfl, q2⟩
  simp [results, Tryz.results31, go_sem, d0, d1, d2]

set_option maxRecDepth 100000 in
set_option maxHeartbeats 800000 in
theorem of2_8 (a b : Vl) (a1 : -999999999 ≤ a.n) (a2 : a.n ≤ 999999999) (b1' : -999999999 ≤ b.n) (b2' : b.n ≤ 999999999) (w : World) : Calls Tryz.prog 31 #[.int .i64 8, .agg #[.int .i64 a.k, .int .i64 a.n, .string ⟨a.s.toArray⟩], .agg #[.int .i64 b.k, .int .i64 b.n, .string ⟨b.s.toArray⟩]] w fun e w' => e = .returned (vlV (orNo ⟨1, a.n - b.n, []⟩)) ∧ Below w.heap.size w w' := by
  have c9 : (((w.alloc (.cells #[.int .i64 a.k, .int .i64 a.n, .string ⟨a.s.toArray⟩] 25)).alloc (.cells #[.int .i64 b.k, .int .i64 b.n, .string ⟨b.s.toArray⟩] 25)).alloc (.cells #[.int .i64 0, .int .i64 0, .string ⟨#[]⟩] 25)).heap[w.heap.size + 2]? = some (.cells #[.int .i64 0, .int .i64 0, .string ⟨#[]⟩] 25) := by
    have hz : ((w.alloc (.cells #[.int .i64 a.k, .int .i64 a.n, .string ⟨a.s.toArray⟩] 25)).alloc (.cells #[.int .i64 b.k, .int .i64 b.n, .string ⟨b.s.toArray⟩] 25)).heap.size = w.heap.size + 2 := by simp
    rw [← hz]; exact heap_alloc_new _ _
  have q0 : Below w.heap.size w (((w.alloc (.cells #[.int .i64 a.k, .int .i64 a.n, .string ⟨a.s.toArray⟩] 25)).alloc (.cells #[.int .i64 b.k, .int .i64 b.n, .string ⟨b.s.toArray⟩] 25)).alloc (.cells #[.int .i64 0, .int .i64 0, .string ⟨#[]⟩] 25)) := (((Below.refl _ _).alloc (Nat.le_refl _) _).alloc (by simp) _).alloc (by simp; omega) _
  have hc := orn_any ⟨1, a.n - b.n, []⟩ (by simp) (((w.alloc (.cells #[.int .i64 a.k, .int .i64 a.n, .string ⟨a.s.toArray⟩] 25)).alloc (.cells #[.int .i64 b.k, .int .i64 b.n, .string ⟨b.s.toArray⟩] 25)).alloc (.cells #[.int .i64 0, .int .i64 0, .string ⟨#[]⟩] 25))
  unfold vlV at hc ⊢
  generalize orNo ⟨1, a.n - b.n, []⟩ = V at hc ⊢
  go_enter Tryz.func31, Tryz.ntmps31
  go_wp2_with fail
  refine hc.mono ?_
  rintro e w1 ⟨rfl, b1⟩
  have c := (b1.block (w.heap.size + 2) (by simp)).trans c9
  have q1 : Below w.heap.size w w1 := q0.trans (b1.mono q0.size)
  clear c9 q0 b1
  clear hc
  obtain ⟨⟨c0, c1, c2⟩, f0, f1, f2⟩ := three c
  obtain ⟨⟨d0, d1, d2⟩, -⟩ := three (three_set c (.int .i64 (V).k) (.int .i64 (V).n) (.string ⟨(V).s.toArray⟩))
  clear c
  go_wp2_with fail
  have q2 : Below w.heap.size w (((w1.setCell ⟨w.heap.size + 2, 0, none⟩ (.int .i64 (V).k)).setCell ⟨w.heap.size + 2, 1, none⟩ (.int .i64 (V).n)).setCell ⟨w.heap.size + 2, 2, none⟩ (.string ⟨(V).s.toArray⟩)) := ((q1.setCell (by simp) _).setCell (by simp) _).setCell (by simp) _
  generalize (((w1.setCell ⟨w.heap.size + 2, 0, none⟩ (.int .i64 (V).k)).setCell ⟨w.heap.size + 2, 1, none⟩ (.int .i64 (V).n)).setCell ⟨w.heap.size + 2, 2, none⟩ (.string ⟨(V).s.toArray⟩)) = w2 at *
  refine bodyPost_ret (v := .agg #[.int .i64 (V).k, .int .i64 (V).n, .string ⟨(V).s.toArray⟩]) ?_ rfl ⟨rfl, q2⟩
  simp [results, Tryz.results31, go_sem, d0, d1, d2]

set_option maxRecDepth 100000 in
set_option maxHeartbeats 800000 in
theorem of2_9 (a b : Vl) (ha : a.s.length + b.s.length ≤ 140737488355328) (w : World) : Calls Tryz.prog 31 #[.int .i64 9, .agg #[.int .i64 a.k, .int .i64 a.n, .string ⟨a.s.toArray⟩], .agg #[.int .i64 b.k, .int .i64 b.n, .string ⟨b.s.toArray⟩]] w fun e w' => e = .returned (vlV (orNo ⟨2, 0, a.s ++ b.s⟩)) ∧ Below w.heap.size w w' := by
  have c9 : (((w.alloc (.cells #[.int .i64 a.k, .int .i64 a.n, .string ⟨a.s.toArray⟩] 25)).alloc (.cells #[.int .i64 b.k, .int .i64 b.n, .string ⟨b.s.toArray⟩] 25)).alloc (.cells #[.int .i64 0, .int .i64 0, .string ⟨#[]⟩] 25)).heap[w.heap.size + 2]? = some (.cells #[.int .i64 0, .int .i64 0, .string ⟨#[]⟩] 25) := by
    have hz : ((w.alloc (.cells #[.int .i64 a.k, .int .i64 a.n, .string ⟨a.s.toArray⟩] 25)).alloc (.cells #[.int .i64 b.k, .int .i64 b.n, .string ⟨b.s.toArray⟩] 25)).heap.size = w.heap.size + 2 := by simp
    rw [← hz]; exact heap_alloc_new _ _
  have q0 : Below w.heap.size w (((w.alloc (.cells #[.int .i64 a.k, .int .i64 a.n, .string ⟨a.s.toArray⟩] 25)).alloc (.cells #[.int .i64 b.k, .int .i64 b.n, .string ⟨b.s.toArray⟩] 25)).alloc (.cells #[.int .i64 0, .int .i64 0, .string ⟨#[]⟩] 25)) := (((Below.refl _ _).alloc (Nat.le_refl _) _).alloc (by simp) _).alloc (by simp; omega) _
  have hc := orn_any ⟨2, 0, a.s ++ b.s⟩ (by simpa using ha) (((w.alloc (.cells #[.int .i64 a.k, .int .i64 a.n, .string ⟨a.s.toArray⟩] 25)).alloc (.cells #[.int .i64 b.k, .int .i64 b.n, .string ⟨b.s.toArray⟩] 25)).alloc (.cells #[.int .i64 0, .int .i64 0, .string ⟨#[]⟩] 25))
  unfold vlV at hc ⊢
  generalize orNo ⟨2, 0, a.s ++ b.s⟩ = V at hc ⊢
  go_enter Tryz.func31, Tryz.ntmps31
  go_wp2_with fail
  refine hc.mono ?_
  rintro e w1 ⟨rfl, b1⟩
  have c := (b1.block (w.heap.size + 2) (by simp)).trans c9
  have q1 : Below w.heap.size w w1 := q0.trans (b1.mono q0.size)
  clear c9 q0 b1
  clear hc
  obtain ⟨⟨c0, c1, c2⟩, f0, f1, f2⟩ := three c
  obtain ⟨⟨d0, d1, d2⟩, -⟩ := three (three_set c (.int .i64 (V).k) (.int .i64 (V).n) (.string ⟨(V).s.toArray⟩))
  clear c
  go_wp2_with fail
  have q2 : Below w.heap.size w (((w1.setCell ⟨w.heap.size + 2, 0, none⟩ (.int .i64 (V).k)).setCell ⟨w.heap.size + 2, 1, none⟩ (.int .i64 (V).n)).setCell ⟨w.heap.size + 2, 2, none⟩ (.string ⟨(V).s.toArray⟩)) := ((q1.setCell (by simp) _).setCell (by simp) _).setCell (by simp) _
  generalize (((w1.setCell ⟨w.heap.size + 2, 0, none⟩ (.int .i64 (V).k)).setCell ⟨w.heap.size + 2, 1, none⟩ (.int .i64 (V).n)).setCell ⟨w.heap.size + 2, 2, none⟩ (.string ⟨(V).s.toArray⟩)) = w2 at *
  refine bodyPost_ret (v := .agg #[.int .i64 (V).k, .int .i64 (V).n, .string ⟨(V).s.toArray⟩]) ?_ rfl ⟨rfl, q2⟩
  simp [results, Tryz.results31, go_sem, d0, d1, d2]

set_option maxRecDepth 100000 in
set_option maxHeartbeats 800000 in
theorem of2_o (k : Int) (a b : Vl) (h5 : (k == 5) = false) (h6 : (k == 6) = false) (h7 : (k == 7) = false) (h8 : (k == 8) = false) (h9 : (k == 9) = false) (h10 : (k == 10) = false) (w : World) : Calls Tryz.prog 31 #[.int .i64 k, .agg #[.int .i64 a.k, .int .i64 a.n, .string ⟨a.s.toArray⟩], .agg #[.int .i64 b.k, .int .i64 b.n, .string ⟨b.s.toArray⟩]] w fun e w' => e = .returned (vlV (truthV (decide (a = b)))) ∧ Below w.heap.size w w' := by
  have hq := eql25
  have hs := sameV a b
  have c9 : (((w.alloc (.cells #[.int .i64 a.k, .int .i64 a.n, .string ⟨a.s.toArray⟩] 25)).alloc (.cells #[.int .i64 b.k, .int .i64 b.n, .string ⟨b.s.toArray⟩] 25)).alloc (.cells #[.int .i64 0, .int .i64 0, .string ⟨#[]⟩] 25)).heap[w.heap.size + 2]? = some (.cells #[.int .i64 0, .int .i64 0, .string ⟨#[]⟩] 25) := by
    have hz : ((w.alloc (.cells #[.int .i64 a.k, .int .i64 a.n, .string ⟨a.s.toArray⟩] 25)).alloc (.cells #[.int .i64 b.k, .int .i64 b.n, .string ⟨b.s.toArray⟩] 25)).heap.size = w.heap.size + 2 := by simp
    rw [← hz]; exact heap_alloc_new _ _
  have q0 : Below w.heap.size w (((w.alloc (.cells #[.int .i64 a.k, .int .i64 a.n, .string ⟨a.s.toArray⟩] 25)).alloc (.cells #[.int .i64 b.k, .int .i64 b.n, .string ⟨b.s.toArray⟩] 25)).alloc (.cells #[.int .i64 0, .int .i64 0, .string ⟨#[]⟩] 25)) := (((Below.refl _ _).alloc (Nat.le_refl _) _).alloc (by simp) _).alloc (by simp; omega) _
  have hc := tr_any (decide (a = b)) (((w.alloc (.cells #[.int .i64 a.k, .int .i64 a.n, .string ⟨a.s.toArray⟩] 25)).alloc (.cells #[.int .i64 b.k, .int .i64 b.n, .string ⟨b.s.toArray⟩] 25)).alloc (.cells #[.int .i64 0, .int .i64 0, .string ⟨#[]⟩] 25))
  unfold vlV at hc ⊢
  generalize truthV (decide (a = b)) = V at hc ⊢
  go_enter Tryz.func31, Tryz.ntmps31
  go_wp2_with fail
  refine hc.mono ?_
  rintro e w1 ⟨rfl, b1⟩
  have c := (b1.block (w.heap.size + 2) (by simp)).trans c9
  have q1 : Below w.heap.size w w1 := q0.trans (b1.mono q0.size)
  clear c9 q0 b1
  clear hc
  obtain ⟨⟨c0, c1, c2⟩, f0, f1, f2⟩ := three c
  obtain ⟨⟨d0, d1, d2⟩, -⟩ := three (three_set c (.int .i64 (V).k) (.int .i64 (V).n) (.string ⟨(V).s.toArray⟩))
  clear c
  go_wp2_with fail
  have q2 : Below w.heap.size w (((w1.setCell ⟨w.heap.size + 2, 0, none⟩ (.int .i64 (V).k)).setCell ⟨w.heap.size + 2, 1, none⟩ (.int .i64 (V).n)).setCell ⟨w.heap.size + 2, 2, none⟩ (.string ⟨(V).s.toArray⟩)) := ((q1.setCell (by simp) _).setCell (by simp) _).setCell (by simp) _
  generalize (((w1.setCell ⟨w.heap.size + 2, 0, none⟩ (.int .i64 (V).k)).setCell ⟨w.heap.size + 2, 1, none⟩ (.int .i64 (V).n)).setCell ⟨w.heap.size + 2, 2, none⟩ (.string ⟨(V).s.toArray⟩)) = w2 at *
  refine bodyPost_ret (v := .agg #[.int .i64 (V).k, .int .i64 (V).n, .string ⟨(V).s.toArray⟩]) ?_ rfl ⟨rfl, q2⟩
  simp [results, Tryz.results31, go_sem, d0, d1, d2]

set_option maxRecDepth 100000 in
set_option maxHeartbeats 800000 in
theorem of2_10 (a b : Vl) (ha : a.s.length ≤ 140737488355328) (hb : b.s.length ≤ 140737488355328) (w : World) : Calls Tryz.prog 31 #[.int .i64 10, .agg #[.int .i64 a.k, .int .i64 a.n, .string ⟨a.s.toArray⟩], .agg #[.int .i64 b.k, .int .i64 b.n, .string ⟨b.s.toArray⟩]] w fun e w' => e = .returned (vlV (truthV (decide (ordN a.k a.n a.s b.k b.n b.s < 0)))) ∧ Below w.heap.size w w' := by
  have c9 : (((w.alloc (.cells #[.int .i64 a.k, .int .i64 a.n, .string ⟨a.s.toArray⟩] 25)).alloc (.cells #[.int .i64 b.k, .int .i64 b.n, .string ⟨b.s.toArray⟩] 25)).alloc (.cells #[.int .i64 0, .int .i64 0, .string ⟨#[]⟩] 25)).heap[w.heap.size + 2]? = some (.cells #[.int .i64 0, .int .i64 0, .string ⟨#[]⟩] 25) := by
    have hz : ((w.alloc (.cells #[.int .i64 a.k, .int .i64 a.n, .string ⟨a.s.toArray⟩] 25)).alloc (.cells #[.int .i64 b.k, .int .i64 b.n, .string ⟨b.s.toArray⟩] 25)).heap.size = w.heap.size + 2 := by simp
    rw [← hz]; exact heap_alloc_new _ _
  have q0 : Below w.heap.size w (((w.alloc (.cells #[.int .i64 a.k, .int .i64 a.n, .string ⟨a.s.toArray⟩] 25)).alloc (.cells #[.int .i64 b.k, .int .i64 b.n, .string ⟨b.s.toArray⟩] 25)).alloc (.cells #[.int .i64 0, .int .i64 0, .string ⟨#[]⟩] 25)) := (((Below.refl _ _).alloc (Nat.le_refl _) _).alloc (by simp) _).alloc (by simp; omega) _
  have ho := order_any a.k a.n b.k b.n ⟨a.s.toArray⟩ ⟨b.s.toArray⟩ (((w.alloc (.cells #[.int .i64 a.k, .int .i64 a.n, .string ⟨a.s.toArray⟩] 25)).alloc (.cells #[.int .i64 b.k, .int .i64 b.n, .string ⟨b.s.toArray⟩] 25)).alloc (.cells #[.int .i64 0, .int .i64 0, .string ⟨#[]⟩] 25)) (by rw [size_mk]; exact ha) (by rw [size_mk]; exact hb)
  have ea : (⟨a.s.toArray⟩ : ByteArray).data.toList = a.s := by simp
  have eb : (⟨b.s.toArray⟩ : ByteArray).data.toList = b.s := by simp
  rw [ea, eb] at ho
  generalize ordN a.k a.n a.s b.k b.n b.s = D at ho ⊢
  generalize ordE a.k a.n a.s b.k b.n b.s = E at ho
  clear ea eb ha hb
  have ht := fun W => tr_any (decide (D < 0)) W
  unfold vlV at ht ⊢
  generalize truthV (decide (D < 0)) = V at ht ⊢
  go_enter Tryz.func31, Tryz.ntmps31
  go_wp2_with fail
  refine ho.mono ?_
  rintro e w0 ⟨rfl, b0⟩
  have c8 := (b0.block (w.heap.size + 2) (by simp)).trans c9
  have q8 := q0.trans (b0.mono q0.size)
  have z8 : w.heap.size + 2 < w0.heap.size := by have := b0.size; simp at this; omega
  clear ho b0 q0 c9
  go_wp2_with fail
  refine (ht _).mono ?_
  rintro e w1 ⟨rfl, b1⟩
  have c := (b1.block (w.heap.size + 2) z8).trans c8
  have q1 : Below w.heap.size w w1 := q8.trans (b1.mono q8.size)
  clear ht b1 c8 q8
  obtain ⟨⟨c0, c1, c2⟩, f0, f1, f2⟩ := three c
  obtain ⟨⟨d0, d1, d2⟩, -⟩ := three (three_set c (.int .i64 (V).k) (.int .i64 (V).n) (.string ⟨(V).s.toArray⟩))
  clear c
  go_wp2_with fail
  have q2 : Below w.heap.size w (((w1.setCell ⟨w.heap.size + 2, 0, none⟩ (.int .i64 (V).k)).setCell ⟨w.heap.size + 2, 1, none⟩ (.int .i64 (V).n)).setCell ⟨w.heap.size + 2, 2, none⟩ (.string ⟨(V).s.toArray⟩)) := ((q1.setCell (by simp) _).setCell (by simp) _).setCell (by simp) _
  generalize (((w1.setCell ⟨w.heap.size + 2, 0, none⟩ (.int .i64 (V).k)).setCell ⟨w.heap.size + 2, 1, none⟩ (.int .i64 (V).n)).setCell ⟨w.heap.size + 2, 2, none⟩ (.string ⟨(V).s.toArray⟩)) = w2 at *
  refine bodyPost_ret (v := .agg #[.int .i64 (V).k, .int .i64 (V).n, .string ⟨(V).s.toArray⟩]) ?_ rfl ⟨rfl, q2⟩
  simp [results, Tryz.results31, go_sem, d0, d1, d2]

theorem bounds_of {x : Vl} (h : chkV x.k x.n x.s = 0) : -999999999 ≤ x.n ∧ x.n ≤ 999999999 ∧ x.s.length ≤ 20 := by
  rcases chkV_zero h with ⟨_, h2, h3⟩ | ⟨_, h2, h3, h4⟩ | ⟨_, h2, h3⟩ | ⟨_, h2, h3⟩
  · rw [h2, h3]; simp
  · rw [h4]; exact ⟨h2, h3, by simp⟩
  · rw [h2]; exact ⟨by decide, by decide, h3⟩
  · rw [h3]; rcases h2 with h | h <;> rw [h] <;> simp

theorem ofTwo_any (k : Int) (a b : Vl) (hA : chkV a.k a.n a.s = 0) (hB : chkV b.k b.n b.s = 0) (w : World) : Calls Tryz.prog 31 #[.int .i64 k, vlV a, vlV b] w fun e w' => e = .returned (vlV (twoV k a b)) ∧ Below w.heap.size w w' := by
  obtain ⟨a1, a2, a3⟩ := bounds_of hA
  obtain ⟨b1, b2, b3⟩ := bounds_of hB
  unfold twoV
  by_cases h5 : k = 5
  · subst h5; exact of2_5 a b w
  rw [if_neg h5]
  by_cases h6 : k = 6
  · subst h6; exact of2_6 a b w
  rw [if_neg h6]
  by_cases h7 : k = 7
  · subst h7; exact of2_7 a b a1 a2 b1 b2 w
  rw [if_neg h7]
  by_cases h8 : k = 8
  · subst h8; exact of2_8 a b a1 a2 b1 b2 w
  rw [if_neg h8]
  by_cases h9 : k = 9
  · subst h9; exact of2_9 a b (by omega) w
  rw [if_neg h9]
  by_cases h10 : k = 10
  · subst h10; exact of2_10 a b (by omega) (by omega) w
  rw [if_neg h10]
  exact of2_o k a b (by simpa using h5) (by simpa using h6) (by simpa using h7) (by simpa using h8) (by simpa using h9) (by simpa using h10) w

end Go.Proofs.YtjmhkeooiimpfaaGreat
