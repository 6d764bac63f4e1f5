/-
  'rowBehind' of package delta: a column that is cast.
-/
import Derived.Test.YtcnnjladaoaeiaaGreatDoorDlr
namespace Go.Proofs.YtcnnjladaoaeiaaGreatDoor
open Go.RowKit

theorem flatV_set (r : List Vl) (a : Nat) (y : Vl) (ha : a < r.length) : (r.set a y).flatMap vlC = (r.flatMap vlC).take (a * 3) ++ vlC y ++ (r.flatMap vlC).drop (a * 3 + 3) := by
  rw [List.set_eq_take_append_cons_drop, if_pos ha, flatV_append, List.flatMap_cons, flatV_take, flatV_drop, List.append_assoc, show (a + 1) * 3 = a * 3 + 3 by omega]

/-- three cells of a row that are stored -/
theorem own_set {w : World} {B : Nat} {g n cap : Nat} {r : List Vl} (h : Own w B (.slice (some ⟨g, 0, none⟩) n cap) r) (hn : r.length = n) (a : Nat) (ha : a < n) (y : Vl) :
    Own (((w.setCell ⟨g, a * 3, none⟩ (.int .i64 y.k)).setCell ⟨g, a * 3 + 1, none⟩ (.int .i64 y.n)).setCell ⟨g, a * 3 + 2, none⟩ (.string ⟨y.s.toArray⟩)) B (.slice (some ⟨g, 0, none⟩) n cap) (r.set a y) ∧
      Below B w (((w.setCell ⟨g, a * 3, none⟩ (.int .i64 y.k)).setCell ⟨g, a * 3 + 1, none⟩ (.int .i64 y.n)).setCell ⟨g, a * 3 + 2, none⟩ (.string ⟨y.s.toArray⟩)) := by
  obtain ⟨hxl, hh⟩ := h
  rcases hh with ⟨hv, -⟩ | ⟨g', cap', cur, hv, hBg, hg, hnc, hcm, hcs, htake⟩
  · cases hv
  cases hv
  have e : (((w.setCell ⟨g, a * 3, none⟩ (.int .i64 y.k)).setCell ⟨g, a * 3 + 1, none⟩ (.int .i64 y.n)).setCell ⟨g, a * 3 + 2, none⟩ (.string ⟨y.s.toArray⟩)) = w.setCells g (a * 3) (vlC y) := rfl
  rw [e]
  obtain ⟨cur', h1, h2⟩ := heap_setCells g 49 (vlC y) (a * 3) w cur hg (by simp [vlC]; omega)
  refine ⟨⟨by rw [flatV_len], .inr ⟨g, cap, cur', by rw [List.length_set], hBg, h1, by rw [List.length_set]; exact hnc, hcm, ?_, ?_⟩⟩, below_cells g hBg _ _ _ (Below.refl _ _)⟩
  · rw [← Array.length_toList, h2, List.length_append, List.length_append, List.length_take, List.length_drop, Array.length_toList]; simp only [vlC, List.length_cons, List.length_nil]; omega
  · rw [List.length_set, flatV_set r a y (by omega), h2, ← htake]
    have l0 : cur.toList.length = cap * 3 := by rw [Array.length_toList]; exact hcs
    have l1 : (cur.toList.take (a * 3)).length = a * 3 := by rw [List.length_take]; omega
    have l2 : (vlC y).length = 3 := rfl
    rw [List.take_take, Nat.min_eq_left (by omega), l2]
    have l3 : (cur.toList.take (a * 3) ++ vlC y).length = a * 3 + 3 := by rw [List.length_append, l1, l2]
    have e3 : r.length * 3 = (cur.toList.take (a * 3) ++ vlC y).length + (r.length * 3 - (a * 3 + 3)) := by rw [l3]; omega
    rw [e3, List.take_length_add_append, List.drop_take]
    congr 2
    rw [l3]
    omega

set_option maxRecDepth 100000 in
set_option maxHeartbeats 4000000 in
theorem row_3 (B : Nat) (g n cap : Nat) (r : List Vl) (hn : r.length = n) (a : Nat) (ty : Int) (x z y : Vl) (w : World) (h : Own w B (.slice (some ⟨g, 0, none⟩) n cap) r) (hB : B ≤ w.heap.size) (ha : a < n) (hz : r[a]? = some z) (E : Int)
    (hc : ∀ W, Below w.heap.size w W → Calls Tryz.prog 126 #[.agg #[.int .i64 z.k, .int .i64 z.n, .string ⟨z.s.toArray⟩], .int .i64 ty] W fun e w' => e = .returned (.tuple #[.agg #[.int .i64 y.k, .int .i64 y.n, .string ⟨y.s.toArray⟩], .int .i64 E]) ∧ Below W.heap.size W w') :
    Calls Tryz.prog 77 #[.slice (some ⟨g, 0, none⟩) n cap, dlV ⟨3, a, ty, x⟩] w fun e w' => ∃ v, e = .returned v ∧ Own w' B v (r.set a y) ∧ Below B w w' := by
  have hHH : ∀ W, Below w.heap.size w W → Own W B (.slice (some ⟨g, 0, none⟩) n cap) r := fun W hW => h.kept_below hW
  have hlt := (h.lt g rfl)
  obtain ⟨PP, hPP⟩ : ∃ PP : Ending → World → Prop, PP = fun e w' => ∃ v, e = .returned v ∧ Own w' B v (r.set a y) ∧ Below B w w' := ⟨_, rfl⟩
  have hfin : ∀ W, Below w.heap.size w W → PP (.returned (.slice (some ⟨g, 0, none⟩) n cap)) (((W.setCell ⟨g, a * 3, none⟩ (.int .i64 y.k)).setCell ⟨g, a * 3 + 1, none⟩ (.int .i64 y.n)).setCell ⟨g, a * 3 + 2, none⟩ (.string ⟨y.s.toArray⟩)) := by
    intro W hW
    rw [hPP]
    obtain ⟨h1, h2⟩ := own_set (hHH W hW) hn a ha y
    exact ⟨_, rfl, h1, (hW.mono hB).trans h2⟩
  refine Calls.mono (R := PP) ?_ (by rw [hPP]; exact fun _ _ h => h)
  have hcell : ∀ W, Below w.heap.size w W → (W.cell? ⟨g, a * 3, none⟩ = some (.int .i64 z.k) ∧ W.cell? ⟨g, a * 3 + 1, none⟩ = some (.int .i64 z.n) ∧ W.cell? ⟨g, a * 3 + 2, none⟩ = some (.string ⟨z.s.toArray⟩)) ∧ (W.frozen? ⟨g, a * 3, none⟩ = false ∧ W.frozen? ⟨g, a * 3 + 1, none⟩ = false ∧ W.frozen? ⟨g, a * 3 + 2, none⟩ = false) := by
    intro W hW
    have ho := hHH W hW
    unfold Own at ho
    rw [hn] at ho
    obtain ⟨f0, f1, f2⟩ := flatV_get r a z hz
    refine ⟨⟨?_, ?_, ?_⟩, ho.frozenAt _, ho.frozenAt _, ho.frozenAt _⟩
    · rw [ho.cellAt _ (by omega)]; exact f0
    · rw [ho.cellAt _ (by omega)]; exact f1
    · rw [ho.cellAt _ (by omega)]; exact f2
  have b0 : Below w.heap.size w (w.alloc (.cells #[.int .i64 3, .int .i64 a, .int .i64 ty, .int .i64 x.k, .int .i64 x.n, .string ⟨x.s.toArray⟩] 51)) := (Below.refl _ _).alloc (Nat.le_refl _) _
  obtain ⟨⟨c0, c1, c2⟩, -⟩ := hcell _ b0
  have ha' : (a : Int) < (n : Int) := by omega
  have HF := hide hfin
  have HC := hide hcell
  clear hfin hcell hHH h hz hPP
  go_enter Tryz.func77, Tryz.ntmps77
  go_wp2_with fail
  go_region_law (go_simp; refine (hc _ b0.drew).mono ?_; rintro e w2 ⟨rfl, b2⟩; have B2 := hide (b0.drew.trans (b2.mono (by simp))); obtain ⟨⟨d0, d1, d2⟩, f0, f1, f2⟩ := HC.out w2 B2.out; have m1 : w2.cell? ⟨w.heap.size, 1, none⟩ = some (.int .i64 a) := (b2.cell (by simp)).trans (by simp); have m2 : w2.cell? ⟨w.heap.size, 2, none⟩ = some (.int .i64 ty) := (b2.cell (by simp)).trans (by simp); clear b2; dsimp only)
  all_goals (go_wp2; exact HF.out w2 B2.out)

end Go.Proofs.YtcnnjladaoaeiaaGreatDoor
