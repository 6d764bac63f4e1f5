/-
  'valueOf' of package expr: of an expression with Args.
-/
import Derived.Test.YtjmhkeooiimpfaaGreatDsp
import Derived.Deep.RegionHeld3
namespace Go.Proofs.YtjmhkeooiimpfaaGreat
open Go.RowKit

theorem Tryz.info_val : (Tryz.prog.info? 25).map (fun i => (i.zero, i.size, i.bytes)) = some (some (.agg #[.int .i64 0, .int .i64 0, .string ⟨#[]⟩]), 3, 32) := by kernel_rfl

theorem vs_of_own {w : World} {B : Nat} {v : Value} {xs : List Vl} (h : w.ownsRow B 25 3 v xs.length (xs.flatMap vlC)) (hn : xs.length ≤ 1000) (hs : ∀ x ∈ xs, x.s.length ≤ 140737488355328) : VsAt w v xs := by
  obtain ⟨ao, cap, e⟩ := owns_slice h
  refine ⟨ao, cap, e, by omega, hs, fun hne => ?_⟩
  obtain ⟨g, cap', e', -, hg⟩ := owns_some h (by intro e0; exact hne (List.eq_nil_of_length_eq_zero e0))
  rw [e] at e'
  cases e'
  refine ⟨g, 0, rfl, hg, fun i x hx => ?_⟩
  rw [e] at h
  have hlen := h.1
  have at' : ∀ q, q < 3 → w.cell? ⟨g, i * 3 + q, none⟩ = (vlC x)[q]? := by
    intro q hq
    have hi := (List.getElem?_eq_some_iff.1 hx).1
    have := h.cellAt (i * 3 + q) (by omega)
    rw [flat_get vlC 3 (fun _ => rfl) xs i x hx q hq] at this
    exact this
  rw [Nat.zero_add]
  exact ⟨at' 0 (by decide), at' 1 (by decide), at' 2 (by decide)⟩

theorem owned_below {w w' : World} {B : Nat} {v : Value} {n : Nat} {fl : List Value} (h : w.ownsRow B 25 3 v n fl) (hb : Below w.heap.size w w') : w'.ownsRow B 25 3 v n fl := by
  refine ⟨h.1, ?_⟩
  rcases h.2 with h' | ⟨g, cap, cur, hv, hB, hg, r⟩
  · exact .inl h'
  · exact .inr ⟨g, cap, cur, hv, hB, (hb.block g (Array.getElem?_eq_some_iff.1 hg).1).trans hg, r⟩

theorem info_parts3 {P : Program} {t : TypeId} {z : Value} {s b : Nat} (h : (P.info? t).map (fun i => (i.zero, i.size, i.bytes)) = some (some z, s, b)) : ∃ i, P.info? t = some i ∧ i.zero = some z ∧ i.size = s ∧ i.bytes = b := by
  cases e : P.info? t with
  | none => rw [e] at h; cases h
  | some i =>
    rw [e] at h
    simp only [Option.map_some, Option.some.injEq, Prod.mk.injEq] at h
    exact ⟨i, rfl, h.1, h.2.1, h.2.2⟩

set_option maxRecDepth 100000 in
set_option maxHeartbeats 800000 in
theorem vof_1 (cv rv : Value) (v : Vl) (nm : List UInt8) (ao : Option Addr) (n ca : Nat) (W : World) :
    Calls Tryz.prog 17 #[cv, rv, exL 1 v nm (.slice ao n ca)] W fun e w' => e = .returned (vlV v) ∧ Below W.heap.size W w' := by
  unfold vlV
  go_enter Tryz.func17, Tryz.ntmps17
  go_wp2
  refine bodyPost_ret (v := .agg #[.int .i64 v.k, .int .i64 v.n, .string ⟨v.s.toArray⟩]) ?_ rfl ⟨rfl, ?_⟩
  · simp [results, Tryz.results17, go_sem]
  · exact ((Below.refl _ _).alloc (Nat.le_refl _) _).alloc (by simp) _

set_option maxRecDepth 100000 in
set_option maxHeartbeats 1600000 in
theorem vof_2 (cv : Value) (g o cc m i : Nat) (x : Vl) (v : Vl) (nm : List UInt8) (ao : Option Addr) (n ca : Nat) (W : World) (hg : g < W.heap.size) (hi : i < m)
    (hx : W.cell? ⟨g, o + i * 3, none⟩ = some (.int .i64 x.k) ∧ W.cell? ⟨g, o + i * 3 + 1, none⟩ = some (.int .i64 x.n) ∧ W.cell? ⟨g, o + i * 3 + 2, none⟩ = some (.string ⟨x.s.toArray⟩))
    (hp : ∀ W' : World, Below W.heap.size W W' → Calls Tryz.prog 24 #[cv, .string ⟨nm.toArray⟩] W' fun e w' => e = .returned (.int .i64 (i : Nat)) ∧ Below W'.heap.size W' w') :
    Calls Tryz.prog 17 #[cv, .slice (some ⟨g, o, none⟩) m cc, exL 2 v nm (.slice ao n ca)] W fun e w' => e = .returned (vlV x) ∧ Below W.heap.size W w' := by
  have b0 := ((Below.refl W.heap.size W).alloc (Nat.le_refl _) (.cells #[.int .i64 2, .int .i64 v.k, .int .i64 v.n, .string ⟨v.s.toArray⟩, .string ⟨nm.toArray⟩, .slice ao n ca] 28)).alloc (by simp) (.cells #[.int .i64 0, .int .i64 0, .string ⟨#[]⟩] 25)
  have h1 := hp _ b0
  have hi' : (i : Int) < (m : Int) := by omega
  have c9 : ((W.alloc (.cells #[.int .i64 2, .int .i64 v.k, .int .i64 v.n, .string ⟨v.s.toArray⟩, .string ⟨nm.toArray⟩, .slice ao n ca] 28)).alloc (.cells #[.int .i64 0, .int .i64 0, .string ⟨#[]⟩] 25)).heap[W.heap.size + 1]? = some (.cells #[.int .i64 0, .int .i64 0, .string ⟨#[]⟩] 25) := by
    have hz : (W.alloc (.cells #[.int .i64 2, .int .i64 v.k, .int .i64 v.n, .string ⟨v.s.toArray⟩, .string ⟨nm.toArray⟩, .slice ao n ca] 28)).heap.size = W.heap.size + 1 := by simp
    rw [← hz]; exact heap_alloc_new _ _
  obtain ⟨x0, x1, x2⟩ := hx
  unfold vlV
  clear hp
  go_enter Tryz.func17, Tryz.ntmps17
  go_wp2_with fail
  refine h1.mono ?_
  rintro e w1 ⟨rfl, b1⟩
  have q1 : Below W.heap.size W w1 := b0.trans (b1.mono (by simp; omega))
  have c := (b1.block (W.heap.size + 1) (by simp)).trans c9
  have y0 := (q1.cell (p := ⟨g, o + i * 3, none⟩) hg).trans x0
  have y1 := (q1.cell (p := ⟨g, o + i * 3 + 1, none⟩) hg).trans x1
  have y2 := (q1.cell (p := ⟨g, o + i * 3 + 2, none⟩) hg).trans x2
  obtain ⟨⟨c0, c1, c2⟩, f0, f1, f2⟩ := three c
  obtain ⟨⟨d0, d1, d2⟩, -⟩ := three (three_set c (.int .i64 x.k) (.int .i64 x.n) (.string ⟨x.s.toArray⟩))
  clear h1 b0 b1 x0 x1 x2 c9 c
  go_wp2_with fail
  have q2 : Below W.heap.size W (((w1.setCell ⟨W.heap.size + 1, 0, none⟩ (.int .i64 x.k)).setCell ⟨W.heap.size + 1, 1, none⟩ (.int .i64 x.n)).setCell ⟨W.heap.size + 1, 2, none⟩ (.string ⟨x.s.toArray⟩)) := ((q1.setCell (by simp) _).setCell (by simp) _).setCell (by simp) _
  generalize (((w1.setCell ⟨W.heap.size + 1, 0, none⟩ (.int .i64 x.k)).setCell ⟨W.heap.size + 1, 1, none⟩ (.int .i64 x.n)).setCell ⟨W.heap.size + 1, 2, none⟩ (.string ⟨x.s.toArray⟩)) = w2 at *
  refine bodyPost_ret (v := .agg #[.int .i64 x.k, .int .i64 x.n, .string ⟨x.s.toArray⟩]) ?_ rfl ⟨rfl, q2⟩
  simp [results, Tryz.results17, go_sem, d0, d1, d2]

end Go.Proofs.YtjmhkeooiimpfaaGreat
