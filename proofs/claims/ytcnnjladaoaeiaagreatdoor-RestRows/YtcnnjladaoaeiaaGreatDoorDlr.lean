/-
  'rowBehind' of package delta.
-/
import Derived.Test.YtcnnjladaoaeiaaGreatDoorDlc
import Derived.Deep.AppendLies
namespace Go.Proofs.YtcnnjladaoaeiaaGreatDoor
open Go.RowKit

/-- a row of one's own, behind what is below its block -/
theorem Own.kept_below {w w' : World} {B : Nat} {u : Value} {L : List Vl} (h : Own w B u L) (hb : Below w.heap.size w w') : Own w' B u L := by
  refine ⟨h.1, ?_⟩
  rcases h.2 with h' | ⟨g, cap, cur, hv, hB, hg, r⟩
  · exact .inl h'
  · exact .inr ⟨g, cap, cur, hv, hB, (hb.block g (Array.getElem?_eq_some_iff.1 hg).1).trans hg, r⟩

set_option maxRecDepth 100000 in
set_option maxHeartbeats 1600000 in
theorem row_1 (B : Nat) (u : Value) (r : List Vl) (a ty : Int) (x : Vl) (w : World) (h : Own w B u r) (hB : B ≤ w.heap.size) (hl : r.length ≤ 1000) :
    Calls Tryz.prog 77 #[u, dlV ⟨1, a, ty, x⟩] w fun e w' => ∃ v, e = .returned v ∧ Own w' B v (r ++ [x]) ∧ Below B w w' := by
  obtain ⟨i0, hi, hz0, hz1, hz2⟩ := info_parts Tryz.info_val
  have ho := h
  obtain ⟨ao, cap, rfl⟩ := owns_slice h
  have hlt := h.lt
  have b0 : Below B w ((w.alloc (.cells #[.int .i64 1, .int .i64 a, .int .i64 ty, .int .i64 x.k, .int .i64 x.n, .string ⟨x.s.toArray⟩] 51)).alloc (.cells #[.int .i64 x.k, .int .i64 x.n, .string ⟨x.s.toArray⟩] 49)) := ((Below.refl _ _).alloc hB _).alloc (by simp; omega) _
  have o2 := (h.alloc (.cells #[.int .i64 1, .int .i64 a, .int .i64 ty, .int .i64 x.k, .int .i64 x.n, .string ⟨x.s.toArray⟩] 51)).alloc (.cells #[.int .i64 x.k, .int .i64 x.n, .string ⟨x.s.toArray⟩] 49)
  have z1 : (w.alloc (.cells #[.int .i64 1, .int .i64 a, .int .i64 ty, .int .i64 x.k, .int .i64 x.n, .string ⟨x.s.toArray⟩] 51)).heap.size = w.heap.size + 1 := by simp
  have k2 := heap_alloc_new (w.alloc (.cells #[.int .i64 1, .int .i64 a, .int .i64 ty, .int .i64 x.k, .int .i64 x.n, .string ⟨x.s.toArray⟩] 51)) (.cells #[.int .i64 x.k, .int .i64 x.n, .string ⟨x.s.toArray⟩] 49)
  rw [z1] at k2
  have hn := World.news_of_block (cs := #[.int .i64 x.k, .int .i64 x.n, .string ⟨x.s.toArray⟩]) (t := 49) (fr := (0, 0)) k2
  have hfl : (r ++ [x]).flatMap vlC = r.flatMap vlC ++ [.int .i64 x.k, .int .i64 x.n, .string ⟨x.s.toArray⟩] := by simp [vlC]
  have HF : ∀ (v : Value) (w' : World), w'.ownsRow B 49 3 v (r.length + 1) (r.flatMap vlC ++ [.int .i64 x.k, .int .i64 x.n, .string ⟨x.s.toArray⟩]) → Own w' B v (r ++ [x]) := by
    intro v w' hh
    unfold Own
    rw [hfl, List.length_append]; exact hh
  have HF := hide HF
  unfold Own at o2
  obtain ⟨n, hn'⟩ : ∃ n, r.length = n := ⟨_, rfl⟩
  rw [hn'] at o2 hl HF hlt ⊢
  generalize r.flatMap vlC = fl at o2 HF
  clear h ho k2 hfl
  go_enter Tryz.func77, Tryz.ntmps77
  go_wp2_with (at_builtin; refine wpList_append_own _ rfl _ _ 41 rfl B 49 i0 (.agg #[.int .i64 0, .int .i64 0, .string ⟨#[]⟩]) 3 32 Tryz.underlying41 hi hz0 hz1 hz2 rfl (by decide) _ _ _ rfl o2 ⟨w.heap.size + 1, 0, none⟩ 1 1 [.int .i64 x.k, .int .i64 x.n, .string ⟨x.s.toArray⟩] rfl rfl hn (by intro y hy; simp only [List.mem_cons, List.not_mem_nil, or_false] at hy; rcases hy with rfl | rfl | rfl <;> rfl) ?c3 ?c4 ?c5 ?_)
  case c3 => unfold maxLen; omega
  case c4 => omega
  case c5 => first | omega | exact b0.size | exact Nat.le_trans hB b0.size
  intro v' w3 hown hgrow _
  have hb := b0.grown hgrow (by simp; omega) (fun j hj => (hlt j hj).1)
  clear hn b0 o2
  go_wp2
  go_ret
  exact ⟨_, rfl, HF.out _ _ hown, hb⟩

set_option maxRecDepth 100000 in
set_option maxHeartbeats 1600000 in
theorem row_2 (B : Nat) (u : Value) (r : List Vl) (a : Nat) (ty : Int) (x : Vl) (w : World) (h : Own w B u r) (hB : B ≤ w.heap.size) (hl : r.length ≤ 1000) (ha : a < r.length) :
    Calls Tryz.prog 77 #[u, dlV ⟨2, a, ty, x⟩] w fun e w' => ∃ v, e = .returned v ∧ Own w' B v (r.eraseIdx a) ∧ Below B w w' := by
  have b0 : Below B w (w.alloc (.cells #[.int .i64 2, .int .i64 a, .int .i64 ty, .int .i64 x.k, .int .i64 x.n, .string ⟨x.s.toArray⟩] 51)) := (Below.refl _ _).alloc hB _
  have hd := delete_any B u r a (a + 1) rfl ha _ (h.alloc (.cells #[.int .i64 2, .int .i64 a, .int .i64 ty, .int .i64 x.k, .int .i64 x.n, .string ⟨x.s.toArray⟩] 51)) hl
  rw [show ((a + 1 : Nat) : Int) = (a : Int) + 1 by omega] at hd
  obtain ⟨ao, cap, rfl⟩ := owns_slice h
  have ha' : (a : Int) ≤ 1000 := by omega
  unfold Own at hd ⊢
  generalize hP : (fun (v : Value) (w' : World) => w'.ownsRow B 49 3 v (r.eraseIdx a).length ((r.eraseIdx a).flatMap vlC)) = PP
  have hd2 := hd.mono (R' := fun e w' => ∃ v, e = .returned v ∧ PP v w' ∧ Below B (w.alloc (.cells #[.int .i64 2, .int .i64 a, .int .i64 ty, .int .i64 x.k, .int .i64 x.n, .string ⟨x.s.toArray⟩] 51)) w') (by rintro e w' ⟨v, h1, h2, h3⟩; exact ⟨v, h1, by rw [← hP]; exact h2, h3⟩)
  have hgoal : ∀ (e : Ending) (w' : World), (∃ v, e = .returned v ∧ PP v w' ∧ Below B w w') → (∃ v, e = .returned v ∧ w'.ownsRow B 49 3 v (r.eraseIdx a).length ((r.eraseIdx a).flatMap vlC) ∧ Below B w w') := by
    rintro e w' ⟨v, h1, h2, h3⟩
    exact ⟨v, h1, by rw [← hP] at h2; exact h2, h3⟩
  refine Calls.mono ?_ hgoal
  clear hd hgoal hP h
  go_enter Tryz.func77, Tryz.ntmps77
  go_wp2_with fail
  refine hd2.mono ?_
  rintro e w1 ⟨v, rfl, hv, b1⟩
  have HV := hide hv
  clear hd2 hv
  go_wp2
  go_ret
  exact ⟨_, rfl, HV.out, b0.trans b1⟩

end Go.Proofs.YtcnnjladaoaeiaaGreatDoor
