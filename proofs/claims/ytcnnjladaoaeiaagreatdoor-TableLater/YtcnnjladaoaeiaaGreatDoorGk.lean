/-
  Package table: Insert, where nothing is wrong.
  Package table: Insert of any table and any row.
  Package table: Insert, where nothing is wrong, of any table.
  A struct into a block, in one step.
  Package table: the numbers that Delete and Update take; whether a row is among them.
  Package table: slices.IndexFunc of rows, by a closure that asks a list of numbers.
  Package table: what slices.DeleteFunc of rows needs: clear of many, a store into rows of one's own, lists.
  Package table: slices.DeleteFunc of rows of one's own.
-/
import Derived.Deep.AppendLies
import Derived.Deep.MidRow
import Derived.Test.YtcnnjladaoaeiaaGreatDoorGa
import Derived.Test.YtcnnjladaoaeiaaGreatDoorGj

set_option maxRecDepth 100000
set_option maxHeartbeats 25600000
namespace Go.Proofs.YtcnnjladaoaeiaaGreatDoor
open Go.RowKit
def bumpX (nx : Int) (x : Ix) : Ix := if x.b = nx then { x with b := x.b + 1 } else x
theorem ixsC_setB : ∀ (L : List Ix) (evs : List Value) (i : Nat) (x : Ix) (k : Int), evs.length = L.length → L[i]? = some x → (ixsC L evs).set (i * 4 + 2) (.int .i64 k) = ixsC (L.set i { x with b := k }) evs
  | [], _, i, x, k, _, h => by simp at h
  | _ :: _, [], i, x, k, h, _ => by simp at h
  | y :: L, e :: evs, 0, x, k, h1, h2 => by simp at h2; subst h2; simp [ixsC, ixC]
  | y :: L, e :: evs, i + 1, x, k, h1, h2 => by
    have ih := ixsC_setB L evs i x k (by simpa using h1) (by simpa using h2)
    unfold ixsC at ih ⊢
    simp only [List.zipWith_cons_cons, List.flatten_cons, List.set_cons_succ]
    rw [← ih, List.set_append, if_neg (by simp [ixC]; omega)]
    congr 2
    simp [ixC]; omega
def grownT (t : Tb) (S : List UInt8) : Tb := { t with rows := t.rows ++ [⟨t.next, t.ds.length, S⟩], next := t.next + 1, ixs := t.ixs.map (bumpX t.next) }
theorem insert_raw (t : Tb) (S : List UInt8) (ca da ra ia : Option Addr) (cn dn rn xn cc dc rc ic : Nat) (l : Value) (w : World) (hx30 : t.ixs.length ≤ 1000) (hr30 : t.rows.length ≤ 1000) (hnx : -1000000 ≤ t.next ∧ t.next ≤ 1000000)
    (h48 : ∀ W : World, Below w.heap.size w W → Calls Tryz.prog 48 #[tbV t.name (.slice ca cn cc) (.slice da dn dc) (.slice ra rn rc) t.next (.slice ia xn ic), l] W fun e w' => e = .returned (.int .i64 0) ∧ Below W.heap.size W w')
    (h49 : ∀ W : World, Below w.heap.size w W → Calls Tryz.prog 49 #[tbV t.name (.slice ca cn cc) (.slice da dn dc) (.slice ra rn rc) t.next (.slice ia xn ic)] W fun e w' => ∃ cv dv rv iv, e = .returned (tbV t.name cv dv rv t.next iv) ∧ TbOwn w' W.heap.size cv dv rv iv t ∧ Below W.heap.size W w')
    (h50 : ∀ (W : World) (cv rv iv : Value) (a : Option Addr) (n c : Nat), Below w.heap.size w W → Calls Tryz.prog 50 #[tbV t.name cv (.slice a n c) rv t.next iv, .int .i64 t.next, l] W fun e w' => e = .returned (.agg #[.int .i64 t.next, .int .i64 n, .string ⟨S.toArray⟩]) ∧ Below W.heap.size W w')
    (h51 : ∀ (W : World) (cv dv rv iv : Value), Below w.heap.size w W → w.heap.size + 2 ≤ W.heap.size → TbOwn W (w.heap.size + 2) cv dv rv iv (grownT t S) → Calls Tryz.prog 51 #[tbV t.name cv dv rv (t.next + 1) iv] W fun e w' => e = .returned (tbV t.name cv dv rv (t.next + 1) iv) ∧ TbOwn w' (w.heap.size + 2) cv dv rv iv (indexedT (grownT t S)) ∧ Below w.heap.size w w' ∧ W.grownBy w' iv.ownBlock) :
    Calls Tryz.prog 13 #[tbV t.name (.slice ca cn cc) (.slice da dn dc) (.slice ra rn rc) t.next (.slice ia xn ic), l] w fun e w' => ∃ cv dv rv iv, e = .returned (.tuple #[tbV t.name cv dv rv (t.next + 1) iv, .int .i64 0]) ∧ TbOwn w' w.heap.size cv dv rv iv (indexedT (grownT t S)) ∧ Below w.heap.size w w' := by
  obtain ⟨i5, si, sz0, sz1, sz2⟩ := info_parts Tryz.info_st
  have b0 := ((Below.refl w.heap.size w).alloc (Nat.le_refl _) (.cells #[.string ⟨t.name.toArray⟩, .slice ca cn cc, .slice da dn dc, .slice ra rn rc, .int .i64 t.next, .slice ia xn ic] 27)).alloc (by simp) (.cells #[.string ⟨#[]⟩, .slice none 0 0, .slice none 0 0, .slice none 0 0, .int .i64 0, .slice none 0 0] 27)
  have k0 : ((w.alloc (.cells #[.string ⟨t.name.toArray⟩, .slice ca cn cc, .slice da dn dc, .slice ra rn rc, .int .i64 t.next, .slice ia xn ic] 27)).alloc (.cells #[.string ⟨#[]⟩, .slice none 0 0, .slice none 0 0, .slice none 0 0, .int .i64 0, .slice none 0 0] 27)).heap[w.heap.size]? = some (.cells #[.string ⟨t.name.toArray⟩, .slice ca cn cc, .slice da dn dc, .slice ra rn rc, .int .i64 t.next, .slice ia xn ic] 27) :=
    (((Below.refl (w.heap.size + 1) (w.alloc (.cells #[.string ⟨t.name.toArray⟩, .slice ca cn cc, .slice da dn dc, .slice ra rn rc, .int .i64 t.next, .slice ia xn ic] 27))).alloc (by simp) (.cells #[.string ⟨#[]⟩, .slice none 0 0, .slice none 0 0, .slice none 0 0, .int .i64 0, .slice none 0 0] 27)).block w.heap.size (by omega)).trans (heap_alloc_new _ _)
  have k1 : ((w.alloc (.cells #[.string ⟨t.name.toArray⟩, .slice ca cn cc, .slice da dn dc, .slice ra rn rc, .int .i64 t.next, .slice ia xn ic] 27)).alloc (.cells #[.string ⟨#[]⟩, .slice none 0 0, .slice none 0 0, .slice none 0 0, .int .i64 0, .slice none 0 0] 27)).heap[w.heap.size + 1]? = some (.cells #[.string ⟨#[]⟩, .slice none 0 0, .slice none 0 0, .slice none 0 0, .int .i64 0, .slice none 0 0] 27) := by
    have hz : (w.alloc (.cells #[.string ⟨t.name.toArray⟩, .slice ca cn cc, .slice da dn dc, .slice ra rn rc, .int .i64 t.next, .slice ia xn ic] 27)).heap.size = w.heap.size + 1 := by simp
    rw [← hz]; exact heap_alloc_new _ _
  have hz0 : ((w.alloc (.cells #[.string ⟨t.name.toArray⟩, .slice ca cn cc, .slice da dn dc, .slice ra rn rc, .int .i64 t.next, .slice ia xn ic] 27)).alloc (.cells #[.string ⟨#[]⟩, .slice none 0 0, .slice none 0 0, .slice none 0 0, .int .i64 0, .slice none 0 0] 27)).heap.size = w.heap.size + 2 := by simp
  unfold tbV at *
  go_enter Tryz.func13, Tryz.ntmps13
  generalize hW0 : ((w.alloc (.cells #[.string ⟨t.name.toArray⟩, .slice ca cn cc, .slice da dn dc, .slice ra rn rc, .int .i64 t.next, .slice ia xn ic] 27)).alloc (.cells #[.string ⟨#[]⟩, .slice none 0 0, .slice none 0 0, .slice none 0 0, .int .i64 0, .slice none 0 0] 27)) = w0 at b0 k0 k1 hz0
  have HW0 := hide hW0
  obtain ⟨x0, x1, x2, x3, x4, x5⟩ := six_in k0
  clear hW0
  go_wp2_with fail
  rw [HW0.out]
  refine (h48 _ b0).mono ?_
  rintro e w1 ⟨rfl, b1⟩
  have q1 : Below w.heap.size w w1 := b0.trans (b1.mono b0.size)
  have ka := (b1.block w.heap.size (by omega)).trans k0
  have la := (b1.block (w.heap.size + 1) (by omega)).trans k1
  have za : w.heap.size + 2 ≤ w1.heap.size := by have := b1.size; omega
  clear x0 x1 x2 x3 x4 x5 h48 b1 k0 k1 hz0
  obtain ⟨x0, x1, x2, x3, x4, x5⟩ := six_in ka
  go_wp2_with fail
  refine (h49 _ q1).mono ?_
  rintro e w2 ⟨cv, dv, rv, iv, rfl, own, b2⟩
  have q2 : Below w.heap.size w w2 := q1.trans (b2.mono q1.size)
  have kb := (b2.block w.heap.size (by omega)).trans ka
  have lb := (b2.block (w.heap.size + 1) (by omega)).trans la
  have zb : w.heap.size + 2 ≤ w2.heap.size := by have := b2.size; omega
  obtain ⟨oc, od, or, evs, e1, oi, oe⟩ := own.lower za
  obtain ⟨cn_, hcn⟩ : ∃ n, t.cols.length = n := ⟨_, rfl⟩
  obtain ⟨dn_, hdn⟩ : ∃ n, t.ds.length = n := ⟨_, rfl⟩
  obtain ⟨rn_, hrn⟩ : ∃ n, t.rows.length = n := ⟨_, rfl⟩
  obtain ⟨xn_, hxn⟩ : ∃ n, t.ixs.length = n := ⟨_, rfl⟩
  rw [hcn] at oc
  rw [hdn] at od
  rw [hrn] at or hr30
  rw [hxn] at oi e1 hx30
  obtain ⟨ca_, cc_, hce⟩ := owns_slice oc
  obtain ⟨da_, dc_, hde⟩ := owns_slice od
  obtain ⟨ra_, rc_, hre⟩ := owns_slice or
  obtain ⟨ia_, ic_, hie⟩ := owns_slice oi
  subst hce hde hre hie
  have HCN := hide hcn
  have HDN := hide hdn
  have HRN := hide hrn
  have HXN := hide hxn
  have HE1 := hide e1
  clear hcn hdn hrn hxn own e1 h49 b2 ka la x0 x1 x2 x3 x4 x5
  obtain ⟨x0, x1, x2, x3, x4, x5⟩ := six_in kb
  have f0 := six_frz kb 0
  have f1 := six_frz kb 1
  have f2 := six_frz kb 2
  have f3 := six_frz kb 3
  have f4 := six_frz kb 4
  have f5 := six_frz kb 5
  have g0 := heap_setCell_same w2 (w.heap.size) 0 _ 27 (.string ⟨t.name.toArray⟩) kb
  have g1 := heap_setCell_same _ (w.heap.size) 1 _ 27 (.slice ca_ cn_ cc_) g0
  have g2 := heap_setCell_same _ (w.heap.size) 2 _ 27 (.slice da_ dn_ dc_) g1
  have g3 := heap_setCell_same _ (w.heap.size) 3 _ 27 (.slice ra_ rn_ rc_) g2
  have g4 := heap_setCell_same _ (w.heap.size) 4 _ 27 (.int .i64 t.next) g3
  have g5 := heap_setCell_same _ (w.heap.size) 5 _ 27 (.slice ia_ xn_ ic_) g4
  have kc : ((((((w2.setCell ⟨w.heap.size, 0, none⟩ (.string ⟨t.name.toArray⟩)).setCell ⟨w.heap.size, 1, none⟩ (.slice ca_ cn_ cc_)).setCell ⟨w.heap.size, 2, none⟩ (.slice da_ dn_ dc_)).setCell ⟨w.heap.size, 3, none⟩ (.slice ra_ rn_ rc_)).setCell ⟨w.heap.size, 4, none⟩ (.int .i64 t.next)).setCell ⟨w.heap.size, 5, none⟩ (.slice ia_ xn_ ic_)).heap[w.heap.size]? = some (.cells #[.string ⟨t.name.toArray⟩, .slice ca_ cn_ cc_, .slice da_ dn_ dc_, .slice ra_ rn_ rc_, .int .i64 t.next, .slice ia_ xn_ ic_] 27) := by simpa using g5
  have lc : ((((((w2.setCell ⟨w.heap.size, 0, none⟩ (.string ⟨t.name.toArray⟩)).setCell ⟨w.heap.size, 1, none⟩ (.slice ca_ cn_ cc_)).setCell ⟨w.heap.size, 2, none⟩ (.slice da_ dn_ dc_)).setCell ⟨w.heap.size, 3, none⟩ (.slice ra_ rn_ rc_)).setCell ⟨w.heap.size, 4, none⟩ (.int .i64 t.next)).setCell ⟨w.heap.size, 5, none⟩ (.slice ia_ xn_ ic_)).heap[w.heap.size + 1]? = some (.cells #[.string ⟨#[]⟩, .slice none 0 0, .slice none 0 0, .slice none 0 0, .int .i64 0, .slice none 0 0] 27) := ((heap_setCell_other _ _ _ _ (by simp)).trans ((heap_setCell_other _ _ _ _ (by simp)).trans ((heap_setCell_other _ _ _ _ (by simp)).trans ((heap_setCell_other _ _ _ _ (by simp)).trans ((heap_setCell_other _ _ _ _ (by simp)).trans ((heap_setCell_other _ _ _ _ (by simp)).trans lb))))))
  have qc : Below w.heap.size w ((((((w2.setCell ⟨w.heap.size, 0, none⟩ (.string ⟨t.name.toArray⟩)).setCell ⟨w.heap.size, 1, none⟩ (.slice ca_ cn_ cc_)).setCell ⟨w.heap.size, 2, none⟩ (.slice da_ dn_ dc_)).setCell ⟨w.heap.size, 3, none⟩ (.slice ra_ rn_ rc_)).setCell ⟨w.heap.size, 4, none⟩ (.int .i64 t.next)).setCell ⟨w.heap.size, 5, none⟩ (.slice ia_ xn_ ic_)) := ((((((q2.setCell (p := ⟨w.heap.size, 0, none⟩) (Nat.le_refl w.heap.size) (.string ⟨t.name.toArray⟩)).setCell (p := ⟨w.heap.size, 1, none⟩) (Nat.le_refl w.heap.size) (.slice ca_ cn_ cc_)).setCell (p := ⟨w.heap.size, 2, none⟩) (Nat.le_refl w.heap.size) (.slice da_ dn_ dc_)).setCell (p := ⟨w.heap.size, 3, none⟩) (Nat.le_refl w.heap.size) (.slice ra_ rn_ rc_)).setCell (p := ⟨w.heap.size, 4, none⟩) (Nat.le_refl w.heap.size) (.int .i64 t.next)).setCell (p := ⟨w.heap.size, 5, none⟩) (Nat.le_refl w.heap.size) (.slice ia_ xn_ ic_))
  have oc_ := hide (owns_put0 (owns_put0 (owns_put0 (owns_put0 (owns_put0 (owns_put0 oc (show w.heap.size < w.heap.size + 2 by omega) 0 (.string ⟨t.name.toArray⟩)) (show w.heap.size < w.heap.size + 2 by omega) 1 (.slice ca_ cn_ cc_)) (show w.heap.size < w.heap.size + 2 by omega) 2 (.slice da_ dn_ dc_)) (show w.heap.size < w.heap.size + 2 by omega) 3 (.slice ra_ rn_ rc_)) (show w.heap.size < w.heap.size + 2 by omega) 4 (.int .i64 t.next)) (show w.heap.size < w.heap.size + 2 by omega) 5 (.slice ia_ xn_ ic_))
  have od_ := hide (owns_put0 (owns_put0 (owns_put0 (owns_put0 (owns_put0 (owns_put0 od (show w.heap.size < w.heap.size + 2 by omega) 0 (.string ⟨t.name.toArray⟩)) (show w.heap.size < w.heap.size + 2 by omega) 1 (.slice ca_ cn_ cc_)) (show w.heap.size < w.heap.size + 2 by omega) 2 (.slice da_ dn_ dc_)) (show w.heap.size < w.heap.size + 2 by omega) 3 (.slice ra_ rn_ rc_)) (show w.heap.size < w.heap.size + 2 by omega) 4 (.int .i64 t.next)) (show w.heap.size < w.heap.size + 2 by omega) 5 (.slice ia_ xn_ ic_))
  have or_ := hide (owns_put0 (owns_put0 (owns_put0 (owns_put0 (owns_put0 (owns_put0 or (show w.heap.size < w.heap.size + 2 by omega) 0 (.string ⟨t.name.toArray⟩)) (show w.heap.size < w.heap.size + 2 by omega) 1 (.slice ca_ cn_ cc_)) (show w.heap.size < w.heap.size + 2 by omega) 2 (.slice da_ dn_ dc_)) (show w.heap.size < w.heap.size + 2 by omega) 3 (.slice ra_ rn_ rc_)) (show w.heap.size < w.heap.size + 2 by omega) 4 (.int .i64 t.next)) (show w.heap.size < w.heap.size + 2 by omega) 5 (.slice ia_ xn_ ic_))
  have oi_ := hide (owns_put0 (owns_put0 (owns_put0 (owns_put0 (owns_put0 (owns_put0 oi (show w.heap.size < w.heap.size + 2 by omega) 0 (.string ⟨t.name.toArray⟩)) (show w.heap.size < w.heap.size + 2 by omega) 1 (.slice ca_ cn_ cc_)) (show w.heap.size < w.heap.size + 2 by omega) 2 (.slice da_ dn_ dc_)) (show w.heap.size < w.heap.size + 2 by omega) 3 (.slice ra_ rn_ rc_)) (show w.heap.size < w.heap.size + 2 by omega) 4 (.int .i64 t.next)) (show w.heap.size < w.heap.size + 2 by omega) 5 (.slice ia_ xn_ ic_))
  have oe_ : Hid (∀ (i : Nat) ev x, evs[i]? = some ev → t.ixs[i]? = some x → ((((((w2.setCell ⟨w.heap.size, 0, none⟩ (.string ⟨t.name.toArray⟩)).setCell ⟨w.heap.size, 1, none⟩ (.slice ca_ cn_ cc_)).setCell ⟨w.heap.size, 2, none⟩ (.slice da_ dn_ dc_)).setCell ⟨w.heap.size, 3, none⟩ (.slice ra_ rn_ rc_)).setCell ⟨w.heap.size, 4, none⟩ (.int .i64 t.next)).setCell ⟨w.heap.size, 5, none⟩ (.slice ia_ xn_ ic_)).ownsRow (w.heap.size + 2) 111 2 ev x.es.length (x.es.flatMap clC)) := hide fun i ev x a b => (owns_put0 (owns_put0 (owns_put0 (owns_put0 (owns_put0 (owns_put0 (oe i ev x a b) (show w.heap.size < w.heap.size + 2 by omega) 0 (.string ⟨t.name.toArray⟩)) (show w.heap.size < w.heap.size + 2 by omega) 1 (.slice ca_ cn_ cc_)) (show w.heap.size < w.heap.size + 2 by omega) 2 (.slice da_ dn_ dc_)) (show w.heap.size < w.heap.size + 2 by omega) 3 (.slice ra_ rn_ rc_)) (show w.heap.size < w.heap.size + 2 by omega) 4 (.int .i64 t.next)) (show w.heap.size < w.heap.size + 2 by omega) 5 (.slice ia_ xn_ ic_))
  have zc : w.heap.size + 2 ≤ ((((((w2.setCell ⟨w.heap.size, 0, none⟩ (.string ⟨t.name.toArray⟩)).setCell ⟨w.heap.size, 1, none⟩ (.slice ca_ cn_ cc_)).setCell ⟨w.heap.size, 2, none⟩ (.slice da_ dn_ dc_)).setCell ⟨w.heap.size, 3, none⟩ (.slice ra_ rn_ rc_)).setCell ⟨w.heap.size, 4, none⟩ (.int .i64 t.next)).setCell ⟨w.heap.size, 5, none⟩ (.slice ia_ xn_ ic_)).heap.size := by simpa [World.setCell] using zb
  clear g0 g1 g2 g3 g4 g5 oc od or oi oe q2 kb lb
  obtain ⟨y0, y1, y2, y3, y4, y5⟩ := six_in kc
  go_wp2_with fail
  generalize ((((((w2.setCell ⟨w.heap.size, 0, none⟩ (.string ⟨t.name.toArray⟩)).setCell ⟨w.heap.size, 1, none⟩ (.slice ca_ cn_ cc_)).setCell ⟨w.heap.size, 2, none⟩ (.slice da_ dn_ dc_)).setCell ⟨w.heap.size, 3, none⟩ (.slice ra_ rn_ rc_)).setCell ⟨w.heap.size, 4, none⟩ (.int .i64 t.next)).setCell ⟨w.heap.size, 5, none⟩ (.slice ia_ xn_ ic_)) = w3 at *
  clear x0 x1 x2 x3 x4 x5 f0 f1 f2 f3 f4 f5 y0 y1 y2 y3 y4 y5 zb
  go_loopw [21] (fun i wl => ∃ (k : Nat) (M : List Ix), k ≤ xn_ ∧ i = .int .i64 k ∧ Hid (M.length = xn_) ∧ Hid (∀ j : Nat, k ≤ j → M[j]? = t.ixs[j]?) ∧ Hid (∀ j : Nat, j < k → M[j]? = (t.ixs[j]?).map (bumpX t.next)) ∧ Hid (wl.ownsRow (w.heap.size + 2) 73 4 (.slice ia_ xn_ ic_) xn_ (ixsC M evs)) ∧ w3.grownBy wl (Value.slice ia_ xn_ ic_).ownBlock) (fun i _ => xn_ - (intOf i).toNat)
  case atStart => exact ⟨0, t.ixs, Nat.zero_le _, rfl, HXN, fun _ _ => rfl, fun j hj => absurd hj (Nat.not_lt_zero _), oi_, grown_refl _ _⟩
  case round =>
    obtain ⟨k, M, hk, rfl, HN, HT, HV, HO, hg⟩ := hrel
    have hne0 : (Value.slice ia_ xn_ ic_).ownBlock ≠ some w.heap.size := fun e => by have := (oi_.out.lt _ e).1; omega
    have hne1 : (Value.slice ia_ xn_ ic_).ownBlock ≠ some (w.heap.size + 1) := fun e => by have := (oi_.out.lt _ e).1; omega
    have kr := (hg.block w.heap.size (by omega) (fun e => hne0 e.symm)).trans kc
    have lr := (hg.block (w.heap.size + 1) (by omega) (fun e => hne1 e.symm)).trans lc
    have zr : w.heap.size + 2 ≤ wr.heap.size := by have := hg.size; omega
    obtain ⟨x0, x1, x2, x3, x4, x5⟩ := six_in kr
    by_cases hlt : k < xn_
    · obtain ⟨x, hx⟩ : ∃ x, t.ixs[k]? = some x := ⟨t.ixs[k]'(by rw [HXN.out]; exact hlt), List.getElem?_eq_getElem _⟩
      have hM : M[k]? = some x := (HT.out k (Nat.le_refl _)).trans hx
      obtain ⟨ev, hev⟩ : ∃ x, evs[k]? = some x := ⟨evs[k]'(by rw [HE1.out]; exact hlt), List.getElem?_eq_getElem _⟩
      obtain ⟨gi, gc, hge, hgB, hgl⟩ := owns_some HO.out (by omega)
      cases hge
      have c2 : wr.cell? ⟨gi, k * 4 + 2, none⟩ = some (.int .i64 x.b) := by
        have := HO.out.cellAt (k * 4 + 2) (by omega)
        rw [ixsC_get M evs k x _ hM hev 2 (by decide)] at this
        exact this
      obtain ⟨-, fz⟩ := own_at HO.out (k * 4 + 2) (by omega)
      have hlt' : (k : Int) < (xn_ : Int) := by omega
      have HM := hide hM
      have HX := hide hx
      have d2 : wr.drew.cell? ⟨gi, k * 4 + 2, none⟩ = some (.int .i64 x.b) := c2
      have d4 : wr.drew.cell? ⟨w.heap.size, 4, none⟩ = some (.int .i64 t.next) := x4
      have dz : wr.drew.frozen? ⟨gi, k * 4 + 2, none⟩ = false := fz
      have gd : wr.grownBy wr.drew (Value.slice (some ⟨gi, 0, none⟩) xn_ ic_).ownBlock := ⟨rfl, rfl, rfl, Nat.le_refl _, fun _ _ _ => rfl⟩
      clear hx hM hev kr lr
      by_cases hb : x.b = t.next
      · have HB := hide hb
        have hxb : x.b ≤ 1000000 := by omega
        have hxb' : -1000000 ≤ x.b := by omega
        rw [hb] at c2 d2
        go_wp2_with fail
        go_region
        all_goals
          go_wp2
          go_roundw
          case rel =>
            refine ⟨k + 1, M.set k { x with b := t.next + 1 }, by omega, by go_num, by rw [Hid, List.length_set]; exact HN.out, fun j hj => ?_, fun j hj => ?_, ?_, ?_⟩
            · rw [List.getElem?_set_ne (by omega)]; exact HT.out j (by omega)
            · rcases Nat.lt_or_ge j k with h | h
              · rw [List.getElem?_set_ne (by omega)]; exact HV.out j h
              · obtain rfl : j = k := by omega
                rw [List.getElem?_set_self (by rw [HN.out]; exact hlt), HX.out]
                simp [bumpX, HB.out]
            · rw [Hid, ← ixsC_setB M evs k x _ (by rw [HE1.out, HN.out]) HM.out]
              first
                | exact own_put HO.out (k * 4 + 2) _
                | exact own_put (owns_keep HO.out ((Below.refl wr.heap.size wr).drew)) (k * 4 + 2) _
            · first
                | exact grown_trans hg (grown_set wr gi (k * 4 + 2) _)
                | exact grown_trans (grown_trans hg gd) (grown_set wr.drew gi (k * 4 + 2) _)
          case measure => simp [intOf]; omega
      · have HB := hide hb
        have hb1 : (x.b == t.next) = false := by simpa using hb
        go_wp2_with fail
        go_region
        all_goals
          go_wp2
          go_roundw
          case rel =>
            refine ⟨k + 1, M, by omega, by go_num, HN, fun j hj => HT.out j (by omega), fun j hj => ?_, ?_, ?_⟩
            · rcases Nat.lt_or_ge j k with h | h
              · exact HV.out j h
              · obtain rfl : j = k := by omega
                rw [HM.out, HX.out]
                have := HB.out
                simp [bumpX, this]
            · first
                | exact HO
                | exact hide (owns_keep HO.out ((Below.refl wr.heap.size wr).drew))
            · first
                | exact hg
                | exact grown_trans hg gd
          case measure => simp [intOf]; omega
    · obtain rfl : k = xn_ := by omega
      have hM : M = t.ixs.map (bumpX t.next) := by
        apply List.ext_getElem?
        intro j
        rw [List.getElem?_map]
        rcases Nat.lt_or_ge j k with h | h
        · exact HV.out j h
        · have h1 := HN.out
          have h2 := HXN.out
          rw [List.getElem?_eq_none (by omega), List.getElem?_eq_none (by omega)]; rfl
      subst hM
      have O1 := hide (owns_other oc_.out oi_.out (by decide) hg)
      have O2 := hide (owns_other od_.out oi_.out (by decide) hg)
      have O3 := hide (owns_other or_.out oi_.out (by decide) hg)
      have O5 : Hid (∀ (i : Nat) ev x, evs[i]? = some ev → t.ixs[i]? = some x → wr.ownsRow (w.heap.size + 2) 111 2 ev x.es.length (x.es.flatMap clC)) := hide fun i ev x a b => owns_other (oe_.out i ev x a b) oi_.out (by decide) hg
      have q4 : Below w.heap.size w wr := qc.grown hg qc.size (fun j hj => by have := (oi_.out.lt j hj).1; omega)
      clear oc_ od_ or_ oe_ oi_ hg HT HV HN qc kc lc zc
      have OK3 : Hid (wr.ownsRow (w.heap.size + 2) 39 3 (.slice ra_ rn_ rc_) rn_ (t.rows.flatMap vlC)) := O3
      have h50a := h50 wr (.slice ca_ cn_ cc_) (.slice ra_ rn_ rc_) (.slice ia_ k ic_) da_ dn_ dc_ q4
      have h50b := h50 wr.drew (.slice ca_ cn_ cc_) (.slice ra_ rn_ rc_) (.slice ia_ k ic_) da_ dn_ dc_ q4.drew
      obtain ⟨hn1, hn2⟩ := hnx
      clear h50
      go_wp2_with fail
      go_region_law (first | (refine step_append_lies _ (by rfl) _ _ _ (by rfl) (w.heap.size + 2) 39 i5 _ 3 32 Tryz.underlying24 si sz0 sz1 sz2 rfl (by omega) (.slice ra_ rn_ rc_) rn_ (t.rows.flatMap vlC) (by rfl) (OR5.out.alloc _) ⟨w5.heap.size, 0, none⟩ 1 1 [.int .i64 t.next, .int .i64 dn_, .string ⟨S.toArray⟩] (by rfl) (by rfl) (World.news_of_block (cs := #[.int .i64 t.next, .int .i64 dn_, .string ⟨S.toArray⟩]) (t := 39) (fr := (0, 0)) (heap_alloc_new w5 _)) (by simp [Value.oneCell']) (by omega) (by unfold maxLen; omega) (by omega) (by simp; omega) (w5.heap.size + 1) (by simp) ?_; intro gg cap' w6 hown hgrow hgg hglt; have hne6 : (Value.slice ra_ rn_ rc_).ownBlock ≠ some w.heap.size := (fun e => by have := (OR5.out.lt _ e).1; omega); have k6 := (hgrow.block w.heap.size (by simp; omega) (fun e => hne6 e.symm)).trans ((((Below.refl w5.heap.size w5).alloc (Nat.le_refl _) (.cells #[.int .i64 t.next, .int .i64 dn_, .string ⟨S.toArray⟩] 39)).block w.heap.size (by omega)).trans k5); obtain ⟨y0, y1, y2, y3, y4, y5⟩ := six_in k6; have fz3 := six_frz k6 3) | (go_simp; refine (by first | exact h50a | exact h50b : Calls Tryz.prog 50 _ _ _).mono ?_; rintro e w5 ⟨rfl, b5⟩; have B5 : Hid (Below wr.heap.size wr w5) := hide (by first | exact b5 | exact ((Below.refl wr.heap.size wr).drew.trans (b5.mono (by simp)))); have k5 := (B5.out.block w.heap.size (by omega)).trans kr; have z5 : w.heap.size + 2 ≤ w5.heap.size := (by have := B5.out.size; omega); have z5' : w.heap.size < w5.heap.size := (by omega); have OR5 := hide (owns_keep OK3.out B5.out); obtain ⟨u0, u1, u2, u3, u4, u5⟩ := six_in k5; clear b5; dsimp only))
      all_goals
        have sg := hgrow.size
        have s6 : w.heap.size + 2 ≤ w6.heap.size := by simp at sg; omega
        have q5 : Below w.heap.size w w5 := q4.trans (B5.out.mono q4.size)
        have l5 := (B5.out.block (w.heap.size + 1) (by omega)).trans lr
        have l6 := (hgrow.block (w.heap.size + 1) (by simp; omega) (fun e => by have := (OR5.out.lt _ e.symm).1; omega)).trans ((((Below.refl w5.heap.size w5).alloc (Nat.le_refl _) (.cells #[.int .i64 t.next, .int .i64 dn_, .string ⟨S.toArray⟩] 39)).block (w.heap.size + 1) (by omega)).trans l5)
        have q6 : Below w.heap.size w w6 := (q5.alloc q5.size (.cells #[.int .i64 t.next, .int .i64 dn_, .string ⟨S.toArray⟩] 39)).grown hgrow (by simp; omega) (fun j hj => by have := (OR5.out.lt j hj).1; omega)
        have k7 : (w6.setCell ⟨w.heap.size, 3, none⟩ (.slice (some ⟨gg, 0, none⟩) (rn_ + 1) cap')).heap[w.heap.size]? = some (.cells #[.string ⟨t.name.toArray⟩, .slice ca_ cn_ cc_, .slice da_ dn_ dc_, .slice (some ⟨gg, 0, none⟩) (rn_ + 1) cap', .int .i64 t.next, .slice ia_ k ic_] 27) := by
          have := heap_setCell_same w6 w.heap.size 3 _ 27 (.slice (some ⟨gg, 0, none⟩) (rn_ + 1) cap') k6
          simpa using this
        have k8 : ((w6.setCell ⟨w.heap.size, 3, none⟩ (.slice (some ⟨gg, 0, none⟩) (rn_ + 1) cap')).setCell ⟨w.heap.size, 4, none⟩ (.int .i64 (t.next + 1))).heap[w.heap.size]? = some (.cells #[.string ⟨t.name.toArray⟩, .slice ca_ cn_ cc_, .slice da_ dn_ dc_, .slice (some ⟨gg, 0, none⟩) (rn_ + 1) cap', .int .i64 (t.next + 1), .slice ia_ k ic_] 27) := by
          have := heap_setCell_same _ w.heap.size 4 _ 27 (.int .i64 (t.next + 1)) k7
          simpa using this
        have l8 : ((w6.setCell ⟨w.heap.size, 3, none⟩ (.slice (some ⟨gg, 0, none⟩) (rn_ + 1) cap')).setCell ⟨w.heap.size, 4, none⟩ (.int .i64 (t.next + 1))).heap[w.heap.size + 1]? = some (.cells #[.string ⟨#[]⟩, .slice none 0 0, .slice none 0 0, .slice none 0 0, .int .i64 0, .slice none 0 0] 27) := (heap_setCell_other _ _ _ _ (by simp)).trans ((heap_setCell_other _ _ _ _ (by simp)).trans l6)
        have q8 : Below w.heap.size w ((w6.setCell ⟨w.heap.size, 3, none⟩ (.slice (some ⟨gg, 0, none⟩) (rn_ + 1) cap')).setCell ⟨w.heap.size, 4, none⟩ (.int .i64 (t.next + 1))) := (q6.setCell (p := ⟨w.heap.size, 3, none⟩) (Nat.le_refl w.heap.size) _).setCell (p := ⟨w.heap.size, 4, none⟩) (Nat.le_refl w.heap.size) _
        have s8 : w.heap.size + 2 ≤ ((w6.setCell ⟨w.heap.size, 3, none⟩ (.slice (some ⟨gg, 0, none⟩) (rn_ + 1) cap')).setCell ⟨w.heap.size, 4, none⟩ (.int .i64 (t.next + 1))).heap.size := by simpa [World.setCell] using s6
        have OI8 := (owns_put0 (owns_put0 (owns_other (owns_keep (owns_keep HO.out B5.out) ((Below.refl w5.heap.size w5).alloc (Nat.le_refl _) (.cells #[.int .i64 t.next, .int .i64 dn_, .string ⟨S.toArray⟩] 39))) (owns_keep OR5.out ((Below.refl w5.heap.size w5).alloc (Nat.le_refl _) (.cells #[.int .i64 t.next, .int .i64 dn_, .string ⟨S.toArray⟩] 39))) (by decide) hgrow) (show w.heap.size < w.heap.size + 2 by omega) 3 (.slice (some ⟨gg, 0, none⟩) (rn_ + 1) cap')) (show w.heap.size < w.heap.size + 2 by omega) 4 (.int .i64 (t.next + 1)))
        have T8 : TbOwn ((w6.setCell ⟨w.heap.size, 3, none⟩ (.slice (some ⟨gg, 0, none⟩) (rn_ + 1) cap')).setCell ⟨w.heap.size, 4, none⟩ (.int .i64 (t.next + 1))) (w.heap.size + 2) (.slice ca_ cn_ cc_) (.slice da_ dn_ dc_) (.slice (some ⟨gg, 0, none⟩) (rn_ + 1) cap') (.slice ia_ k ic_) (grownT t S) := by
          refine ⟨?_, ?_, ?_, evs, ?_, ?_, ?_⟩
          · show World.ownsRow _ _ 65 2 _ t.cols.length (t.cols.flatMap clC)
            rw [HCN.out]
            exact (owns_put0 (owns_put0 (owns_other (owns_keep (owns_keep O1.out B5.out) ((Below.refl w5.heap.size w5).alloc (Nat.le_refl _) (.cells #[.int .i64 t.next, .int .i64 dn_, .string ⟨S.toArray⟩] 39))) (owns_keep OR5.out ((Below.refl w5.heap.size w5).alloc (Nat.le_refl _) (.cells #[.int .i64 t.next, .int .i64 dn_, .string ⟨S.toArray⟩] 39))) (by decide) hgrow) (show w.heap.size < w.heap.size + 2 by omega) 3 (.slice (some ⟨gg, 0, none⟩) (rn_ + 1) cap')) (show w.heap.size < w.heap.size + 2 by omega) 4 (.int .i64 (t.next + 1)))
          · show World.ownsRow _ _ 51 6 _ t.ds.length (t.ds.flatMap dlC)
            rw [HDN.out]
            exact (owns_put0 (owns_put0 (owns_other (owns_keep (owns_keep O2.out B5.out) ((Below.refl w5.heap.size w5).alloc (Nat.le_refl _) (.cells #[.int .i64 t.next, .int .i64 dn_, .string ⟨S.toArray⟩] 39))) (owns_keep OR5.out ((Below.refl w5.heap.size w5).alloc (Nat.le_refl _) (.cells #[.int .i64 t.next, .int .i64 dn_, .string ⟨S.toArray⟩] 39))) (by decide) hgrow) (show w.heap.size < w.heap.size + 2 by omega) 3 (.slice (some ⟨gg, 0, none⟩) (rn_ + 1) cap')) (show w.heap.size < w.heap.size + 2 by omega) 4 (.int .i64 (t.next + 1)))
          · show World.ownsRow _ _ 39 3 _ (t.rows ++ [(⟨t.next, t.ds.length, S⟩ : Vl)]).length ((t.rows ++ [(⟨t.next, t.ds.length, S⟩ : Vl)]).flatMap vlC)
            have e : (t.rows ++ [(⟨t.next, t.ds.length, S⟩ : Vl)]).flatMap vlC = t.rows.flatMap vlC ++ [.int .i64 t.next, .int .i64 dn_, .string ⟨S.toArray⟩] := by
              rw [List.flatMap_append, ← HDN.out]; simp [vlC]
            rw [e, List.length_append, HRN.out]
            exact (owns_put0 (owns_put0 hown (show w.heap.size < w.heap.size + 2 by omega) 3 (.slice (some ⟨gg, 0, none⟩) (rn_ + 1) cap')) (show w.heap.size < w.heap.size + 2 by omega) 4 (.int .i64 (t.next + 1)))
          · show evs.length = (t.ixs.map (bumpX t.next)).length
            rw [List.length_map, HXN.out, HE1.out]
          · show World.ownsRow _ _ 73 4 _ (t.ixs.map (bumpX t.next)).length (ixsC (t.ixs.map (bumpX t.next)) evs)
            rw [List.length_map, HXN.out]
            exact OI8
          · intro i ev x' ha hb
            have hb' : (t.ixs.map (bumpX t.next))[i]? = some x' := hb
            rw [List.getElem?_map] at hb'
            obtain ⟨x, hx, rfl⟩ := Option.map_eq_some_iff.1 hb'
            have hes : (bumpX t.next x).es = x.es := by unfold bumpX; split <;> rfl
            rw [hes]
            exact (owns_put0 (owns_put0 (owns_other (owns_keep (owns_keep (O5.out i ev x ha hx) B5.out) ((Below.refl w5.heap.size w5).alloc (Nat.le_refl _) (.cells #[.int .i64 t.next, .int .i64 dn_, .string ⟨S.toArray⟩] 39))) (owns_keep OR5.out ((Below.refl w5.heap.size w5).alloc (Nat.le_refl _) (.cells #[.int .i64 t.next, .int .i64 dn_, .string ⟨S.toArray⟩] 39))) (by decide) hgrow) (show w.heap.size < w.heap.size + 2 by omega) 3 (.slice (some ⟨gg, 0, none⟩) (rn_ + 1) cap')) (show w.heap.size < w.heap.size + 2 by omega) 4 (.int .i64 (t.next + 1)))
        have h51x := h51 _ _ _ _ _ q8 s8 T8
        have hne8 : (Value.slice ia_ k ic_).ownBlock ≠ some (w.heap.size + 1) := fun e => by have := (OI8.lt _ e).1; omega
        obtain ⟨a0, a1, a2, a3, a4, a5⟩ := six_in k7
        have fz4 := six_frz k7 4
        obtain ⟨c0, c1, c2, c3, c4, c5⟩ := six_in k8
        clear T8 OI8 h51 B5 OR5 k5 k6 hown hgrow hgg hglt sg l5 l6 q5 q6 u0 u1 u2 u3 u4 u5 h50a h50b O1 O2 O3 O5 OK3 HO q4 kr lr
        go_wp2_with fail
        generalize ((w6.setCell ⟨w.heap.size, 3, none⟩ (.slice (some ⟨gg, 0, none⟩) (rn_ + 1) cap')).setCell ⟨w.heap.size, 4, none⟩ (.int .i64 (t.next + 1))) = w8 at *
        refine h51x.mono ?_
        rintro e w9 ⟨rfl, T9, q9, g9⟩
        have l9 := (g9.block (w.heap.size + 1) (by omega) (fun e => hne8 e.symm)).trans l8
        have s9 : w.heap.size + 2 ≤ w9.heap.size := by have := g9.size; omega
        obtain ⟨v0, v1, v2, v3, v4, v5⟩ := six_in l9
        have f0 := six_frz l9 0
        have f1 := six_frz l9 1
        have f2 := six_frz l9 2
        have f3 := six_frz l9 3
        have f4 := six_frz l9 4
        have f5 := six_frz l9 5
        have g0 := heap_setCell_same w9 (w.heap.size + 1) 0 _ 27 (.string ⟨t.name.toArray⟩) l9
        have g1 := heap_setCell_same _ (w.heap.size + 1) 1 _ 27 (.slice ca_ cn_ cc_) g0
        have g2 := heap_setCell_same _ (w.heap.size + 1) 2 _ 27 (.slice da_ dn_ dc_) g1
        have g3 := heap_setCell_same _ (w.heap.size + 1) 3 _ 27 (.slice (some ⟨gg, 0, none⟩) (rn_ + 1) cap') g2
        have g4 := heap_setCell_same _ (w.heap.size + 1) 4 _ 27 (.int .i64 (t.next + 1)) g3
        have g5 := heap_setCell_same _ (w.heap.size + 1) 5 _ 27 (.slice ia_ k ic_) g4
        have l10 : ((((((w9.setCell ⟨w.heap.size + 1, 0, none⟩ (.string ⟨t.name.toArray⟩)).setCell ⟨w.heap.size + 1, 1, none⟩ (.slice ca_ cn_ cc_)).setCell ⟨w.heap.size + 1, 2, none⟩ (.slice da_ dn_ dc_)).setCell ⟨w.heap.size + 1, 3, none⟩ (.slice (some ⟨gg, 0, none⟩) (rn_ + 1) cap')).setCell ⟨w.heap.size + 1, 4, none⟩ (.int .i64 (t.next + 1))).setCell ⟨w.heap.size + 1, 5, none⟩ (.slice ia_ k ic_)).heap[w.heap.size + 1]? = some (.cells #[.string ⟨t.name.toArray⟩, .slice ca_ cn_ cc_, .slice da_ dn_ dc_, .slice (some ⟨gg, 0, none⟩) (rn_ + 1) cap', .int .i64 (t.next + 1), .slice ia_ k ic_] 27) := by simpa using g5
        have q10 : Below w.heap.size w ((((((w9.setCell ⟨w.heap.size + 1, 0, none⟩ (.string ⟨t.name.toArray⟩)).setCell ⟨w.heap.size + 1, 1, none⟩ (.slice ca_ cn_ cc_)).setCell ⟨w.heap.size + 1, 2, none⟩ (.slice da_ dn_ dc_)).setCell ⟨w.heap.size + 1, 3, none⟩ (.slice (some ⟨gg, 0, none⟩) (rn_ + 1) cap')).setCell ⟨w.heap.size + 1, 4, none⟩ (.int .i64 (t.next + 1))).setCell ⟨w.heap.size + 1, 5, none⟩ (.slice ia_ k ic_)) := ((((((q9.setCell (p := ⟨w.heap.size + 1, 0, none⟩) (Nat.le_succ w.heap.size) (.string ⟨t.name.toArray⟩)).setCell (p := ⟨w.heap.size + 1, 1, none⟩) (Nat.le_succ w.heap.size) (.slice ca_ cn_ cc_)).setCell (p := ⟨w.heap.size + 1, 2, none⟩) (Nat.le_succ w.heap.size) (.slice da_ dn_ dc_)).setCell (p := ⟨w.heap.size + 1, 3, none⟩) (Nat.le_succ w.heap.size) (.slice (some ⟨gg, 0, none⟩) (rn_ + 1) cap')).setCell (p := ⟨w.heap.size + 1, 4, none⟩) (Nat.le_succ w.heap.size) (.int .i64 (t.next + 1))).setCell (p := ⟨w.heap.size + 1, 5, none⟩) (Nat.le_succ w.heap.size) (.slice ia_ k ic_))
        have T10 : TbOwn ((((((w9.setCell ⟨w.heap.size + 1, 0, none⟩ (.string ⟨t.name.toArray⟩)).setCell ⟨w.heap.size + 1, 1, none⟩ (.slice ca_ cn_ cc_)).setCell ⟨w.heap.size + 1, 2, none⟩ (.slice da_ dn_ dc_)).setCell ⟨w.heap.size + 1, 3, none⟩ (.slice (some ⟨gg, 0, none⟩) (rn_ + 1) cap')).setCell ⟨w.heap.size + 1, 4, none⟩ (.int .i64 (t.next + 1))).setCell ⟨w.heap.size + 1, 5, none⟩ (.slice ia_ k ic_)) w.heap.size (.slice ca_ cn_ cc_) (.slice da_ dn_ dc_) (.slice (some ⟨gg, 0, none⟩) (rn_ + 1) cap') (.slice ia_ k ic_) (indexedT (grownT t S)) := by
          obtain ⟨t1, t2, t3, evs', t4, t5, t6⟩ := T9
          exact TbOwn.lower ⟨(owns_put0 (owns_put0 (owns_put0 (owns_put0 (owns_put0 (owns_put0 t1 (show w.heap.size + 1 < w.heap.size + 2 by omega) 0 (.string ⟨t.name.toArray⟩)) (show w.heap.size + 1 < w.heap.size + 2 by omega) 1 (.slice ca_ cn_ cc_)) (show w.heap.size + 1 < w.heap.size + 2 by omega) 2 (.slice da_ dn_ dc_)) (show w.heap.size + 1 < w.heap.size + 2 by omega) 3 (.slice (some ⟨gg, 0, none⟩) (rn_ + 1) cap')) (show w.heap.size + 1 < w.heap.size + 2 by omega) 4 (.int .i64 (t.next + 1))) (show w.heap.size + 1 < w.heap.size + 2 by omega) 5 (.slice ia_ k ic_)), (owns_put0 (owns_put0 (owns_put0 (owns_put0 (owns_put0 (owns_put0 t2 (show w.heap.size + 1 < w.heap.size + 2 by omega) 0 (.string ⟨t.name.toArray⟩)) (show w.heap.size + 1 < w.heap.size + 2 by omega) 1 (.slice ca_ cn_ cc_)) (show w.heap.size + 1 < w.heap.size + 2 by omega) 2 (.slice da_ dn_ dc_)) (show w.heap.size + 1 < w.heap.size + 2 by omega) 3 (.slice (some ⟨gg, 0, none⟩) (rn_ + 1) cap')) (show w.heap.size + 1 < w.heap.size + 2 by omega) 4 (.int .i64 (t.next + 1))) (show w.heap.size + 1 < w.heap.size + 2 by omega) 5 (.slice ia_ k ic_)), (owns_put0 (owns_put0 (owns_put0 (owns_put0 (owns_put0 (owns_put0 t3 (show w.heap.size + 1 < w.heap.size + 2 by omega) 0 (.string ⟨t.name.toArray⟩)) (show w.heap.size + 1 < w.heap.size + 2 by omega) 1 (.slice ca_ cn_ cc_)) (show w.heap.size + 1 < w.heap.size + 2 by omega) 2 (.slice da_ dn_ dc_)) (show w.heap.size + 1 < w.heap.size + 2 by omega) 3 (.slice (some ⟨gg, 0, none⟩) (rn_ + 1) cap')) (show w.heap.size + 1 < w.heap.size + 2 by omega) 4 (.int .i64 (t.next + 1))) (show w.heap.size + 1 < w.heap.size + 2 by omega) 5 (.slice ia_ k ic_)), evs', t4, (owns_put0 (owns_put0 (owns_put0 (owns_put0 (owns_put0 (owns_put0 t5 (show w.heap.size + 1 < w.heap.size + 2 by omega) 0 (.string ⟨t.name.toArray⟩)) (show w.heap.size + 1 < w.heap.size + 2 by omega) 1 (.slice ca_ cn_ cc_)) (show w.heap.size + 1 < w.heap.size + 2 by omega) 2 (.slice da_ dn_ dc_)) (show w.heap.size + 1 < w.heap.size + 2 by omega) 3 (.slice (some ⟨gg, 0, none⟩) (rn_ + 1) cap')) (show w.heap.size + 1 < w.heap.size + 2 by omega) 4 (.int .i64 (t.next + 1))) (show w.heap.size + 1 < w.heap.size + 2 by omega) 5 (.slice ia_ k ic_)), fun i ev x ha hb => (owns_put0 (owns_put0 (owns_put0 (owns_put0 (owns_put0 (owns_put0 (t6 i ev x ha hb) (show w.heap.size + 1 < w.heap.size + 2 by omega) 0 (.string ⟨t.name.toArray⟩)) (show w.heap.size + 1 < w.heap.size + 2 by omega) 1 (.slice ca_ cn_ cc_)) (show w.heap.size + 1 < w.heap.size + 2 by omega) 2 (.slice da_ dn_ dc_)) (show w.heap.size + 1 < w.heap.size + 2 by omega) 3 (.slice (some ⟨gg, 0, none⟩) (rn_ + 1) cap')) (show w.heap.size + 1 < w.heap.size + 2 by omega) 4 (.int .i64 (t.next + 1))) (show w.heap.size + 1 < w.heap.size + 2 by omega) 5 (.slice ia_ k ic_))⟩ (show w.heap.size ≤ w.heap.size + 2 by omega)
        have HT10 := hide T10
        clear T9 T10 g0 g1 g2 g3 g4 g5 g9 l9 q9 l8 k7 k8 q8 s8
        go_wp2
        generalize ((((((w9.setCell ⟨w.heap.size + 1, 0, none⟩ (.string ⟨t.name.toArray⟩)).setCell ⟨w.heap.size + 1, 1, none⟩ (.slice ca_ cn_ cc_)).setCell ⟨w.heap.size + 1, 2, none⟩ (.slice da_ dn_ dc_)).setCell ⟨w.heap.size + 1, 3, none⟩ (.slice (some ⟨gg, 0, none⟩) (rn_ + 1) cap')).setCell ⟨w.heap.size + 1, 4, none⟩ (.int .i64 (t.next + 1))).setCell ⟨w.heap.size + 1, 5, none⟩ (.slice ia_ k ic_)) = w10 at *
        obtain ⟨s0, s1, s2, s3, s4, s5⟩ := six_in l10
        clear v0 v1 v2 v3 v4 v5 f0 f1 f2 f3 f4 f5 a0 a1 a2 a3 a4 a5 c0 c1 c2 c3 c4 c5 y0 y1 y2 y3 y4 y5
        refine bodyPost_ret (v := .tuple #[.agg #[.string ⟨t.name.toArray⟩, .slice ca_ cn_ cc_, .slice da_ dn_ dc_, .slice (some ⟨gg, 0, none⟩) (rn_ + 1) cap', .int .i64 (t.next + 1), .slice ia_ k ic_], .int .i64 0]) ?_ rfl ⟨_, _, _, _, rfl, HT10.out, q10⟩
        simp [results, Tryz.results13, go_sem, s0, s1, s2, s3, s4, s5]
theorem firstE_zero : ∀ {l : List Nat}, firstE l = 0 → ∀ e ∈ l, e = 0
  | [], _ => by simp
  | x :: r, h => by
    rw [firstE] at h
    split at h
    · rename_i hx; exact absurd h hx
    · rename_i hx
      intro e he
      rcases List.mem_cons.1 he with rfl | he
      · exact Classical.not_not.1 hx
      · exact firstE_zero h e he
structure IxOk (t : Tb) (x : Ix) : Prop where
  nm : nameW x.name = true
  a0 : 0 ≤ x.a
  a1 : x.a < t.cols.length
  b0 : 1 ≤ x.b
  b1 : x.b ≤ t.next
  es : x.es = entX t x
theorem ixsF_zero (t : Tb) : ∀ {L ahead : List Ix}, ixsF t.cols.length t.rows (valsT t) t.next ahead L = 0 → ∀ x ∈ L, IxOk t x
  | [], _, _ => by simp
  | x :: L, ahead, h => by
    rw [ixsF] at h
    split at h
    · cases h
    · rename_i h1
      split at h
      · cases h
      · split at h
        · cases h
        · rename_i h3
          split at h
          · cases h
          · rename_i h4
            split at h
            · cases h
            · rename_i h5
              intro y hy
              rcases List.mem_cons.1 hy with rfl | hy
              · have h3' : (decide (0 ≤ y.a) && decide (y.a < (t.cols.length : Int))) = true := by simpa using h3
                simp only [Bool.and_eq_true, decide_eq_true_eq] at h3'
                exact ⟨by cases hn : nameW y.name <;> simp_all, h3'.1, h3'.2, by omega, by omega, by simpa [entX] using h5⟩
              · exact ixsF_zero t h y hy
structure TbOk (t : Tb) : Prop where
  frame : frameN (nameW t.name) t.cols.length t.ds.length t.rows.length t.ixs.length = 0
  cols : colsF [] t.cols = 0
  next : nextF t.next = 0
  dels : deltasF t.cols.length t.ds = 0
  rows : ∀ r ∈ t.rows, 0 < r.k ∧ RowOk t.cols t.ds t.next r
  ixs : ∀ x ∈ t.ixs, IxOk t x
theorem checkT_zero {t : Tb} (h : checkT t = 0) : TbOk t := by
  have hz := firstE_zero h
  unfold faultsT at hz
  simp only [List.mem_cons, List.not_mem_nil, or_false, forall_eq_or_imp, forall_eq] at hz
  obtain ⟨z0, z1, z2, z3, z4, z5⟩ := hz
  exact ⟨z0, z1, z2, z3, rowsF_zero z4, ixsF_zero t z5⟩
theorem entX_few (t : Tb) (x : Ix) : (entX t x).length ≤ t.rows.length := by
  unfold entX
  rw [(sortE_perm _).length_eq]
  exact entL_few _ _ _ _
theorem TbAt.sm {w : World} {cu du ru iu : Value} {t : Tb} (h : TbAt w cu du ru iu t) (hk : TbOk t) : Sm t := by
  obtain ⟨-, -, c5, d6, r30, x4⟩ := frameN_zero hk.frame
  obtain ⟨_, _, _, -, -, -, hds, -⟩ := h.ds
  obtain ⟨_, _, _, -, hrs, -⟩ := h.rs
  obtain ⟨_, _, _, -, -, hin, hic⟩ := h.is
  refine ⟨h.nm, by omega, h.cn, by omega, hds, by omega, hrs, by omega, hin, fun x hx => ⟨?_, ?_⟩⟩
  · rw [(hk.ixs x hx).es]
    have := entX_few t x
    omega
  · obtain ⟨j, hj, rfl⟩ := List.getElem_of_mem hx
    obtain ⟨g, o, -, -, hc⟩ := hic (by intro e; rw [e] at hj; simp at hj)
    obtain ⟨ev, -, -, -, -, -, hn⟩ := hc j _ (List.getElem?_eq_getElem hj)
    exact hn
def insertT (t : Tb) (L : List Vl) : Tb := indexedT (grownT t (encR L))
theorem insertF_zero {t : Tb} {L : List Vl} (h : insertF t L = 0) : TbOk t ∧ L.length = t.cols.length ∧ badL L = 0 ∧ fitB t.cols L = true ∧ t.rows.length ≠ 30 ∧ t.next ≠ 1000000 := by
  unfold insertF at h
  split at h
  · rename_i h0; exact absurd h h0
  · rename_i h0
    split at h
    · cases h
    · rename_i h1
      split at h
      · rename_i h2; exact absurd h h2
      · rename_i h2
        split at h
        · cases h
        · rename_i h3
          split at h
          · cases h
          · rename_i h4
            exact ⟨checkT_zero (Classical.not_not.1 h0), Classical.not_not.1 h1, Classical.not_not.1 h2, by simpa using h3, fun e => h4 (Or.inl e), fun e => h4 (Or.inr e)⟩
theorem now_new {ds : List Dl} {L : List Vl} (k : Int) (h5 : L.length ≤ 5) (hb : badL L = 0) : nowE ds ⟨k, ds.length, encR L⟩ = 0 ∧ nowL ds ⟨k, ds.length, encR L⟩ = L := by
  have hc : chkL L = 0 := by unfold chkL; rw [if_neg (by omega)]; exact hb
  have he : encR L = encL L := by unfold encR; rw [if_pos hc]
  obtain ⟨h1, h2⟩ := dec_enc L hc
  have hd : ds.drop ((ds.length : Int)).toNat = [] := by simp
  have ha : applyE L [] = 0 := by
    unfold applyE
    rw [if_neg (by omega)]
    have : (checkD (L.length : Nat) []).2 = 0 := by
      unfold checkD
      rw [if_neg (by omega)]
      rfl
    rw [if_neg (by simpa using this)]
    exact hb
  refine ⟨?_, ?_⟩
  · unfold nowE
    simp only [he, h1, h2, hd]
    simpa using ha
  · unfold nowL
    simp only [he, h1, h2, hd]
    rw [if_neg (by simp)]
    unfold applyL
    rw [if_pos ha]; rfl
theorem encR_short {L : List Vl} (h5 : L.length ≤ 5) (hb : badL L = 0) : (encR L).length ≤ 200 := by
  have hc : chkL L = 0 := by unfold chkL; rw [if_neg (by omega)]; exact hb
  unfold encR
  rw [if_pos hc]
  unfold encL
  have := flat_len L ((badL_zero L).1 hb)
  simp only [List.length_cons]
  omega
theorem grown_ok {t : Tb} {L : List Vl} (hk : TbOk t) (hlen : L.length = t.cols.length) (hb : badL L = 0) (hf : fitB t.cols L = true) : (∀ r ∈ (grownT t (encR L)).rows, RowOk (grownT t (encR L)).cols (grownT t (encR L)).ds (grownT t (encR L)).next r) ∧ ∀ x ∈ (grownT t (encR L)).ixs, 0 ≤ x.a ∧ x.a < (grownT t (encR L)).cols.length := by
  obtain ⟨-, -, c5, -⟩ := frameN_zero hk.frame
  obtain ⟨n1, n2⟩ := now_new (ds := t.ds) t.next (L := L) (by omega) hb
  have hkk : kindsR t.cols L = true := by
    unfold fitB at hf
    simp only [Bool.and_eq_true] at hf
    exact hf.2
  refine ⟨fun r hr => ?_, fun x hx => ?_⟩
  · simp only [grownT, List.mem_append, List.mem_singleton] at hr
    rcases hr with hr | rfl
    · obtain ⟨-, h1, h2, h3, h4, h5, h6⟩ := hk.rows r hr
      exact ⟨by show r.k < t.next + 1; omega, h2, h3, h4, h5, h6⟩
    · refine ⟨by show t.next < t.next + 1; omega, by show (0 : Int) ≤ (t.ds.length : Int); omega, Int.le_refl _, n1, ?_, ?_⟩
      · show (nowL t.ds _).length = t.cols.length
        rw [n2, hlen]
      · show kindsR t.cols (nowL t.ds _) = true
        rw [n2]; exact hkk
  · simp only [grownT] at hx
    obtain ⟨y, hy, rfl⟩ := List.mem_map.1 hx
    have h := hk.ixs y hy
    have e : (bumpX t.next y).a = y.a := by unfold bumpX; split <;> rfl
    rw [e]
    exact ⟨h.a0, h.a1⟩
theorem grown_sm {t : Tb} {S : List UInt8} (hs : Sm t) (hr : t.rows.length ≤ 30) (hS : S.length ≤ 200) : Sm (grownT t S) := by
  refine ⟨hs.nm, hs.cl, hs.cn, hs.dl, hs.dn, ?_, ?_, ?_, ?_, ?_⟩
  · simp [grownT]; omega
  · intro r hr'
    simp only [grownT, List.mem_append, List.mem_singleton] at hr'
    rcases hr' with h | rfl
    · exact hs.rn r h
    · show S.length ≤ _; omega
  · simp [grownT]; exact hs.il
  · intro x hx
    simp only [grownT] at hx
    obtain ⟨y, hy, rfl⟩ := List.mem_map.1 hx
    have e : (bumpX t.next y).name = y.name := by unfold bumpX; split <;> rfl
    rw [e]; exact hs.inm y hy
  · intro x hx
    simp only [grownT] at hx
    obtain ⟨y, hy, rfl⟩ := List.mem_map.1 hx
    have e : (bumpX t.next y).es = y.es := by unfold bumpX; split <;> rfl
    rw [e]; exact hs.ie y hy
theorem insert_ok (t : Tb) (L : List Vl) (cu du ru iu l : Value) (w : World) (h : TbIn w cu du ru iu t) (hl : VsAt w l L) (laid : Laid w) (hm : Ml w) (hF : insertF t L = 0) :
    Calls Tryz.prog 13 #[tbV t.name cu du ru t.next iu, l] w fun e w' => ∃ cv dv rv iv, e = .returned (.tuple #[tbV t.name cv dv rv (t.next + 1) iv, .int .i64 0]) ∧ TbOwn w' w.heap.size cv dv rv iv (insertT t L) ∧ Below w.heap.size w w' := by
  obtain ⟨hk, hlen, hb, hf, hr30, hn⟩ := insertF_zero hF
  have hsm := h.at'.sm hk
  obtain ⟨-, -, c5, d6, r30, x4⟩ := frameN_zero hk.frame
  have hnx : 1 ≤ t.next ∧ t.next ≤ 1000000 := by
    have := hk.next
    unfold nextF at this
    split at this
    · cases this
    · omega
  have hS := encR_short (L := L) (by omega) hb
  obtain ⟨g1, g2⟩ := grown_ok hk hlen hb hf
  have hin := fun (W : World) (hW : Below w.heap.size w W) => h.below hW
  obtain ⟨ca, cc, hce, -⟩ := h.at'.cs
  obtain ⟨da, dc, hde, -⟩ := h.at'.ds
  obtain ⟨ra, rc, hre, -⟩ := h.at'.rs
  obtain ⟨ia, ic, hie, -⟩ := h.at'.is
  subst hce hde hre hie
  refine insert_raw t (encR L) ca da ra ia _ _ _ _ cc dc rc ic l w (by omega) (by omega) (by omega) ?_ ?_ ?_ ?_
  · intro W hW
    have := insertF_any t L _ _ _ _ l W (hin W hW).at' (hl.below hW) (laid.below hW) (hm.below hW)
    rw [hF] at this
    exact this
  · intro W hW
    exact fresh_any t _ _ _ _ W (hin W hW) (by omega)
  · intro W cv rv iv a n c hW
    exact newest_any L l t.next a n c t.name cv rv iv t.next W (hl.below hW)
  · intro W cv dv rv iv hW hs8 hT
    exact indexed_any w (w.heap.size + 2) (by omega) (grownT t (encR L)) cv dv rv iv W hs8 hW laid hT (grown_sm hsm (by omega) hS) g1 g2
def putAll (W : World) (b : Nat) : Nat → List Value → World
  | _, [] => W
  | o, x :: xs => putAll (W.setCell ⟨b, o, none⟩ x) b (o + 1) xs
theorem putAll_size (b : Nat) : ∀ (xs : List Value) (W : World) (o : Nat), (putAll W b o xs).heap.size = W.heap.size := by
  intro xs
  induction xs with
  | nil => intro W o; rfl
  | cons x xs ih => intro W o; rw [putAll, ih]; simp [World.setCell]
theorem putAll_other (b : Nat) : ∀ (xs : List Value) (W : World) (o k : Nat), k ≠ b → (putAll W b o xs).heap[k]? = W.heap[k]? := by
  intro xs
  induction xs with
  | nil => intro W o k _; rfl
  | cons x xs ih => intro W o k hk; rw [putAll, ih _ _ _ hk]; exact heap_setCell_other W ⟨b, o, none⟩ k x hk
theorem setCells_putAll (b : Nat) : ∀ (vs : List Value) (w : World) (o : Nat), w.setCells b o vs = putAll w b o vs := by
  intro vs
  induction vs with
  | nil => intro w o; rfl
  | cons x vs ih => intro w o; rw [World.setCells, putAll, ih]
theorem putAll_mid {b : Nat} {t : TypeId} : ∀ (xs mid : List Value) (W : World) (pre post : List Value), mid.length = xs.length → W.heap[b]? = some (.cells (pre ++ mid ++ post).toArray t) →
    (putAll W b pre.length xs).heap[b]? = some (.cells (pre ++ xs ++ post).toArray t) := by
  intro xs
  induction xs with
  | nil => intro mid W pre post hl h; cases mid with
    | nil => exact h
    | cons _ _ => cases hl
  | cons x xs ih =>
    intro mid W pre post hl h
    cases mid with
    | nil => cases hl
    | cons y mid =>
      have h1 := heap_setCell_same W b pre.length _ t x h
      have e : (pre ++ y :: mid ++ post).toArray.setIfInBounds pre.length x = ((pre ++ [x]) ++ mid ++ post).toArray := by simp
      rw [e] at h1
      have := ih mid (W.setCell ⟨b, pre.length, none⟩ x) (pre ++ [x]) post (by simpa using hl) h1
      rw [putAll]
      simpa using this
theorem there_of {w : World} {b : Nat} {cs : List Value} {t : TypeId} (hb : w.heap[b]? = some (.cells cs.toArray t)) (o n : Nat) (hn : o + n ≤ cs.length) : w.there b o n := by
  intro j hj
  refine ⟨?_, Lib.frozen_of_heap hb _⟩
  rw [Lib.cell_of_heap hb]
  have : cs.toArray[o + j]? = some (cs[o + j]'(by omega)) := by simp [List.getElem?_eq_getElem (show o + j < cs.length by omega)]
  rw [this]; rfl
section
variable {P : Program} {ops : Array Oper} {rest : List Oper} {op : Oper} {a : Act} {w : World} {Q : Exit → Act → World → Prop}
theorem wpList_store_part (ty : TypeId) (x y : Operand) (hgd : op.guard = none) (ho : op.op = .store ty x y) (b : Nat) (pre mid post xs : List Value) (t : TypeId)
    (hx : a.eval x = .pointer (some ⟨b, pre.length, none⟩)) (hy : a.eval y = .agg xs.toArray) (hb : w.heap[b]? = some (.cells (pre ++ mid ++ post).toArray t)) (hl : mid.length = xs.length)
    (hi : (P.info? ty).map (·.size) = some xs.length) (h1 : ∀ v ∈ xs, v.oneCell' = true)
    (h : ∀ w', w'.heap[b]? = some (.cells (pre ++ xs ++ post).toArray t) → Hid (w' = putAll w b pre.length xs) → wpList P ops Q rest (a.put op.dst undef) w') : wpList P ops Q (op :: rest) a w := by
  refine wpList_store_mid hgd ty x y ho b pre.length xs.toArray hx hy (there_of hb _ _ (by simp; omega)) (by simpa using hi) (all_oneCell_toArray h1) ?_
  have e : w.setCells b pre.length xs.toArray.toList = putAll w b pre.length xs := by simpa using setCells_putAll b xs w pre.length
  rw [e]
  exact h _ (putAll_mid xs mid w pre post hl hb) (hide rfl)
theorem wpList_store_whole (ty : TypeId) (x y : Operand) (hgd : op.guard = none) (ho : op.op = .store ty x y) (b : Nat) (cs xs : List Value) (t : TypeId)
    (hx : a.eval x = .pointer (some ⟨b, 0, none⟩)) (hy : a.eval y = .agg xs.toArray) (hb : w.heap[b]? = some (.cells cs.toArray t)) (hl : cs.length = xs.length)
    (hi : (P.info? ty).map (·.size) = some xs.length) (h1 : ∀ v ∈ xs, v.oneCell' = true)
    (h : ∀ w', w'.heap[b]? = some (.cells xs.toArray t) → Hid (w' = putAll w b 0 xs) → wpList P ops Q rest (a.put op.dst undef) w') : wpList P ops Q (op :: rest) a w := by
  refine wpList_store_part ty x y hgd ho b [] cs [] xs t hx hy (by simpa using hb) hl hi h1 fun w' hw hp => h w' (by simpa using hw) hp
end
theorem Tryz.size27 : (Tryz.prog.info? 27).map (·.size) = some 6 := by kernel_rfl
theorem below_putAll {base b : Nat} {w : World} (hb : base ≤ b) : ∀ (xs : List Value) (W : World) (o : Nat), Below base w W → Below base w (putAll W b o xs) := by
  intro xs
  induction xs with
  | nil => intro W o h; exact h
  | cons x xs ih => intro W o h; rw [putAll]; exact ih _ _ (h.setCell (p := ⟨b, o, none⟩) hb x)
def NsAt (w : World) (u : Value) (L : List Int) : Prop :=
  ∃ ao cap, u = .slice ao L.length cap ∧ L.length * 8 ≤ 140737488355328 ∧ (L ≠ [] → ∃ g o, ao = some ⟨g, o, none⟩ ∧ g < w.heap.size ∧ ∀ i x, L[i]? = some x → w.cell? ⟨g, o + i, none⟩ = some (.int .i64 x))
theorem NsAt.below {w w' : World} {u : Value} {L : List Int} (h : NsAt w u L) (hb : Below w.heap.size w w') : NsAt w' u L := by
  obtain ⟨ao, cap, e, hl, hc⟩ := h
  refine ⟨ao, cap, e, hl, fun hne => ?_⟩
  obtain ⟨g, o, e, hg, hcc⟩ := hc hne
  exact ⟨g, o, e, Nat.lt_of_lt_of_le hg hb.size, fun i x hi => (hb.cell (p := ⟨g, o + i, none⟩) hg).trans (hcc i x hi)⟩
theorem NsAt.form {w : World} {u : Value} {L : List Int} (h : NsAt w u L) : ∃ ao n cap, u = .slice ao n cap := by
  obtain ⟨ao, cap, e, -⟩ := h; exact ⟨ao, _, cap, e⟩
theorem has_at {L : List Int} {z : Int} {i : Nat} (h : L[i]? = some z) : L.contains z = true := by
  rw [List.contains_iff_mem]; exact List.mem_of_getElem? h
theorem has_none {L : List Int} {z : Int} (h : ∀ (j : Nat) y, L[j]? = some y → y ≠ z) : L.contains z = false := by
  rw [Bool.eq_false_iff]
  intro hc
  rw [List.contains_iff_mem] at hc
  obtain ⟨j, hj, e⟩ := List.getElem_of_mem hc
  exact h j _ (List.getElem?_eq_getElem hj) e
theorem nix_any (L : List Int) (u : Value) (z : Int) (w : World) (h : NsAt w u L) :
    Calls Tryz.prog 100 #[u, .int .i64 z] w fun e w' => ∃ k : Int, e = .returned (.int .i64 k) ∧ (decide (k ≥ 0)) = L.contains z ∧ Below w.heap.size w w' := by
  obtain ⟨ao, cap, rfl, h1, h3⟩ := h
  obtain ⟨n, hn⟩ : ∃ n, L.length = n := ⟨_, rfl⟩
  have HN := hide hn
  rw [hn] at h1 ⊢
  clear hn
  go_enter Tryz.func100, Tryz.ntmps100
  go_wp2
  go_loopw [8] (fun i wl => ∃ k : Nat, k ≤ n ∧ i = .int .i64 k ∧ Below w.heap.size w wl ∧ Hid (∀ j x, j < k → L[j]? = some x → x ≠ z)) (fun i _ => n - (intOf i).toNat)
  case atStart => exact ⟨0, Nat.zero_le _, rfl, Below.refl _ _, fun j _ hj => absurd hj (Nat.not_lt_zero _)⟩
  case round =>
    obtain ⟨k, hk, rfl, hnx, HA⟩ := hrel
    by_cases hlt : k < n
    · obtain ⟨x, hx⟩ : ∃ x, L[k]? = some x := ⟨L[k]'(by rw [HN.out]; exact hlt), List.getElem?_eq_getElem _⟩
      obtain ⟨g, o, rfl, hg, hc⟩ := h3 (by intro e; rw [e] at hx; cases hx)
      have c0 := (hnx.cell (p := ⟨g, o + k, none⟩) hg).trans (hc k x hx)
      have hlt' : (k : Int) < (n : Int) := by omega
      have HX : Hid (L[k]? = some x) := hx
      clear hc h3 hx
      by_cases hB : z = x
      · have HB := hide hB
        have hd : (z == x) = true := by rw [hB]; simp
        clear hB
        go_wp2
        go_ret
        refine ⟨k, rfl, ?_, hnx⟩
        rw [HB.out, has_at HX.out]
        exact decide_eq_true (by omega)
      · have HB := hide hB
        have hd : (z == x) = false := by simpa using hB
        go_wp2
        go_roundw
        case rel =>
          refine ⟨k + 1, by omega, by go_num, hnx, fun j y hj hy => ?_⟩
          rcases Nat.lt_or_ge j k with h | h
          · exact HA.out j y h hy
          · rw [show j = k by omega, HX.out] at hy; cases hy; exact fun e => HB.out e.symm
        case measure => simp [intOf]; omega
    · clear h3
      go_wp2
      go_ret
      refine ⟨-1, rfl, ?_, hnx⟩
      rw [has_none (L := L) (z := z) (fun j y hy => HA.out j y (by have := (List.getElem?_eq_some_iff.1 hy).1; have := HN.out; omega) hy)]
      rfl
theorem hasN_any (L : List Int) (u : Value) (z : Int) (w : World) (h : NsAt w u L) :
    Calls Tryz.prog 54 #[u, .int .i64 z] w fun e w' => e = .returned (.bool (L.contains z)) ∧ Below w.heap.size w w' := by
  have hx := nix_any L u z w h
  generalize L.contains z = B at hx ⊢
  obtain ⟨ao, n, cap, rfl⟩ := h.form
  clear h
  go_enter Tryz.func54, Tryz.ntmps54
  go_wp2_with fail
  refine hx.mono ?_
  rintro e w1 ⟨k, rfl, hk, b1⟩
  have HK := hide hk
  clear hk
  go_wp2
  go_ret
  exact ⟨by rw [← HK.out]; rfl, b1⟩
theorem goes_any (L : List Int) (ao : Option Addr) (n cap : Nat) (x : Vl) (W : World) (p : Nat) (hp : W.cell? ⟨p, 0, none⟩ = some (.slice ao n cap)) (lp : p < W.heap.size) (h : NsAt W (.slice ao n cap) L) :
    Calls Tryz.prog 53 #[vlV x, .pointer (some ⟨p, 0, none⟩)] W fun e W' => e = .returned (.bool (L.contains x.k)) ∧ Below W.heap.size W W' := by
  have b0 := (Below.refl W.heap.size W).alloc (Nat.le_refl _) (.cells #[.int .i64 x.k, .int .i64 x.n, .string ⟨x.s.toArray⟩] 39)
  have a1 := (b0.cell (p := ⟨p, 0, none⟩) lp).trans hp
  have hh := fun W' (hb : Below W.heap.size W W') => hasN_any L _ x.k W' (h.below hb)
  have hk1 := heap_alloc_new W (.cells #[.int .i64 x.k, .int .i64 x.n, .string ⟨x.s.toArray⟩] 39)
  generalize L.contains x.k = B at hh ⊢
  clear h hp
  unfold vlV
  go_enter Tryz.func53, Tryz.ntmps53
  go_wp2_with fail
  refine (hh _ b0).mono ?_
  rintro e w1 ⟨rfl, b1⟩
  go_wp2
  go_ret
  exact ⟨rfl, b0.trans (b1.mono b0.size)⟩
def GoesAt (R : List Vl) (L : List Int) (k : Int) : Prop :=
  (k = -1 ∧ ∀ (j : Nat) y, R[j]? = some y → L.contains y.k = false) ∨ ∃ (i : Nat) (x : Vl), k = i ∧ R[i]? = some x ∧ L.contains x.k = true ∧ ∀ (j : Nat) y, j < i → R[j]? = some y → L.contains y.k = false
theorem fix_any (R : List Vl) (u : Value) (L : List Int) (ao : Option Addr) (m cap : Nat) (w : World) (h : VsAt w u R) (p : Nat) (hp : w.cell? ⟨p, 0, none⟩ = some (.slice ao m cap)) (lp : p < w.heap.size) (hL : NsAt w (.slice ao m cap) L) :
    Calls Tryz.prog 99 #[u, .func (.func 53) #[] #[.pointer (some ⟨p, 0, none⟩)]] w fun e w' => ∃ k : Int, e = .returned (.int .i64 k) ∧ GoesAt R L k ∧ Below w.heap.size w w' := by
  obtain ⟨au, cu, rfl, h1, -, h3⟩ := h
  obtain ⟨n, hn⟩ : ∃ n, R.length = n := ⟨_, rfl⟩
  have HN := hide hn
  rw [hn] at h1 ⊢
  have HP := hide hp
  have HL := hide hL
  clear hp hn hL
  go_enter Tryz.func99, Tryz.ntmps99
  go_wp2
  go_loopw [8] (fun i wl => ∃ k : Nat, k ≤ n ∧ i = .int .i64 k ∧ Below w.heap.size w wl ∧ Hid (∀ (j : Nat) y, j < k → R[j]? = some y → L.contains y.k = false)) (fun i _ => n - (intOf i).toNat)
  case atStart => exact ⟨0, Nat.zero_le _, rfl, Below.refl _ _, fun j _ hj => absurd hj (Nat.not_lt_zero _)⟩
  case round =>
    obtain ⟨k, hk, rfl, hnx, HA⟩ := hrel
    by_cases hlt : k < n
    · obtain ⟨x, hx⟩ : ∃ x, R[k]? = some x := ⟨R[k]'(by rw [HN.out]; exact hlt), List.getElem?_eq_getElem _⟩
      obtain ⟨g, o, rfl, hg, hc⟩ := h3 (by intro e; rw [e] at hx; cases hx)
      obtain ⟨a0, a1, a2⟩ := hc k x hx
      have c0 := (hnx.cell (p := ⟨g, o + k * 3, none⟩) hg).trans a0
      have c1 := (hnx.cell (p := ⟨g, o + k * 3 + 1, none⟩) hg).trans a1
      have c2 := (hnx.cell (p := ⟨g, o + k * 3 + 2, none⟩) hg).trans a2
      have hlt' : (k : Int) < (n : Int) := by omega
      have hsz := hnx.size
      have hf := goes_any L ao m cap x wr p ((hnx.cell (p := ⟨p, 0, none⟩) lp).trans HP.out) (Nat.lt_of_lt_of_le lp hsz) (HL.out.below hnx)
      unfold vlV at hf
      have HX : Hid (R[k]? = some x) := hx
      clear hc h3 a0 a1 a2 hx
      by_cases hB : L.contains x.k = true
      · have HB := hide hB
        rw [hB] at hf
        clear hB
        go_wp2_with (go_at_call 53; refine hf.mono ?_; rintro e w2 ⟨rfl, b2⟩)
        go_ret
        exact ⟨k, rfl, .inr ⟨k, x, rfl, HX.out, HB.out, HA.out⟩, hnx.trans (b2.mono hsz)⟩
      · rw [Bool.not_eq_true] at hB
        have HB := hide hB
        rw [hB] at hf
        clear hB
        go_wp2_with (go_at_call 53; refine hf.mono ?_; rintro e w2 ⟨rfl, b2⟩)
        go_roundw
        case rel =>
          refine ⟨k + 1, by omega, by go_num, hnx.trans (b2.mono hsz), fun j y hj hy => ?_⟩
          rcases Nat.lt_or_ge j k with h | h
          · exact HA.out j y h hy
          · rw [show j = k by omega, HX.out] at hy; cases hy; exact HB.out
        case measure => simp [intOf]; omega
    · clear h3
      go_wp2
      go_ret
      exact ⟨-1, rfl, .inl ⟨rfl, fun j y hy => HA.out j y (by have := (List.getElem?_eq_some_iff.1 hy).1; have := HN.out; omega) hy⟩, hnx⟩
theorem clear_rows (b o k c : Nat) (hk : 0 < k) : ∃ Z : List Value, Z.length = k * 3 ∧ ∀ (w : World) (ty : TypeId), (∀ j, j < k * 3 → (w.cell? ⟨b, o + j, none⟩).isSome = true) → (∀ j, j < k * 3 → w.frozen? ⟨b, o + j, none⟩ = false) →
    (Builtin.clear_ #[24] ty #[.slice (some ⟨b, o, none⟩) k c]).run Tryz.prog w = .ok (.tuple #[]) (w.setCells b o Z) := by
  obtain ⟨Z, hZ⟩ : ∃ Z, Z = (Builtin.zeroCells (Value.agg #[.int .i64 0, .int .i64 0, .string ⟨#[]⟩]).cells k).toList := ⟨_, rfl⟩
  have hl : Z.length = k * 3 := by rw [hZ, Array.length_toList, size_zeroCells]; rfl
  have h1 : ∀ v ∈ Z, v.oneCell' = true := by
    intro v hv
    rw [hZ] at hv
    unfold Builtin.zeroCells at hv
    rw [Array.toList_map, List.mem_map] at hv
    obtain ⟨i, -, rfl⟩ := hv
    have hm : i % 3 = 0 ∨ i % 3 = 1 ∨ i % 3 = 2 := by omega
    show (#[Value.int .i64 0, .int .i64 0, .string ⟨#[]⟩][i % 3]!).oneCell' = true
    rcases hm with h | h | h <;> rw [h] <;> rfl
  refine ⟨Z, hl, fun w ty hc hf => ?_⟩
  cases k with
  | zero => cases hk
  | succ k =>
    have hst := run_storeCells_cells (P := Tryz.prog) b o Z 0 w (by rw [hl]; simpa using hc) (by rw [hl]; simpa using hf) h1
    simp only [Nat.add_zero] at hst
    simp [Builtin.clear_, run_underlying Tryz.underlying24, Tryz.zeroValue39, ← hZ, hst]
theorem own_row {w : World} {B : Nat} {g n cap : Nat} {r : List Vl} (h : w.ownsRow B 39 3 (.slice (some ⟨g, 0, none⟩) n cap) n (r.flatMap vlC)) (hn : r.length = n) (a : Nat) (ha : a < n) (y : Vl) :
    (((w.setCell ⟨g, a * 3, none⟩ (.int .i64 y.k)).setCell ⟨g, a * 3 + 1, none⟩ (.int .i64 y.n)).setCell ⟨g, a * 3 + 2, none⟩ (.string ⟨y.s.toArray⟩)).ownsRow B 39 3 (.slice (some ⟨g, 0, none⟩) n cap) n ((r.set a y).flatMap vlC) ∧
      Below B w (((w.setCell ⟨g, a * 3, none⟩ (.int .i64 y.k)).setCell ⟨g, a * 3 + 1, none⟩ (.int .i64 y.n)).setCell ⟨g, a * 3 + 2, none⟩ (.string ⟨y.s.toArray⟩)) := by
  obtain ⟨hxl, hh⟩ := h
  rcases hh with ⟨hv, -⟩ | ⟨g', cap', cur, hv, hBg, hg, hnc, hcm, hcs, htake⟩
  · cases hv
  cases hv
  have e : (((w.setCell ⟨g, a * 3, none⟩ (.int .i64 y.k)).setCell ⟨g, a * 3 + 1, none⟩ (.int .i64 y.n)).setCell ⟨g, a * 3 + 2, none⟩ (.string ⟨y.s.toArray⟩)) = w.setCells g (a * 3) (vlC y) := rfl
  rw [e]
  obtain ⟨cur', h1, h2⟩ := heap_setCells g 39 (vlC y) (a * 3) w cur hg (by simp [vlC]; omega)
  refine ⟨⟨by rw [flatV_len, List.length_set, hn], .inr ⟨g, cap, cur', rfl, hBg, h1, hnc, hcm, ?_, ?_⟩⟩, below_cells g hBg _ _ _ (Below.refl _ _)⟩
  · rw [← Array.length_toList, h2, List.length_append, List.length_append, List.length_take, List.length_drop, Array.length_toList]; simp only [vlC, List.length_cons, List.length_nil]; omega
  · rw [flatV_set r a y (by omega), h2, ← htake]
    have l0 : cur.toList.length = cap * 3 := by rw [Array.length_toList]; exact hcs
    have l1 : (cur.toList.take (a * 3)).length = a * 3 := by rw [List.length_take]; omega
    have l2 : (vlC y).length = 3 := rfl
    rw [List.take_take, Nat.min_eq_left (by omega), l2]
    have l3 : (cur.toList.take (a * 3) ++ vlC y).length = a * 3 + 3 := by rw [List.length_append, l1, l2]
    have e3 : n * 3 = (cur.toList.take (a * 3) ++ vlC y).length + (n * 3 - (a * 3 + 3)) := by rw [l3]; omega
    rw [e3, List.take_length_add_append, List.drop_take]
    congr 2
    rw [l3]
    omega
theorem own_cut {w : World} {B : Nat} {g n cap : Nat} {r : List Vl} (h : w.ownsRow B 39 3 (.slice (some ⟨g, 0, none⟩) n cap) n (r.flatMap vlC)) (hn : r.length = n) (a : Nat) (ha : a ≤ n) (Z : List Value) (hZ : Z.length = (n - a) * 3) :
    (w.setCells g (a * 3) Z).ownsRow B 39 3 (.slice (some ⟨g, 0, none⟩) a cap) a ((r.take a).flatMap vlC) ∧ Below B w (w.setCells g (a * 3) Z) := by
  obtain ⟨hxl, hh⟩ := h
  rcases hh with ⟨hv, -⟩ | ⟨g', cap', cur, hv, hBg, hg, hnc, hcm, hcs, htake⟩
  · cases hv
  cases hv
  obtain ⟨cur', h1, h2⟩ := heap_setCells g 39 Z (a * 3) w cur hg (by omega)
  refine ⟨⟨by rw [flatV_len, List.length_take, hn, Nat.min_eq_left ha], .inr ⟨g, cap, cur', rfl, hBg, h1, by omega, hcm, ?_, ?_⟩⟩, below_cells g hBg _ _ _ (Below.refl _ _)⟩
  · rw [← Array.length_toList, h2, List.length_append, List.length_append, List.length_take, List.length_drop, Array.length_toList]; omega
  · have l1 : (cur.toList.take (a * 3)).length = a * 3 := by rw [List.length_take, Array.length_toList]; omega
    rw [flatV_take, ← htake, h2, List.append_assoc, List.take_append_of_le_length (by omega), List.take_of_length_le (by omega), List.take_take, Nat.min_eq_left (by omega)]
def keptR (L : List Int) (R : List Vl) : List Vl := R.filter fun x => !L.contains x.k
theorem kept_all {L : List Int} {R : List Vl} (h : ∀ (j : Nat) y, R[j]? = some y → L.contains y.k = false) : keptR L R = R := by
  unfold keptR
  rw [List.filter_eq_self]
  intro y hy
  obtain ⟨j, hj, rfl⟩ := List.getElem_of_mem hy
  rw [h j _ (List.getElem?_eq_getElem hj)]; rfl
theorem take_next {R : List Vl} {b : Nat} {x : Vl} (h : R[b]? = some x) : R.take (b + 1) = R.take b ++ [x] := by
  rw [List.take_add_one, h]; rfl
theorem kept_keep {L : List Int} {R : List Vl} {b : Nat} {x : Vl} (h : R[b]? = some x) (hk : L.contains x.k = false) : keptR L (R.take (b + 1)) = keptR L (R.take b) ++ [x] := by
  unfold keptR
  rw [take_next h, List.filter_append, List.filter_cons, hk]; rfl
theorem kept_go {L : List Int} {R : List Vl} {b : Nat} {x : Vl} (h : R[b]? = some x) (hk : L.contains x.k = true) : keptR L (R.take (b + 1)) = keptR L (R.take b) := by
  unfold keptR
  rw [take_next h, List.filter_append, List.filter_cons, hk]; simp
structure Cut (L : List Int) (R Z : List Vl) (a b : Nat) : Prop where
  len : Z.length = R.length
  lt : a < b
  le : b ≤ R.length
  take : Z.take a = keptR L (R.take b)
  drop : Z.drop b = R.drop b
theorem Cut.start {L : List Int} {R : List Vl} {i : Nat} {x : Vl} (hx : R[i]? = some x) (hk : L.contains x.k = true) (h : ∀ (j : Nat) y, j < i → R[j]? = some y → L.contains y.k = false) : Cut L R R i (i + 1) := by
  have hi := (List.getElem?_eq_some_iff.1 hx).1
  refine ⟨rfl, by omega, by omega, ?_, rfl⟩
  rw [kept_go hx hk, kept_all]
  intro j y hj
  rw [List.getElem?_take] at hj
  split at hj
  · rename_i h'; exact h j y h' hj
  · cases hj
theorem Cut.at' {L : List Int} {R Z : List Vl} {a b : Nat} (h : Cut L R Z a b) {x : Vl} (hx : R[b]? = some x) : Z[b]? = some x := by
  have e := congrArg (fun l : List Vl => l[0]?) h.drop
  simp only [List.getElem?_drop, Nat.add_zero] at e
  rw [e]; exact hx
theorem Cut.keep {L : List Int} {R Z : List Vl} {a b : Nat} (h : Cut L R Z a b) {x : Vl} (hx : R[b]? = some x) (hk : L.contains x.k = false) : Cut L R (Z.set a x) (a + 1) (b + 1) := by
  have hi := (List.getElem?_eq_some_iff.1 hx).1
  have hl := h.len
  have hlt := h.lt
  refine ⟨by rw [List.length_set, hl], by omega, by omega, ?_, ?_⟩
  · have e : (Z.set a x)[a]? = some x := by rw [List.getElem?_set_self (by omega)]
    rw [take_next e, List.take_set_of_le (Nat.le_refl _), h.take, kept_keep hx hk]
  · rw [List.drop_set_of_lt (by omega)]
    have e := congrArg (fun l : List Vl => l.drop 1) h.drop
    simpa [List.drop_drop] using e
theorem Cut.go {L : List Int} {R Z : List Vl} {a b : Nat} (h : Cut L R Z a b) {x : Vl} (hx : R[b]? = some x) (hk : L.contains x.k = true) : Cut L R Z a (b + 1) := by
  have hi := (List.getElem?_eq_some_iff.1 hx).1
  have hlt := h.lt
  refine ⟨h.len, by omega, by omega, ?_, ?_⟩
  · rw [h.take, kept_go hx hk]
  · have e := congrArg (fun l : List Vl => l.drop 1) h.drop
    simpa [List.drop_drop] using e
theorem Cut.fin {L : List Int} {R Z : List Vl} {a b : Nat} (h : Cut L R Z a b) (hb : b = R.length) : Z.take a = keptR L R ∧ a = (keptR L R).length := by
  have e := h.take
  rw [hb, List.take_length] at e
  refine ⟨e, ?_⟩
  have hl := h.len
  have hlt := h.lt
  rw [← e, List.length_take]; omega
theorem grown_cells (g : Nat) : ∀ (Z : List Value) (o : Nat) (w : World), w.grownBy (w.setCells g o Z) (some g)
  | [], _, w => grown_refl w _
  | v :: r, o, w => grown_trans (grown_set w g o v) (grown_cells g r (o + 1) _)
theorem delF_any (B : Nat) (u : Value) (R : List Vl) (L : List Int) (ao : Option Addr) (m mc : Nat) (w : World) (h : w.ownsRow B 39 3 u R.length (R.flatMap vlC)) (hB : B ≤ w.heap.size) (hr : R.length ≤ 1000) (hs : ∀ x ∈ R, x.s.length ≤ 140737488355328) (p : Nat) (lp : p < B) (hp : w.cell? ⟨p, 0, none⟩ = some (.slice ao m mc)) (hL : ∀ W, Below B w W → NsAt W (.slice ao m mc) L) :
    Calls Tryz.prog 52 #[u, .func (.func 53) #[] #[.pointer (some ⟨p, 0, none⟩)]] w fun e w' => ∃ v, e = .returned v ∧ w'.ownsRow B 39 3 v (keptR L R).length ((keptR L R).flatMap vlC) ∧ Below B w w' ∧ w.grownBy w' u.ownBlock := by
  have hf := fix_any R u L ao m mc w (vs_own_e h hr hs) p hp (by omega) (hL w (Below.refl _ _))
  obtain ⟨au, cu, rfl⟩ := owns_slice h
  obtain ⟨n, hn⟩ : ∃ n, R.length = n := ⟨_, rfl⟩
  have HN := hide hn
  have HO := hide h
  rw [hn] at hf hr ⊢
  have HP := hide hp
  have HL := hide hL
  clear hp hn hL h hs
  go_enter Tryz.func52, Tryz.ntmps52
  go_wp2_with fail
  refine hf.mono ?_
  rintro e w1 ⟨k, rfl, hk, b1⟩
  rcases hk with ⟨rfl, hk⟩ | ⟨i0, x0, rfl, hx0, hc0, hk⟩
  · have hK := hide (kept_all hk)
    clear hk
    go_wp2
    go_ret
    refine ⟨_, rfl, ?_, b1.mono hB, grown_below b1 _⟩
    rw [hK.out]
    exact owns_keep (by rw [← HN.out]; exact HO.out) b1
  · have hi0 := (List.getElem?_eq_some_iff.1 hx0).1
    have hi1 : ((i0 : Int) == -1) = false := by simp
    obtain ⟨g, cap, e', hBg, hg⟩ := owns_some HO.out (by omega)
    obtain ⟨rfl, rfl⟩ : au = some ⟨g, 0, none⟩ ∧ cap = cu := by cases e'; exact ⟨rfl, rfl⟩
    have hcap : n ≤ cap := by
      obtain ⟨-, ⟨e1, -⟩ | ⟨g', cap', cur, e1, -, -, h2, -⟩⟩ := HO.out
      · cases e1
      · cases e1; rw [← HN.out]; exact h2
    have hO1 : Hid (w1.ownsRow B 39 3 (.slice (some ⟨g, 0, none⟩) n cap) n (R.flatMap vlC)) := owns_keep (by have := HO.out; rw [HN.out] at this; exact this) b1
    have hC1 : Hid (Cut L R R i0 (i0 + 1)) := Cut.start hx0 hc0 hk
    have q1 := b1.mono hB
    have hg1 : w.grownBy w1 (some g) := grown_below b1 _
    clear hx0 hc0 hk hf HO b1
    rw [HN.out] at hi0
    go_wp2_with fail
    go_loopw [5, 6] (fun i j wl => ∃ (a b : Nat) (Z : List Vl), a < b ∧ b ≤ n ∧ i = .int .i64 a ∧ j = .int .i64 b ∧ Below B w wl ∧ w1.heap.size ≤ wl.heap.size ∧ Hid (wl.ownsRow B 39 3 (.slice (some ⟨g, 0, none⟩) n cap) n (Z.flatMap vlC)) ∧ Hid (Cut L R Z a b) ∧ w.grownBy wl (some g)) (fun _ j _ => n - (intOf j).toNat)
    case atStart => exact ⟨i0, i0 + 1, R, by omega, by omega, rfl, by go_num, q1, Nat.le_refl _, hO1, hC1, hg1⟩
    case round =>
      obtain ⟨a, b, Z, hab, hbn, rfl, rfl, hnx, hsz, HZ, HC, hgr⟩ := hrel
      by_cases hlt : b < n
      · obtain ⟨x, hx⟩ : ∃ x, R[b]? = some x := ⟨R[b]'(by rw [HN.out]; exact hlt), List.getElem?_eq_getElem _⟩
        have hlt' : (b : Int) < (n : Int) := by omega
        have hat : (a : Int) < (n : Int) := by omega
        obtain ⟨f0, f1, f2⟩ := flatV_get Z b x (HC.out.at' hx)
        have c0 := (HZ.out.cellAt (b * 3) (by omega)).trans f0
        have c1 := (HZ.out.cellAt (b * 3 + 1) (by omega)).trans f1
        have c2 := (HZ.out.cellAt (b * 3 + 2) (by omega)).trans f2
        have HX : Hid (R[b]? = some x) := hx
        clear f0 f1 f2 hx q1 hO1 hC1 hg1
        have bW : Below B w (wr.alloc (.cells #[.int .i64 x.k, .int .i64 x.n, .string ⟨x.s.toArray⟩] 39)) := hnx.alloc (by have := hnx.size; omega) _
        have hf := goes_any L ao m mc x (wr.alloc (.cells #[.int .i64 x.k, .int .i64 x.n, .string ⟨x.s.toArray⟩] 39)) p ((bW.cell (p := ⟨p, 0, none⟩) lp).trans HP.out) (by have := bW.size; omega) (HL.out _ bW)
        have k1 := heap_alloc_new wr (.cells #[.int .i64 x.k, .int .i64 x.n, .string ⟨x.s.toArray⟩] 39)
        have z1 : (wr.alloc (.cells #[.int .i64 x.k, .int .i64 x.n, .string ⟨x.s.toArray⟩] 39)).heap.size = wr.heap.size + 1 := by simp
        have b2 : Below wr.heap.size wr (wr.alloc (.cells #[.int .i64 x.k, .int .i64 x.n, .string ⟨x.s.toArray⟩] 39)) := (Below.refl _ _).alloc (Nat.le_refl _) _
        go_wp2_with fail
        generalize (wr.alloc (.cells #[.int .i64 x.k, .int .i64 x.n, .string ⟨x.s.toArray⟩] 39)) = w2 at *
        unfold vlV at hf
        refine hf.mono ?_
        rintro e w3 ⟨rfl, b3⟩
        have b4 : Below wr.heap.size wr w3 := b2.trans (b3.mono (by omega))
        have q3 : Below B w w3 := hnx.trans (b4.mono (by have := hnx.size; omega))
        have k3 := (b3.block wr.heap.size (by omega)).trans k1
        have hO3 : Hid (w3.ownsRow B 39 3 (.slice (some ⟨g, 0, none⟩) n cap) n (Z.flatMap vlC)) := owns_keep HZ.out b4
        have hg3 : w.grownBy w3 (some g) := grown_trans hgr (grown_below b4 _)
        have hs3 : w1.heap.size ≤ w3.heap.size := by have := b4.size; omega
        have d0 : w3.cell? ⟨wr.heap.size, 0, none⟩ = some (.int .i64 x.k) := by rw [Lib.cell_of_heap k3]; rfl
        have d1 : w3.cell? ⟨wr.heap.size, 1, none⟩ = some (.int .i64 x.n) := by rw [Lib.cell_of_heap k3]; rfl
        have d2 : w3.cell? ⟨wr.heap.size, 2, none⟩ = some (.string ⟨x.s.toArray⟩) := by rw [Lib.cell_of_heap k3]; rfl
        clear hf c0 c1 c2 k1 z1 b2 b3 k3 bW hnx
        by_cases hB' : L.contains x.k = true
        · have HC2 := hide (HC.out.go HX.out hB')
          rw [hB']
          clear hB' HC HX
          go_wp2
          go_roundw
          case rel => exact ⟨a, b + 1, Z, by omega, by omega, rfl, by go_num, q3, hs3, hO3, HC2, hg3⟩
          case measure => simp [intOf]; omega
        · rw [Bool.not_eq_true] at hB'
          have HC2 := hide (HC.out.keep HX.out hB')
          obtain ⟨⟨y0, e0⟩, f0⟩ := own_at hO3.out (a * 3) (by omega)
          obtain ⟨⟨y1, e1⟩, f1⟩ := own_at hO3.out (a * 3 + 1) (by omega)
          obtain ⟨⟨y2, e2⟩, f2⟩ := own_at hO3.out (a * 3 + 2) (by omega)
          obtain ⟨o4, q4⟩ := own_row hO3.out (by rw [HC.out.len, HN.out]) a (by omega) x
          have H4 := hide (And.intro o4 (And.intro (q3.trans q4) (grown_trans hg3 (grown_trans (grown_trans (grown_set w3 g (a * 3) (.int .i64 x.k)) (grown_set _ g (a * 3 + 1) (.int .i64 x.n))) (grown_set _ g (a * 3 + 2) (.string ⟨x.s.toArray⟩))))))
          rw [hB']
          clear hB' HC HX o4 q4 q3 hO3 hg3 hgr
          go_wp2
          go_roundw
          case rel => exact ⟨a + 1, b + 1, Z.set a x, by omega, by omega, by go_num, by go_num, H4.out.2.1, by simpa [World.setCell] using hs3, H4.out.1, HC2, H4.out.2.2⟩
          case measure => simp [intOf]; omega
      · obtain rfl : b = n := by omega
        obtain ⟨hz1, hz2⟩ := HC.out.fin HN.out.symm
        obtain ⟨ZZ, hZl, hcl⟩ := clear_rows g (a * 3) (b - a) (cap - a) (by omega)
        have hcl2 := fun ty => hcl wr ty (fun j hj => by obtain ⟨⟨y, hy⟩, -⟩ := own_at HZ.out (a * 3 + j) (by omega); rw [hy]; rfl) (fun j hj => (own_at HZ.out (a * 3 + j) (by omega)).2)
        obtain ⟨o5, q5⟩ := own_cut HZ.out (by rw [HC.out.len, HN.out]) a (by omega) ZZ hZl
        rw [hz1] at o5
        have H5 := hide (And.intro o5 (And.intro (hnx.trans q5) (grown_trans hgr (grown_cells g ZZ (a * 3) wr))))
        have Hz2 := hide hz2
        have hac : a ≤ cap := by omega
        have han : a ≤ b := by omega
        have hne : ¬ cap = a := by omega
        clear hcl o5 q5 hz1 hz2 HZ HC hO1 hC1 q1 hnx hgr hg1
        go_wp2
        go_ret
        exact ⟨_, rfl, by rw [← Hz2.out]; exact H5.out.1, H5.out.2.1, H5.out.2.2⟩
end Go.Proofs.YtcnnjladaoaeiaaGreatDoor
