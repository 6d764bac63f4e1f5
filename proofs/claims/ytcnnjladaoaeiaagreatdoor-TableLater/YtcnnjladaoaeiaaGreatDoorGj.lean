/-
  Package fresh: Table.
  Package fresh: Table of any table.
  Package table: indexed.
  Package table: indexed, of a table of one's own.
  Package table: newest, insertFault.
-/
import Derived.Test.YtcnnjladaoaeiaaGreatDoorGa
import Derived.Test.YtcnnjladaoaeiaaGreatDoorGi

set_option maxRecDepth 100000
set_option maxHeartbeats 25600000
namespace Go.Proofs.YtcnnjladaoaeiaaGreatDoor
open Go.RowKit
theorem six_frz {W : World} {B : Nat} {cs : Array Value} {t : TypeId} (h : W.heap[B]? = some (.cells cs t)) (i : Nat) : W.frozen? ⟨B, i, none⟩ = false := Lib.frozen_of_heap h i
theorem owns_put0 {w : World} {B : Nat} {e : TypeId} {m : Nat} {v : Value} {n : Nat} {xs : List Value} (h : w.ownsRow B e m v n xs) {g : Nat} (hg : g < B) (i : Nat) (x : Value) : (w.setCell ⟨g, i, none⟩ x).ownsRow B e m v n xs := by
  refine ⟨h.1, ?_⟩
  rcases h.2 with h' | ⟨b, cap, cur, hv, hB, hc, r⟩
  · exact .inl h'
  · exact .inr ⟨b, cap, cur, hv, hB, (heap_setCell_other w _ b x (by show b ≠ g; omega)).trans hc, r⟩
theorem fresh_raw (L : List Ix) (evs0 CN DN RN : List Value) (ca da ra ia : Option Addr) (cn dn rn xn cc dc rc ic : Nat) (nm : List UInt8) (nx : Int) (w : World) (hL : L.length = xn) (he0 : evs0.length = xn) (hx30 : xn ≤ 1000)
    (hsl : ∀ (i : Nat) ev, evs0[i]? = some ev → ∃ a n c, ev = .slice a n c)
    (h95 : ∀ W : World, Below w.heap.size w W → Calls Tryz.prog 94 #[.slice ca cn cc] W fun e w' => ∃ v, e = .returned v ∧ w'.ownsRow W.heap.size 65 2 v cn CN ∧ Below W.heap.size W w')
    (h96 : ∀ W : World, Below w.heap.size w W → Calls Tryz.prog 95 #[.slice da dn dc] W fun e w' => ∃ v, e = .returned v ∧ w'.ownsRow W.heap.size 51 6 v dn DN ∧ Below W.heap.size W w')
    (h97 : ∀ W : World, Below w.heap.size w W → Calls Tryz.prog 96 #[.slice ra rn rc] W fun e w' => ∃ v, e = .returned v ∧ w'.ownsRow W.heap.size 39 3 v rn RN ∧ Below W.heap.size W w')
    (h98 : ∀ W : World, Below w.heap.size w W → Calls Tryz.prog 97 #[.slice ia xn ic] W fun e w' => ∃ v, e = .returned v ∧ w'.ownsRow W.heap.size 73 4 v xn (ixsC L evs0) ∧ Below W.heap.size W w')
    (h99 : ∀ (W : World) (i : Nat) ev x, Below w.heap.size w W → evs0[i]? = some ev → L[i]? = some x → Calls Tryz.prog 98 #[ev] W fun e w' => ∃ v, e = .returned v ∧ w'.ownsRow W.heap.size 111 2 v x.es.length (x.es.flatMap clC) ∧ Below W.heap.size W w') :
    Calls Tryz.prog 49 #[tbV nm (.slice ca cn cc) (.slice da dn dc) (.slice ra rn rc) nx (.slice ia xn ic)] w fun e w' => ∃ cv dv rv iv, e = .returned (tbV nm cv dv rv nx iv) ∧ w'.ownsRow w.heap.size 65 2 cv cn CN ∧ w'.ownsRow w.heap.size 51 6 dv dn DN ∧ w'.ownsRow w.heap.size 39 3 rv rn RN ∧ IxOwn w' w.heap.size iv L ∧ Below w.heap.size w w' := by
  have b0 := ((Below.refl w.heap.size w).alloc (Nat.le_refl _) (.cells #[.string ⟨nm.toArray⟩, .slice ca cn cc, .slice da dn dc, .slice ra rn rc, .int .i64 nx, .slice ia xn ic] 27)).alloc (by simp) (.cells #[.string ⟨#[]⟩, .slice none 0 0, .slice none 0 0, .slice none 0 0, .int .i64 0, .slice none 0 0] 27)
  have k0 : ((w.alloc (.cells #[.string ⟨nm.toArray⟩, .slice ca cn cc, .slice da dn dc, .slice ra rn rc, .int .i64 nx, .slice ia xn ic] 27)).alloc (.cells #[.string ⟨#[]⟩, .slice none 0 0, .slice none 0 0, .slice none 0 0, .int .i64 0, .slice none 0 0] 27)).heap[w.heap.size]? = some (.cells #[.string ⟨nm.toArray⟩, .slice ca cn cc, .slice da dn dc, .slice ra rn rc, .int .i64 nx, .slice ia xn ic] 27) :=
    (((Below.refl (w.heap.size + 1) (w.alloc (.cells #[.string ⟨nm.toArray⟩, .slice ca cn cc, .slice da dn dc, .slice ra rn rc, .int .i64 nx, .slice ia xn ic] 27))).alloc (by simp) (.cells #[.string ⟨#[]⟩, .slice none 0 0, .slice none 0 0, .slice none 0 0, .int .i64 0, .slice none 0 0] 27)).block w.heap.size (by omega)).trans (heap_alloc_new _ _)
  have k1 : ((w.alloc (.cells #[.string ⟨nm.toArray⟩, .slice ca cn cc, .slice da dn dc, .slice ra rn rc, .int .i64 nx, .slice ia xn ic] 27)).alloc (.cells #[.string ⟨#[]⟩, .slice none 0 0, .slice none 0 0, .slice none 0 0, .int .i64 0, .slice none 0 0] 27)).heap[w.heap.size + 1]? = some (.cells #[.string ⟨#[]⟩, .slice none 0 0, .slice none 0 0, .slice none 0 0, .int .i64 0, .slice none 0 0] 27) := by
    have hz : (w.alloc (.cells #[.string ⟨nm.toArray⟩, .slice ca cn cc, .slice da dn dc, .slice ra rn rc, .int .i64 nx, .slice ia xn ic] 27)).heap.size = w.heap.size + 1 := by simp
    rw [← hz]; exact heap_alloc_new _ _
  have hz0 : ((w.alloc (.cells #[.string ⟨nm.toArray⟩, .slice ca cn cc, .slice da dn dc, .slice ra rn rc, .int .i64 nx, .slice ia xn ic] 27)).alloc (.cells #[.string ⟨#[]⟩, .slice none 0 0, .slice none 0 0, .slice none 0 0, .int .i64 0, .slice none 0 0] 27)).heap.size = w.heap.size + 2 := by simp
  unfold tbV
  go_enter Tryz.func49, Tryz.ntmps49
  go_wp2_with fail
  generalize ((w.alloc (.cells #[.string ⟨nm.toArray⟩, .slice ca cn cc, .slice da dn dc, .slice ra rn rc, .int .i64 nx, .slice ia xn ic] 27)).alloc (.cells #[.string ⟨#[]⟩, .slice none 0 0, .slice none 0 0, .slice none 0 0, .int .i64 0, .slice none 0 0] 27)) = w0 at *
  have z0 : w.heap.size + 2 ≤ w0.heap.size := by omega
  clear hz0
  refine (h95 _ b0).mono ?_
  rintro e w0A ⟨cv, rfl, oc, bb0⟩
  have q0A : Below w.heap.size w w0A := b0.trans (bb0.mono b0.size)
  have k0A := (bb0.block w.heap.size (by omega)).trans k0
  have l0A := (bb0.block (w.heap.size + 1) (by omega)).trans k1
  have z0A : w.heap.size + 2 ≤ w0A.heap.size := by have := bb0.size; omega
  replace oc := own_lower oc (show w.heap.size + 2 ≤ w0.heap.size by omega)
  obtain ⟨ca_, cc_, ce_⟩ := owns_slice oc
  subst ce_
  obtain ⟨x0, x1, x2, x3, x4, x5⟩ := six_in k0A
  have fz := six_frz k0A 1
  have k0B : (w0A.setCell ⟨w.heap.size, 1, none⟩ (.slice ca_ cn cc_)).heap[w.heap.size]? = some (.cells #[.string ⟨nm.toArray⟩, .slice ca_ cn cc_, .slice da dn dc, .slice ra rn rc, .int .i64 nx, .slice ia xn ic] 27) := by
    have := heap_setCell_same w0A w.heap.size 1 _ 27 (.slice ca_ cn cc_) k0A
    simpa using this
  have l0B : (w0A.setCell ⟨w.heap.size, 1, none⟩ (.slice ca_ cn cc_)).heap[w.heap.size + 1]? = some (.cells #[.string ⟨#[]⟩, .slice none 0 0, .slice none 0 0, .slice none 0 0, .int .i64 0, .slice none 0 0] 27) := (heap_setCell_other _ _ _ _ (by simp)).trans l0A
  have q0B : Below w.heap.size w (w0A.setCell ⟨w.heap.size, 1, none⟩ (.slice ca_ cn cc_)) := q0A.setCell (p := ⟨w.heap.size, 1, none⟩) (Nat.le_refl w.heap.size) _
  have z0B : w.heap.size + 2 ≤ (w0A.setCell ⟨w.heap.size, 1, none⟩ (.slice ca_ cn cc_)).heap.size := by simpa [World.setCell] using z0A
  replace oc := owns_put0 oc (show w.heap.size < w.heap.size + 2 by omega) 1 (.slice ca_ cn cc_)
  obtain ⟨y0, y1, y2, y3, y4, y5⟩ := six_in k0B
  clear h95 bb0 k0A l0A b0 k0 k1
  go_wp2_with fail
  generalize (w0A.setCell ⟨w.heap.size, 1, none⟩ (.slice ca_ cn cc_)) = w0B at *
  clear x0 x1 x2 x3 x4 x5 fz y0 y1 y2 y3 y4 y5 z0A q0A
  refine (h96 _ q0B).mono ?_
  rintro e w1A ⟨dv, rfl, od, bb1⟩
  have q1A : Below w.heap.size w w1A := q0B.trans (bb1.mono q0B.size)
  have k1A := (bb1.block w.heap.size (by omega)).trans k0B
  have l1A := (bb1.block (w.heap.size + 1) (by omega)).trans l0B
  have z1A : w.heap.size + 2 ≤ w1A.heap.size := by have := bb1.size; omega
  replace od := own_lower od (show w.heap.size + 2 ≤ w0B.heap.size by omega)
  replace oc := owns_keep oc bb1
  obtain ⟨da_, dc_, de_⟩ := owns_slice od
  subst de_
  obtain ⟨x0, x1, x2, x3, x4, x5⟩ := six_in k1A
  have fz := six_frz k1A 2
  have k1B : (w1A.setCell ⟨w.heap.size, 2, none⟩ (.slice da_ dn dc_)).heap[w.heap.size]? = some (.cells #[.string ⟨nm.toArray⟩, .slice ca_ cn cc_, .slice da_ dn dc_, .slice ra rn rc, .int .i64 nx, .slice ia xn ic] 27) := by
    have := heap_setCell_same w1A w.heap.size 2 _ 27 (.slice da_ dn dc_) k1A
    simpa using this
  have l1B : (w1A.setCell ⟨w.heap.size, 2, none⟩ (.slice da_ dn dc_)).heap[w.heap.size + 1]? = some (.cells #[.string ⟨#[]⟩, .slice none 0 0, .slice none 0 0, .slice none 0 0, .int .i64 0, .slice none 0 0] 27) := (heap_setCell_other _ _ _ _ (by simp)).trans l1A
  have q1B : Below w.heap.size w (w1A.setCell ⟨w.heap.size, 2, none⟩ (.slice da_ dn dc_)) := q1A.setCell (p := ⟨w.heap.size, 2, none⟩) (Nat.le_refl w.heap.size) _
  have z1B : w.heap.size + 2 ≤ (w1A.setCell ⟨w.heap.size, 2, none⟩ (.slice da_ dn dc_)).heap.size := by simpa [World.setCell] using z1A
  replace oc := owns_put0 oc (show w.heap.size < w.heap.size + 2 by omega) 2 (.slice da_ dn dc_)
  replace od := owns_put0 od (show w.heap.size < w.heap.size + 2 by omega) 2 (.slice da_ dn dc_)
  obtain ⟨y0, y1, y2, y3, y4, y5⟩ := six_in k1B
  clear h96 bb1 k1A l1A q0B k0B l0B
  go_wp2_with fail
  generalize (w1A.setCell ⟨w.heap.size, 2, none⟩ (.slice da_ dn dc_)) = w1B at *
  clear x0 x1 x2 x3 x4 x5 fz y0 y1 y2 y3 y4 y5 z1A q1A
  refine (h97 _ q1B).mono ?_
  rintro e w2A ⟨rv, rfl, or, bb2⟩
  have q2A : Below w.heap.size w w2A := q1B.trans (bb2.mono q1B.size)
  have k2A := (bb2.block w.heap.size (by omega)).trans k1B
  have l2A := (bb2.block (w.heap.size + 1) (by omega)).trans l1B
  have z2A : w.heap.size + 2 ≤ w2A.heap.size := by have := bb2.size; omega
  replace or := own_lower or (show w.heap.size + 2 ≤ w1B.heap.size by omega)
  replace oc := owns_keep oc bb2
  replace od := owns_keep od bb2
  obtain ⟨ra_, rc_, re_⟩ := owns_slice or
  subst re_
  obtain ⟨x0, x1, x2, x3, x4, x5⟩ := six_in k2A
  have fz := six_frz k2A 3
  have k2B : (w2A.setCell ⟨w.heap.size, 3, none⟩ (.slice ra_ rn rc_)).heap[w.heap.size]? = some (.cells #[.string ⟨nm.toArray⟩, .slice ca_ cn cc_, .slice da_ dn dc_, .slice ra_ rn rc_, .int .i64 nx, .slice ia xn ic] 27) := by
    have := heap_setCell_same w2A w.heap.size 3 _ 27 (.slice ra_ rn rc_) k2A
    simpa using this
  have l2B : (w2A.setCell ⟨w.heap.size, 3, none⟩ (.slice ra_ rn rc_)).heap[w.heap.size + 1]? = some (.cells #[.string ⟨#[]⟩, .slice none 0 0, .slice none 0 0, .slice none 0 0, .int .i64 0, .slice none 0 0] 27) := (heap_setCell_other _ _ _ _ (by simp)).trans l2A
  have q2B : Below w.heap.size w (w2A.setCell ⟨w.heap.size, 3, none⟩ (.slice ra_ rn rc_)) := q2A.setCell (p := ⟨w.heap.size, 3, none⟩) (Nat.le_refl w.heap.size) _
  have z2B : w.heap.size + 2 ≤ (w2A.setCell ⟨w.heap.size, 3, none⟩ (.slice ra_ rn rc_)).heap.size := by simpa [World.setCell] using z2A
  replace oc := owns_put0 oc (show w.heap.size < w.heap.size + 2 by omega) 3 (.slice ra_ rn rc_)
  replace od := owns_put0 od (show w.heap.size < w.heap.size + 2 by omega) 3 (.slice ra_ rn rc_)
  replace or := owns_put0 or (show w.heap.size < w.heap.size + 2 by omega) 3 (.slice ra_ rn rc_)
  obtain ⟨y0, y1, y2, y3, y4, y5⟩ := six_in k2B
  clear h97 bb2 k2A l2A q1B k1B l1B
  go_wp2_with fail
  generalize (w2A.setCell ⟨w.heap.size, 3, none⟩ (.slice ra_ rn rc_)) = w2B at *
  clear x0 x1 x2 x3 x4 x5 fz y0 y1 y2 y3 y4 y5 z2A q2A
  refine (h98 _ q2B).mono ?_
  rintro e w3A ⟨iv, rfl, oi, bb3⟩
  have q3A : Below w.heap.size w w3A := q2B.trans (bb3.mono q2B.size)
  have k3A := (bb3.block w.heap.size (by omega)).trans k2B
  have l3A := (bb3.block (w.heap.size + 1) (by omega)).trans l2B
  have z3A : w.heap.size + 2 ≤ w3A.heap.size := by have := bb3.size; omega
  replace oi := own_lower oi (show w.heap.size + 2 ≤ w2B.heap.size by omega)
  replace oc := owns_keep oc bb3
  replace od := owns_keep od bb3
  replace or := owns_keep or bb3
  obtain ⟨ia_, ic_, ie_⟩ := owns_slice oi
  subst ie_
  obtain ⟨x0, x1, x2, x3, x4, x5⟩ := six_in k3A
  have fz := six_frz k3A 5
  have k3B : (w3A.setCell ⟨w.heap.size, 5, none⟩ (.slice ia_ xn ic_)).heap[w.heap.size]? = some (.cells #[.string ⟨nm.toArray⟩, .slice ca_ cn cc_, .slice da_ dn dc_, .slice ra_ rn rc_, .int .i64 nx, .slice ia_ xn ic_] 27) := by
    have := heap_setCell_same w3A w.heap.size 5 _ 27 (.slice ia_ xn ic_) k3A
    simpa using this
  have l3B : (w3A.setCell ⟨w.heap.size, 5, none⟩ (.slice ia_ xn ic_)).heap[w.heap.size + 1]? = some (.cells #[.string ⟨#[]⟩, .slice none 0 0, .slice none 0 0, .slice none 0 0, .int .i64 0, .slice none 0 0] 27) := (heap_setCell_other _ _ _ _ (by simp)).trans l3A
  have q3B : Below w.heap.size w (w3A.setCell ⟨w.heap.size, 5, none⟩ (.slice ia_ xn ic_)) := q3A.setCell (p := ⟨w.heap.size, 5, none⟩) (Nat.le_refl w.heap.size) _
  have z3B : w.heap.size + 2 ≤ (w3A.setCell ⟨w.heap.size, 5, none⟩ (.slice ia_ xn ic_)).heap.size := by simpa [World.setCell] using z3A
  replace oc := owns_put0 oc (show w.heap.size < w.heap.size + 2 by omega) 5 (.slice ia_ xn ic_)
  replace od := owns_put0 od (show w.heap.size < w.heap.size + 2 by omega) 5 (.slice ia_ xn ic_)
  replace or := owns_put0 or (show w.heap.size < w.heap.size + 2 by omega) 5 (.slice ia_ xn ic_)
  replace oi := owns_put0 oi (show w.heap.size < w.heap.size + 2 by omega) 5 (.slice ia_ xn ic_)
  obtain ⟨y0, y1, y2, y3, y4, y5⟩ := six_in k3B
  clear h98 bb3 k3A l3A q2B k2B l2B
  go_wp2_with fail
  generalize (w3A.setCell ⟨w.heap.size, 5, none⟩ (.slice ia_ xn ic_)) = w3B at *
  clear x0 x1 x2 x3 x4 x5 fz y0 y1 y2 y3 y4 y5 z3A q3A
  have HOI := hide oi
  have HL := hide hL
  have HE0 := hide he0
  have HSL := hide hsl
  clear oi hL he0 hsl
  go_loopw [24] (fun i wl => ∃ (k : Nat) (evs : List Value), k ≤ xn ∧ i = .int .i64 k ∧ Hid (evs.length = xn) ∧ Hid (∀ j : Nat, k ≤ j → evs[j]? = evs0[j]?) ∧ Hid (∀ (j : Nat) ev x, j < k → evs[j]? = some ev → L[j]? = some x → wl.ownsRow (w.heap.size + 2) 111 2 ev x.es.length (x.es.flatMap clC)) ∧ Hid (wl.ownsRow (w.heap.size + 2) 73 4 (.slice ia_ xn ic_) xn (ixsC L evs)) ∧ w3B.grownBy wl (Value.slice ia_ xn ic_).ownBlock) (fun i _ => xn - (intOf i).toNat)
  case atStart => exact ⟨0, evs0, Nat.zero_le _, rfl, HE0, fun _ _ => rfl, fun j ev x hj => absurd hj (Nat.not_lt_zero _), HOI, grown_refl _ _⟩
  case round =>
    obtain ⟨k, evs, hk, rfl, HN, HT, HV, HO, hg⟩ := hrel
    have hown := hide HOI.out.lt
    have q0 : Below w.heap.size w wr := q3B.grown hg q3B.size (fun j hj => by have := (hown.out j hj).1; omega)
    have kr : wr.heap[w.heap.size]? = some (.cells #[.string ⟨nm.toArray⟩, .slice ca_ cn cc_, .slice da_ dn dc_, .slice ra_ rn rc_, .int .i64 nx, .slice ia_ xn ic_] 27) := (hg.block w.heap.size (by omega) (fun e => by have := (hown.out _ e.symm).1; omega)).trans k3B
    have lr : wr.heap[w.heap.size + 1]? = some (.cells #[.string ⟨#[]⟩, .slice none 0 0, .slice none 0 0, .slice none 0 0, .int .i64 0, .slice none 0 0] 27) := (hg.block (w.heap.size + 1) (by omega) (fun e => by have := (hown.out _ e.symm).1; omega)).trans l3B
    have zr : w.heap.size + 2 ≤ wr.heap.size := by have := hg.size; omega
    by_cases hlt : k < xn
    · obtain ⟨x, hx⟩ : ∃ x, L[k]? = some x := ⟨L[k]'(by rw [HL.out]; exact hlt), List.getElem?_eq_getElem _⟩
      obtain ⟨ev, hev⟩ : ∃ x, evs[k]? = some x := ⟨evs[k]'(by rw [HN.out]; exact hlt), List.getElem?_eq_getElem _⟩
      have hev0 : evs0[k]? = some ev := by rw [← HT.out k (Nat.le_refl _)]; exact hev
      obtain ⟨ea, en, ec, rfl⟩ := HSL.out k ev hev0
      obtain ⟨gi, gc, hge, hgB, hgl⟩ := owns_some HO.out (by omega)
      cases hge
      have hcell : ∀ q', q' < 4 → wr.cell? ⟨gi, k * 4 + q', none⟩ = (ixC x (.slice ea en ec))[q']? := by
        intro q' hq
        have := HO.out.cellAt (k * 4 + q') (by omega)
        rw [ixsC_get L evs k x _ hx hev q' hq] at this
        exact this
      have c0 : wr.cell? ⟨gi, k * 4, none⟩ = some (.string ⟨x.name.toArray⟩) := hcell 0 (by decide)
      have c1 : wr.cell? ⟨gi, k * 4 + 1, none⟩ = some (.int .i64 x.a) := hcell 1 (by decide)
      have c2 : wr.cell? ⟨gi, k * 4 + 2, none⟩ = some (.int .i64 x.b) := hcell 2 (by decide)
      have c3 : wr.cell? ⟨gi, k * 4 + 3, none⟩ = some (.slice ea en ec) := hcell 3 (by decide)
      have hlt' : (k : Int) < (xn : Int) := by omega
      obtain ⟨x0, x1, x2, x3, x4, x5⟩ := six_in kr
      have bx : Below wr.heap.size wr (wr.alloc (.cells #[.string ⟨x.name.toArray⟩, .int .i64 x.a, .int .i64 x.b, .slice ea en ec] 73)) := (Below.refl _ _).alloc (Nat.le_refl _) _
      have q1 : Below w.heap.size w (wr.alloc (.cells #[.string ⟨x.name.toArray⟩, .int .i64 x.a, .int .i64 x.b, .slice ea en ec] 73)) := q0.alloc q0.size _
      have h99x := fun (W : World) (hW : Below w.heap.size w W) => h99 W k _ x hW hev0 hx
      have HX := hide hx
      have HEV := hide hev
      obtain ⟨sb, hsb⟩ : ∃ s, wr.heap.size = s := ⟨_, rfl⟩
      have z1 : (wr.alloc (.cells #[.string ⟨x.name.toArray⟩, .int .i64 x.a, .int .i64 x.b, .slice ea en ec] 73)).heap.size = sb + 1 := by rw [← hsb]; simp
      have y3 : (wr.alloc (.cells #[.string ⟨x.name.toArray⟩, .int .i64 x.a, .int .i64 x.b, .slice ea en ec] 73)).cell? ⟨sb, 3, none⟩ = some (.slice ea en ec) := by rw [← hsb]; simp
      have y5 := (bx.cell (p := ⟨w.heap.size, 5, none⟩) (by show w.heap.size < _; omega)).trans x5
      have HO1 := hide (owns_keep HO.out bx)
      have HSB := hide hsb
      have zq : w.heap.size + 2 ≤ sb := by omega
      clear hx hev hev0 hcell
      go_wp2_with fail
      try rw [HSB.out]
      generalize (wr.alloc (.cells #[.string ⟨x.name.toArray⟩, .int .i64 x.a, .int .i64 x.b, .slice ea en ec] 73)) = wa at *
      have hDr := q1.drew
      have fa := own_at HO1.out (k * 4 + 3) (by omega)
      have SA := q1.size
      have zq2 : w.heap.size + 2 ≤ wa.heap.size := by rw [z1]; omega
      clear c0 c1 c2 c3 x0 x1 x2 x3 x4 x5 kr lr hsb
      go_region_law (go_simp; refine (h99x _ (by first | exact q1 | exact hDr)).mono ?_; rintro e w7 ⟨v7, rfl, o7, b7⟩; have B7 : Hid (Below wa.heap.size wa w7) := hide (by first | exact b7 | exact ((Below.refl wa.heap.size wa).drew.trans (b7.mono (by simp)))); have O7 := hide o7; obtain ⟨va, vc, hv7⟩ := owns_slice o7; subst hv7; have HO7 := hide (owns_keep HO1.out B7.out); obtain ⟨⟨zc, hzc⟩, hzf⟩ := own_at HO7.out (k * 4 + 3) (by omega); have y5' := (B7.out.cell (p := ⟨w.heap.size, 5, none⟩) (by show w.heap.size < _; omega)).trans y5; clear b7 o7; dsimp only)
      all_goals
        have bw : Below wr.heap.size wr w7 := bx.trans (B7.out.mono (by have := bx.size; omega))
        have HO9 : Hid ((w7.setCell ⟨gi, k * 4 + 3, none⟩ (.slice va x.es.length vc)).ownsRow (w.heap.size + 2) 73 4 (.slice (some ⟨gi, 0, none⟩) xn ic_) xn (ixsC L (evs.set k (.slice va x.es.length vc)))) := by
          rw [Hid, ← ixsC_set L evs k _ (by rw [HN.out, HL.out]) (by rw [HL.out]; exact hlt)]
          exact own_put HO7.out (k * 4 + 3) _
        have hg9 : w3B.grownBy (w7.setCell ⟨gi, k * 4 + 3, none⟩ (.slice va x.es.length vc)) (Value.slice (some ⟨gi, 0, none⟩) xn ic_).ownBlock := grown_trans hg (grown_trans (grown_below bw _) (grown_set w7 gi (k * 4 + 3) _))
        have HV9 : Hid (∀ (j : Nat) ev x', j < k + 1 → (evs.set k (.slice va x.es.length vc))[j]? = some ev → L[j]? = some x' → (w7.setCell ⟨gi, k * 4 + 3, none⟩ (.slice va x.es.length vc)).ownsRow (w.heap.size + 2) 111 2 ev x'.es.length (x'.es.flatMap clC)) := by
          intro j ev x' hj h1 h2
          rcases Nat.lt_or_ge j k with h | h
          · rw [List.getElem?_set_ne (by omega)] at h1
            exact owns_other (owns_keep (HV.out j ev x' h h1 h2) bw) HO7.out (by decide) (grown_set w7 gi (k * 4 + 3) _)
          · obtain rfl : j = k := by omega
            rw [List.getElem?_set_self (by rw [HN.out]; exact hlt)] at h1
            rw [HX.out] at h2
            cases h1
            cases h2
            exact owns_other (own_lower O7.out zq2) HO7.out (by decide) (grown_set w7 gi (j * 4 + 3) _)
        have HT9 : Hid (∀ j : Nat, k + 1 ≤ j → (evs.set k (.slice va x.es.length vc))[j]? = evs0[j]?) := by
          intro j hj
          rw [List.getElem?_set_ne (by omega)]
          exact HT.out j (by omega)
        have HN9 : Hid ((evs.set k (.slice va x.es.length vc)).length = xn) := by rw [Hid, List.length_set]; exact HN.out
        clear B7 O7 HO7 hzc hzf y5' y5 y3 fa hDr q1 HO1 hg HO HV HT HN
        go_wp2
        go_roundw
        case rel => exact ⟨k + 1, evs.set k (.slice va x.es.length vc), by omega, by go_num, HN9, HT9, HV9, HO9, hg9⟩
        case measure => simp [intOf]; omega
    · obtain rfl : k = xn := by omega
      have O1 : Hid (wr.ownsRow (w.heap.size + 2) 65 2 (.slice ca_ cn cc_) cn CN) := hide (owns_other oc HOI.out (by decide) hg)
      have O2 : Hid (wr.ownsRow (w.heap.size + 2) 51 6 (.slice da_ dn dc_) dn DN) := hide (owns_other od HOI.out (by decide) hg)
      have O3 : Hid (wr.ownsRow (w.heap.size + 2) 39 3 (.slice ra_ rn rc_) rn RN) := hide (owns_other or HOI.out (by decide) hg)
      have O4 : Hid (IxOwn wr (w.heap.size + 2) (.slice ia_ k ic_) L) := hide ⟨evs, by rw [HN.out, HL.out], by rw [HL.out]; exact HO.out, fun j ev x hj hx => HV.out j ev x (by have := (List.getElem?_eq_some_iff.1 hx).1; have := HL.out; omega) hj hx⟩
      obtain ⟨x0, x1, x2, x3, x4, x5⟩ := six_in kr
      obtain ⟨v0, v1, v2, v3, v4, v5⟩ := six_in lr
      have g0 := six_frz lr 0
      have g1 := six_frz lr 1
      have g2 := six_frz lr 2
      have g3 := six_frz lr 3
      have g4 := six_frz lr 4
      have g5 := six_frz lr 5
      have h0 := heap_setCell_same wr (w.heap.size + 1) 0 _ 27 (.string ⟨nm.toArray⟩) lr
      have h1 := heap_setCell_same _ (w.heap.size + 1) 1 _ 27 (.slice ca_ cn cc_) h0
      have h2 := heap_setCell_same _ (w.heap.size + 1) 2 _ 27 (.slice da_ dn dc_) h1
      have h3 := heap_setCell_same _ (w.heap.size + 1) 3 _ 27 (.slice ra_ rn rc_) h2
      have h4 := heap_setCell_same _ (w.heap.size + 1) 4 _ 27 (.int .i64 nx) h3
      have h5 := heap_setCell_same _ (w.heap.size + 1) 5 _ 27 (.slice ia_ k ic_) h4
      have l9 : ((((((wr.setCell ⟨w.heap.size + 1, 0, none⟩ (.string ⟨nm.toArray⟩)).setCell ⟨w.heap.size + 1, 1, none⟩ (.slice ca_ cn cc_)).setCell ⟨w.heap.size + 1, 2, none⟩ (.slice da_ dn dc_)).setCell ⟨w.heap.size + 1, 3, none⟩ (.slice ra_ rn rc_)).setCell ⟨w.heap.size + 1, 4, none⟩ (.int .i64 nx)).setCell ⟨w.heap.size + 1, 5, none⟩ (.slice ia_ k ic_)).heap[w.heap.size + 1]? = some (.cells #[.string ⟨nm.toArray⟩, .slice ca_ cn cc_, .slice da_ dn dc_, .slice ra_ rn rc_, .int .i64 nx, .slice ia_ k ic_] 27) := by simpa using h5
      have q9 : Below w.heap.size w ((((((wr.setCell ⟨w.heap.size + 1, 0, none⟩ (.string ⟨nm.toArray⟩)).setCell ⟨w.heap.size + 1, 1, none⟩ (.slice ca_ cn cc_)).setCell ⟨w.heap.size + 1, 2, none⟩ (.slice da_ dn dc_)).setCell ⟨w.heap.size + 1, 3, none⟩ (.slice ra_ rn rc_)).setCell ⟨w.heap.size + 1, 4, none⟩ (.int .i64 nx)).setCell ⟨w.heap.size + 1, 5, none⟩ (.slice ia_ k ic_)) := ((((((q0.setCell (p := ⟨w.heap.size + 1, 0, none⟩) (Nat.le_succ w.heap.size) (.string ⟨nm.toArray⟩)).setCell (p := ⟨w.heap.size + 1, 1, none⟩) (Nat.le_succ w.heap.size) (.slice ca_ cn cc_)).setCell (p := ⟨w.heap.size + 1, 2, none⟩) (Nat.le_succ w.heap.size) (.slice da_ dn dc_)).setCell (p := ⟨w.heap.size + 1, 3, none⟩) (Nat.le_succ w.heap.size) (.slice ra_ rn rc_)).setCell (p := ⟨w.heap.size + 1, 4, none⟩) (Nat.le_succ w.heap.size) (.int .i64 nx)).setCell (p := ⟨w.heap.size + 1, 5, none⟩) (Nat.le_succ w.heap.size) (.slice ia_ k ic_))
      have PO1 := hide (own_lower (owns_put0 (owns_put0 (owns_put0 (owns_put0 (owns_put0 (owns_put0 O1.out (show w.heap.size + 1 < w.heap.size + 2 by omega) 0 (.string ⟨nm.toArray⟩)) (show w.heap.size + 1 < w.heap.size + 2 by omega) 1 (.slice ca_ cn cc_)) (show w.heap.size + 1 < w.heap.size + 2 by omega) 2 (.slice da_ dn dc_)) (show w.heap.size + 1 < w.heap.size + 2 by omega) 3 (.slice ra_ rn rc_)) (show w.heap.size + 1 < w.heap.size + 2 by omega) 4 (.int .i64 nx)) (show w.heap.size + 1 < w.heap.size + 2 by omega) 5 (.slice ia_ k ic_)) (show w.heap.size ≤ w.heap.size + 2 by omega))
      have PO2 := hide (own_lower (owns_put0 (owns_put0 (owns_put0 (owns_put0 (owns_put0 (owns_put0 O2.out (show w.heap.size + 1 < w.heap.size + 2 by omega) 0 (.string ⟨nm.toArray⟩)) (show w.heap.size + 1 < w.heap.size + 2 by omega) 1 (.slice ca_ cn cc_)) (show w.heap.size + 1 < w.heap.size + 2 by omega) 2 (.slice da_ dn dc_)) (show w.heap.size + 1 < w.heap.size + 2 by omega) 3 (.slice ra_ rn rc_)) (show w.heap.size + 1 < w.heap.size + 2 by omega) 4 (.int .i64 nx)) (show w.heap.size + 1 < w.heap.size + 2 by omega) 5 (.slice ia_ k ic_)) (show w.heap.size ≤ w.heap.size + 2 by omega))
      have PO3 := hide (own_lower (owns_put0 (owns_put0 (owns_put0 (owns_put0 (owns_put0 (owns_put0 O3.out (show w.heap.size + 1 < w.heap.size + 2 by omega) 0 (.string ⟨nm.toArray⟩)) (show w.heap.size + 1 < w.heap.size + 2 by omega) 1 (.slice ca_ cn cc_)) (show w.heap.size + 1 < w.heap.size + 2 by omega) 2 (.slice da_ dn dc_)) (show w.heap.size + 1 < w.heap.size + 2 by omega) 3 (.slice ra_ rn rc_)) (show w.heap.size + 1 < w.heap.size + 2 by omega) 4 (.int .i64 nx)) (show w.heap.size + 1 < w.heap.size + 2 by omega) 5 (.slice ia_ k ic_)) (show w.heap.size ≤ w.heap.size + 2 by omega))
      have PO4 : Hid (IxOwn ((((((wr.setCell ⟨w.heap.size + 1, 0, none⟩ (.string ⟨nm.toArray⟩)).setCell ⟨w.heap.size + 1, 1, none⟩ (.slice ca_ cn cc_)).setCell ⟨w.heap.size + 1, 2, none⟩ (.slice da_ dn dc_)).setCell ⟨w.heap.size + 1, 3, none⟩ (.slice ra_ rn rc_)).setCell ⟨w.heap.size + 1, 4, none⟩ (.int .i64 nx)).setCell ⟨w.heap.size + 1, 5, none⟩ (.slice ia_ k ic_)) w.heap.size (.slice ia_ k ic_) L) := by
        obtain ⟨evs, e1, e2, e3⟩ := O4.out
        exact ⟨evs, e1, own_lower (owns_put0 (owns_put0 (owns_put0 (owns_put0 (owns_put0 (owns_put0 e2 (show w.heap.size + 1 < w.heap.size + 2 by omega) 0 (.string ⟨nm.toArray⟩)) (show w.heap.size + 1 < w.heap.size + 2 by omega) 1 (.slice ca_ cn cc_)) (show w.heap.size + 1 < w.heap.size + 2 by omega) 2 (.slice da_ dn dc_)) (show w.heap.size + 1 < w.heap.size + 2 by omega) 3 (.slice ra_ rn rc_)) (show w.heap.size + 1 < w.heap.size + 2 by omega) 4 (.int .i64 nx)) (show w.heap.size + 1 < w.heap.size + 2 by omega) 5 (.slice ia_ k ic_)) (by omega), fun i ev x h1 h2 => own_lower (owns_put0 (owns_put0 (owns_put0 (owns_put0 (owns_put0 (owns_put0 (e3 i ev x h1 h2) (show w.heap.size + 1 < w.heap.size + 2 by omega) 0 (.string ⟨nm.toArray⟩)) (show w.heap.size + 1 < w.heap.size + 2 by omega) 1 (.slice ca_ cn cc_)) (show w.heap.size + 1 < w.heap.size + 2 by omega) 2 (.slice da_ dn dc_)) (show w.heap.size + 1 < w.heap.size + 2 by omega) 3 (.slice ra_ rn rc_)) (show w.heap.size + 1 < w.heap.size + 2 by omega) 4 (.int .i64 nx)) (show w.heap.size + 1 < w.heap.size + 2 by omega) 5 (.slice ia_ k ic_)) (by omega)⟩
      clear oc od or HO HV HT HN kr lr hg hown h0 h1 h2 h3 h4 h5 O1 O2 O3 O4
      go_wp2
      generalize ((((((wr.setCell ⟨w.heap.size + 1, 0, none⟩ (.string ⟨nm.toArray⟩)).setCell ⟨w.heap.size + 1, 1, none⟩ (.slice ca_ cn cc_)).setCell ⟨w.heap.size + 1, 2, none⟩ (.slice da_ dn dc_)).setCell ⟨w.heap.size + 1, 3, none⟩ (.slice ra_ rn rc_)).setCell ⟨w.heap.size + 1, 4, none⟩ (.int .i64 nx)).setCell ⟨w.heap.size + 1, 5, none⟩ (.slice ia_ k ic_)) = w9 at *
      obtain ⟨s0, s1, s2, s3, s4, s5⟩ := six_in l9
      clear x0 x1 x2 x3 x4 x5 v0 v1 v2 v3 v4 v5 g0 g1 g2 g3 g4 g5
      refine bodyPost_ret (v := .agg #[.string ⟨nm.toArray⟩, .slice ca_ cn cc_, .slice da_ dn dc_, .slice ra_ rn rc_, .int .i64 nx, .slice ia_ k ic_]) ?_ rfl ⟨_, _, _, _, rfl, PO1.out, PO2.out, PO3.out, PO4.out, q9⟩
      simp [results, Tryz.results49, go_sem, s0, s1, s2, s3, s4, s5]
structure TbIn (w : World) (cu du ru iu : Value) (t : Tb) : Prop where
  at' : TbAt w cu du ru iu t
  n1 : NilOk cu
  n2 : NilOk du
  n3 : NilOk ru
  n4 : NilOk iu
  n5 : ∀ g o n cap, iu = .slice (some ⟨g, o, none⟩) n cap → ∀ i ev, i < t.ixs.length → w.cell? ⟨g, o + i * 4 + 3, none⟩ = some ev → NilOk ev
theorem TbIn.below {w w' : World} {cu du ru iu : Value} {t : Tb} (h : TbIn w cu du ru iu t) (hb : Below w.heap.size w w') : TbIn w' cu du ru iu t := by
  refine ⟨h.at'.below hb, h.n1, h.n2, h.n3, h.n4, fun g o n cap e i ev hi hc => ?_⟩
  obtain ⟨ao, cap', e', -, -, -, hcc⟩ := h.at'.is
  have hne : t.ixs ≠ [] := by intro e0; rw [e0] at hi; simp at hi
  obtain ⟨g', o', e2, hg, -⟩ := hcc hne
  subst e2
  rw [e'] at e
  cases e
  exact h.n5 g o _ cap e' i ev hi ((hb.cell (p := ⟨g, o + i * 4 + 3, none⟩) hg).symm.trans hc)
theorem CsAt.cells {w : World} {L : List Cl} {g o : Nat} (hc : ∀ i c, L[i]? = some c → w.cell? ⟨g, o + i * 2, none⟩ = some (.string ⟨c.name.toArray⟩) ∧ w.cell? ⟨g, o + i * 2 + 1, none⟩ = some (.int .i64 c.ty)) (j : Nat) (u : Value) (hj : (L.flatMap clC)[j]? = some u) : w.cell? ⟨g, o + j, none⟩ = some u := by
  induction L generalizing o j with
  | nil => simp at hj
  | cons x r ih =>
    rw [List.flatMap_cons] at hj
    have h0 := hc 0 x rfl
    rw [Nat.zero_mul, Nat.add_zero] at h0
    by_cases h6 : j < 2
    · rw [List.getElem?_append_left (by simpa [clC] using h6)] at hj
      match j, h6, hj with
      | 0, _, hj => simp [clC] at hj; subst hj; exact h0.1
      | 1, _, hj => simp [clC] at hj; subst hj; exact h0.2
    · rw [List.getElem?_append_right (by simp [clC]; omega)] at hj
      have := ih (o := o + 2) (fun i y hy => by
        have := hc (i + 1) y (by simpa using hy)
        rw [show o + 2 + i * 2 = o + (i + 1) * 2 by omega]; exact this) (j - 2) (by simpa [clC] using hj)
      rw [show o + 2 + (j - 2) = o + j by omega] at this
      exact this
theorem flatE_one (L : List Cl) : ∀ u ∈ L.flatMap clC, u.oneCell' = true := by
  intro u hu
  obtain ⟨x, -, hx⟩ := List.mem_flatMap.1 hu
  simp only [clC, List.mem_cons, List.not_mem_nil, or_false] at hx
  rcases hx with rfl | rfl <;> rfl
theorem ixsC_at : ∀ (L : List Ix) (evs : List Value) (j : Nat) (v : Value), evs.length = L.length → (ixsC L evs)[j]? = some v → ∃ i q x ev, q < 4 ∧ j = i * 4 + q ∧ L[i]? = some x ∧ evs[i]? = some ev ∧ (ixC x ev)[q]? = some v := by
  intro L evs j v hl hj
  have hlen := ixsC_len L evs hl
  have hjl := (List.getElem?_eq_some_iff.1 hj).1
  have hi : j / 4 < L.length := by omega
  have hx : L[j / 4]? = some L[j / 4] := List.getElem?_eq_getElem hi
  have hev : evs[j / 4]? = some (evs[j / 4]'(by omega)) := List.getElem?_eq_getElem (by omega)
  refine ⟨j / 4, j % 4, _, _, by omega, by omega, hx, hev, ?_⟩
  have := ixsC_get L evs (j / 4) _ _ hx hev (j % 4) (by omega)
  rw [← this, show j / 4 * 4 + j % 4 = j by omega]
  exact hj
theorem fresh_any (t : Tb) (cu du ru iu : Value) (w : World) (h : TbIn w cu du ru iu t) (hix : t.ixs.length ≤ 1000) :
    Calls Tryz.prog 49 #[tbV t.name cu du ru t.next iu] w fun e w' => ∃ cv dv rv iv, e = .returned (tbV t.name cv dv rv t.next iv) ∧ TbOwn w' w.heap.size cv dv rv iv t ∧ Below w.heap.size w w' := by
  obtain ⟨hat, n1, n2, n3, n4, n5⟩ := h
  obtain ⟨ca, cc, rfl, cl, chc⟩ := hat.cs
  obtain ⟨da, dc, rfl, -, -, dl, -, dhc⟩ := hat.ds
  obtain ⟨ra, rc, rfl, rl, -, rhc⟩ := hat.rs
  obtain ⟨ia, ic, rfl, -, il, -, ihc⟩ := hat.is
  obtain ⟨evs, hevl, hev⟩ : ∃ evs : List Value, evs.length = t.ixs.length ∧ (t.ixs ≠ [] → ∃ g o, ia = some ⟨g, o, none⟩ ∧ g < w.heap.size ∧ ∀ (i : Nat) x ev, t.ixs[i]? = some x → evs[i]? = some ev → w.cell? ⟨g, o + i * 4, none⟩ = some (.string ⟨x.name.toArray⟩) ∧ w.cell? ⟨g, o + i * 4 + 1, none⟩ = some (.int .i64 x.a) ∧ w.cell? ⟨g, o + i * 4 + 2, none⟩ = some (.int .i64 x.b) ∧ w.cell? ⟨g, o + i * 4 + 3, none⟩ = some ev ∧ CsAt w ev x.es) := by
    rcases Classical.em (t.ixs = []) with h0 | h0
    · exact ⟨[], by simp [h0], fun hne => absurd h0 hne⟩
    · obtain ⟨g, o, e, hg, hc⟩ := ihc h0
      have hex : ∀ i, i < t.ixs.length → ∃ ev, ∀ x, t.ixs[i]? = some x → w.cell? ⟨g, o + i * 4, none⟩ = some (.string ⟨x.name.toArray⟩) ∧ w.cell? ⟨g, o + i * 4 + 1, none⟩ = some (.int .i64 x.a) ∧ w.cell? ⟨g, o + i * 4 + 2, none⟩ = some (.int .i64 x.b) ∧ w.cell? ⟨g, o + i * 4 + 3, none⟩ = some ev ∧ CsAt w ev x.es := by
        intro i hi
        obtain ⟨ev, c0, c1, c2, c3, c4, -⟩ := hc i t.ixs[i] (List.getElem?_eq_getElem hi)
        refine ⟨ev, fun x hx => ?_⟩
        rw [List.getElem?_eq_getElem hi] at hx
        cases hx
        exact ⟨c0, c1, c2, c3, c4⟩
      have inh : Inhabited Value := ⟨.slice none 0 0⟩
      obtain ⟨F, hF⟩ := Deep.choose_lt (α := Value) hex
      refine ⟨(List.range t.ixs.length).map F, by simp, fun _ => ⟨g, o, e, hg, fun i x ev hx he => ?_⟩⟩
      have hi := (List.getElem?_eq_some_iff.1 hx).1
      rw [List.getElem?_map, List.getElem?_range hi] at he
      cases he
      exact hF i hi x hx
  refine (fresh_raw t.ixs evs (t.cols.flatMap clC) (t.ds.flatMap dlC) (t.rows.flatMap vlC) ca da ra ia _ _ _ _ cc dc rc ic t.name t.next w rfl hevl hix ?_ ?_ ?_ ?_ ?_ ?_).mono ?_
  · intro i ev he
    have hi := (List.getElem?_eq_some_iff.1 he).1
    obtain ⟨g, o, -, -, hc⟩ := hev (by intro e0; rw [e0] at hevl; simp at hevl; rw [hevl] at hi; simp at hi)
    obtain ⟨-, -, -, -, ao, cap, rfl, -⟩ := hc i t.ixs[i] ev (List.getElem?_eq_getElem (by omega)) he
    exact ⟨_, _, _, rfl⟩
  · intro W hW
    refine clone_cols _ ca _ cc W (fun e => n1 ca _ cc rfl e) cl (flatE_len _) (flatE_one _) (fun ad had j x hj => ?_)
    rcases Classical.em (t.cols = []) with h0 | h0
    · rw [h0] at hj; simp at hj
    · obtain ⟨g, o, e, hg, hcc⟩ := chc h0
      rw [had] at e; cases e
      rw [Go.WideShapes.add_plain]
      exact ⟨(hW.cell (p := ⟨g, o + j, none⟩) hg).trans (CsAt.cells hcc j x hj), Nat.lt_of_lt_of_le hg hW.size⟩
  · intro W hW
    refine clone_dels _ da _ dc W (fun e => n2 da _ dc rfl e) dl (flatD_len _) (flatD_one _) (fun ad had j x hj => ?_)
    rcases Classical.em (t.ds = []) with h0 | h0
    · rw [h0] at hj; simp at hj
    · obtain ⟨g, o, e, hg, hcc⟩ := dhc h0
      rw [had] at e; cases e
      rw [Go.WideShapes.add_plain]
      exact ⟨(hW.cell (p := ⟨g, o + j, none⟩) hg).trans (DsAt.cells hcc j x hj), Nat.lt_of_lt_of_le hg hW.size⟩
  · intro W hW
    refine clone_rows _ ra _ rc W (fun e => n3 ra _ rc rfl e) rl (flatV_len _) (flatV_one _) (fun ad had j x hj => ?_)
    rcases Classical.em (t.rows = []) with h0 | h0
    · rw [h0] at hj; simp at hj
    · obtain ⟨g, o, e, hg, hcc⟩ := rhc h0
      rw [had] at e; cases e
      rw [Go.WideShapes.add_plain]
      exact ⟨(hW.cell (p := ⟨g, o + j, none⟩) hg).trans (VsAt.cells hcc j x hj), Nat.lt_of_lt_of_le hg hW.size⟩
  · intro W hW
    refine clone_ixs _ ia _ ic W (fun e => n4 ia _ ic rfl e) il (ixsC_len _ _ hevl) ?_ (fun ad had j v hj => ?_)
    · intro v hv
      obtain ⟨j, hj⟩ := List.getElem?_of_mem hv
      obtain ⟨i, q, x, ev, hq, -, hx, he, hv⟩ := ixsC_at _ _ _ _ hevl hj
      obtain ⟨g, o, -, -, hc⟩ := hev (by intro e0; rw [e0] at hx; simp at hx)
      obtain ⟨-, -, -, -, ao, cap, rfl, -⟩ := hc i x ev hx he
      match q, hq, hv with
      | 0, _, hv => simp [ixC] at hv; subst hv; rfl
      | 1, _, hv => simp [ixC] at hv; subst hv; rfl
      | 2, _, hv => simp [ixC] at hv; subst hv; rfl
      | 3, _, hv => simp [ixC] at hv; subst hv; rfl
    · obtain ⟨i, q, x, ev, hq, rfl, hx, he, hv⟩ := ixsC_at _ _ _ _ hevl hj
      obtain ⟨g, o, e, hg, hc⟩ := hev (by intro e0; rw [e0] at hx; simp at hx)
      rw [had] at e; cases e
      obtain ⟨c0, c1, c2, c3, -⟩ := hc i x ev hx he
      rw [Go.WideShapes.add_plain]
      refine ⟨(hW.cell (p := ⟨g, o + (i * 4 + q), none⟩) hg).trans ?_, Nat.lt_of_lt_of_le hg hW.size⟩
      rw [← Nat.add_assoc]
      match q, hq, hv with
      | 0, _, hv => simp [ixC] at hv; subst hv; exact c0
      | 1, _, hv => simp [ixC] at hv; subst hv; exact c1
      | 2, _, hv => simp [ixC] at hv; subst hv; exact c2
      | 3, _, hv => simp [ixC] at hv; subst hv; exact c3
  · intro W i ev x hW he hx
    obtain ⟨g, o, e, hg, hc⟩ := hev (by intro e0; rw [e0] at hx; simp at hx)
    obtain ⟨-, -, -, c3, ao, cap, rfl, el, ehc⟩ := hc i x ev hx he
    have hni := n5 g o _ ic (by rw [e]) i _ (List.getElem?_eq_some_iff.1 hx).1 c3
    refine clone_ents _ ao _ cap W (fun e => hni ao _ cap rfl e) el (flatE_len _) (flatE_one _) (fun ad had j y hj => ?_)
    rcases Classical.em (x.es = []) with h0 | h0
    · rw [h0] at hj; simp at hj
    · obtain ⟨g', o', e', hg', hcc⟩ := ehc h0
      rw [had] at e'; cases e'
      rw [Go.WideShapes.add_plain]
      exact ⟨(hW.cell (p := ⟨g', o' + j, none⟩) hg').trans (CsAt.cells hcc j y hj), Nat.lt_of_lt_of_le hg' hW.size⟩
  · rintro e w' ⟨cv, dv, rv, iv, rfl, o1, o2, o3, o4, b⟩
    exact ⟨cv, dv, rv, iv, rfl, ⟨o1, o2, o3, o4⟩, b⟩
theorem owns_put1 {w : World} {B : Nat} {e : TypeId} {m : Nat} {v : Value} {n : Nat} {xs : List Value} (h : w.ownsRow B e m v n xs) {g : Nat} (hg : v.ownBlock ≠ some g) (i : Nat) (x : Value) : (w.setCell ⟨g, i, none⟩ x).ownsRow B e m v n xs := by
  refine ⟨h.1, ?_⟩
  rcases h.2 with h' | ⟨b, cap, cur, rfl, hB, hc, r⟩
  · exact .inl h'
  · exact .inr ⟨b, cap, cur, rfl, hB, (heap_setCell_other w _ b x (by intro e; exact hg (by simp [Value.ownBlock, e]))).trans hc, r⟩
theorem indexed_raw (L : List Ix) (E : Ix → List Cl) (evs0 : List Value) (LL : List (List Vl)) (B : Nat) (ca da ra ia : Option Addr) (cn dn rn xn cc dc rc ic : Nat) (nm : List UInt8) (nx : Int) (w : World) (hL : L.length = xn) (he0 : evs0.length = xn) (hx30 : xn ≤ 1000)
    (hsl : ∀ (i : Nat) ev, evs0[i]? = some ev → ∃ a n c, ev = .slice a n c)
    (hO : w.ownsRow B 73 4 (.slice ia xn ic) xn (ixsC L evs0))
    (h30 : ∀ W : World, Below w.heap.size w W → Calls Tryz.prog 30 #[tbV nm (.slice ca cn cc) (.slice da dn dc) (.slice ra rn rc) nx (.slice ia xn ic)] W fun e w' => ∃ u, e = .returned u ∧ VvOwn w' W.heap.size u LL ∧ Below W.heap.size W w')
    (h94 : ∀ (w1 W : World) (u : Value) (k : Nat) ev x, Below w.heap.size w w1 → VvOwn w1 w.heap.size u LL → w1.grownBy W (Value.slice ia xn ic).ownBlock → L[k]? = some x → Calls Tryz.prog 93 #[tbV nm (.slice ca cn cc) (.slice da dn dc) (.slice ra rn rc) nx (.slice ia xn ic), u, .agg #[.string ⟨x.name.toArray⟩, .int .i64 x.a, .int .i64 x.b, ev]] W fun e w' => ∃ v, e = .returned v ∧ w'.ownsRow W.heap.size 111 2 v (E x).length ((E x).flatMap clC) ∧ Below W.heap.size W w') :
    Calls Tryz.prog 51 #[tbV nm (.slice ca cn cc) (.slice da dn dc) (.slice ra rn rc) nx (.slice ia xn ic)] w fun e w' => e = .returned (tbV nm (.slice ca cn cc) (.slice da dn dc) (.slice ra rn rc) nx (.slice ia xn ic)) ∧ (∃ evs : List Value, evs.length = xn ∧ w'.ownsRow B 73 4 (.slice ia xn ic) xn (ixsC L evs) ∧ ∀ (j : Nat) ev x, evs[j]? = some ev → L[j]? = some x → w'.ownsRow w.heap.size 111 2 ev (E x).length ((E x).flatMap clC)) ∧ w.grownBy w' (Value.slice ia xn ic).ownBlock := by
  have b0 := ((Below.refl w.heap.size w).alloc (Nat.le_refl _) (.cells #[.string ⟨nm.toArray⟩, .slice ca cn cc, .slice da dn dc, .slice ra rn rc, .int .i64 nx, .slice ia xn ic] 27)).alloc (by simp) (.cells #[.string ⟨#[]⟩, .slice none 0 0, .slice none 0 0, .slice none 0 0, .int .i64 0, .slice none 0 0] 27)
  have k0 : ((w.alloc (.cells #[.string ⟨nm.toArray⟩, .slice ca cn cc, .slice da dn dc, .slice ra rn rc, .int .i64 nx, .slice ia xn ic] 27)).alloc (.cells #[.string ⟨#[]⟩, .slice none 0 0, .slice none 0 0, .slice none 0 0, .int .i64 0, .slice none 0 0] 27)).heap[w.heap.size]? = some (.cells #[.string ⟨nm.toArray⟩, .slice ca cn cc, .slice da dn dc, .slice ra rn rc, .int .i64 nx, .slice ia xn ic] 27) :=
    (((Below.refl (w.heap.size + 1) (w.alloc (.cells #[.string ⟨nm.toArray⟩, .slice ca cn cc, .slice da dn dc, .slice ra rn rc, .int .i64 nx, .slice ia xn ic] 27))).alloc (by simp) (.cells #[.string ⟨#[]⟩, .slice none 0 0, .slice none 0 0, .slice none 0 0, .int .i64 0, .slice none 0 0] 27)).block w.heap.size (by omega)).trans (heap_alloc_new _ _)
  have k1 : ((w.alloc (.cells #[.string ⟨nm.toArray⟩, .slice ca cn cc, .slice da dn dc, .slice ra rn rc, .int .i64 nx, .slice ia xn ic] 27)).alloc (.cells #[.string ⟨#[]⟩, .slice none 0 0, .slice none 0 0, .slice none 0 0, .int .i64 0, .slice none 0 0] 27)).heap[w.heap.size + 1]? = some (.cells #[.string ⟨#[]⟩, .slice none 0 0, .slice none 0 0, .slice none 0 0, .int .i64 0, .slice none 0 0] 27) := by
    have hz : (w.alloc (.cells #[.string ⟨nm.toArray⟩, .slice ca cn cc, .slice da dn dc, .slice ra rn rc, .int .i64 nx, .slice ia xn ic] 27)).heap.size = w.heap.size + 1 := by simp
    rw [← hz]; exact heap_alloc_new _ _
  have hz0 : ((w.alloc (.cells #[.string ⟨nm.toArray⟩, .slice ca cn cc, .slice da dn dc, .slice ra rn rc, .int .i64 nx, .slice ia xn ic] 27)).alloc (.cells #[.string ⟨#[]⟩, .slice none 0 0, .slice none 0 0, .slice none 0 0, .int .i64 0, .slice none 0 0] 27)).heap.size = w.heap.size + 2 := by simp
  have hOw := hide hO.lt
  have HB0 := hide (owns_keep hO b0)
  unfold tbV at *
  go_enter Tryz.func51, Tryz.ntmps51
  generalize hW0 : ((w.alloc (.cells #[.string ⟨nm.toArray⟩, .slice ca cn cc, .slice da dn dc, .slice ra rn rc, .int .i64 nx, .slice ia xn ic] 27)).alloc (.cells #[.string ⟨#[]⟩, .slice none 0 0, .slice none 0 0, .slice none 0 0, .int .i64 0, .slice none 0 0] 27)) = w0 at b0 k0 k1 hz0 HB0
  have HW0 := hide hW0
  obtain ⟨x0, x1, x2, x3, x4, x5⟩ := six_in k0
  clear hW0
  go_wp2_with fail
  rw [HW0.out]
  refine (h30 _ b0).mono ?_
  rintro e w1 ⟨u, rfl, hu, b1⟩
  have q1 : Below w.heap.size w w1 := b0.trans (b1.mono b0.size)
  have ka := (b1.block w.heap.size (by omega)).trans k0
  have la := (b1.block (w.heap.size + 1) (by omega)).trans k1
  have za : w.heap.size + 2 ≤ w1.heap.size := by have := b1.size; omega
  have HU : Hid (VvOwn w1 w.heap.size u LL) := hide (hu.mono (by omega))
  have HO1 := hide (owns_keep HB0.out b1)
  have HL := hide hL
  have HE0 := hide he0
  have HSL := hide hsl
  clear x0 x1 x2 x3 x4 x5 h30 b1 k0 k1 hu hz0 hL he0 hsl hO HB0
  obtain ⟨x0, x1, x2, x3, x4, x5⟩ := six_in ka
  go_wp2_with fail
  clear x0 x1 x2 x3 x4 x5
  go_loopw [11] (fun i wl => ∃ (k : Nat) (evs : List Value), k ≤ xn ∧ i = .int .i64 k ∧ Hid (evs.length = xn) ∧ Hid (∀ j : Nat, k ≤ j → evs[j]? = evs0[j]?) ∧ Hid (∀ (j : Nat) ev x, j < k → evs[j]? = some ev → L[j]? = some x → wl.ownsRow (w.heap.size + 2) 111 2 ev (E x).length ((E x).flatMap clC)) ∧ Hid (wl.ownsRow B 73 4 (.slice ia xn ic) xn (ixsC L evs)) ∧ w1.grownBy wl (Value.slice ia xn ic).ownBlock) (fun i _ => xn - (intOf i).toNat)
  case atStart => exact ⟨0, evs0, Nat.zero_le _, rfl, HE0, fun _ _ => rfl, fun j ev x hj => absurd hj (Nat.not_lt_zero _), HO1, grown_refl _ _⟩
  case round =>
    obtain ⟨k, evs, hk, rfl, HN, HT, HV, HO, hg⟩ := hrel
    have hne0 : (Value.slice ia xn ic).ownBlock ≠ some w.heap.size := fun e => by have := (hOw.out _ e).2; omega
    have hne1 : (Value.slice ia xn ic).ownBlock ≠ some (w.heap.size + 1) := fun e => by have := (hOw.out _ e).2; omega
    have hgw : w.grownBy wr (Value.slice ia xn ic).ownBlock := grown_trans (grown_below q1 _) hg
    have kr : wr.heap[w.heap.size]? = some (.cells #[.string ⟨nm.toArray⟩, .slice ca cn cc, .slice da dn dc, .slice ra rn rc, .int .i64 nx, .slice ia xn ic] 27) := (hg.block w.heap.size (by omega) (fun e => hne0 e.symm)).trans ka
    have lr : wr.heap[w.heap.size + 1]? = some (.cells #[.string ⟨#[]⟩, .slice none 0 0, .slice none 0 0, .slice none 0 0, .int .i64 0, .slice none 0 0] 27) := (hg.block (w.heap.size + 1) (by omega) (fun e => hne1 e.symm)).trans la
    have zr : w.heap.size + 2 ≤ wr.heap.size := by have := hg.size; omega
    by_cases hlt : k < xn
    · obtain ⟨x, hx⟩ : ∃ x, L[k]? = some x := ⟨L[k]'(by rw [HL.out]; exact hlt), List.getElem?_eq_getElem _⟩
      obtain ⟨ev, hev⟩ : ∃ x, evs[k]? = some x := ⟨evs[k]'(by rw [HN.out]; exact hlt), List.getElem?_eq_getElem _⟩
      have hev0 : evs0[k]? = some ev := by rw [← HT.out k (Nat.le_refl _)]; exact hev
      obtain ⟨ea, en, ec, rfl⟩ := HSL.out k ev hev0
      obtain ⟨gi, gc, hge, hgB, hgl⟩ := owns_some HO.out (by omega)
      cases hge
      have hcell : ∀ q', q' < 4 → wr.cell? ⟨gi, k * 4 + q', none⟩ = (ixC x (.slice ea en ec))[q']? := by
        intro q' hq
        have := HO.out.cellAt (k * 4 + q') (by omega)
        rw [ixsC_get L evs k x _ hx hev q' hq] at this
        exact this
      have c0 : wr.cell? ⟨gi, k * 4, none⟩ = some (.string ⟨x.name.toArray⟩) := hcell 0 (by decide)
      have c1 : wr.cell? ⟨gi, k * 4 + 1, none⟩ = some (.int .i64 x.a) := hcell 1 (by decide)
      have c2 : wr.cell? ⟨gi, k * 4 + 2, none⟩ = some (.int .i64 x.b) := hcell 2 (by decide)
      have c3 : wr.cell? ⟨gi, k * 4 + 3, none⟩ = some (.slice ea en ec) := hcell 3 (by decide)
      have hlt' : (k : Int) < (xn : Int) := by omega
      obtain ⟨x0, x1, x2, x3, x4, x5⟩ := six_in kr
      have bx : Below wr.heap.size wr (wr.alloc (.cells #[.string ⟨x.name.toArray⟩, .int .i64 x.a, .int .i64 x.b, .slice ea en ec] 73)) := (Below.refl _ _).alloc (Nat.le_refl _) _
      have gx : w1.grownBy (wr.alloc (.cells #[.string ⟨x.name.toArray⟩, .int .i64 x.a, .int .i64 x.b, .slice ea en ec] 73)) (Value.slice (some ⟨gi, 0, none⟩) xn ic).ownBlock := grown_alloc hg _
      have h94x := h94 w1 _ u k (.slice ea en ec) x q1 HU.out gx hx
      have h94y := h94 w1 (wr.alloc (.cells #[.string ⟨x.name.toArray⟩, .int .i64 x.a, .int .i64 x.b, .slice ea en ec] 73)).drew u k (.slice ea en ec) x q1 HU.out ⟨gx.os, gx.tape, gx.output, gx.size, gx.block⟩ hx
      have HX := hide hx
      have HEV := hide hev
      obtain ⟨sb, hsb⟩ : ∃ s, wr.heap.size = s := ⟨_, rfl⟩
      have z1 : (wr.alloc (.cells #[.string ⟨x.name.toArray⟩, .int .i64 x.a, .int .i64 x.b, .slice ea en ec] 73)).heap.size = sb + 1 := by rw [← hsb]; simp
      have y3 := (four_cells (W := wr.alloc (.cells #[.string ⟨x.name.toArray⟩, .int .i64 x.a, .int .i64 x.b, .slice ea en ec] 73)) (w := wr) (t := 73) (a := .string ⟨x.name.toArray⟩) (b := .int .i64 x.a) (c := .int .i64 x.b) (d := .slice ea en ec) (Below.refl _ _))
      rw [hsb] at y3
      obtain ⟨y0, y1, y2, y3⟩ := y3
      have sw : w.heap.size < wr.heap.size := by omega
      have u0 := (bx.cell (p := ⟨w.heap.size, 0, none⟩) sw).trans x0
      have u1 := (bx.cell (p := ⟨w.heap.size, 1, none⟩) sw).trans x1
      have u2 := (bx.cell (p := ⟨w.heap.size, 2, none⟩) sw).trans x2
      have u3 := (bx.cell (p := ⟨w.heap.size, 3, none⟩) sw).trans x3
      have u4 := (bx.cell (p := ⟨w.heap.size, 4, none⟩) sw).trans x4
      have u5 := (bx.cell (p := ⟨w.heap.size, 5, none⟩) sw).trans x5
      have HO1 := hide (owns_keep HO.out bx)
      have HSB := hide hsb
      have zq : w.heap.size + 2 ≤ sb := by omega
      clear hx hev hev0 hcell h94
      go_wp2_with fail
      try rw [HSB.out]
      generalize (wr.alloc (.cells #[.string ⟨x.name.toArray⟩, .int .i64 x.a, .int .i64 x.b, .slice ea en ec] 73)) = wa at *
      have fa := own_at HO1.out (k * 4 + 3) (by omega)
      have zq2 : w.heap.size + 2 ≤ wa.heap.size := by rw [z1]; omega
      clear c0 c1 c2 c3 x0 x1 x2 x3 x4 x5 kr lr hsb
      go_region_law (go_simp; refine (by first | exact h94x | exact h94y : Calls Tryz.prog 93 _ _ _).mono ?_; rintro e w7 ⟨v7, rfl, o7, b7⟩; have B7 : Hid (Below wa.heap.size wa w7) := hide (by first | exact b7 | exact ((Below.refl wa.heap.size wa).drew.trans (b7.mono (by simp)))); have O7 := hide o7; obtain ⟨va, vc, hv7⟩ := owns_slice o7; subst hv7; have HO7 := hide (owns_keep HO1.out B7.out); obtain ⟨⟨zc, hzc⟩, hzf⟩ := own_at HO7.out (k * 4 + 3) (by omega); have y5' := (B7.out.cell (p := ⟨w.heap.size, 5, none⟩) (by show w.heap.size < _; omega)).trans u5; clear b7 o7; dsimp only)
      all_goals
        have bw : Below wr.heap.size wr w7 := bx.trans (B7.out.mono (by have := bx.size; omega))
        have HO9 : Hid ((w7.setCell ⟨gi, k * 4 + 3, none⟩ (.slice va (E x).length vc)).ownsRow B 73 4 (.slice (some ⟨gi, 0, none⟩) xn ic) xn (ixsC L (evs.set k (.slice va (E x).length vc)))) := by
          rw [Hid, ← ixsC_set L evs k _ (by rw [HN.out, HL.out]) (by rw [HL.out]; exact hlt)]
          exact own_put HO7.out (k * 4 + 3) _
        have hg9 : w1.grownBy (w7.setCell ⟨gi, k * 4 + 3, none⟩ (.slice va (E x).length vc)) (Value.slice (some ⟨gi, 0, none⟩) xn ic).ownBlock := grown_trans hg (grown_trans (grown_below bw _) (grown_set w7 gi (k * 4 + 3) _))
        have HV9 : Hid (∀ (j : Nat) ev x', j < k + 1 → (evs.set k (.slice va (E x).length vc))[j]? = some ev → L[j]? = some x' → (w7.setCell ⟨gi, k * 4 + 3, none⟩ (.slice va (E x).length vc)).ownsRow (w.heap.size + 2) 111 2 ev (E x').length ((E x').flatMap clC)) := by
          intro j ev x' hj h1 h2
          rcases Nat.lt_or_ge j k with h | h
          · rw [List.getElem?_set_ne (by omega)] at h1
            exact owns_other (owns_keep (HV.out j ev x' h h1 h2) bw) HO7.out (by decide) (grown_set w7 gi (k * 4 + 3) _)
          · obtain rfl : j = k := by omega
            rw [List.getElem?_set_self (by rw [HN.out]; exact hlt)] at h1
            rw [HX.out] at h2
            cases h1
            cases h2
            exact owns_other (own_lower O7.out zq2) HO7.out (by decide) (grown_set w7 gi (j * 4 + 3) _)
        have HT9 : Hid (∀ j : Nat, k + 1 ≤ j → (evs.set k (.slice va (E x).length vc))[j]? = evs0[j]?) := by
          intro j hj
          rw [List.getElem?_set_ne (by omega)]
          exact HT.out j (by omega)
        have HN9 : Hid ((evs.set k (.slice va (E x).length vc)).length = xn) := by rw [Hid, List.length_set]; exact HN.out
        clear B7 O7 HO7 hzc hzf y5' u0 u1 u2 u3 u4 u5 y0 y1 y2 y3 fa HO1 hg HO HV HT HN
        go_wp2
        go_roundw
        case rel => exact ⟨k + 1, evs.set k (.slice va (E x).length vc), by omega, by go_num, HN9, HT9, HV9, HO9, hg9⟩
        case measure => simp [intOf]; omega
    · obtain rfl : k = xn := by omega
      obtain ⟨x0, x1, x2, x3, x4, x5⟩ := six_in kr
      obtain ⟨v0, v1, v2, v3, v4, v5⟩ := six_in lr
      have f0 := six_frz lr 0
      have f1 := six_frz lr 1
      have f2 := six_frz lr 2
      have f3 := six_frz lr 3
      have f4 := six_frz lr 4
      have f5 := six_frz lr 5
      have h0 := heap_setCell_same wr (w.heap.size + 1) 0 _ 27 (.string ⟨nm.toArray⟩) lr
      have h1 := heap_setCell_same _ (w.heap.size + 1) 1 _ 27 (.slice ca cn cc) h0
      have h2 := heap_setCell_same _ (w.heap.size + 1) 2 _ 27 (.slice da dn dc) h1
      have h3 := heap_setCell_same _ (w.heap.size + 1) 3 _ 27 (.slice ra rn rc) h2
      have h4 := heap_setCell_same _ (w.heap.size + 1) 4 _ 27 (.int .i64 nx) h3
      have h5 := heap_setCell_same _ (w.heap.size + 1) 5 _ 27 (.slice ia k ic) h4
      have l9 : ((((((wr.setCell ⟨w.heap.size + 1, 0, none⟩ (.string ⟨nm.toArray⟩)).setCell ⟨w.heap.size + 1, 1, none⟩ (.slice ca cn cc)).setCell ⟨w.heap.size + 1, 2, none⟩ (.slice da dn dc)).setCell ⟨w.heap.size + 1, 3, none⟩ (.slice ra rn rc)).setCell ⟨w.heap.size + 1, 4, none⟩ (.int .i64 nx)).setCell ⟨w.heap.size + 1, 5, none⟩ (.slice ia k ic)).heap[w.heap.size + 1]? = some (.cells #[.string ⟨nm.toArray⟩, .slice ca cn cc, .slice da dn dc, .slice ra rn rc, .int .i64 nx, .slice ia k ic] 27) := by simpa using h5
      have g1 : w.grownBy wr (Value.slice ia k ic).ownBlock := hgw
      have g9 : w.grownBy ((((((wr.setCell ⟨w.heap.size + 1, 0, none⟩ (.string ⟨nm.toArray⟩)).setCell ⟨w.heap.size + 1, 1, none⟩ (.slice ca cn cc)).setCell ⟨w.heap.size + 1, 2, none⟩ (.slice da dn dc)).setCell ⟨w.heap.size + 1, 3, none⟩ (.slice ra rn rc)).setCell ⟨w.heap.size + 1, 4, none⟩ (.int .i64 nx)).setCell ⟨w.heap.size + 1, 5, none⟩ (.slice ia k ic)) (Value.slice ia k ic).ownBlock := (grown_put (grown_put (grown_put (grown_put (grown_put (grown_put g1 (show w.heap.size ≤ w.heap.size + 1 by omega) 0 (.string ⟨nm.toArray⟩)) (show w.heap.size ≤ w.heap.size + 1 by omega) 1 (.slice ca cn cc)) (show w.heap.size ≤ w.heap.size + 1 by omega) 2 (.slice da dn dc)) (show w.heap.size ≤ w.heap.size + 1 by omega) 3 (.slice ra rn rc)) (show w.heap.size ≤ w.heap.size + 1 by omega) 4 (.int .i64 nx)) (show w.heap.size ≤ w.heap.size + 1 by omega) 5 (.slice ia k ic))
      have P1 : Hid (((((((wr.setCell ⟨w.heap.size + 1, 0, none⟩ (.string ⟨nm.toArray⟩)).setCell ⟨w.heap.size + 1, 1, none⟩ (.slice ca cn cc)).setCell ⟨w.heap.size + 1, 2, none⟩ (.slice da dn dc)).setCell ⟨w.heap.size + 1, 3, none⟩ (.slice ra rn rc)).setCell ⟨w.heap.size + 1, 4, none⟩ (.int .i64 nx)).setCell ⟨w.heap.size + 1, 5, none⟩ (.slice ia k ic)).ownsRow B 73 4 (.slice ia k ic) k (ixsC L evs)) := (owns_put1 (owns_put1 (owns_put1 (owns_put1 (owns_put1 (owns_put1 HO.out hne1 0 (.string ⟨nm.toArray⟩)) hne1 1 (.slice ca cn cc)) hne1 2 (.slice da dn dc)) hne1 3 (.slice ra rn rc)) hne1 4 (.int .i64 nx)) hne1 5 (.slice ia k ic))
      have P2 : Hid (∀ (j : Nat) ev x, evs[j]? = some ev → L[j]? = some x → ((((((wr.setCell ⟨w.heap.size + 1, 0, none⟩ (.string ⟨nm.toArray⟩)).setCell ⟨w.heap.size + 1, 1, none⟩ (.slice ca cn cc)).setCell ⟨w.heap.size + 1, 2, none⟩ (.slice da dn dc)).setCell ⟨w.heap.size + 1, 3, none⟩ (.slice ra rn rc)).setCell ⟨w.heap.size + 1, 4, none⟩ (.int .i64 nx)).setCell ⟨w.heap.size + 1, 5, none⟩ (.slice ia k ic)).ownsRow w.heap.size 111 2 ev (E x).length ((E x).flatMap clC)) := by
        intro j ev x hj hx
        exact own_lower (owns_put0 (owns_put0 (owns_put0 (owns_put0 (owns_put0 (owns_put0 (HV.out j ev x (by have := (List.getElem?_eq_some_iff.1 hx).1; have := HL.out; omega) hj hx) (show w.heap.size + 1 < w.heap.size + 2 by omega) 0 (.string ⟨nm.toArray⟩)) (show w.heap.size + 1 < w.heap.size + 2 by omega) 1 (.slice ca cn cc)) (show w.heap.size + 1 < w.heap.size + 2 by omega) 2 (.slice da dn dc)) (show w.heap.size + 1 < w.heap.size + 2 by omega) 3 (.slice ra rn rc)) (show w.heap.size + 1 < w.heap.size + 2 by omega) 4 (.int .i64 nx)) (show w.heap.size + 1 < w.heap.size + 2 by omega) 5 (.slice ia k ic)) (by omega)
      clear HO HV HT kr lr hg h0 h1 h2 h3 h4 h5 g1 hgw h94
      go_wp2
      generalize ((((((wr.setCell ⟨w.heap.size + 1, 0, none⟩ (.string ⟨nm.toArray⟩)).setCell ⟨w.heap.size + 1, 1, none⟩ (.slice ca cn cc)).setCell ⟨w.heap.size + 1, 2, none⟩ (.slice da dn dc)).setCell ⟨w.heap.size + 1, 3, none⟩ (.slice ra rn rc)).setCell ⟨w.heap.size + 1, 4, none⟩ (.int .i64 nx)).setCell ⟨w.heap.size + 1, 5, none⟩ (.slice ia k ic)) = w9 at *
      obtain ⟨s0, s1, s2, s3, s4, s5⟩ := six_in l9
      clear x0 x1 x2 x3 x4 x5 v0 v1 v2 v3 v4 v5 f0 f1 f2 f3 f4 f5
      refine bodyPost_ret (v := .agg #[.string ⟨nm.toArray⟩, .slice ca cn cc, .slice da dn dc, .slice ra rn rc, .int .i64 nx, .slice ia k ic]) ?_ rfl ⟨rfl, ⟨evs, HN.out, P1.out, P2.out⟩, g9⟩
      simp [results, Tryz.results51, go_sem, s0, s1, s2, s3, s4, s5]
theorem vs_own_e {w : World} {B : Nat} {v : Value} {xs : List Vl} {e : TypeId} (h : w.ownsRow B e 3 v xs.length (xs.flatMap vlC)) (hn : xs.length ≤ 1000) (hs : ∀ x ∈ xs, x.s.length ≤ 140737488355328) : VsAt w v xs := by
  obtain ⟨ao, cap, e⟩ := owns_slice h
  refine ⟨ao, cap, e, by omega, hs, fun hne => ?_⟩
  obtain ⟨g, cap', e', -, hg⟩ := owns_some h (by intro e0; exact hne (List.eq_nil_of_length_eq_zero e0))
  rw [e] at e'
  cases e'
  refine ⟨g, 0, rfl, hg, fun i x hx => ?_⟩
  rw [e] at h
  have at' : ∀ q, q < 3 → w.cell? ⟨g, i * 3 + q, none⟩ = (vlC x)[q]? := by
    intro q hq
    have hi := (List.getElem?_eq_some_iff.1 hx).1
    have := h.cellAt (i * 3 + q) (by omega)
    rw [flat_get vlC 3 (fun _ => rfl) xs i x hx q hq] at this
    exact this
  rw [Nat.zero_add]
  exact ⟨at' 0 (by decide), at' 1 (by decide), at' 2 (by decide)⟩
structure Sm (t : Tb) : Prop where
  nm : t.name.length ≤ 140737488355328
  cl : t.cols.length ≤ 1000
  cn : ∀ x ∈ t.cols, x.name.length ≤ 140737488355328
  dl : t.ds.length ≤ 1000
  dn : ∀ x ∈ t.ds, x.v.s.length ≤ 140737488355328
  rl : t.rows.length ≤ 1000
  rn : ∀ x ∈ t.rows, x.s.length ≤ 140737488355328
  il : t.ixs.length ≤ 1000
  inm : ∀ x ∈ t.ixs, x.name.length ≤ 140737488355328
  ie : ∀ x ∈ t.ixs, x.es.length ≤ 1000 ∧ ∀ y ∈ x.es, y.name.length ≤ 140737488355328
theorem own_nilok {w : World} {B n : Nat} {e : TypeId} {m : Nat} {v : Value} {xs : List Value} (h : w.ownsRow B e m v n xs) : NilOk v := by
  intro ao k cap hv ha
  rcases h.2 with ⟨rfl, h0⟩ | ⟨g, c, cur, rfl, hB, hg, r⟩
  · cases hv; exact ⟨rfl, rfl⟩
  · cases hv; cases ha
theorem own_caps {w : World} {B n : Nat} {e : TypeId} {m : Nat} {v : Value} {xs : List Value} (h : w.ownsRow B e m v n xs) : ∃ ao cap, v = .slice ao n cap ∧ n ≤ cap := by
  rcases h.2 with ⟨rfl, h0⟩ | ⟨g, c, cur, rfl, hB, hg, hnc, r⟩
  · exact ⟨none, 0, by rw [h0], by omega⟩
  · exact ⟨_, c, rfl, hnc⟩
theorem IxOwn.isAt {w : World} {B : Nat} {iu : Value} {L : List Ix} (h : IxOwn w B iu L) (hl : L.length ≤ 1000) (hn : ∀ x ∈ L, x.name.length ≤ 140737488355328) (he : ∀ x ∈ L, x.es.length ≤ 1000 ∧ ∀ y ∈ x.es, y.name.length ≤ 140737488355328) : IsAt w iu L ∧ ∀ g o n cap, iu = .slice (some ⟨g, o, none⟩) n cap → ∀ i ev, i < L.length → w.cell? ⟨g, o + i * 4 + 3, none⟩ = some ev → NilOk ev := by
  obtain ⟨evs, h1, h2, h3⟩ := h
  obtain ⟨ao, cap, rfl, hc⟩ := own_caps h2
  have key : ∀ (g : Nat), ao = some ⟨g, 0, none⟩ → ∀ (i : Nat) x ev, L[i]? = some x → evs[i]? = some ev → ∀ q, q < 4 → w.cell? ⟨g, i * 4 + q, none⟩ = (ixC x ev)[q]? := by
    intro g hg i x ev hx hev q hq
    subst hg
    have hi := (List.getElem?_eq_some_iff.1 hx).1
    have := h2.cellAt (i * 4 + q) (by omega)
    rw [ixsC_get L evs i x ev hx hev q hq] at this
    exact this
  refine ⟨⟨ao, cap, rfl, hc, by omega, hn, fun hne => ?_⟩, ?_⟩
  · obtain ⟨g, cap', e', -, hg⟩ := owns_some h2 (by intro e0; exact hne (List.eq_nil_of_length_eq_zero e0))
    cases e'
    refine ⟨g, 0, rfl, hg, fun i x hx => ?_⟩
    have hi := (List.getElem?_eq_some_iff.1 hx).1
    have hev : evs[i]? = some (evs[i]'(by omega)) := List.getElem?_eq_getElem (by omega)
    have hk := key g rfl i x _ hx hev
    rw [Nat.zero_add]
    exact ⟨_, hk 0 (by decide), hk 1 (by decide), hk 2 (by decide), hk 3 (by decide), cs_of_own (h3 i _ x hev hx) (he x (List.mem_of_getElem? hx)).1, (he x (List.mem_of_getElem? hx)).2⟩
  · intro g o n cap e i ev hi hcell
    cases e
    obtain ⟨g', cap', e', -, hg⟩ := owns_some h2 (by omega)
    cases e'
    have hx : L[i]? = some L[i] := List.getElem?_eq_getElem hi
    have hev : evs[i]? = some (evs[i]'(by omega)) := List.getElem?_eq_getElem (by omega)
    have hk := key g rfl i _ _ hx hev 3 (by decide)
    rw [Nat.zero_add, hk] at hcell
    simp [ixC] at hcell
    subst hcell
    exact own_nilok (h3 i _ _ hev hx)
theorem TbOwn.tbIn {w : World} {B : Nat} {cu du ru iu : Value} {t : Tb} (h : TbOwn w B cu du ru iu t) (hs : Sm t) : TbIn w cu du ru iu t := by
  obtain ⟨h1, h2⟩ := h.is.isAt hs.il hs.inm hs.ie
  refine ⟨⟨hs.nm, cs_of_own h.cs hs.cl, ?_, hs.cn, ds_of_own h.ds (by have := hs.dl; omega) hs.dn, vs_own_e h.rs hs.rl hs.rn, h1⟩, own_nilok h.cs, own_nilok h.ds, own_nilok h.rs, ?_, h2⟩
  · obtain ⟨ao, cap, e, hc⟩ := own_caps h.cs
    exact ⟨ao, _, cap, e, hc⟩
  · obtain ⟨evs, -, h2, -⟩ := h.is
    exact own_nilok h2
theorem IxOwn.below {w w' : World} {B : Nat} {iu : Value} {L : List Ix} (h : IxOwn w B iu L) (hb : Below w.heap.size w w') : IxOwn w' B iu L := by
  obtain ⟨evs, h1, h2, h3⟩ := h
  exact ⟨evs, h1, owns_keep h2 hb, fun i ev x a b => owns_keep (h3 i ev x a b) hb⟩
theorem TbOwn.below {w w' : World} {B : Nat} {cu du ru iu : Value} {t : Tb} (h : TbOwn w B cu du ru iu t) (hb : Below w.heap.size w w') : TbOwn w' B cu du ru iu t :=
  ⟨owns_keep h.cs hb, owns_keep h.ds hb, owns_keep h.rs hb, h.is.below hb⟩
theorem TbOwn.lower {w : World} {B B' : Nat} {cu du ru iu : Value} {t : Tb} (h : TbOwn w B' cu du ru iu t) (hB : B ≤ B') : TbOwn w B cu du ru iu t := by
  refine ⟨own_lower h.cs hB, own_lower h.ds hB, own_lower h.rs hB, ?_⟩
  obtain ⟨evs, h1, h2, h3⟩ := h.is
  exact ⟨evs, h1, own_lower h2 hB, fun i ev x a b => own_lower (h3 i ev x a b) hB⟩
theorem VvOwn.other {w w' : World} {B B' : Nat} {u x : Value} {L : List (List Vl)} {n : Nat} {ys : List Value} (h : VvOwn w B u L) (hx : w.ownsRow B' 73 4 x n ys) (hg : w.grownBy w' x.ownBlock) : VvOwn w' B u L := by
  obtain ⟨us, h1, h2, h3⟩ := h
  exact ⟨us, h1, owns_other h2 hx (by decide) hg, fun j z l a b => owns_other (h3 j z l a b) hx (by decide) hg⟩
def entX (t : Tb) (x : Ix) : List Cl := sortE (entL x.a.toNat x.b t.rows (valsT t))
def indexedT (t : Tb) : Tb := { t with ixs := t.ixs.map fun x => { x with es := entX t x } }
theorem ixsC_map (L : List Ix) (f : Ix → List Cl) : ∀ evs, ixsC (L.map fun x => { x with es := f x }) evs = ixsC L evs := by
  induction L with
  | nil => intro evs; rfl
  | cons x r ih =>
    intro evs
    cases evs with
    | nil => rfl
    | cons e evs =>
      have := ih evs
      unfold ixsC at this ⊢
      simp only [List.map_cons, List.zipWith_cons_cons, List.flatten_cons, this]
      rfl
theorem indexed_any (wb : World) (B : Nat) (hB0 : wb.heap.size ≤ B) (t : Tb) (cu du ru iu : Value) (w : World) (hB1 : B ≤ w.heap.size) (hb : Below wb.heap.size wb w) (laid : Laid wb) (h : TbOwn w B cu du ru iu t) (hs : Sm t) (hok : ∀ r ∈ t.rows, RowOk t.cols t.ds t.next r) (hix : ∀ x ∈ t.ixs, 0 ≤ x.a ∧ x.a < t.cols.length) :
    Calls Tryz.prog 51 #[tbV t.name cu du ru t.next iu] w fun e w' => e = .returned (tbV t.name cu du ru t.next iu) ∧ TbOwn w' B cu du ru iu (indexedT t) ∧ Below wb.heap.size wb w' ∧ w.grownBy w' iu.ownBlock := by
  have hin := h.tbIn hs
  have hrl := hs.rl
  obtain ⟨hcs, hds, hrs, evs, e1, e2, e3⟩ := h
  obtain ⟨ca, cc, rfl, -⟩ := own_caps hcs
  obtain ⟨da, dc, rfl, -⟩ := own_caps hds
  obtain ⟨ra, rc, rfl, -⟩ := own_caps hrs
  obtain ⟨ia, ic, rfl, -⟩ := own_caps e2
  refine (indexed_raw t.ixs (entX t) evs (valsT t) B ca da ra ia _ _ _ _ cc dc rc ic t.name t.next w rfl e1 hs.il ?_ e2 ?_ ?_).mono ?_
  · intro i ev he
    have hi := (List.getElem?_eq_some_iff.1 he).1
    obtain ⟨ao, cap, e⟩ := owns_slice (e3 i ev t.ixs[i] he (List.getElem?_eq_getElem (by omega)))
    exact ⟨_, _, _, e⟩
  · intro W hW
    exact tvalues_any t _ _ _ _ W (hin.at'.below hW) (laid.below (hb.trans (hW.mono hb.size))) hrl (fun r hr => ⟨(hok r hr).v0, (hok r hr).v1, (hok r hr).ok⟩)
  · intro w1 W u k ev x hw1 hu hg hx
    have r1 := owns_keep e2 hw1
    have rW := owns_other (owns_keep hrs hw1) r1 (by decide) hg
    have uW := hu.other r1 hg
    have bW : Below wb.heap.size wb W := (hb.trans (hw1.mono hb.size)).grown hg (by have := hb.size; have := hw1.size; omega) (fun j hj => Nat.le_trans hB0 (r1.lt j hj).1)
    obtain ⟨h0, h1⟩ := hix x (List.mem_of_getElem? hx)
    obtain ⟨c, hc⟩ : ∃ c : Nat, x.a = (c : Int) := ⟨x.a.toNat, by omega⟩
    unfold entX
    rw [hc, Int.toNat_natCast]
    refine (entOf_any t.rows (valsT t) c x.b x.name t.name _ u _ _ _ ev t.next w.heap.size W (vs_own_e rW hrl hs.rn) uW (by simp [valsT]) hrl ?_ ?_ (laid.below bW)).mono ?_
    · intro l hl
      obtain ⟨r, hr, rfl⟩ := List.mem_map.1 hl
      rw [(hok r hr).len]
      omega
    · intro l hl
      obtain ⟨r, hr, rfl⟩ := List.mem_map.1 hl
      exact now_short (hok r hr).ok
    · rintro e w' ⟨v, rfl, o, b⟩
      rw [← (sortE_perm _).length_eq] at o
      exact ⟨v, rfl, o, b⟩
  · rintro e w' ⟨rfl, ⟨evs', f1, f2, f3⟩, hg⟩
    have bW : Below wb.heap.size wb w' := hb.grown hg hb.size (fun j hj => Nat.le_trans hB0 (e2.lt j hj).1)
    refine ⟨rfl, ⟨owns_other hcs e2 (by decide) hg, owns_other hds e2 (by decide) hg, owns_other hrs e2 (by decide) hg, evs', by simp [indexedT, f1], ?_, ?_⟩, bW, hg⟩
    · show w'.ownsRow _ _ _ _ (t.ixs.map _).length (ixsC (t.ixs.map _) evs')
      rw [ixsC_map, List.length_map]
      exact f2
    · intro i ev x' he hx'
      simp only [indexedT] at hx'
      rw [List.getElem?_map] at hx'
      obtain ⟨x, hx, rfl⟩ := Option.map_eq_some_iff.1 hx'
      exact own_lower (f3 i ev x he hx) hB1
theorem three_put' {W : World} {b : Nat} {x y z : Value} {t : TypeId} (h : W.heap[b]? = some (.cells #[x, y, z] t)) (x' y' z' : Value) : (((W.setCell ⟨b, 0, none⟩ x').setCell ⟨b, 1, none⟩ y').setCell ⟨b, 2, none⟩ z').heap[b]? = some (.cells #[x', y', z'] t) := by
  have h0 := heap_setCell_same W b 0 _ t x' h
  have h1 := heap_setCell_same _ b 1 _ t y' h0
  have h2 := heap_setCell_same _ b 2 _ t z' h1
  simpa using h2
theorem newest_any (L : List Vl) (l : Value) (k : Int) (da : Option Addr) (dn dc : Nat) (nm : List UInt8) (cu ru iu : Value) (nx : Int) (w : World) (h : VsAt w l L) :
    Calls Tryz.prog 50 #[tbV nm cu (.slice da dn dc) ru nx iu, .int .i64 k, l] w fun e w' => e = .returned (.agg #[.int .i64 k, .int .i64 dn, .string ⟨(encR L).toArray⟩]) ∧ Below w.heap.size w w' := by
  have b0 := ((Below.refl w.heap.size w).alloc (Nat.le_refl _) (.cells #[.string ⟨nm.toArray⟩, cu, .slice da dn dc, ru, .int .i64 nx, iu] 27)).alloc (by simp) (.cells #[.int .i64 0, .int .i64 0, .string ⟨#[]⟩] 39)
  have k0 : ((w.alloc (.cells #[.string ⟨nm.toArray⟩, cu, .slice da dn dc, ru, .int .i64 nx, iu] 27)).alloc (.cells #[.int .i64 0, .int .i64 0, .string ⟨#[]⟩] 39)).cell? ⟨w.heap.size, 2, none⟩ = some (.slice da dn dc) := by simp
  have k1 : ((w.alloc (.cells #[.string ⟨nm.toArray⟩, cu, .slice da dn dc, ru, .int .i64 nx, iu] 27)).alloc (.cells #[.int .i64 0, .int .i64 0, .string ⟨#[]⟩] 39)).heap[w.heap.size + 1]? = some (.cells #[.int .i64 0, .int .i64 0, .string ⟨#[]⟩] 39) := by
    have hz : (w.alloc (.cells #[.string ⟨nm.toArray⟩, cu, .slice da dn dc, ru, .int .i64 nx, iu] 27)).heap.size = w.heap.size + 1 := by simp
    rw [← hz]; exact heap_alloc_new _ _
  have hz0 : ((w.alloc (.cells #[.string ⟨nm.toArray⟩, cu, .slice da dn dc, ru, .int .i64 nx, iu] 27)).alloc (.cells #[.int .i64 0, .int .i64 0, .string ⟨#[]⟩] 39)).heap.size = w.heap.size + 2 := by simp
  have h72 := fun (W : World) (hW : Below w.heap.size w W) => encode_any L l W (h.below hW)
  generalize encR L = S at *
  obtain ⟨la, lc, rfl, -⟩ := h
  generalize L.length = ln at *
  unfold tbV at *
  go_enter Tryz.func50, Tryz.ntmps50
  go_wp2_with fail
  generalize ((w.alloc (.cells #[.string ⟨nm.toArray⟩, cu, .slice da dn dc, ru, .int .i64 nx, iu] 27)).alloc (.cells #[.int .i64 0, .int .i64 0, .string ⟨#[]⟩] 39)) = w0 at *
  refine (h72 _ b0).mono ?_
  rintro e w1 ⟨rfl, b1⟩
  have q1 : Below w.heap.size w w1 := b0.trans (b1.mono b0.size)
  have c0 := (b1.cell (p := ⟨w.heap.size, 2, none⟩) (by show w.heap.size < _; omega)).trans k0
  have c1 := (b1.block (w.heap.size + 1) (by omega)).trans k1
  obtain ⟨⟨x0, x1, x2⟩, f0, f1, f2⟩ := three c1
  obtain ⟨⟨s0, s1, s2⟩, -⟩ := three (three_put' c1 (.int .i64 k) (.int .i64 dn) (.string ⟨S.toArray⟩))
  have q2 : Below w.heap.size w (((w1.setCell ⟨w.heap.size + 1, 0, none⟩ (.int .i64 k)).setCell ⟨w.heap.size + 1, 1, none⟩ (.int .i64 dn)).setCell ⟨w.heap.size + 1, 2, none⟩ (.string ⟨S.toArray⟩)) := ((q1.setCell (p := ⟨w.heap.size + 1, 0, none⟩) (Nat.le_succ w.heap.size) _).setCell (p := ⟨w.heap.size + 1, 1, none⟩) (Nat.le_succ w.heap.size) _).setCell (p := ⟨w.heap.size + 1, 2, none⟩) (Nat.le_succ w.heap.size) _
  clear h72 b1 b0 k0 k1 hz0 c1 q1
  go_wp2_with fail
  generalize (((w1.setCell ⟨w.heap.size + 1, 0, none⟩ (.int .i64 k)).setCell ⟨w.heap.size + 1, 1, none⟩ (.int .i64 dn)).setCell ⟨w.heap.size + 1, 2, none⟩ (.string ⟨S.toArray⟩)) = w9 at *
  clear x0 x1 x2 f0 f1 f2
  refine bodyPost_ret (v := .agg #[.int .i64 k, .int .i64 dn, .string ⟨S.toArray⟩]) ?_ rfl ⟨rfl, q2⟩
  simp [results, Tryz.results50, go_sem, s0, s1, s2]
def insertF (t : Tb) (L : List Vl) : Nat := if checkT t ≠ 0 then checkT t else if L.length ≠ t.cols.length then 1 else if badL L ≠ 0 then badL L else if fitB t.cols L = false then 7 else if t.rows.length = 30 ∨ t.next = 1000000 then 2 else 0
theorem insertF_raw (E F : Nat) (D : Bool) (ca ra la : Option Addr) (cn cc rn rc ln lc : Nat) (nm : List UInt8) (du iu : Value) (nx : Int) (w : World)
    (h11 : ∀ W : World, Below w.heap.size w W → Calls Tryz.prog 11 #[tbV nm (.slice ca cn cc) du (.slice ra rn rc) nx iu] W fun e w' => e = .returned (.int .i64 (E : Nat)) ∧ Below W.heap.size W w')
    (h75 : ∀ W : World, Below w.heap.size w W → Calls Tryz.prog 75 #[.slice la ln lc] W fun e w' => e = .returned (.int .i64 (F : Nat)) ∧ Below W.heap.size W w')
    (h89 : ∀ W : World, Below w.heap.size w W → Calls Tryz.prog 89 #[.slice ca cn cc, .slice la ln lc] W fun e w' => e = .returned (.bool D) ∧ Below W.heap.size W w') :
    Calls Tryz.prog 48 #[tbV nm (.slice ca cn cc) du (.slice ra rn rc) nx iu, .slice la ln lc] w fun e w' => e = .returned (.int .i64 ((if E ≠ 0 then E else if ln ≠ cn then 1 else if F ≠ 0 then F else if D = false then 7 else if rn = 30 ∨ nx = 1000000 then 2 else 0 : Nat) : Int)) ∧ Below w.heap.size w w' := by
  have b0 := (Below.refl w.heap.size w).alloc (Nat.le_refl _) (.cells #[.string ⟨nm.toArray⟩, .slice ca cn cc, du, .slice ra rn rc, .int .i64 nx, iu] 27)
  have hz0 : (w.alloc (.cells #[.string ⟨nm.toArray⟩, .slice ca cn cc, du, .slice ra rn rc, .int .i64 nx, iu] 27)).heap.size = w.heap.size + 1 := by simp
  obtain ⟨R, hR⟩ : ∃ R : Nat, (if E ≠ 0 then E else if ln ≠ cn then 1 else if F ≠ 0 then F else if D = false then 7 else if rn = 30 ∨ nx = 1000000 then 2 else 0 : Nat) = R := ⟨_, rfl⟩
  rw [hR]
  have HR := hide hR
  clear hR
  unfold tbV at *
  by_cases hE : E = 0
  · subst hE
    go_enter Tryz.func48, Tryz.ntmps48
    go_wp2_with fail
    refine (h11 _ b0).mono ?_
    rintro e w1 ⟨rfl, b1⟩
    have q1 : Below w.heap.size w w1 := b0.trans (b1.mono b0.size)
    have p1 : Below (w.heap.size + 1) (w.alloc (.cells #[.string ⟨nm.toArray⟩, .slice ca cn cc, du, .slice ra rn rc, .int .i64 nx, iu] 27)) w1 := by rw [hz0] at b1; exact b1
    obtain ⟨d0, d1, d2, d3, d4, d5⟩ := six_cells p1
    clear h11 b1 b0
    by_cases h1 : ln = cn
    · subst h1
      go_wp2_with fail
      refine (h75 _ q1).mono ?_
      rintro e w2 ⟨rfl, b2⟩
      have q2 : Below w.heap.size w w2 := q1.trans (b2.mono q1.size)
      have p2 := p1.trans (b2.mono (by have := p1.size; omega))
      clear d0 d1 d2 d3 d4 d5 h75 b2 p1 q1
      obtain ⟨d0, d1, d2, d3, d4, d5⟩ := six_cells p2
      by_cases hF : F = 0
      · subst hF
        go_wp2_with fail
        refine (h89 _ q2).mono ?_
        rintro e w3 ⟨rfl, b3⟩
        have q3 : Below w.heap.size w w3 := q2.trans (b3.mono q2.size)
        have p3 := p2.trans (b3.mono (by have := p2.size; omega))
        clear d0 d1 d2 d3 d4 d5 h89 b3 p2 q2
        obtain ⟨d0, d1, d2, d3, d4, d5⟩ := six_cells p3
        cases D with
        | false =>
          go_wp2
          go_ret
          exact ⟨by rw [← HR.out]; simp, q3⟩
        | true =>
          by_cases h2 : rn = 30
          · subst h2
            go_wp2
            go_ret
            exact ⟨by rw [← HR.out]; simp, q3⟩
          · have h2' : ¬ (rn : Int) = 30 := by omega
            have h2b : ((rn : Int) == 30) = false := by simpa using h2'
            by_cases h3 : nx = 1000000
            · have h3b : (nx == 1000000) = true := by simpa using h3
              go_wp2
              go_ret
              exact ⟨by rw [← HR.out]; simp [h3], q3⟩
            · have h3b : (nx == 1000000) = false := by simpa using h3
              go_wp2
              go_ret
              exact ⟨by rw [← HR.out]; simp [h2, h3], q3⟩
      · have hF' : ¬ (F : Int) = 0 := by omega
        go_wp2
        go_ret
        exact ⟨by rw [← HR.out]; simp [hF], q2⟩
    · have h1' : ¬ (ln : Int) = (cn : Int) := by omega
      go_wp2
      go_ret
      exact ⟨by rw [← HR.out]; simp [h1], q1⟩
  · have hE' : ¬ (E : Int) = 0 := by omega
    go_enter Tryz.func48, Tryz.ntmps48
    go_wp2_with fail
    refine (h11 _ b0).mono ?_
    rintro e w1 ⟨rfl, b1⟩
    have q1 : Below w.heap.size w w1 := b0.trans (b1.mono b0.size)
    clear h11 b1 b0
    go_wp2
    go_ret
    exact ⟨by rw [← HR.out]; simp [hE], q1⟩
theorem insertF_any (t : Tb) (L : List Vl) (cu du ru iu l : Value) (w : World) (h : TbAt w cu du ru iu t) (hl : VsAt w l L) (laid : Laid w) (hm : Ml w) :
    Calls Tryz.prog 48 #[tbV t.name cu du ru t.next iu, l] w fun e w' => e = .returned (.int .i64 (insertF t L : Nat)) ∧ Below w.heap.size w w' := by
  have h11 := fun (W : World) (hW : Below w.heap.size w W) => tcheck_any t cu du ru iu W (h.below hW) (laid.below hW) (hm.below hW)
  have h75 := fun (W : World) (hW : Below w.heap.size w W) => fitFault_any L l W (hl.below hW)
  have h89 := fun (W : World) (hW : Below w.heap.size w W) => fitRow_all t.cols L cu l W (h.cs.below hW) (hl.below hW)
  obtain ⟨ca, cc, rfl, -⟩ := h.cs
  obtain ⟨ra, rc, rfl, -⟩ := h.rs
  obtain ⟨la, lc, rfl, -⟩ := hl
  exact insertF_raw _ _ _ ca ra la _ cc _ rc _ lc t.name du iu t.next w h11 h75 h89
end Go.Proofs.YtcnnjladaoaeiaaGreatDoor
