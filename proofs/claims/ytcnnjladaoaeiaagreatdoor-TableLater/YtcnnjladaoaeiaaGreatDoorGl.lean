/-
  Package table: Delete.
  Package table: Delete, whole.
  Package table: the place of a row; numbers that rise.
  Package table: numbers that rise.
  Package table: updateFault's closures and what asks them.
  Package table: updateFault.
  Package table: updateFault of any table.
  Package table: unbuilt..
  Package table: what slices.DeleteFunc of indexes needs.
  Package table: slices.DeleteFunc of indexes of one's own.
-/
import Derived.BigQuiet
import Derived.Test.YtcnnjladaoaeiaaGreatDoorGa
import Derived.Test.YtcnnjladaoaeiaaGreatDoorGk

set_option maxRecDepth 100000
set_option maxHeartbeats 25600000
namespace Go.Proofs.YtcnnjladaoaeiaaGreatDoor
open Go.RowKit
theorem owns_putAll {B : Nat} {e : TypeId} {m : Nat} {v : Value} {n : Nat} {xs : List Value} {g : Nat} (hg : g < B) : ∀ (ys : List Value) (o : Nat) (w : World), w.ownsRow B e m v n xs → (putAll w g o ys).ownsRow B e m v n xs
  | [], _, _, h => h
  | y :: r, o, _, h => owns_putAll hg r (o + 1) _ (owns_put0 h hg o y)
theorem TbOwn.putAll {w : World} {B : Nat} {cu du ru iu : Value} {t : Tb} (h : TbOwn w B cu du ru iu t) {g : Nat} (hg : g < B) (o : Nat) (ys : List Value) : TbOwn (Proofs.YtcnnjladaoaeiaaGreatDoor.putAll w g o ys) B cu du ru iu t := by
  obtain ⟨h1, h2, h3, evs, h4, h5, h6⟩ := h
  exact ⟨owns_putAll hg _ _ _ h1, owns_putAll hg _ _ _ h2, owns_putAll hg _ _ _ h3, evs, h4, owns_putAll hg _ _ _ h5, fun i ev x a b => owns_putAll hg _ _ _ (h6 i ev x a b)⟩
theorem TbOwn.put0 {w : World} {B : Nat} {cu du ru iu : Value} {t : Tb} (h : TbOwn w B cu du ru iu t) {g : Nat} (hg : g < B) (o : Nat) (y : Value) : TbOwn (w.setCell ⟨g, o, none⟩ y) B cu du ru iu t := h.putAll hg o [y]
def cutT (t : Tb) (L : List Int) : Tb := { t with rows := keptR L t.rows }
theorem delete_raw (t : Tb) (L : List Int) (ca da ra ia na : Option Addr) (cn dn rn xn nn cc dc rc ic nc : Nat) (w : World) (hr30 : t.rows.length ≤ 1000) (hrs : ∀ x ∈ t.rows, x.s.length ≤ 140737488355328) (hL : NsAt w (.slice na nn nc) L)
    (h11 : ∀ W : World, Below w.heap.size w W → Calls Tryz.prog 11 #[tbV t.name (.slice ca cn cc) (.slice da dn dc) (.slice ra rn rc) t.next (.slice ia xn ic)] W fun e w' => e = .returned (.int .i64 0) ∧ Below W.heap.size W w')
    (h49 : ∀ W : World, Below w.heap.size w W → Calls Tryz.prog 49 #[tbV t.name (.slice ca cn cc) (.slice da dn dc) (.slice ra rn rc) t.next (.slice ia xn ic)] W fun e w' => ∃ cv dv rv iv, e = .returned (tbV t.name cv dv rv t.next iv) ∧ TbOwn w' W.heap.size cv dv rv iv t ∧ Below W.heap.size W w')
    (h51 : ∀ (W : World) (cv dv rv iv : Value), Below w.heap.size w W → w.heap.size + 3 ≤ W.heap.size → TbOwn W (w.heap.size + 3) cv dv rv iv (cutT t L) → Calls Tryz.prog 51 #[tbV t.name cv dv rv t.next iv] W fun e w' => e = .returned (tbV t.name cv dv rv t.next iv) ∧ TbOwn w' (w.heap.size + 3) cv dv rv iv (indexedT (cutT t L)) ∧ Below w.heap.size w w' ∧ W.grownBy w' iv.ownBlock) :
    Calls Tryz.prog 14 #[tbV t.name (.slice ca cn cc) (.slice da dn dc) (.slice ra rn rc) t.next (.slice ia xn ic), .slice na nn nc] w fun e w' => ∃ cv dv rv iv, e = .returned (.tuple #[tbV t.name cv dv rv t.next iv, .int .i64 0]) ∧ TbOwn w' w.heap.size cv dv rv iv (indexedT (cutT t L)) ∧ Below w.heap.size w w' := by
  have z1 : (w.alloc (.cells #[.string ⟨t.name.toArray⟩, .slice ca cn cc, .slice da dn dc, .slice ra rn rc, .int .i64 t.next, .slice ia xn ic] 27)).heap.size = w.heap.size + 1 := by simp
  have z2 : ((w.alloc (.cells #[.string ⟨t.name.toArray⟩, .slice ca cn cc, .slice da dn dc, .slice ra rn rc, .int .i64 t.next, .slice ia xn ic] 27)).alloc (.cells #[.slice na nn nc] 28)).heap.size = w.heap.size + 1 + 1 := by simp
  have hz0 : (((w.alloc (.cells #[.string ⟨t.name.toArray⟩, .slice ca cn cc, .slice da dn dc, .slice ra rn rc, .int .i64 t.next, .slice ia xn ic] 27)).alloc (.cells #[.slice na nn nc] 28)).alloc (.cells #[.string ⟨#[]⟩, .slice none 0 0, .slice none 0 0, .slice none 0 0, .int .i64 0, .slice none 0 0] 27)).heap.size = w.heap.size + 3 := by simp
  have b0 : Below w.heap.size w (((w.alloc (.cells #[.string ⟨t.name.toArray⟩, .slice ca cn cc, .slice da dn dc, .slice ra rn rc, .int .i64 t.next, .slice ia xn ic] 27)).alloc (.cells #[.slice na nn nc] 28)).alloc (.cells #[.string ⟨#[]⟩, .slice none 0 0, .slice none 0 0, .slice none 0 0, .int .i64 0, .slice none 0 0] 27)) := (((Below.refl w.heap.size w).alloc (Nat.le_refl _) _).alloc (by omega) _).alloc (by omega) _
  have k0 : (((w.alloc (.cells #[.string ⟨t.name.toArray⟩, .slice ca cn cc, .slice da dn dc, .slice ra rn rc, .int .i64 t.next, .slice ia xn ic] 27)).alloc (.cells #[.slice na nn nc] 28)).alloc (.cells #[.string ⟨#[]⟩, .slice none 0 0, .slice none 0 0, .slice none 0 0, .int .i64 0, .slice none 0 0] 27)).heap[w.heap.size]? = some (.cells #[.string ⟨t.name.toArray⟩, .slice ca cn cc, .slice da dn dc, .slice ra rn rc, .int .i64 t.next, .slice ia xn ic] 27) := (Below.heap_alloc ((w.alloc (.cells #[.string ⟨t.name.toArray⟩, .slice ca cn cc, .slice da dn dc, .slice ra rn rc, .int .i64 t.next, .slice ia xn ic] 27)).alloc (.cells #[.slice na nn nc] 28)) _ _ (by omega)).trans ((Below.heap_alloc (w.alloc (.cells #[.string ⟨t.name.toArray⟩, .slice ca cn cc, .slice da dn dc, .slice ra rn rc, .int .i64 t.next, .slice ia xn ic] 27)) _ _ (by omega)).trans (heap_alloc_new w _))
  have k1 : (((w.alloc (.cells #[.string ⟨t.name.toArray⟩, .slice ca cn cc, .slice da dn dc, .slice ra rn rc, .int .i64 t.next, .slice ia xn ic] 27)).alloc (.cells #[.slice na nn nc] 28)).alloc (.cells #[.string ⟨#[]⟩, .slice none 0 0, .slice none 0 0, .slice none 0 0, .int .i64 0, .slice none 0 0] 27)).heap[w.heap.size + 1]? = some (.cells #[.slice na nn nc] 28) := by
    have := heap_alloc_new (w.alloc (.cells #[.string ⟨t.name.toArray⟩, .slice ca cn cc, .slice da dn dc, .slice ra rn rc, .int .i64 t.next, .slice ia xn ic] 27)) (.cells #[.slice na nn nc] 28)
    rw [z1] at this
    exact (Below.heap_alloc ((w.alloc (.cells #[.string ⟨t.name.toArray⟩, .slice ca cn cc, .slice da dn dc, .slice ra rn rc, .int .i64 t.next, .slice ia xn ic] 27)).alloc (.cells #[.slice na nn nc] 28)) _ _ (by omega)).trans this
  have k2 : (((w.alloc (.cells #[.string ⟨t.name.toArray⟩, .slice ca cn cc, .slice da dn dc, .slice ra rn rc, .int .i64 t.next, .slice ia xn ic] 27)).alloc (.cells #[.slice na nn nc] 28)).alloc (.cells #[.string ⟨#[]⟩, .slice none 0 0, .slice none 0 0, .slice none 0 0, .int .i64 0, .slice none 0 0] 27)).heap[w.heap.size + 1 + 1]? = some (.cells #[.string ⟨#[]⟩, .slice none 0 0, .slice none 0 0, .slice none 0 0, .int .i64 0, .slice none 0 0] 27) := by
    have := heap_alloc_new ((w.alloc (.cells #[.string ⟨t.name.toArray⟩, .slice ca cn cc, .slice da dn dc, .slice ra rn rc, .int .i64 t.next, .slice ia xn ic] 27)).alloc (.cells #[.slice na nn nc] 28)) (.cells #[.string ⟨#[]⟩, .slice none 0 0, .slice none 0 0, .slice none 0 0, .int .i64 0, .slice none 0 0] 27)
    rw [z2] at this
    exact this
  clear z1 z2
  unfold tbV at *
  go_enter Tryz.func14, Tryz.ntmps14
  go_wp2_with fail
  generalize (((w.alloc (.cells #[.string ⟨t.name.toArray⟩, .slice ca cn cc, .slice da dn dc, .slice ra rn rc, .int .i64 t.next, .slice ia xn ic] 27)).alloc (.cells #[.slice na nn nc] 28)).alloc (.cells #[.string ⟨#[]⟩, .slice none 0 0, .slice none 0 0, .slice none 0 0, .int .i64 0, .slice none 0 0] 27)) = w0 at *
  refine (h11 _ b0).mono ?_
  rintro e w1 ⟨rfl, b1⟩
  have q1 : Below w.heap.size w w1 := b0.trans (b1.mono b0.size)
  have ka := (b1.block w.heap.size (by omega)).trans k0
  have la := (b1.block (w.heap.size + 1) (by omega)).trans k1
  have ma := (b1.block (w.heap.size + 1 + 1) (by omega)).trans k2
  have za : w.heap.size + 3 ≤ w1.heap.size := by have := b1.size; omega
  obtain ⟨x0, x1, x2, x3, x4, x5⟩ := six_in ka
  clear h11 b1 b0 k0 k1 k2 hz0
  go_wp2_with fail
  refine (h49 _ q1).mono ?_
  rintro e w2 ⟨cv, dv, rv, iv, rfl, own, b2⟩
  have q2 : Below w.heap.size w w2 := q1.trans (b2.mono q1.size)
  have kb := hide ((b2.block w.heap.size (by omega)).trans ka)
  have lb := (b2.block (w.heap.size + 1) (by omega)).trans la
  have mb := (b2.block (w.heap.size + 1 + 1) (by omega)).trans ma
  have zb : w.heap.size + 3 ≤ w2.heap.size := by have := b2.size; omega
  replace own := own.lower za
  obtain ⟨ca_, cn_, cc_, rfl⟩ : ∃ a n c, cv = .slice a n c := by obtain ⟨a, c, e⟩ := owns_slice own.cs; exact ⟨a, _, c, e⟩
  obtain ⟨da_, dn_, dc_, rfl⟩ : ∃ a n c, dv = .slice a n c := by obtain ⟨a, c, e⟩ := owns_slice own.ds; exact ⟨a, _, c, e⟩
  obtain ⟨ra_, rn_, rc_, rfl⟩ : ∃ a n c, rv = .slice a n c := by obtain ⟨a, c, e⟩ := owns_slice own.rs; exact ⟨a, _, c, e⟩
  obtain ⟨ia_, xn_, ic_, rfl⟩ : ∃ a n c, iv = .slice a n c := by obtain ⟨evs, -, h, -⟩ := own.is; obtain ⟨a, c, e⟩ := owns_slice h; exact ⟨a, _, c, e⟩
  have OW := hide own
  clear own h49 b2 ka la ma x0 x1 x2 x3 x4 x5 q1 za
  go_wp2_with (refine wpList_store_whole 27 _ _ rfl rfl w.heap.size [.string ⟨t.name.toArray⟩, .slice ca cn cc, .slice da dn dc, .slice ra rn rc, .int .i64 t.next, .slice ia xn ic] [.string ⟨t.name.toArray⟩, .slice ca_ cn_ cc_, .slice da_ dn_ dc_, .slice ra_ rn_ rc_, .int .i64 t.next, .slice ia_ xn_ ic_] 27 rfl rfl (by exact kb.out) rfl Tryz.size27 (by intro v hv; simp only [List.mem_cons, List.not_mem_nil, or_false] at hv; rcases hv with rfl | rfl | rfl | rfl | rfl | rfl <;> rfl) ?_; intro w3 kc p3; obtain ⟨y0, y1, y2, y3, y4, y5⟩ := six_in kc; have fz3 := six_frz kc 3)
  have q3 : Below w.heap.size w w3 := by rw [p3.out]; exact below_putAll (Nat.le_refl _) _ _ _ q2
  have O3 : TbOwn w3 (w.heap.size + 3) (.slice ca_ cn_ cc_) (.slice da_ dn_ dc_) (.slice ra_ rn_ rc_) (.slice ia_ xn_ ic_) t := by rw [p3.out]; exact OW.out.putAll (by omega) _ _
  have lc : w3.heap[w.heap.size + 1]? = some (.cells #[.slice na nn nc] 28) := by rw [p3.out]; exact (putAll_other _ _ _ _ _ (by omega)).trans lb
  have mc : w3.heap[w.heap.size + 1 + 1]? = some (.cells #[.string ⟨#[]⟩, .slice none 0 0, .slice none 0 0, .slice none 0 0, .int .i64 0, .slice none 0 0] 27) := by rw [p3.out]; exact (putAll_other _ _ _ _ _ (by omega)).trans mb
  have z3 : w.heap.size + 3 ≤ w3.heap.size := by rw [p3.out, putAll_size]; exact zb
  refine (delF_any (w.heap.size + 3) _ t.rows L na nn nc w3 O3.rs z3 hr30 hrs (w.heap.size + 1) (by omega) (by rw [Lib.cell_of_heap lc]; rfl) (fun W hW => hL.below (q3.trans (hW.mono (by omega))))).mono ?_
  rintro e w4 ⟨v, rfl, o4, b4, g4⟩
  obtain ⟨va_, vn_, vc_, rfl⟩ : ∃ a n c, v = .slice a n c := by obtain ⟨a, c, e⟩ := owns_slice o4; exact ⟨a, _, c, e⟩
  have T4 : TbOwn w4 (w.heap.size + 3) (.slice ca_ cn_ cc_) (.slice da_ dn_ dc_) (.slice va_ vn_ vc_) (.slice ia_ xn_ ic_) (cutT t L) := by
    obtain ⟨evs, h1, h2, h3⟩ := O3.is
    exact ⟨owns_other O3.cs O3.rs (by decide) g4, owns_other O3.ds O3.rs (by decide) g4, o4, evs, h1, owns_other h2 O3.rs (by decide) g4, fun i ev x a b => owns_other (h3 i ev x a b) O3.rs (by decide) g4⟩
  have kd := (b4.block w.heap.size (by omega)).trans kc
  have md := (b4.block (w.heap.size + 1 + 1) (by omega)).trans mc
  have q4 := q3.trans (b4.mono (by omega))
  have z4 := Nat.le_trans z3 b4.size
  have ke : (w4.setCell ⟨w.heap.size, 3, none⟩ (.slice va_ vn_ vc_)).heap[w.heap.size]? = some (.cells #[.string ⟨t.name.toArray⟩, .slice ca_ cn_ cc_, .slice da_ dn_ dc_, .slice va_ vn_ vc_, .int .i64 t.next, .slice ia_ xn_ ic_] 27) := by
    have := heap_setCell_same w4 w.heap.size 3 _ 27 (.slice va_ vn_ vc_) kd
    simpa using this
  have me : (w4.setCell ⟨w.heap.size, 3, none⟩ (.slice va_ vn_ vc_)).heap[w.heap.size + 1 + 1]? = some (.cells #[.string ⟨#[]⟩, .slice none 0 0, .slice none 0 0, .slice none 0 0, .int .i64 0, .slice none 0 0] 27) := (heap_setCell_other _ _ _ _ (by simp; omega)).trans md
  have q5 : Below w.heap.size w (w4.setCell ⟨w.heap.size, 3, none⟩ (.slice va_ vn_ vc_)) := q4.setCell (p := ⟨w.heap.size, 3, none⟩) (Nat.le_refl w.heap.size) _
  have z5 : w.heap.size + 3 ≤ (w4.setCell ⟨w.heap.size, 3, none⟩ (.slice va_ vn_ vc_)).heap.size := by simpa [World.setCell] using z4
  have T5 := hide (T4.put0 (show w.heap.size < w.heap.size + 3 by omega) 3 (.slice va_ vn_ vc_))
  clear T4 o4 g4 b4 O3 q3 lc mc z3 kc p3 y0 y1 y2 y3 y4 y5 fz3 OW kb lb mb zb q2 q4 z4 md hL hrs
  obtain ⟨x0, x1, x2, x3, x4, x5⟩ := six_in kd
  have fz3 := six_frz kd 3
  obtain ⟨y0, y1, y2, y3, y4, y5⟩ := six_in ke
  go_wp2_with fail
  generalize (w4.setCell ⟨w.heap.size, 3, none⟩ (.slice va_ vn_ vc_)) = w5 at *
  refine (h51 _ _ _ _ _ q5 z5 T5.out).mono ?_
  rintro e w6 ⟨rfl, T6, q6, g6⟩
  have mf := hide ((g6.block (w.heap.size + 1 + 1) (by omega) (fun e => by obtain ⟨evs, -, h, -⟩ := T5.out.is; have := (h.lt _ e.symm).1; omega)).trans me)
  have T6h := hide T6
  clear T6 T5 g6 me ke x0 x1 x2 x3 x4 x5 fz3 y0 y1 y2 y3 y4 y5 kd h51 q5 z5
  go_wp2_with (refine wpList_store_whole 27 _ _ rfl rfl (w.heap.size + 1 + 1) [.string ⟨#[]⟩, .slice none 0 0, .slice none 0 0, .slice none 0 0, .int .i64 0, .slice none 0 0] [.string ⟨t.name.toArray⟩, .slice ca_ cn_ cc_, .slice da_ dn_ dc_, .slice va_ vn_ vc_, .int .i64 t.next, .slice ia_ xn_ ic_] 27 rfl rfl (by exact mf.out) rfl Tryz.size27 (by intro v hv; simp only [List.mem_cons, List.not_mem_nil, or_false] at hv; rcases hv with rfl | rfl | rfl | rfl | rfl | rfl <;> rfl) ?_; intro w7 mg p7)
  have q7 : Below w.heap.size w w7 := by rw [p7.out]; exact below_putAll (by omega) _ _ _ q6
  have T7 : TbOwn w7 w.heap.size (.slice ca_ cn_ cc_) (.slice da_ dn_ dc_) (.slice va_ vn_ vc_) (.slice ia_ xn_ ic_) (indexedT (cutT t L)) := by rw [p7.out]; exact (T6h.out.putAll (by omega) _ _).lower (by omega)
  obtain ⟨s0, s1, s2, s3, s4, s5⟩ := six_in mg
  refine bodyPost_ret (v := .tuple #[.agg #[.string ⟨t.name.toArray⟩, .slice ca_ cn_ cc_, .slice da_ dn_ dc_, .slice va_ vn_ vc_, .int .i64 t.next, .slice ia_ xn_ ic_], .int .i64 0]) ?_ rfl ⟨_, _, _, _, rfl, T7, q7⟩
  simp [results, Tryz.results14, go_sem, s0, s1, s2, s3, s4, s5]
theorem cut_sm {t : Tb} {L : List Int} (hs : Sm t) : Sm (cutT t L) := by
  refine ⟨hs.nm, hs.cl, hs.cn, hs.dl, hs.dn, ?_, ?_, hs.il, hs.inm, hs.ie⟩
  · have := hs.rl
    have h2 : (keptR L t.rows).length ≤ t.rows.length := List.length_filter_le _ _
    show (keptR L t.rows).length ≤ _
    omega
  · intro r hr
    exact hs.rn r (List.mem_filter.1 hr).1
def deleteT (t : Tb) (L : List Int) : Tb := indexedT (cutT t L)
theorem delete_ok (t : Tb) (L : List Int) (cu du ru iu u : Value) (w : World) (h : TbIn w cu du ru iu t) (hL : NsAt w u L) (laid : Laid w) (hm : Ml w) (hF : checkT t = 0) :
    Calls Tryz.prog 14 #[tbV t.name cu du ru t.next iu, u] w fun e w' => ∃ cv dv rv iv, e = .returned (.tuple #[tbV t.name cv dv rv t.next iv, .int .i64 0]) ∧ TbOwn w' w.heap.size cv dv rv iv (deleteT t L) ∧ Below w.heap.size w w' := by
  have hk := checkT_zero hF
  have hsm := h.at'.sm hk
  obtain ⟨-, -, c5, d6, r30, x4⟩ := frameN_zero hk.frame
  have hin := fun (W : World) (hW : Below w.heap.size w W) => h.below hW
  obtain ⟨ca, cc, hce, -⟩ := h.at'.cs
  obtain ⟨da, dc, hde, -⟩ := h.at'.ds
  obtain ⟨ra, rc, hre, -⟩ := h.at'.rs
  obtain ⟨ia, ic, hie, -⟩ := h.at'.is
  obtain ⟨na, nn, nc, hne⟩ := hL.form
  subst hce hde hre hie hne
  refine delete_raw t L ca da ra ia na _ _ _ _ nn cc dc rc ic nc w (by omega) hsm.rn hL ?_ ?_ ?_
  · intro W hW
    have := tcheck_any t _ _ _ _ W (hin W hW).at' (laid.below hW) (hm.below hW)
    rw [hF] at this
    exact this
  · intro W hW
    exact fresh_any t _ _ _ _ W (hin W hW) (by omega)
  · intro W cv dv rv iv hW hs8 hT
    exact indexed_any w (w.heap.size + 3) (by omega) (cutT t L) cv dv rv iv W hs8 hW laid hT (cut_sm hsm) (fun r hr => (hk.rows r (List.mem_filter.1 hr).1).2) (fun x hx => ⟨(hk.ixs x hx).a0, (hk.ixs x hx).a1⟩)
def placeK (R : List Vl) (z : Int) : Int := match R.findIdx? (fun x => x.k == z) with | some i => i | none => -1
theorem placeK_at {R : List Vl} {z : Int} {i : Nat} {x : Vl} (hx : R[i]? = some x) (e : x.k = z) (h : ∀ (j : Nat) y, j < i → R[j]? = some y → y.k ≠ z) : placeK R z = i := by
  have hi := (List.getElem?_eq_some_iff.1 hx).1
  have hf : R.findIdx? (fun x => x.k == z) = some i := by
    rw [List.findIdx?_eq_some_iff_getElem]
    refine ⟨hi, ?_, fun j hj => ?_⟩
    · have : R[i] = x := by rw [List.getElem?_eq_getElem hi] at hx; cases hx; rfl
      rw [this]; simpa using e
    · have := h j _ hj (List.getElem?_eq_getElem (by omega))
      simpa using this
  unfold placeK
  rw [hf]
theorem placeK_none {R : List Vl} {z : Int} (h : ∀ (j : Nat) y, R[j]? = some y → y.k ≠ z) : placeK R z = -1 := by
  have hf : R.findIdx? (fun x => x.k == z) = none := by
    rw [List.findIdx?_eq_none_iff]
    intro y hy
    obtain ⟨j, hj, rfl⟩ := List.getElem_of_mem hy
    have := h j _ (List.getElem?_eq_getElem hj)
    simpa using this
  unfold placeK
  rw [hf]
theorem isNo_any (x : Vl) (z : Int) (W : World) (p : Nat) (hp : W.cell? ⟨p, 0, none⟩ = some (.int .i64 z)) (lp : p < W.heap.size) :
    Calls Tryz.prog 107 #[vlV x, .pointer (some ⟨p, 0, none⟩)] W fun e W' => e = .returned (.bool (x.k == z)) ∧ Below W.heap.size W W' := by
  have b0 := (Below.refl W.heap.size W).alloc (Nat.le_refl _) (.cells #[.int .i64 x.k, .int .i64 x.n, .string ⟨x.s.toArray⟩] 39)
  have a1 := (b0.cell (p := ⟨p, 0, none⟩) lp).trans hp
  unfold vlV
  go_enter Tryz.func107, Tryz.ntmps107
  go_wp2
  go_ret
  exact ⟨rfl, b0⟩
theorem pix_any (R : List Vl) (u : Value) (z : Int) (w : World) (h : VsAt w u R) (p : Nat) (hp : w.cell? ⟨p, 0, none⟩ = some (.int .i64 z)) (lp : p < w.heap.size) :
    Calls Tryz.prog 99 #[u, .func (.func 107) #[] #[.pointer (some ⟨p, 0, none⟩)]] w fun e w' => e = .returned (.int .i64 (placeK R z)) ∧ Below w.heap.size w w' := by
  obtain ⟨au, cu, rfl, h1, -, h3⟩ := h
  obtain ⟨n, hn⟩ : ∃ n, R.length = n := ⟨_, rfl⟩
  have HN := hide hn
  rw [hn] at h1 ⊢
  have HP := hide hp
  clear hp hn
  go_enter Tryz.func99, Tryz.ntmps99
  go_wp2
  go_loopw [8] (fun i wl => ∃ k : Nat, k ≤ n ∧ i = .int .i64 k ∧ Below w.heap.size w wl ∧ Hid (∀ (j : Nat) y, j < k → R[j]? = some y → y.k ≠ z)) (fun i _ => n - (intOf i).toNat)
  case atStart => exact ⟨0, Nat.zero_le _, rfl, Below.refl _ _, fun j _ hj => absurd hj (Nat.not_lt_zero _)⟩
  case round =>
    obtain ⟨k, hk, rfl, hnx, HA⟩ := hrel
    by_cases hlt : k < n
    · obtain ⟨x, hx⟩ : ∃ x, R[k]? = some x := ⟨R[k]'(by rw [HN.out]; exact hlt), List.getElem?_eq_getElem _⟩
      obtain ⟨g, o, rfl, hg, hc⟩ := h3 (by intro e; rw [e] at hx; cases hx)
      obtain ⟨a0, a1, a2⟩ := hc k x hx
      have c0 := (hnx.cell (p := ⟨g, o + k * 3, none⟩) hg).trans a0
      have c1 := (hnx.cell (p := ⟨g, o + k * 3 + 1, none⟩) hg).trans a1
      have c2 := (hnx.cell (p := ⟨g, o + k * 3 + 2, none⟩) hg).trans a2
      have hlt' : (k : Int) < (n : Int) := by omega
      have hsz := hnx.size
      have hf := isNo_any x z wr p ((hnx.cell (p := ⟨p, 0, none⟩) lp).trans HP.out) (Nat.lt_of_lt_of_le lp hsz)
      unfold vlV at hf
      have HX : Hid (R[k]? = some x) := hx
      clear hc h3 a0 a1 a2 hx
      by_cases hB : x.k = z
      · have HB := hide hB
        rw [show (x.k == z) = true by simpa using hB] at hf
        clear hB
        go_wp2_with (go_at_call 107; refine hf.mono ?_; rintro e w2 ⟨rfl, b2⟩)
        go_ret
        exact ⟨by rw [placeK_at HX.out HB.out HA.out]; rfl, hnx.trans (b2.mono hsz)⟩
      · have HB := hide hB
        rw [show (x.k == z) = false by simpa using hB] at hf
        clear hB
        go_wp2_with (go_at_call 107; refine hf.mono ?_; rintro e w2 ⟨rfl, b2⟩)
        go_roundw
        case rel =>
          refine ⟨k + 1, by omega, by go_num, hnx.trans (b2.mono hsz), fun j y hj hy => ?_⟩
          rcases Nat.lt_or_ge j k with h | h
          · exact HA.out j y h hy
          · rw [show j = k by omega, HX.out] at hy; cases hy; exact HB.out
        case measure => simp [intOf]; omega
    · clear h3
      go_wp2
      go_ret
      exact ⟨by rw [placeK_none (R := R) (z := z) (fun j y hy => HA.out j y (by have := (List.getElem?_eq_some_iff.1 hy).1; have := HN.out; omega) hy)]; rfl, hnx⟩
theorem place_any (R : List Vl) (nm : List UInt8) (cu du iu : Value) (ra : Option Addr) (rn rc : Nat) (nx z : Int) (w : World) (h : VsAt w (.slice ra rn rc) R) :
    Calls Tryz.prog 56 #[tbV nm cu du (.slice ra rn rc) nx iu, .int .i64 z] w fun e w' => e = .returned (.int .i64 (placeK R z)) ∧ Below w.heap.size w w' := by
  have b0 := ((Below.refl w.heap.size w).alloc (Nat.le_refl _) (.cells #[.string ⟨nm.toArray⟩, cu, du, .slice ra rn rc, .int .i64 nx, iu] 27)).alloc (by simp) (.cells #[.int .i64 z] 3)
  have z1 : (w.alloc (.cells #[.string ⟨nm.toArray⟩, cu, du, .slice ra rn rc, .int .i64 nx, iu] 27)).heap.size = w.heap.size + 1 := by simp
  have k1 := heap_alloc_new (w.alloc (.cells #[.string ⟨nm.toArray⟩, cu, du, .slice ra rn rc, .int .i64 nx, iu] 27)) (.cells #[.int .i64 z] 3)
  rw [z1] at k1
  have z2 : ((w.alloc (.cells #[.string ⟨nm.toArray⟩, cu, du, .slice ra rn rc, .int .i64 nx, iu] 27)).alloc (.cells #[.int .i64 z] 3)).heap.size = w.heap.size + 2 := by simp
  have hp := pix_any R (.slice ra rn rc) z _ (h.below b0) (w.heap.size + 1) (by rw [Lib.cell_of_heap k1]; rfl) (by omega)
  clear z1 k1 h
  generalize placeK R z = K at hp ⊢
  unfold tbV
  go_enter Tryz.func56, Tryz.ntmps56
  go_wp2_with fail
  refine hp.mono ?_
  rintro e w1 ⟨rfl, b1⟩
  go_wp2
  go_ret
  exact ⟨rfl, b0.trans (b1.mono b0.size)⟩
def riseN : List Int → Bool
  | a :: b :: r => decide (a < b) && riseN (b :: r)
  | _ => true
theorem rise_bad {L : List Int} {k : Nat} {a b : Int} (ha : L[k]? = some a) (hb : L[k + 1]? = some b) (h : b ≤ a) : riseN L = false := by
  induction L generalizing k with
  | nil => cases ha
  | cons x r ih =>
    cases r with
    | nil => simp at hb
    | cons y r =>
      cases k with
      | zero =>
        simp at ha hb
        subst ha hb
        rw [riseN, decide_eq_false (by omega)]; rfl
      | succ k =>
        rw [riseN, ih (k := k) (by simpa using ha) (by simpa using hb)]; simp
theorem rise_good {L : List Int} (h : ∀ (k : Nat) a b, L[k]? = some a → L[k + 1]? = some b → a < b) : riseN L = true := by
  induction L with
  | nil => rfl
  | cons x r ih =>
    cases r with
    | nil => rfl
    | cons y r =>
      rw [riseN, decide_eq_true (h 0 x y rfl rfl), ih fun k a b ha hb => h (k + 1) a b (by simpa using ha) (by simpa using hb)]; rfl
theorem rise_any (L : List Int) (u : Value) (w : World) (h : NsAt w u L) :
    Calls Tryz.prog 101 #[u] w fun e w' => e = .returned (.bool (riseN L)) ∧ Below w.heap.size w w' := by
  obtain ⟨ao, cap, rfl, h1, h3⟩ := h
  obtain ⟨n, hn⟩ : ∃ n, L.length = n := ⟨_, rfl⟩
  have HN := hide hn
  rw [hn] at h1 ⊢
  clear hn
  go_enter Tryz.func101, Tryz.ntmps101
  go_wp2
  go_loopw [3] (fun i wl => ∃ k : Nat, (k = 0 ∨ k < n) ∧ i = .int .i64 (k + 1) ∧ Below w.heap.size w wl ∧ Hid (∀ (j : Nat) a b, j < k → L[j]? = some a → L[j + 1]? = some b → a < b)) (fun i _ => n - (intOf i).toNat)
  case atStart => exact ⟨0, .inl rfl, rfl, Below.refl _ _, fun j _ _ hj => absurd hj (Nat.not_lt_zero _)⟩
  case round =>
    obtain ⟨k, hk, rfl, hnx, HA⟩ := hrel
    by_cases hlt : k + 1 < n
    · obtain ⟨a, ha⟩ : ∃ x, L[k]? = some x := ⟨L[k]'(by rw [HN.out]; omega), List.getElem?_eq_getElem _⟩
      obtain ⟨b, hb⟩ : ∃ x, L[k + 1]? = some x := ⟨L[k + 1]'(by rw [HN.out]; omega), List.getElem?_eq_getElem _⟩
      obtain ⟨g, o, rfl, hg, hc⟩ := h3 (by intro e; rw [e] at ha; cases ha)
      have c0 := (hnx.cell (p := ⟨g, o + k, none⟩) hg).trans (hc k a ha)
      have c1 := (hnx.cell (p := ⟨g, o + (k + 1), none⟩) hg).trans (hc (k + 1) b hb)
      have hlt' : (k : Int) + 1 < (n : Int) := by omega
      have hkn : (k : Int) < (n : Int) := by omega
      have HX : Hid (L[k]? = some a ∧ L[k + 1]? = some b) := ⟨ha, hb⟩
      clear hc h3 ha hb hk
      by_cases hB : b ≤ a
      · have HB := hide hB
        go_wp2_with fail
        go_quiet (fail)
        go_wp2
        go_ret
        refine ⟨?_, below_drewN hnx _⟩
        rw [rise_bad HX.out.1 HX.out.2 (show b ≤ a from HB.out)]; rfl
      · have HB := hide hB
        go_wp2_with fail
        go_quiet (fail)
        go_wp2
        go_roundw
        case rel =>
          refine ⟨k + 1, .inr hlt, by go_num, below_drewN hnx _, fun j x y hj hx hy => ?_⟩
          rcases Nat.lt_or_ge j k with h | h
          · exact HA.out j x y h hx hy
          · obtain rfl : j = k := by omega
            rw [HX.out.1] at hx; cases hx
            rw [HX.out.2] at hy; cases hy
            have := HB.out
            omega
        case measure => simp [intOf]; omega
    · clear h3
      have hlt' : ¬ (k : Int) + 1 < (n : Int) := by omega
      go_wp2
      go_ret
      refine ⟨?_, hnx⟩
      rw [rise_good (fun j a b ha hb => HA.out j a b (by have := (List.getElem?_eq_some_iff.1 hb).1; have := HN.out; omega) ha hb)]; rfl
theorem any_at {α : Type} {L : List α} {P : α → Bool} {i : Nat} {x : α} (h : L[i]? = some x) (e : P x = true) : L.any P = true := by
  rw [List.any_eq_true]
  exact ⟨x, List.mem_of_getElem? h, e⟩
theorem any_none {α : Type} {L : List α} {P : α → Bool} (h : ∀ (j : Nat) y, L[j]? = some y → P y = false) : L.any P = false := by
  rw [List.any_eq_false]
  intro y hy
  obtain ⟨j, hj, rfl⟩ := List.getElem_of_mem hy
  rw [h j _ (List.getElem?_eq_getElem hj)]; decide
theorem lack_any (R : List Vl) (nm : List UInt8) (cu du iu : Value) (ra : Option Addr) (rn rc : Nat) (nx z : Int) (W : World) (p : Nat) (hp : W.heap[p]? = some (.cells #[.string ⟨nm.toArray⟩, cu, du, .slice ra rn rc, .int .i64 nx, iu] 27)) (h : VsAt W (.slice ra rn rc) R)
    (hc : ∃ a n c, cu = .slice a n c) (hd : ∃ a n c, du = .slice a n c) (hi : ∃ a n c, iu = .slice a n c) :
    Calls Tryz.prog 103 #[.int .i64 z, .pointer (some ⟨p, 0, none⟩)] W fun e W' => e = .returned (.bool (decide (placeK R z < 0))) ∧ Below W.heap.size W W' := by
  obtain ⟨ca, cn, cc, rfl⟩ := hc
  obtain ⟨da, dn, dc, rfl⟩ := hd
  obtain ⟨ia, xn, ic, rfl⟩ := hi
  have hf := place_any R nm (.slice ca cn cc) (.slice da dn dc) (.slice ia xn ic) ra rn rc nx z W h
  unfold tbV at hf
  generalize placeK R z = K at hf ⊢
  obtain ⟨x0, x1, x2, x3, x4, x5⟩ := six_in hp
  clear h hp
  go_enter Tryz.func103, Tryz.ntmps103
  go_wp2_with fail
  refine hf.mono ?_
  rintro e w1 ⟨rfl, b1⟩
  go_wp2
  go_ret
  exact ⟨rfl, b1⟩
theorem nlack_any (R : List Int) (u : Value) (P : Int → Bool) (w : World) (h : NsAt w u R) (p : Nat) (hf : ∀ (W : World) (x : Int), x ∈ R → Below w.heap.size w W → Calls Tryz.prog 103 #[.int .i64 x, .pointer (some ⟨p, 0, none⟩)] W fun e W' => e = .returned (.bool (P x)) ∧ Below W.heap.size W W') :
    Calls Tryz.prog 148 #[u, .func (.func 103) #[] #[.pointer (some ⟨p, 0, none⟩)]] w fun e w' => ∃ k : Int, e = .returned (.int .i64 k) ∧ (decide (k ≥ 0)) = R.any P ∧ Below w.heap.size w w' := by
  obtain ⟨au, cu, rfl, h1, h3⟩ := h
  obtain ⟨n, hn⟩ : ∃ n, R.length = n := ⟨_, rfl⟩
  have HN := hide hn
  rw [hn] at h1 ⊢
  have HF := hide hf
  clear hn hf
  go_enter Tryz.func148, Tryz.ntmps148
  go_wp2
  go_loopw [8] (fun i wl => ∃ k : Nat, k ≤ n ∧ i = .int .i64 k ∧ Below w.heap.size w wl ∧ Hid (∀ (j : Nat) y, j < k → R[j]? = some y → P y = false)) (fun i _ => n - (intOf i).toNat)
  case atStart => exact ⟨0, Nat.zero_le _, rfl, Below.refl _ _, fun j _ hj => absurd hj (Nat.not_lt_zero _)⟩
  case round =>
    obtain ⟨k, hk, rfl, hnx, HA⟩ := hrel
    by_cases hlt : k < n
    · obtain ⟨x, hx⟩ : ∃ x, R[k]? = some x := ⟨R[k]'(by rw [HN.out]; exact hlt), List.getElem?_eq_getElem _⟩
      obtain ⟨g, o, rfl, hg, hc⟩ := h3 (by intro e; rw [e] at hx; cases hx)
      have c0 := (hnx.cell (p := ⟨g, o + k, none⟩) hg).trans (hc k x hx)
      have hlt' : (k : Int) < (n : Int) := by omega
      have hsz := hnx.size
      have hf := HF.out wr x (List.mem_of_getElem? hx) hnx
      have HX : Hid (R[k]? = some x) := hx
      clear hc h3 hx
      by_cases hB : P x = true
      · have HB := hide hB
        rw [hB] at hf
        clear hB
        go_wp2_with (go_at_call 103; refine hf.mono ?_; rintro e w2 ⟨rfl, b2⟩)
        go_ret
        exact ⟨k, rfl, by rw [any_at HX.out HB.out]; exact decide_eq_true (by omega), hnx.trans (b2.mono hsz)⟩
      · rw [Bool.not_eq_true] at hB
        have HB := hide hB
        rw [hB] at hf
        clear hB
        go_wp2_with (go_at_call 103; refine hf.mono ?_; rintro e w2 ⟨rfl, b2⟩)
        go_roundw
        case rel =>
          refine ⟨k + 1, by omega, by go_num, hnx.trans (b2.mono hsz), fun j y hj hy => ?_⟩
          rcases Nat.lt_or_ge j k with h | h
          · exact HA.out j y h hy
          · rw [show j = k by omega, HX.out] at hy; cases hy; exact HB.out
        case measure => simp [intOf]; omega
    · clear h3
      go_wp2
      go_ret
      refine ⟨-1, rfl, ?_, hnx⟩
      rw [any_none (L := R) (P := P) (fun j y hy => HA.out j y (by have := (List.getElem?_eq_some_iff.1 hy).1; have := HN.out; omega) hy)]
      rfl
theorem nlacks_any (R : List Int) (u : Value) (P : Int → Bool) (w : World) (h : NsAt w u R) (p : Nat) (hf : ∀ (W : World) (x : Int), x ∈ R → Below w.heap.size w W → Calls Tryz.prog 103 #[.int .i64 x, .pointer (some ⟨p, 0, none⟩)] W fun e W' => e = .returned (.bool (P x)) ∧ Below W.heap.size W W') :
    Calls Tryz.prog 102 #[u, .func (.func 103) #[] #[.pointer (some ⟨p, 0, none⟩)]] w fun e w' => e = .returned (.bool (R.any P)) ∧ Below w.heap.size w w' := by
  have hx := nlack_any R u P w h p hf
  generalize R.any P = B at hx ⊢
  obtain ⟨ao, n, cap, rfl⟩ : ∃ a n c, u = .slice a n c := by obtain ⟨a, c, e, -⟩ := h; exact ⟨a, _, c, e⟩
  clear h hf
  go_enter Tryz.func102, Tryz.ntmps102
  go_wp2_with fail
  refine hx.mono ?_
  rintro e w1 ⟨k, rfl, hk, b1⟩
  have HK := hide hk
  clear hk
  go_wp2
  go_ret
  exact ⟨by rw [← HK.out]; rfl, b1⟩
theorem voff_any (R : List Vl) (u : Value) (P : Vl → Bool) (w : World) (h : VsAt w u R) (p q : Nat) (hf : ∀ (W : World) (x : Vl), x ∈ R → Below w.heap.size w W → Calls Tryz.prog 105 #[.agg #[.int .i64 x.k, .int .i64 x.n, .string ⟨x.s.toArray⟩], .pointer (some ⟨p, 0, none⟩), .pointer (some ⟨q, 0, none⟩)] W fun e W' => e = .returned (.bool (P x)) ∧ Below W.heap.size W W') :
    Calls Tryz.prog 122 #[u, .func (.func 105) #[] #[.pointer (some ⟨p, 0, none⟩), .pointer (some ⟨q, 0, none⟩)]] w fun e w' => ∃ k : Int, e = .returned (.int .i64 k) ∧ (decide (k ≥ 0)) = R.any P ∧ Below w.heap.size w w' := by
  obtain ⟨au, cu, rfl, h1, -, h3⟩ := h
  obtain ⟨n, hn⟩ : ∃ n, R.length = n := ⟨_, rfl⟩
  have HN := hide hn
  rw [hn] at h1 ⊢
  have HF := hide hf
  clear hn hf
  go_enter Tryz.func122, Tryz.ntmps122
  go_wp2
  go_loopw [8] (fun i wl => ∃ k : Nat, k ≤ n ∧ i = .int .i64 k ∧ Below w.heap.size w wl ∧ Hid (∀ (j : Nat) y, j < k → R[j]? = some y → P y = false)) (fun i _ => n - (intOf i).toNat)
  case atStart => exact ⟨0, Nat.zero_le _, rfl, Below.refl _ _, fun j _ hj => absurd hj (Nat.not_lt_zero _)⟩
  case round =>
    obtain ⟨k, hk, rfl, hnx, HA⟩ := hrel
    by_cases hlt : k < n
    · obtain ⟨x, hx⟩ : ∃ x, R[k]? = some x := ⟨R[k]'(by rw [HN.out]; exact hlt), List.getElem?_eq_getElem _⟩
      obtain ⟨g, o, rfl, hg, hc⟩ := h3 (by intro e; rw [e] at hx; cases hx)
      obtain ⟨a0, a1, a2⟩ := hc k x hx
      have c0 := (hnx.cell (p := ⟨g, o + k * 3, none⟩) hg).trans a0
      have c1 := (hnx.cell (p := ⟨g, o + k * 3 + 1, none⟩) hg).trans a1
      have c2 := (hnx.cell (p := ⟨g, o + k * 3 + 2, none⟩) hg).trans a2
      clear a0 a1 a2
      have hlt' : (k : Int) < (n : Int) := by omega
      have hsz := hnx.size
      have hf := HF.out wr x (List.mem_of_getElem? hx) hnx
      have HX : Hid (R[k]? = some x) := hx
      clear hc h3 hx
      by_cases hB : P x = true
      · have HB := hide hB
        rw [hB] at hf
        clear hB
        go_wp2_with (go_at_call 105; refine hf.mono ?_; rintro e w2 ⟨rfl, b2⟩)
        go_ret
        exact ⟨k, rfl, by rw [any_at HX.out HB.out]; exact decide_eq_true (by omega), hnx.trans (b2.mono hsz)⟩
      · rw [Bool.not_eq_true] at hB
        have HB := hide hB
        rw [hB] at hf
        clear hB
        go_wp2_with (go_at_call 105; refine hf.mono ?_; rintro e w2 ⟨rfl, b2⟩)
        go_roundw
        case rel =>
          refine ⟨k + 1, by omega, by go_num, hnx.trans (b2.mono hsz), fun j y hj hy => ?_⟩
          rcases Nat.lt_or_ge j k with h | h
          · exact HA.out j y h hy
          · rw [show j = k by omega, HX.out] at hy; cases hy; exact HB.out
        case measure => simp [intOf]; omega
    · clear h3
      go_wp2
      go_ret
      refine ⟨-1, rfl, ?_, hnx⟩
      rw [any_none (L := R) (P := P) (fun j y hy => HA.out j y (by have := (List.getElem?_eq_some_iff.1 hy).1; have := HN.out; omega) hy)]
      rfl
theorem voffs_any (R : List Vl) (u : Value) (P : Vl → Bool) (w : World) (h : VsAt w u R) (p q : Nat) (hf : ∀ (W : World) (x : Vl), x ∈ R → Below w.heap.size w W → Calls Tryz.prog 105 #[.agg #[.int .i64 x.k, .int .i64 x.n, .string ⟨x.s.toArray⟩], .pointer (some ⟨p, 0, none⟩), .pointer (some ⟨q, 0, none⟩)] W fun e W' => e = .returned (.bool (P x)) ∧ Below W.heap.size W W') :
    Calls Tryz.prog 104 #[u, .func (.func 105) #[] #[.pointer (some ⟨p, 0, none⟩), .pointer (some ⟨q, 0, none⟩)]] w fun e w' => e = .returned (.bool (R.any P)) ∧ Below w.heap.size w w' := by
  have hx := voff_any R u P w h p q hf
  generalize R.any P = B at hx ⊢
  obtain ⟨ao, n, cap, rfl⟩ : ∃ a n c, u = .slice a n c := by obtain ⟨a, c, e, -⟩ := h; exact ⟨a, _, c, e⟩
  clear h hf
  go_enter Tryz.func104, Tryz.ntmps104
  go_wp2_with fail
  refine hx.mono ?_
  rintro e w1 ⟨k, rfl, hk, b1⟩
  have HK := hide hk
  clear hk
  go_wp2
  go_ret
  exact ⟨by rw [← HK.out]; rfl, b1⟩
theorem off_any (x : Vl) (C : List Cl) (a : Nat) (c : Cl) (hc : C[a]? = some c) (nm : List UInt8) (du ru iu : Value) (ca : Option Addr) (cn cc : Nat) (nx : Int) (W : World) (p q : Nat) (hp : W.heap[p]? = some (.cells #[.string ⟨nm.toArray⟩, .slice ca cn cc, du, ru, .int .i64 nx, iu] 27)) (hq : W.heap[q]? = some (.cells #[.int .i64 a] 3)) (h : CsAt W (.slice ca cn cc) C) :
    Calls Tryz.prog 105 #[.agg #[.int .i64 x.k, .int .i64 x.n, .string ⟨x.s.toArray⟩], .pointer (some ⟨p, 0, none⟩), .pointer (some ⟨q, 0, none⟩)] W fun e W' => e = .returned (.bool (!(decide (x.k = 0) || decide (x.k = c.ty)))) ∧ Below W.heap.size W W' := by
  obtain ⟨ao, cap, e, hl, h3⟩ := h
  cases e
  have hf := fun W => fk_any x.k c.ty _ rfl W
  generalize (decide (x.k = 0) || decide (x.k = c.ty)) = B at hf ⊢
  obtain ⟨n, hn⟩ : ∃ n, C.length = n := ⟨_, rfl⟩
  have ha := (List.getElem?_eq_some_iff.1 hc).1
  rw [hn] at hp hl ha
  obtain ⟨g, o, rfl, hg, hcc⟩ := h3 (by intro e; rw [e] at hc; cases hc)
  obtain ⟨a0, a1⟩ := hcc a c hc
  have b0 := (Below.refl W.heap.size W).alloc (Nat.le_refl _) (.cells #[.int .i64 x.k, .int .i64 x.n, .string ⟨x.s.toArray⟩] 49)
  have lp := (ltS hp)
  have lq := (ltS hq)
  obtain ⟨x0, x1, x2, x3, x4, x5⟩ := six_in ((b0.block p lp).trans hp)
  have y0 : (W.alloc (.cells #[.int .i64 x.k, .int .i64 x.n, .string ⟨x.s.toArray⟩] 49)).cell? ⟨q, 0, none⟩ = some (.int .i64 a) := by rw [Lib.cell_of_heap ((b0.block q lq).trans hq)]; rfl
  have c0 := (b0.cell (p := ⟨g, o + a * 2, none⟩) hg).trans a0
  have c1 := (b0.cell (p := ⟨g, o + a * 2 + 1, none⟩) hg).trans a1
  have ha' : (a : Int) < (n : Int) := by omega
  clear h3 hcc a0 a1 hp hq hc hn
  go_enter Tryz.func105, Tryz.ntmps105
  go_wp2_with fail
  go_quiet ((go_at_call 106; exact Calls.quiet_of_same (hf _)))
  go_wp2
  go_ret
  exact ⟨rfl, below_drewN b0 _⟩
theorem updF_raw (E F : Nat) (C R K O : Bool) (ca da ra ia na la : Option Addr) (cn cc dn dc rn rc xn ic nn nc ln lc : Nat) (nm : List UInt8) (nx a : Int) (w : World)
    (h11 : ∀ W : World, Below w.heap.size w W → Calls Tryz.prog 11 #[tbV nm (.slice ca cn cc) (.slice da dn dc) (.slice ra rn rc) nx (.slice ia xn ic)] W fun e w' => e = .returned (.int .i64 (E : Nat)) ∧ Below W.heap.size W w')
    (h92 : ∀ W : World, Below w.heap.size w W → Calls Tryz.prog 91 #[tbV nm (.slice ca cn cc) (.slice da dn dc) (.slice ra rn rc) nx (.slice ia xn ic), .int .i64 a] W fun e w' => e = .returned (.bool C) ∧ Below W.heap.size W w')
    (h102 : ∀ W : World, Below w.heap.size w W → Calls Tryz.prog 101 #[.slice na nn nc] W fun e w' => e = .returned (.bool R) ∧ Below W.heap.size W w')
    (h103 : ∀ W : World, Below w.heap.size w W → W.heap[w.heap.size]? = some (.cells #[.string ⟨nm.toArray⟩, .slice ca cn cc, .slice da dn dc, .slice ra rn rc, .int .i64 nx, .slice ia xn ic] 27) → Calls Tryz.prog 102 #[.slice na nn nc, .func (.func 103) #[] #[.pointer (some ⟨w.heap.size, 0, none⟩)]] W fun e w' => e = .returned (.bool K) ∧ Below W.heap.size W w')
    (h75 : ∀ W : World, Below w.heap.size w W → Calls Tryz.prog 75 #[.slice la ln lc] W fun e w' => e = .returned (.int .i64 (F : Nat)) ∧ Below W.heap.size W w')
    (h105 : ∀ W : World, Below w.heap.size w W → C = true → W.heap[w.heap.size]? = some (.cells #[.string ⟨nm.toArray⟩, .slice ca cn cc, .slice da dn dc, .slice ra rn rc, .int .i64 nx, .slice ia xn ic] 27) → W.heap[w.heap.size + 1]? = some (.cells #[.int .i64 a] 3) → Calls Tryz.prog 104 #[.slice la ln lc, .func (.func 105) #[] #[.pointer (some ⟨w.heap.size, 0, none⟩), .pointer (some ⟨w.heap.size + 1, 0, none⟩)]] W fun e w' => e = .returned (.bool O) ∧ Below W.heap.size W w') :
    Calls Tryz.prog 55 #[tbV nm (.slice ca cn cc) (.slice da dn dc) (.slice ra rn rc) nx (.slice ia xn ic), .slice na nn nc, .int .i64 a, .slice la ln lc] w fun e w' => e = .returned (.int .i64 ((if E ≠ 0 then E else if C = false then 5 else if ln ≠ nn then 1 else if R = false then 1 else if K = true then 5 else if F ≠ 0 then F else if O = true then 7 else 0 : Nat) : Int)) ∧ Below w.heap.size w w' := by
  have z1 : (w.alloc (.cells #[.string ⟨nm.toArray⟩, .slice ca cn cc, .slice da dn dc, .slice ra rn rc, .int .i64 nx, .slice ia xn ic] 27)).heap.size = w.heap.size + 1 := by simp
  have z0 : w.heap.size + 2 ≤ ((w.alloc (.cells #[.string ⟨nm.toArray⟩, .slice ca cn cc, .slice da dn dc, .slice ra rn rc, .int .i64 nx, .slice ia xn ic] 27)).alloc (.cells #[.int .i64 a] 3)).heap.size := by simp
  have q0 : Below w.heap.size w ((w.alloc (.cells #[.string ⟨nm.toArray⟩, .slice ca cn cc, .slice da dn dc, .slice ra rn rc, .int .i64 nx, .slice ia xn ic] 27)).alloc (.cells #[.int .i64 a] 3)) := ((Below.refl w.heap.size w).alloc (Nat.le_refl _) _).alloc (by omega) _
  have k0 : ((w.alloc (.cells #[.string ⟨nm.toArray⟩, .slice ca cn cc, .slice da dn dc, .slice ra rn rc, .int .i64 nx, .slice ia xn ic] 27)).alloc (.cells #[.int .i64 a] 3)).heap[w.heap.size]? = some (.cells #[.string ⟨nm.toArray⟩, .slice ca cn cc, .slice da dn dc, .slice ra rn rc, .int .i64 nx, .slice ia xn ic] 27) := (Below.heap_alloc (w.alloc (.cells #[.string ⟨nm.toArray⟩, .slice ca cn cc, .slice da dn dc, .slice ra rn rc, .int .i64 nx, .slice ia xn ic] 27)) _ _ (by omega)).trans (heap_alloc_new w _)
  have l0 : ((w.alloc (.cells #[.string ⟨nm.toArray⟩, .slice ca cn cc, .slice da dn dc, .slice ra rn rc, .int .i64 nx, .slice ia xn ic] 27)).alloc (.cells #[.int .i64 a] 3)).heap[w.heap.size + 1]? = some (.cells #[.int .i64 a] 3) := by
    have := heap_alloc_new (w.alloc (.cells #[.string ⟨nm.toArray⟩, .slice ca cn cc, .slice da dn dc, .slice ra rn rc, .int .i64 nx, .slice ia xn ic] 27)) (.cells #[.int .i64 a] 3)
    rw [z1] at this
    exact this
  clear z1
  obtain ⟨RR, hR⟩ : ∃ RR : Nat, (if E ≠ 0 then E else if C = false then 5 else if ln ≠ nn then 1 else if R = false then 1 else if K = true then 5 else if F ≠ 0 then F else if O = true then 7 else 0 : Nat) = RR := ⟨_, rfl⟩
  rw [hR]
  have HR := hide hR
  clear hR
  unfold tbV at *
  go_enter Tryz.func55, Tryz.ntmps55
  go_wp2_with fail
  generalize ((w.alloc (.cells #[.string ⟨nm.toArray⟩, .slice ca cn cc, .slice da dn dc, .slice ra rn rc, .int .i64 nx, .slice ia xn ic] 27)).alloc (.cells #[.int .i64 a] 3)) = w0 at *
  refine (h11 _ q0).mono ?_
  rintro e w1 ⟨rfl, b1⟩
  have q1 : Below w.heap.size w w1 := q0.trans (b1.mono q0.size)
  have k1 := (b1.block w.heap.size (by omega)).trans k0
  have l1 := (b1.block (w.heap.size + 1) (by omega)).trans l0
  have z1 := Nat.le_trans z0 b1.size
  clear b1 q0 k0 l0 z0 h11
  by_cases hE : E = 0
  · subst hE
    obtain ⟨d0, d1, d2, d3, d4, d5⟩ := six_in k1
    have y0 : w1.cell? ⟨w.heap.size + 1, 0, none⟩ = some (.int .i64 a) := by rw [Lib.cell_of_heap l1]; rfl
    go_wp2_with fail
    refine (h92 _ q1).mono ?_
    rintro e w2 ⟨rfl, b2⟩
    have q2 : Below w.heap.size w w2 := q1.trans (b2.mono q1.size)
    have k2 := (b2.block w.heap.size (by omega)).trans k1
    have l2 := (b2.block (w.heap.size + 1) (by omega)).trans l1
    have z2 := Nat.le_trans z1 b2.size
    clear b2 q1 k1 l1 z1 h92 d0 d1 d2 d3 d4 d5 y0
    cases C with
    | false =>
      go_wp2
      go_ret
      exact ⟨by rw [← HR.out]; simp, q2⟩
    | true =>
      by_cases h1 : ln = nn
      · subst h1
        go_wp2_with fail
        refine (h102 _ q2).mono ?_
        rintro e w3 ⟨rfl, b3⟩
        have q3 : Below w.heap.size w w3 := q2.trans (b3.mono q2.size)
        have k3 := (b3.block w.heap.size (by omega)).trans k2
        have l3 := (b3.block (w.heap.size + 1) (by omega)).trans l2
        have z3 := Nat.le_trans z2 b3.size
        clear b3 q2 k2 l2 z2 h102
        cases R with
        | false =>
          go_wp2
          go_ret
          exact ⟨by rw [← HR.out]; simp, q3⟩
        | true =>
          go_wp2_with fail
          refine (h103 _ q3 k3).mono ?_
          rintro e w4 ⟨rfl, b4⟩
          have q4 : Below w.heap.size w w4 := q3.trans (b4.mono q3.size)
          have k4 := (b4.block w.heap.size (by omega)).trans k3
          have l4 := (b4.block (w.heap.size + 1) (by omega)).trans l3
          have z4 := Nat.le_trans z3 b4.size
          clear b4 q3 k3 l3 z3 h103
          cases K with
          | true =>
            go_wp2
            go_ret
            exact ⟨by rw [← HR.out]; simp, q4⟩
          | false =>
            go_wp2_with fail
            refine (h75 _ q4).mono ?_
            rintro e w5 ⟨rfl, b5⟩
            have q5 : Below w.heap.size w w5 := q4.trans (b5.mono q4.size)
            have k5 := (b5.block w.heap.size (by omega)).trans k4
            have l5 := (b5.block (w.heap.size + 1) (by omega)).trans l4
            have z5 := Nat.le_trans z4 b5.size
            clear b5 q4 k4 l4 z4 h75
            by_cases hF : F = 0
            · subst hF
              go_wp2_with fail
              refine (h105 _ q5 (by simp) k5 l5).mono ?_
              rintro e w6 ⟨rfl, b6⟩
              have q6 : Below w.heap.size w w6 := q5.trans (b6.mono q5.size)
              have k6 := (b6.block w.heap.size (by omega)).trans k5
              have l6 := (b6.block (w.heap.size + 1) (by omega)).trans l5
              have z6 := Nat.le_trans z5 b6.size
              clear b6 q5 k5 l5 z5 h105
              cases O with
              | true =>
                go_wp2
                go_ret
                exact ⟨by rw [← HR.out]; simp, q6⟩
              | false =>
                go_wp2
                go_ret
                exact ⟨by rw [← HR.out]; simp, q6⟩
            · have hF' : ¬ (F : Int) = 0 := by omega
              go_wp2
              go_ret
              exact ⟨by rw [← HR.out]; simp [hF], q5⟩
      · have h1' : ¬ (ln : Int) = (nn : Int) := by omega
        have h1b : ((ln : Int) != (nn : Int)) = true := by simpa using h1'
        go_wp2
        go_ret
        exact ⟨by rw [← HR.out]; simp [h1], q2⟩
  · have hE' : ¬ (E : Int) = 0 := by omega
    go_wp2
    go_ret
    exact ⟨by rw [← HR.out]; simp [hE], q1⟩
def offC (t : Tb) (a : Int) (x : Vl) : Bool := match t.cols[a.toNat]? with | some c => !(decide (x.k = 0) || decide (x.k = c.ty)) | none => false
def updateF (t : Tb) (L : List Int) (a : Int) (V : List Vl) : Nat :=
  if checkT t ≠ 0 then checkT t else if (decide (0 ≤ a) && decide (a < (t.cols.length : Int))) = false then 5 else if V.length ≠ L.length then 1 else if riseN L = false then 1
  else if (L.any fun z => decide (placeK t.rows z < 0)) = true then 5 else if badL V ≠ 0 then badL V else if V.any (offC t a) = true then 7 else 0
theorem updF_any (t : Tb) (L : List Int) (a : Int) (V : List Vl) (cu du ru iu nu lu : Value) (w : World) (h : TbAt w cu du ru iu t) (hn : NsAt w nu L) (hl : VsAt w lu V) (laid : Laid w) (hm : Ml w) :
    Calls Tryz.prog 55 #[tbV t.name cu du ru t.next iu, nu, .int .i64 a, lu] w fun e w' => e = .returned (.int .i64 (updateF t L a V : Nat)) ∧ Below w.heap.size w w' := by
  have hin := fun (W : World) (hW : Below w.heap.size w W) => h.below hW
  obtain ⟨ca, cc, hce, -⟩ := h.cs
  obtain ⟨da, dc, hde, -⟩ := h.ds
  obtain ⟨ra, rc, hre, -⟩ := h.rs
  obtain ⟨ia, ic, hie, -⟩ := h.is
  obtain ⟨na, nc, hne, -⟩ := id hn
  obtain ⟨la, lc, hle, -⟩ := id hl
  subst hce hde hre hie hne hle
  unfold updateF
  refine updF_raw (checkT t) (badL V) (decide (0 ≤ a) && decide (a < (t.cols.length : Int))) (riseN L) (L.any fun z => decide (placeK t.rows z < 0)) (V.any (offC t a)) ca da ra ia na la _ cc _ dc _ rc _ ic _ nc _ lc t.name t.next a w ?_ ?_ ?_ ?_ ?_ ?_
  · exact fun W hW => tcheck_any t _ _ _ _ W (hin W hW) (laid.below hW) (hm.below hW)
  · exact fun W _ => isColumn_any a ca _ cc t.name _ _ _ t.next W
  · exact fun W hW => rise_any L _ W (hn.below hW)
  · intro W hW hp
    have lp := (ltS hp)
    refine nlacks_any L _ _ W (hn.below hW) w.heap.size fun W' x _ hb => ?_
    exact lack_any t.rows t.name _ _ _ ra _ rc t.next x W' w.heap.size ((hb.block _ lp).trans hp) ((hin W hW).below hb).rs ⟨_, _, _, rfl⟩ ⟨_, _, _, rfl⟩ ⟨_, _, _, rfl⟩
  · exact fun W hW => fitFault_any V _ W (hl.below hW)
  · intro W hW hC hp hq
    have lp := (ltS hp)
    have lq := (ltS hq)
    simp only [Bool.and_eq_true, decide_eq_true_eq] at hC
    obtain ⟨k, rfl⟩ := Int.eq_ofNat_of_zero_le hC.1
    obtain ⟨c, hc⟩ : ∃ c, t.cols[k]? = some c := ⟨t.cols[k]'(by omega), List.getElem?_eq_getElem _⟩
    refine voffs_any V _ _ W (hl.below hW) w.heap.size (w.heap.size + 1) fun W' x _ hb => ?_
    have e : offC t (k : Int) x = !(decide (x.k = 0) || decide (x.k = c.ty)) := by
      unfold offC
      rw [show ((k : Int)).toNat = k by omega, hc]
    rw [e]
    exact off_any x t.cols k c hc t.name _ _ _ ca _ cc t.next W' w.heap.size (w.heap.size + 1) ((hb.block _ lp).trans hp) ((hb.block _ lq).trans hq) ((hin W hW).below hb).cs
def unbX (a : Int) (x : Ix) : Ix := if x.a = a then { x with b := 1 } else x
theorem unbuilt_any (B : Nat) (u : Value) (X : List Ix) (a : Int) (w : World) (h : IxOwn w B u X) (hB : B ≤ w.heap.size) (hl : X.length ≤ 1000) :
    Calls Tryz.prog 69 #[u, .int .i64 a] w fun e w' => e = .returned u ∧ IxOwn w' B u (X.map (unbX a)) ∧ w.grownBy w' u.ownBlock ∧ Below B w w' := by
  obtain ⟨evs, e1, oi, oe⟩ := h
  obtain ⟨n, hn⟩ : ∃ n, X.length = n := ⟨_, rfl⟩
  rw [hn] at e1 oi hl
  have HN0 := hide hn
  have HE1 := hide e1
  obtain ⟨ia_, ic_, rfl⟩ := owns_slice oi
  have oi_ := hide oi
  have oe_ : Hid (∀ (i : Nat) ev x, evs[i]? = some ev → X[i]? = some x → w.ownsRow B 111 2 ev x.es.length (x.es.flatMap clC)) := hide oe
  clear hn e1 oi oe
  go_enter Tryz.func69, Tryz.ntmps69
  go_wp2
  go_loopw [8] (fun i wl => ∃ (k : Nat) (M : List Ix), k ≤ n ∧ i = .int .i64 k ∧ Hid (M.length = n) ∧ Hid (∀ j : Nat, k ≤ j → M[j]? = X[j]?) ∧ Hid (∀ j : Nat, j < k → M[j]? = (X[j]?).map (unbX a)) ∧ Hid (wl.ownsRow B 73 4 (.slice ia_ n ic_) n (ixsC M evs)) ∧ w.grownBy wl (Value.slice ia_ n ic_).ownBlock) (fun i _ => n - (intOf i).toNat)
  case atStart => exact ⟨0, X, Nat.zero_le _, rfl, HN0, fun _ _ => rfl, fun j hj => absurd hj (Nat.not_lt_zero _), oi_, grown_refl _ _⟩
  case round =>
    obtain ⟨k, M, hk, rfl, HN, HT, HV, HO, hg⟩ := hrel
    by_cases hlt : k < n
    · obtain ⟨x, hx⟩ : ∃ x, X[k]? = some x := ⟨X[k]'(by rw [HN0.out]; exact hlt), List.getElem?_eq_getElem _⟩
      have hM : M[k]? = some x := (HT.out k (Nat.le_refl _)).trans hx
      obtain ⟨ev, hev⟩ : ∃ x, evs[k]? = some x := ⟨evs[k]'(by rw [HE1.out]; exact hlt), List.getElem?_eq_getElem _⟩
      obtain ⟨gi, gc, hge, hgB, hgl⟩ := owns_some HO.out (by omega)
      cases hge
      have c1 : wr.cell? ⟨gi, k * 4 + 1, none⟩ = some (.int .i64 x.a) := by
        have := HO.out.cellAt (k * 4 + 1) (by omega)
        rw [ixsC_get M evs k x _ hM hev 1 (by decide)] at this
        exact this
      obtain ⟨⟨y2, c2⟩, fz⟩ := own_at HO.out (k * 4 + 2) (by omega)
      have hlt' : (k : Int) < (n : Int) := by omega
      have HM := hide hM
      have HX := hide hx
      clear hx hM hev
      by_cases hb : x.a = a
      · have HB := hide hb
        have hb1 : (x.a == a) = true := by simpa using hb
        clear hb
        go_wp2
        go_roundw
        case rel =>
          refine ⟨k + 1, M.set k { x with b := 1 }, by omega, by go_num, by rw [Hid, List.length_set]; exact HN.out, fun j hj => ?_, fun j hj => ?_, ?_, ?_⟩
          · rw [List.getElem?_set_ne (by omega)]; exact HT.out j (by omega)
          · rcases Nat.lt_or_ge j k with h | h
            · rw [List.getElem?_set_ne (by omega)]; exact HV.out j h
            · obtain rfl : j = k := by omega
              rw [List.getElem?_set_self (by rw [HN.out]; exact hlt), HX.out]
              simp [unbX, HB.out]
          · rw [Hid, ← ixsC_setB M evs k x _ (by rw [HE1.out, HN.out]) HM.out]
            exact own_put HO.out (k * 4 + 2) _
          · exact grown_trans hg (grown_set wr gi (k * 4 + 2) _)
        case measure => simp [intOf]; omega
      · have HB := hide hb
        have hb1 : (x.a == a) = false := by simpa using hb
        clear hb
        go_wp2
        go_roundw
        case rel =>
          refine ⟨k + 1, M, by omega, by go_num, HN, fun j hj => HT.out j (by omega), fun j hj => ?_, HO, hg⟩
          rcases Nat.lt_or_ge j k with h | h
          · exact HV.out j h
          · obtain rfl : j = k := by omega
            rw [HM.out, HX.out]
            have := HB.out
            simp [unbX, this]
        case measure => simp [intOf]; omega
    · obtain rfl : k = n := by omega
      have hM : M = X.map (unbX a) := by
        apply List.ext_getElem?
        intro j
        rw [List.getElem?_map]
        rcases Nat.lt_or_ge j k with h | h
        · exact HV.out j h
        · have h1 := HN.out
          have h2 := HN0.out
          rw [List.getElem?_eq_none (by omega), List.getElem?_eq_none (by omega)]; rfl
      subst hM
      have hfin : IxOwn wr B (.slice ia_ k ic_) (X.map (unbX a)) := by
        refine ⟨evs, by rw [List.length_map, HN0.out, HE1.out], by rw [List.length_map, HN0.out]; exact HO.out, ?_⟩
        intro i ev x' ha hb
        rw [List.getElem?_map] at hb
        obtain ⟨x, hx, rfl⟩ := Option.map_eq_some_iff.1 hb
        have hes : (unbX a x).es = x.es := by unfold unbX; split <;> rfl
        rw [hes]
        exact owns_other (oe_.out i ev x ha hx) oi_.out (by decide) hg
      have hbel : Below B w wr := (Below.refl B w).grown hg hB (fun j hj => (oi_.out.lt j hj).1)
      have HF := hide (And.intro hfin (And.intro hg hbel))
      clear hfin hbel HO HV HT HN hg
      go_wp2
      go_ret
      exact ⟨rfl, HF.out.1, HF.out.2.1, HF.out.2.2⟩
abbrev Ie := Ix × Value
def ixP (p : Ie) : List Value := [.string ⟨p.1.name.toArray⟩, .int .i64 p.1.a, .int .i64 p.1.b, p.2]
theorem ixsC_zip (X : List Ix) (evs : List Value) : ixsC X evs = (X.zip evs).flatMap ixP := by
  induction X generalizing evs with
  | nil => rfl
  | cons x r ih =>
    cases evs with
    | nil => rfl
    | cons e evs =>
      have := ih evs
      unfold ixsC at this ⊢
      rw [List.zipWith_cons_cons, List.flatten_cons, this, List.zip_cons_cons, List.flatMap_cons]
      rfl
theorem flatP_len (L : List Ie) : (L.flatMap ixP).length = L.length * 4 := by
  induction L with
  | nil => rfl
  | cons x r ih => rw [List.flatMap_cons, List.length_append, ih, List.length_cons]; simp only [ixP, List.length_cons, List.length_nil]; omega
theorem flatP_append (A B : List Ie) : (A ++ B).flatMap ixP = A.flatMap ixP ++ B.flatMap ixP := List.flatMap_append
theorem flatP_take (L : List Ie) (i : Nat) : (L.take i).flatMap ixP = (L.flatMap ixP).take (i * 4) := by
  induction L generalizing i with
  | nil => simp
  | cons x r ih =>
    cases i with
    | zero => simp
    | succ i =>
      rw [List.take_succ_cons, List.flatMap_cons, List.flatMap_cons, ih]
      have e : (i + 1) * 4 = (ixP x).length + i * 4 := by simp [ixP]; omega
      rw [e, List.take_length_add_append]
theorem flatP_drop (L : List Ie) (i : Nat) : (L.drop i).flatMap ixP = (L.flatMap ixP).drop (i * 4) := by
  induction L generalizing i with
  | nil => simp
  | cons x r ih =>
    cases i with
    | zero => simp
    | succ i =>
      rw [List.drop_succ_cons, List.flatMap_cons, ih]
      have e : (i + 1) * 4 = (ixP x).length + i * 4 := by simp [ixP]; omega
      rw [e, List.drop_length_add_append]
theorem flatP_set (r : List Ie) (a : Nat) (y : Ie) (ha : a < r.length) : (r.set a y).flatMap ixP = (r.flatMap ixP).take (a * 4) ++ ixP y ++ (r.flatMap ixP).drop (a * 4 + 4) := by
  rw [List.set_eq_take_append_cons_drop, if_pos ha, flatP_append, List.flatMap_cons, flatP_take, flatP_drop, List.append_assoc, show (a + 1) * 4 = a * 4 + 4 by omega]
theorem flatP_get (L : List Ie) (i : Nat) (x : Ie) (h : L[i]? = some x) : (L.flatMap ixP)[i * 4]? = some (.string ⟨x.1.name.toArray⟩) ∧ (L.flatMap ixP)[i * 4 + 1]? = some (.int .i64 x.1.a) ∧ (L.flatMap ixP)[i * 4 + 2]? = some (.int .i64 x.1.b) ∧ (L.flatMap ixP)[i * 4 + 3]? = some x.2 := by
  induction L generalizing i with
  | nil => cases h
  | cons y r ih =>
    cases i with
    | zero => cases h; exact ⟨rfl, rfl, rfl, rfl⟩
    | succ i =>
      have := ih i (by simpa using h)
      rw [List.flatMap_cons]
      have e : ∀ j, (ixP y ++ r.flatMap ixP)[(i + 1) * 4 + j]? = (r.flatMap ixP)[i * 4 + j]? := by
        intro j
        rw [List.getElem?_append_right (by simp [ixP]; omega)]
        congr 1
        simp [ixP]; omega
      exact ⟨(e 0).trans this.1, (e 1).trans this.2.1, (e 2).trans this.2.2.1, (e 3).trans this.2.2.2⟩
theorem clear_ixs (b o k c : Nat) (hk : 0 < k) : ∃ Z : List Value, Z.length = k * 4 ∧ ∀ (w : World) (ty : TypeId), (∀ j, j < k * 4 → (w.cell? ⟨b, o + j, none⟩).isSome = true) → (∀ j, j < k * 4 → w.frozen? ⟨b, o + j, none⟩ = false) →
    (Builtin.clear_ #[25] ty #[.slice (some ⟨b, o, none⟩) k c]).run Tryz.prog w = .ok (.tuple #[]) (w.setCells b o Z) := by
  obtain ⟨Z, hZ⟩ : ∃ Z, Z = (Builtin.zeroCells (Value.agg #[.string ⟨#[]⟩, .int .i64 0, .int .i64 0, .slice none 0 0]).cells k).toList := ⟨_, rfl⟩
  have hl : Z.length = k * 4 := by rw [hZ, Array.length_toList, size_zeroCells]; rfl
  have h1 : ∀ v ∈ Z, v.oneCell' = true := by
    intro v hv
    rw [hZ] at hv
    unfold Builtin.zeroCells at hv
    rw [Array.toList_map, List.mem_map] at hv
    obtain ⟨i, -, rfl⟩ := hv
    have hm : i % 4 = 0 ∨ i % 4 = 1 ∨ i % 4 = 2 ∨ i % 4 = 3 := by omega
    show (#[Value.string ⟨#[]⟩, .int .i64 0, .int .i64 0, .slice none 0 0][i % 4]!).oneCell' = true
    rcases hm with h | h | h | h <;> rw [h] <;> rfl
  refine ⟨Z, hl, fun w ty hc hf => ?_⟩
  cases k with
  | zero => cases hk
  | succ k =>
    have hst := run_storeCells_cells (P := Tryz.prog) b o Z 0 w (by rw [hl]; simpa using hc) (by rw [hl]; simpa using hf) h1
    simp only [Nat.add_zero] at hst
    simp [Builtin.clear_, run_underlying Tryz.underlying25, Tryz.zeroValue73, ← hZ, hst]
theorem own_ixp {w : World} {B : Nat} {g n cap : Nat} {r : List Ie} (h : w.ownsRow B 73 4 (.slice (some ⟨g, 0, none⟩) n cap) n (r.flatMap ixP)) (hn : r.length = n) (a : Nat) (ha : a < n) (y : Ie) :
    ((((w.setCell ⟨g, a * 4, none⟩ (.string ⟨y.1.name.toArray⟩)).setCell ⟨g, a * 4 + 1, none⟩ (.int .i64 y.1.a)).setCell ⟨g, a * 4 + 2, none⟩ (.int .i64 y.1.b)).setCell ⟨g, a * 4 + 3, none⟩ y.2).ownsRow B 73 4 (.slice (some ⟨g, 0, none⟩) n cap) n ((r.set a y).flatMap ixP) ∧
      Below B w ((((w.setCell ⟨g, a * 4, none⟩ (.string ⟨y.1.name.toArray⟩)).setCell ⟨g, a * 4 + 1, none⟩ (.int .i64 y.1.a)).setCell ⟨g, a * 4 + 2, none⟩ (.int .i64 y.1.b)).setCell ⟨g, a * 4 + 3, none⟩ y.2) := by
  obtain ⟨hxl, hh⟩ := h
  rcases hh with ⟨hv, -⟩ | ⟨g', cap', cur, hv, hBg, hg, hnc, hcm, hcs, htake⟩
  · cases hv
  cases hv
  have e : ((((w.setCell ⟨g, a * 4, none⟩ (.string ⟨y.1.name.toArray⟩)).setCell ⟨g, a * 4 + 1, none⟩ (.int .i64 y.1.a)).setCell ⟨g, a * 4 + 2, none⟩ (.int .i64 y.1.b)).setCell ⟨g, a * 4 + 3, none⟩ y.2) = w.setCells g (a * 4) (ixP y) := rfl
  rw [e]
  obtain ⟨cur', h1, h2⟩ := heap_setCells g 73 (ixP y) (a * 4) w cur hg (by simp [ixP]; omega)
  refine ⟨⟨by rw [flatP_len, List.length_set, hn], .inr ⟨g, cap, cur', rfl, hBg, h1, hnc, hcm, ?_, ?_⟩⟩, below_cells g hBg _ _ _ (Below.refl _ _)⟩
  · rw [← Array.length_toList, h2, List.length_append, List.length_append, List.length_take, List.length_drop, Array.length_toList]; simp only [ixP, List.length_cons, List.length_nil]; omega
  · rw [flatP_set r a y (by omega), h2, ← htake]
    have l0 : cur.toList.length = cap * 4 := by rw [Array.length_toList]; exact hcs
    have l1 : (cur.toList.take (a * 4)).length = a * 4 := by rw [List.length_take]; omega
    have l2 : (ixP y).length = 4 := rfl
    rw [List.take_take, Nat.min_eq_left (by omega), l2]
    have l3 : (cur.toList.take (a * 4) ++ ixP y).length = a * 4 + 4 := by rw [List.length_append, l1, l2]
    have e3 : n * 4 = (cur.toList.take (a * 4) ++ ixP y).length + (n * 4 - (a * 4 + 4)) := by rw [l3]; omega
    rw [e3, List.take_length_add_append, List.drop_take]
    congr 2
    rw [l3]
    omega
theorem own_cutp {w : World} {B : Nat} {g n cap : Nat} {r : List Ie} (h : w.ownsRow B 73 4 (.slice (some ⟨g, 0, none⟩) n cap) n (r.flatMap ixP)) (hn : r.length = n) (a : Nat) (ha : a ≤ n) (Z : List Value) (hZ : Z.length = (n - a) * 4) :
    (w.setCells g (a * 4) Z).ownsRow B 73 4 (.slice (some ⟨g, 0, none⟩) a cap) a ((r.take a).flatMap ixP) ∧ Below B w (w.setCells g (a * 4) Z) := by
  obtain ⟨hxl, hh⟩ := h
  rcases hh with ⟨hv, -⟩ | ⟨g', cap', cur, hv, hBg, hg, hnc, hcm, hcs, htake⟩
  · cases hv
  cases hv
  obtain ⟨cur', h1, h2⟩ := heap_setCells g 73 Z (a * 4) w cur hg (by omega)
  refine ⟨⟨by rw [flatP_len, List.length_take, hn, Nat.min_eq_left ha], .inr ⟨g, cap, cur', rfl, hBg, h1, by omega, hcm, ?_, ?_⟩⟩, below_cells g hBg _ _ _ (Below.refl _ _)⟩
  · rw [← Array.length_toList, h2, List.length_append, List.length_append, List.length_take, List.length_drop, Array.length_toList]; omega
  · have l1 : (cur.toList.take (a * 4)).length = a * 4 := by rw [List.length_take, Array.length_toList]; omega
    rw [flatP_take, ← htake, h2, List.append_assoc, List.take_append_of_le_length (by omega), List.take_of_length_le (by omega), List.take_take, Nat.min_eq_left (by omega)]
def keptG (L : Ie → Bool) (R : List Ie) : List Ie := R.filter fun x => !L x
theorem keptG_all {L : Ie → Bool} {R : List Ie} (h : ∀ (j : Nat) y, R[j]? = some y → L y = false) : keptG L R = R := by
  unfold keptG
  rw [List.filter_eq_self]
  intro y hy
  obtain ⟨j, hj, rfl⟩ := List.getElem_of_mem hy
  rw [h j _ (List.getElem?_eq_getElem hj)]; rfl
theorem take_nextG {R : List Ie} {b : Nat} {x : Ie} (h : R[b]? = some x) : R.take (b + 1) = R.take b ++ [x] := by
  rw [List.take_add_one, h]; rfl
theorem keptG_keep {L : Ie → Bool} {R : List Ie} {b : Nat} {x : Ie} (h : R[b]? = some x) (hk : L x = false) : keptG L (R.take (b + 1)) = keptG L (R.take b) ++ [x] := by
  unfold keptG
  rw [take_nextG h, List.filter_append, List.filter_cons, hk]; rfl
theorem keptG_go {L : Ie → Bool} {R : List Ie} {b : Nat} {x : Ie} (h : R[b]? = some x) (hk : L x = true) : keptG L (R.take (b + 1)) = keptG L (R.take b) := by
  unfold keptG
  rw [take_nextG h, List.filter_append, List.filter_cons, hk]; simp
structure CutG (L : Ie → Bool) (R Z : List Ie) (a b : Nat) : Prop where
  len : Z.length = R.length
  lt : a < b
  le : b ≤ R.length
  take : Z.take a = keptG L (R.take b)
  drop : Z.drop b = R.drop b
theorem CutG.start {L : Ie → Bool} {R : List Ie} {i : Nat} {x : Ie} (hx : R[i]? = some x) (hk : L x = true) (h : ∀ (j : Nat) y, j < i → R[j]? = some y → L y = false) : CutG L R R i (i + 1) := by
  have hi := (List.getElem?_eq_some_iff.1 hx).1
  refine ⟨rfl, by omega, by omega, ?_, rfl⟩
  rw [keptG_go hx hk, keptG_all]
  intro j y hj
  rw [List.getElem?_take] at hj
  split at hj
  · rename_i h'; exact h j y h' hj
  · cases hj
theorem CutG.at' {L : Ie → Bool} {R Z : List Ie} {a b : Nat} (h : CutG L R Z a b) {x : Ie} (hx : R[b]? = some x) : Z[b]? = some x := by
  have e := congrArg (fun l : List Ie => l[0]?) h.drop
  simp only [List.getElem?_drop, Nat.add_zero] at e
  rw [e]; exact hx
theorem CutG.keep {L : Ie → Bool} {R Z : List Ie} {a b : Nat} (h : CutG L R Z a b) {x : Ie} (hx : R[b]? = some x) (hk : L x = false) : CutG L R (Z.set a x) (a + 1) (b + 1) := by
  have hi := (List.getElem?_eq_some_iff.1 hx).1
  have hl := h.len
  have hlt := h.lt
  refine ⟨by rw [List.length_set, hl], by omega, by omega, ?_, ?_⟩
  · have e : (Z.set a x)[a]? = some x := by rw [List.getElem?_set_self (by omega)]
    rw [take_nextG e, List.take_set_of_le (Nat.le_refl _), h.take, keptG_keep hx hk]
  · rw [List.drop_set_of_lt (by omega)]
    have e := congrArg (fun l : List Ie => l.drop 1) h.drop
    simpa [List.drop_drop] using e
theorem CutG.go {L : Ie → Bool} {R Z : List Ie} {a b : Nat} (h : CutG L R Z a b) {x : Ie} (hx : R[b]? = some x) (hk : L x = true) : CutG L R Z a (b + 1) := by
  have hi := (List.getElem?_eq_some_iff.1 hx).1
  have hlt := h.lt
  refine ⟨h.len, by omega, by omega, ?_, ?_⟩
  · rw [h.take, keptG_go hx hk]
  · have e := congrArg (fun l : List Ie => l.drop 1) h.drop
    simpa [List.drop_drop] using e
theorem CutG.fin {L : Ie → Bool} {R Z : List Ie} {a b : Nat} (h : CutG L R Z a b) (hb : b = R.length) : Z.take a = keptG L R ∧ a = (keptG L R).length := by
  have e := h.take
  rw [hb, List.take_length] at e
  refine ⟨e, ?_⟩
  have hl := h.len
  have hlt := h.lt
  rw [← e, List.length_take]; omega
def onC (z : Int) (x : Ie) : Bool := x.1.a == z
theorem onC_any (x : Ie) (ea : Option Addr) (en ec : Nat) (he : x.2 = .slice ea en ec) (z : Int) (W : World) (p : Nat) (hp : W.cell? ⟨p, 0, none⟩ = some (.int .i64 z)) (lp : p < W.heap.size) :
    Calls Tryz.prog 112 #[.agg #[.string ⟨x.1.name.toArray⟩, .int .i64 x.1.a, .int .i64 x.1.b, x.2], .pointer (some ⟨p, 0, none⟩)] W fun e W' => e = .returned (.bool (onC z x)) ∧ Below W.heap.size W W' := by
  rw [he]
  have b0 := (Below.refl W.heap.size W).alloc (Nat.le_refl _) (.cells #[.string ⟨x.1.name.toArray⟩, .int .i64 x.1.a, .int .i64 x.1.b, .slice ea en ec] 73)
  have a1 := (b0.cell (p := ⟨p, 0, none⟩) lp).trans hp
  unfold onC
  go_enter Tryz.func112, Tryz.ntmps112
  go_wp2
  go_ret
  exact ⟨rfl, b0⟩
def GoesG (R : List Ie) (L : Ie → Bool) (k : Int) : Prop :=
  (k = -1 ∧ ∀ (j : Nat) y, R[j]? = some y → L y = false) ∨ ∃ (i : Nat) (x : Ie), k = i ∧ R[i]? = some x ∧ L x = true ∧ ∀ (j : Nat) y, j < i → R[j]? = some y → L y = false
theorem fixp_any (B : Nat) (R : List Ie) (u : Value) (z : Int) (w : World) (h : w.ownsRow B 73 4 u R.length (R.flatMap ixP)) (hr : R.length ≤ 1000) (hev : ∀ x ∈ R, ∃ a n c, x.2 = .slice a n c) (p : Nat) (hp : w.cell? ⟨p, 0, none⟩ = some (.int .i64 z)) (lp : p < w.heap.size) :
    Calls Tryz.prog 140 #[u, .func (.func 112) #[] #[.pointer (some ⟨p, 0, none⟩)]] w fun e w' => ∃ k : Int, e = .returned (.int .i64 k) ∧ GoesG R (onC z) k ∧ Below w.heap.size w w' := by
  obtain ⟨au, cu, rfl⟩ := owns_slice h
  obtain ⟨n, hn⟩ : ∃ n, R.length = n := ⟨_, rfl⟩
  have HN := hide hn
  rw [hn] at hr h ⊢
  have HP := hide hp
  have HO := hide h
  have HV := hide hev
  clear hp hn h hev
  go_enter Tryz.func140, Tryz.ntmps140
  go_wp2
  go_loopw [8] (fun i wl => ∃ k : Nat, k ≤ n ∧ i = .int .i64 k ∧ Below w.heap.size w wl ∧ Hid (∀ (j : Nat) y, j < k → R[j]? = some y → onC z y = false)) (fun i _ => n - (intOf i).toNat)
  case atStart => exact ⟨0, Nat.zero_le _, rfl, Below.refl _ _, fun j _ hj => absurd hj (Nat.not_lt_zero _)⟩
  case round =>
    obtain ⟨k, hk, rfl, hnx, HA⟩ := hrel
    by_cases hlt : k < n
    · obtain ⟨x, hx⟩ : ∃ x, R[k]? = some x := ⟨R[k]'(by rw [HN.out]; exact hlt), List.getElem?_eq_getElem _⟩
      obtain ⟨g, gc, e', hBg, hg⟩ := owns_some HO.out (by omega)
      obtain ⟨rfl, rfl⟩ : au = some ⟨g, 0, none⟩ ∧ gc = cu := by cases e'; exact ⟨rfl, rfl⟩
      obtain ⟨f0, f1, f2, f3⟩ := flatP_get R k x hx
      obtain ⟨ea, en, ec, he⟩ := HV.out x (List.mem_of_getElem? hx)
      have O2 := owns_keep HO.out hnx
      have c0 := (O2.cellAt (k * 4) (by omega)).trans f0
      have c1 := (O2.cellAt (k * 4 + 1) (by omega)).trans f1
      have c2 := (O2.cellAt (k * 4 + 2) (by omega)).trans f2
      have c3 := (O2.cellAt (k * 4 + 3) (by omega)).trans f3
      have hlt' : (k : Int) < (n : Int) := by omega
      have hsz := hnx.size
      have hf := onC_any x ea en ec he z wr p ((hnx.cell (p := ⟨p, 0, none⟩) lp).trans HP.out) (Nat.lt_of_lt_of_le lp hsz)
      rw [he] at hf c3
      have HX : Hid (R[k]? = some x) := hx
      clear f0 f1 f2 f3 hx he O2 e'
      by_cases hB : onC z x = true
      · have HB := hide hB
        rw [hB] at hf
        clear hB
        go_wp2_with (go_at_call 112; refine hf.mono ?_; rintro e w2 ⟨rfl, b2⟩)
        go_ret
        exact ⟨k, rfl, .inr ⟨k, x, rfl, HX.out, HB.out, HA.out⟩, hnx.trans (b2.mono hsz)⟩
      · rw [Bool.not_eq_true] at hB
        have HB := hide hB
        rw [hB] at hf
        clear hB
        go_wp2_with (go_at_call 112; refine hf.mono ?_; rintro e w2 ⟨rfl, b2⟩)
        go_roundw
        case rel =>
          refine ⟨k + 1, by omega, by go_num, hnx.trans (b2.mono hsz), fun j y hj hy => ?_⟩
          rcases Nat.lt_or_ge j k with h | h
          · exact HA.out j y h hy
          · rw [show j = k by omega, HX.out] at hy; cases hy; exact HB.out
        case measure => simp [intOf]; omega
    · go_wp2
      go_ret
      exact ⟨-1, rfl, .inl ⟨rfl, fun j y hy => HA.out j y (by have := (List.getElem?_eq_some_iff.1 hy).1; have := HN.out; omega) hy⟩, hnx⟩
theorem delG_any (B : Nat) (u : Value) (R : List Ie) (z : Int) (w : World) (h : w.ownsRow B 73 4 u R.length (R.flatMap ixP)) (hB : B ≤ w.heap.size) (hr : R.length ≤ 1000) (hev : ∀ x ∈ R, ∃ a n c, x.2 = .slice a n c) (p : Nat) (lp : p < w.heap.size) (hp : w.cell? ⟨p, 0, none⟩ = some (.int .i64 z)) (hpB : ∀ g n cap, u = .slice (some ⟨g, 0, none⟩) n cap → p ≠ g) :
    Calls Tryz.prog 111 #[u, .func (.func 112) #[] #[.pointer (some ⟨p, 0, none⟩)]] w fun e w' => ∃ v, e = .returned v ∧ w'.ownsRow B 73 4 v (keptG (onC z) R).length ((keptG (onC z) R).flatMap ixP) ∧ Below B w w' ∧ w.grownBy w' u.ownBlock := by
  have hf := fixp_any B R u z w h hr hev p hp lp
  obtain ⟨au, cu, rfl⟩ := owns_slice h
  obtain ⟨n, hn⟩ : ∃ n, R.length = n := ⟨_, rfl⟩
  have HN := hide hn
  have HO := hide h
  rw [hn] at hf hr ⊢
  have HP := hide hp
  have HV := hide hev
  have HPB := hide hpB
  clear hp hn h hev hpB
  go_enter Tryz.func111, Tryz.ntmps111
  go_wp2_with fail
  refine hf.mono ?_
  rintro e w1 ⟨k, rfl, hk, b1⟩
  rcases hk with ⟨rfl, hk⟩ | ⟨i0, x0, rfl, hx0, hc0, hk⟩
  · have hK := hide (keptG_all hk)
    clear hk
    go_wp2
    go_ret
    refine ⟨_, rfl, ?_, b1.mono hB, grown_below b1 _⟩
    rw [hK.out]
    exact owns_keep (by rw [← HN.out]; exact HO.out) b1
  · have hi0 := (List.getElem?_eq_some_iff.1 hx0).1
    have hi1 : ((i0 : Int) == -1) = false := by simp
    obtain ⟨g, cap, e', hBg, hg⟩ := owns_some HO.out (by omega)
    obtain ⟨rfl, rfl⟩ : au = some ⟨g, 0, none⟩ ∧ cap = cu := by cases e'; exact ⟨rfl, rfl⟩
    have hcap : n ≤ cap := by
      obtain ⟨-, ⟨e1, -⟩ | ⟨g', cap', cur, e1, -, -, h2, -⟩⟩ := HO.out
      · cases e1
      · cases e1; rw [← HN.out]; exact h2
    have hO1 : Hid (w1.ownsRow B 73 4 (.slice (some ⟨g, 0, none⟩) n cap) n (R.flatMap ixP)) := owns_keep (by have := HO.out; rw [HN.out] at this; exact this) b1
    have hC1 : Hid (CutG (onC z) R R i0 (i0 + 1)) := CutG.start hx0 hc0 hk
    have q1 := b1.mono hB
    have hg1 : w.grownBy w1 (some g) := grown_below b1 _
    clear hx0 hc0 hk hf HO b1
    rw [HN.out] at hi0
    go_wp2_with fail
    go_loopw [5, 6] (fun i j wl => ∃ (a b : Nat) (Z : List Ie), a < b ∧ b ≤ n ∧ i = .int .i64 a ∧ j = .int .i64 b ∧ Below B w wl ∧ w1.heap.size ≤ wl.heap.size ∧ Hid (wl.ownsRow B 73 4 (.slice (some ⟨g, 0, none⟩) n cap) n (Z.flatMap ixP)) ∧ Hid (CutG (onC z) R Z a b) ∧ w.grownBy wl (some g)) (fun _ j _ => n - (intOf j).toNat)
    case atStart => exact ⟨i0, i0 + 1, R, by omega, by omega, rfl, by go_num, q1, Nat.le_refl _, hO1, hC1, hg1⟩
    case round =>
      obtain ⟨a, b, Z, hab, hbn, rfl, rfl, hnx, hsz, HZ, HC, hgr⟩ := hrel
      by_cases hlt : b < n
      · obtain ⟨x, hx⟩ : ∃ x, R[b]? = some x := ⟨R[b]'(by rw [HN.out]; exact hlt), List.getElem?_eq_getElem _⟩
        have hlt' : (b : Int) < (n : Int) := by omega
        have hat : (a : Int) < (n : Int) := by omega
        obtain ⟨f0, f1, f2, f3⟩ := flatP_get Z b x (HC.out.at' hx)
        have c0 := (HZ.out.cellAt (b * 4) (by omega)).trans f0
        have c1 := (HZ.out.cellAt (b * 4 + 1) (by omega)).trans f1
        have c2 := (HZ.out.cellAt (b * 4 + 2) (by omega)).trans f2
        have c3 := (HZ.out.cellAt (b * 4 + 3) (by omega)).trans f3
        obtain ⟨ea, en, ec, he⟩ := HV.out x (List.mem_of_getElem? hx)
        rw [he] at c3
        have HX : Hid (R[b]? = some x) := hx
        clear f0 f1 f2 f3 hx q1 hO1 hC1 hg1
        have hpr : wr.cell? ⟨p, 0, none⟩ = some (.int .i64 z) := by
          have hne := HPB.out g _ _ rfl
          have := hgr.block p lp (by intro e; cases e; exact hne rfl)
          unfold World.cell? at HP ⊢
          rw [this]; exact HP.out
        have bW : Below B w (wr.alloc (.cells #[.string ⟨x.1.name.toArray⟩, .int .i64 x.1.a, .int .i64 x.1.b, .slice ea en ec] 73)) := hnx.alloc (by have := hnx.size; omega) _
        have hf := onC_any x ea en ec he z (wr.alloc (.cells #[.string ⟨x.1.name.toArray⟩, .int .i64 x.1.a, .int .i64 x.1.b, .slice ea en ec] 73)) p ((((Below.refl wr.heap.size wr).alloc (Nat.le_refl _) _).cell (p := ⟨p, 0, none⟩) (show p < wr.heap.size by have := hgr.size; omega)).trans hpr) (by have := bW.size; omega)
        rw [he] at hf
        have k1 := heap_alloc_new wr (.cells #[.string ⟨x.1.name.toArray⟩, .int .i64 x.1.a, .int .i64 x.1.b, .slice ea en ec] 73)
        have z1 : (wr.alloc (.cells #[.string ⟨x.1.name.toArray⟩, .int .i64 x.1.a, .int .i64 x.1.b, .slice ea en ec] 73)).heap.size = wr.heap.size + 1 := by simp
        have b2 : Below wr.heap.size wr (wr.alloc (.cells #[.string ⟨x.1.name.toArray⟩, .int .i64 x.1.a, .int .i64 x.1.b, .slice ea en ec] 73)) := (Below.refl _ _).alloc (Nat.le_refl _) _
        go_wp2_with fail
        generalize (wr.alloc (.cells #[.string ⟨x.1.name.toArray⟩, .int .i64 x.1.a, .int .i64 x.1.b, .slice ea en ec] 73)) = w2 at *
        refine hf.mono ?_
        rintro e w3 ⟨rfl, b3⟩
        have b4 : Below wr.heap.size wr w3 := b2.trans (b3.mono (by omega))
        have q3 : Below B w w3 := hnx.trans (b4.mono (by have := hnx.size; omega))
        have k3 := (b3.block wr.heap.size (by omega)).trans k1
        have hO3 : Hid (w3.ownsRow B 73 4 (.slice (some ⟨g, 0, none⟩) n cap) n (Z.flatMap ixP)) := owns_keep HZ.out b4
        have hg3 : w.grownBy w3 (some g) := grown_trans hgr (grown_below b4 _)
        have hs3 : w1.heap.size ≤ w3.heap.size := by have := b4.size; omega
        have d0 : w3.cell? ⟨wr.heap.size, 0, none⟩ = some (.string ⟨x.1.name.toArray⟩) := by rw [Lib.cell_of_heap k3]; rfl
        have d1 : w3.cell? ⟨wr.heap.size, 1, none⟩ = some (.int .i64 x.1.a) := by rw [Lib.cell_of_heap k3]; rfl
        have d2 : w3.cell? ⟨wr.heap.size, 2, none⟩ = some (.int .i64 x.1.b) := by rw [Lib.cell_of_heap k3]; rfl
        have d3 : w3.cell? ⟨wr.heap.size, 3, none⟩ = some (.slice ea en ec) := by rw [Lib.cell_of_heap k3]; rfl
        clear hf c0 c1 c2 c3 hpr k1 z1 b2 b3 k3 bW hnx
        by_cases hB' : onC z x = true
        · have HC2 := hide (HC.out.go HX.out hB')
          rw [hB']
          clear hB' HC HX
          go_wp2
          go_roundw
          case rel => exact ⟨a, b + 1, Z, by omega, by omega, rfl, by go_num, q3, hs3, hO3, HC2, hg3⟩
          case measure => simp [intOf]; omega
        · rw [Bool.not_eq_true] at hB'
          have HC2 := hide (HC.out.keep HX.out hB')
          obtain ⟨⟨y0, e0⟩, f0⟩ := own_at hO3.out (a * 4) (by omega)
          obtain ⟨⟨y1, e1⟩, f1⟩ := own_at hO3.out (a * 4 + 1) (by omega)
          obtain ⟨⟨y2, e2⟩, f2⟩ := own_at hO3.out (a * 4 + 2) (by omega)
          obtain ⟨⟨y3, e3⟩, f3⟩ := own_at hO3.out (a * 4 + 3) (by omega)
          obtain ⟨o4, q4⟩ := own_ixp hO3.out (by rw [HC.out.len, HN.out]) a (by omega) x
          have H4 := hide (And.intro o4 (And.intro (q3.trans q4) (grown_trans hg3 (grown_trans (grown_trans (grown_trans (grown_set w3 g (a * 4) (.string ⟨x.1.name.toArray⟩)) (grown_set _ g (a * 4 + 1) (.int .i64 x.1.a))) (grown_set _ g (a * 4 + 2) (.int .i64 x.1.b))) (grown_set _ g (a * 4 + 3) x.2)))))
          rw [he] at H4
          clear he
          rw [hB']
          clear hB' HC HX o4 q4 q3 hO3 hg3 hgr
          go_wp2
          go_roundw
          case rel => exact ⟨a + 1, b + 1, Z.set a x, by omega, by omega, by go_num, by go_num, H4.out.2.1, by simpa [World.setCell] using hs3, H4.out.1, HC2, H4.out.2.2⟩
          case measure => simp [intOf]; omega
      · obtain rfl : b = n := by omega
        obtain ⟨hz1, hz2⟩ := HC.out.fin HN.out.symm
        obtain ⟨ZZ, hZl, hcl⟩ := clear_ixs g (a * 4) (b - a) (cap - a) (by omega)
        have hcl2 := fun ty => hcl wr ty (fun j hj => by obtain ⟨⟨y, hy⟩, -⟩ := own_at HZ.out (a * 4 + j) (by omega); rw [hy]; rfl) (fun j hj => (own_at HZ.out (a * 4 + j) (by omega)).2)
        obtain ⟨o5, q5⟩ := own_cutp HZ.out (by rw [HC.out.len, HN.out]) a (by omega) ZZ hZl
        rw [hz1] at o5
        have H5 := hide (And.intro o5 (And.intro (hnx.trans q5) (grown_trans hgr (grown_cells g ZZ (a * 4) wr))))
        have Hz2 := hide hz2
        have hac : a ≤ cap := by omega
        have han : a ≤ b := by omega
        have hne : ¬ cap = a := by omega
        clear hcl o5 q5 hz1 hz2 HZ HC hO1 hC1 q1 hnx hgr hg1
        go_wp2
        go_ret
        exact ⟨_, rfl, by rw [← Hz2.out]; exact H5.out.1, H5.out.2.1, H5.out.2.2⟩
end Go.Proofs.YtcnnjladaoaeiaaGreatDoor
