/-
  Package table: Update.
  Package table: Update, whole.
  tableBegun.
-/
import Derived.Test.YtcnnjladaoaeiaaGreatDoorGa
import Derived.Test.YtcnnjladaoaeiaaGreatDoorGm
import Derived.Test.YtcnnjladaoaeiaaGreatDoorGo

set_option maxRecDepth 100000
set_option maxHeartbeats 25600000
namespace Go.Proofs.YtcnnjladaoaeiaaGreatDoor
open Go.RowKit
theorem own_rows {w : World} {B : Nat} {cu du ru iu : Value} {t : Tb} {R : List Vl} (h : TbOwn w B cu du ru iu (withR t R)) (hs : ∀ x ∈ R, x.s.length ≤ 140737488355328) (hr : R.length ≤ 1000) : VsAt w ru R := vs_own_e h.rs hr hs
theorem cells_of_row {w : World} {B g n cap : Nat} {e : TypeId} {R : List Vl} (h : w.ownsRow B e 3 (.slice (some ⟨g, 0, none⟩) n cap) n (R.flatMap vlC)) {j : Nat} {r : Vl} (hr : R[j]? = some r) (hj : j < n) :
    (w.cell? ⟨g, j * 3, none⟩ = some (.int .i64 r.k) ∧ w.cell? ⟨g, j * 3 + 1, none⟩ = some (.int .i64 r.n) ∧ w.cell? ⟨g, j * 3 + 2, none⟩ = some (.string ⟨r.s.toArray⟩)) ∧ (w.frozen? ⟨g, j * 3, none⟩ = false ∧ w.frozen? ⟨g, j * 3 + 1, none⟩ = false ∧ w.frozen? ⟨g, j * 3 + 2, none⟩ = false) := by
  obtain ⟨f0, f1, f2⟩ := flatV_get R j r hr
  exact ⟨⟨(h.cellAt (j * 3) (by omega)).trans f0, (h.cellAt (j * 3 + 1) (by omega)).trans f1, (h.cellAt (j * 3 + 2) (by omega)).trans f2⟩, (own_at h (j * 3) (by omega)).2, (own_at h (j * 3 + 1) (by omega)).2, (own_at h (j * 3 + 2) (by omega)).2⟩
theorem TbOwn.row {w : World} {B g n cap : Nat} {cu du iu : Value} {t : Tb} {R : List Vl} (h : TbOwn w B cu du (.slice (some ⟨g, 0, none⟩) n cap) iu (withR t R)) (hn : R.length = n) {j : Nat} (hj : j < n) (y : Vl) :
    TbOwn (((w.setCell ⟨g, j * 3, none⟩ (.int .i64 y.k)).setCell ⟨g, j * 3 + 1, none⟩ (.int .i64 y.n)).setCell ⟨g, j * 3 + 2, none⟩ (.string ⟨y.s.toArray⟩)) B cu du (.slice (some ⟨g, 0, none⟩) n cap) iu (withR t (R.set j y)) ∧ Below B w (((w.setCell ⟨g, j * 3, none⟩ (.int .i64 y.k)).setCell ⟨g, j * 3 + 1, none⟩ (.int .i64 y.n)).setCell ⟨g, j * 3 + 2, none⟩ (.string ⟨y.s.toArray⟩)) := by
  have hr : w.ownsRow B 39 3 (.slice (some ⟨g, 0, none⟩) n cap) n (R.flatMap vlC) := by have := h.rs; rw [show (withR t R).rows = R from rfl, hn] at this; exact this
  obtain ⟨o1, b1⟩ := own_row hr hn j hj y
  have hg : w.grownBy (((w.setCell ⟨g, j * 3, none⟩ (.int .i64 y.k)).setCell ⟨g, j * 3 + 1, none⟩ (.int .i64 y.n)).setCell ⟨g, j * 3 + 2, none⟩ (.string ⟨y.s.toArray⟩)) (some g) := grown_trans (grown_trans (grown_set w g (j * 3) _) (grown_set _ g (j * 3 + 1) _)) (grown_set _ g (j * 3 + 2) _)
  obtain ⟨evs, h1, h2, h3⟩ := h.is
  refine ⟨⟨owns_other h.cs hr (by decide) hg, owns_other h.ds hr (by decide) hg, ?_, evs, h1, owns_other h2 hr (by decide) hg, fun i ev x a b => owns_other (h3 i ev x a b) hr (by decide) hg⟩, b1⟩
  have e : (R.set j y).length = n := by rw [List.length_set, hn]
  rw [show (withR t (R.set j y)).rows = R.set j y from rfl, e]
  exact o1
theorem TbOwn.vals {w w' : World} {B : Nat} {cu du ru iu z : Value} {t : Tb} {B' n : Nat} {xs : List Value} (h : TbOwn w B cu du ru iu t) (hz : w.ownsRow B' 49 3 z n xs) (hg : w.grownBy w' z.ownBlock) : TbOwn w' B cu du ru iu t := by
  obtain ⟨evs, h1, h2, h3⟩ := h.is
  exact ⟨owns_other h.cs hz (by decide) hg, owns_other h.ds hz (by decide) hg, owns_other h.rs hz (by decide) hg, evs, h1, owns_other h2 hz (by decide) hg, fun i ev x a b => owns_other (h3 i ev x a b) hz (by decide) hg⟩
theorem update_raw (t : Tb) (L : List Int) (a : Nat) (V : List Vl) (ca da ra ia na la : Option Addr) (cn dn rn xn nn ln cc dc rc ic nc lc : Nat) (w : World) (hs : Sm t) (hf : UpOk t L a V) (hL : NsAt w (.slice na nn nc) L) (hV : VsAt w (.slice la ln lc) V) (laid : Laid w)
    (h55 : ∀ W : World, Below w.heap.size w W → Calls Tryz.prog 55 #[tbV t.name (.slice ca cn cc) (.slice da dn dc) (.slice ra rn rc) t.next (.slice ia xn ic), .slice na nn nc, .int .i64 a, .slice la ln lc] W fun e w' => e = .returned (.int .i64 0) ∧ Below W.heap.size W w')
    (h49 : ∀ W : World, Below w.heap.size w W → Calls Tryz.prog 49 #[tbV t.name (.slice ca cn cc) (.slice da dn dc) (.slice ra rn rc) t.next (.slice ia xn ic)] W fun e w' => ∃ cv dv rv iv, e = .returned (tbV t.name cv dv rv t.next iv) ∧ TbOwn w' W.heap.size cv dv rv iv t ∧ Below W.heap.size W w')
    (h51 : ∀ (W : World) (cv dv rv iv : Value) (R : List Vl), Upd t R → Below w.heap.size w W → w.heap.size + 2 ≤ W.heap.size → TbOwn W (w.heap.size + 2) cv dv rv iv (withR t R) → Calls Tryz.prog 51 #[tbV t.name cv dv rv t.next iv] W fun e w' => e = .returned (tbV t.name cv dv rv t.next iv) ∧ TbOwn w' (w.heap.size + 2) cv dv rv iv (indexedT (withR t R)) ∧ Below w.heap.size w w' ∧ W.grownBy w' iv.ownBlock) :
    Calls Tryz.prog 15 #[tbV t.name (.slice ca cn cc) (.slice da dn dc) (.slice ra rn rc) t.next (.slice ia xn ic), .slice na nn nc, .int .i64 a, .slice la ln lc] w fun e w' => ∃ cv dv rv iv, e = .returned (.tuple #[tbV t.name cv dv rv t.next iv, .int .i64 0]) ∧ TbOwn w' w.heap.size cv dv rv iv (updateT t L a V) ∧ Below w.heap.size w w' := by
  obtain ⟨QQ, hQQ⟩ : ∃ QQ : Tb, updateT t L a V = QQ := ⟨_, rfl⟩
  rw [hQQ]
  have HQ : Hid (indexedT (withR t (updL t.ds a L V t.rows)) = QQ) := by rw [Hid, ← hQQ]; rfl
  clear hQQ
  have HF := hide hf
  have HS := hide hs
  obtain ⟨na', nc', hnE, hnB, hnC⟩ := hL
  obtain ⟨la', lc', hlE, hlB, hlS, hlC⟩ := hV
  obtain ⟨rfl, hnn, rfl⟩ : na = na' ∧ nn = L.length ∧ nc = nc' := by cases hnE; exact ⟨rfl, rfl, rfl⟩
  obtain ⟨rfl, hln, rfl⟩ : la = la' ∧ ln = V.length ∧ lc = lc' := by cases hlE; exact ⟨rfl, rfl, rfl⟩
  rw [← hnn] at hnB
  have HNN := hide hnn
  have HLN := hide hln
  have HNC := hide hnC
  have HLC := hide hlC
  obtain rfl : nn = ln := by rw [hln, hnn, hf.len]
  clear hnE hlE hnC hlC hnn hln hf hs hlS
  have z1 : (w.alloc (.cells #[.string ⟨t.name.toArray⟩, .slice ca cn cc, .slice da dn dc, .slice ra rn rc, .int .i64 t.next, .slice ia xn ic] 27)).heap.size = w.heap.size + 1 := by simp
  have hz0 : ((w.alloc (.cells #[.string ⟨t.name.toArray⟩, .slice ca cn cc, .slice da dn dc, .slice ra rn rc, .int .i64 t.next, .slice ia xn ic] 27)).alloc (.cells #[.string ⟨#[]⟩, .slice none 0 0, .slice none 0 0, .slice none 0 0, .int .i64 0, .slice none 0 0] 27)).heap.size = w.heap.size + 2 := by simp
  have b0 : Below w.heap.size w ((w.alloc (.cells #[.string ⟨t.name.toArray⟩, .slice ca cn cc, .slice da dn dc, .slice ra rn rc, .int .i64 t.next, .slice ia xn ic] 27)).alloc (.cells #[.string ⟨#[]⟩, .slice none 0 0, .slice none 0 0, .slice none 0 0, .int .i64 0, .slice none 0 0] 27)) := ((Below.refl w.heap.size w).alloc (Nat.le_refl _) _).alloc (by omega) _
  have k0 : ((w.alloc (.cells #[.string ⟨t.name.toArray⟩, .slice ca cn cc, .slice da dn dc, .slice ra rn rc, .int .i64 t.next, .slice ia xn ic] 27)).alloc (.cells #[.string ⟨#[]⟩, .slice none 0 0, .slice none 0 0, .slice none 0 0, .int .i64 0, .slice none 0 0] 27)).heap[w.heap.size]? = some (.cells #[.string ⟨t.name.toArray⟩, .slice ca cn cc, .slice da dn dc, .slice ra rn rc, .int .i64 t.next, .slice ia xn ic] 27) := (Below.heap_alloc (w.alloc (.cells #[.string ⟨t.name.toArray⟩, .slice ca cn cc, .slice da dn dc, .slice ra rn rc, .int .i64 t.next, .slice ia xn ic] 27)) _ _ (by omega)).trans (heap_alloc_new w _)
  have k1 : ((w.alloc (.cells #[.string ⟨t.name.toArray⟩, .slice ca cn cc, .slice da dn dc, .slice ra rn rc, .int .i64 t.next, .slice ia xn ic] 27)).alloc (.cells #[.string ⟨#[]⟩, .slice none 0 0, .slice none 0 0, .slice none 0 0, .int .i64 0, .slice none 0 0] 27)).heap[w.heap.size + 1]? = some (.cells #[.string ⟨#[]⟩, .slice none 0 0, .slice none 0 0, .slice none 0 0, .int .i64 0, .slice none 0 0] 27) := by
    have := heap_alloc_new (w.alloc (.cells #[.string ⟨t.name.toArray⟩, .slice ca cn cc, .slice da dn dc, .slice ra rn rc, .int .i64 t.next, .slice ia xn ic] 27)) (.cells #[.string ⟨#[]⟩, .slice none 0 0, .slice none 0 0, .slice none 0 0, .int .i64 0, .slice none 0 0] 27)
    rw [z1] at this
    exact this
  clear z1
  unfold tbV at *
  go_enter Tryz.func15, Tryz.ntmps15
  go_wp2_with fail
  generalize ((w.alloc (.cells #[.string ⟨t.name.toArray⟩, .slice ca cn cc, .slice da dn dc, .slice ra rn rc, .int .i64 t.next, .slice ia xn ic] 27)).alloc (.cells #[.string ⟨#[]⟩, .slice none 0 0, .slice none 0 0, .slice none 0 0, .int .i64 0, .slice none 0 0] 27)) = w0 at *
  refine (h55 _ b0).mono ?_
  rintro e w1 ⟨rfl, b1⟩
  have q1 : Below w.heap.size w w1 := b0.trans (b1.mono b0.size)
  have ka := (b1.block w.heap.size (by omega)).trans k0
  have la_ := (b1.block (w.heap.size + 1) (by omega)).trans k1
  have za : w.heap.size + 2 ≤ w1.heap.size := by have := b1.size; omega
  obtain ⟨x0, x1, x2, x3, x4, x5⟩ := six_in ka
  clear h55 b1 b0 k0 k1 hz0
  go_wp2_with fail
  refine (h49 _ q1).mono ?_
  rintro e w2 ⟨cv, dv, rv, iv, rfl, own, b2⟩
  have q2 : Below w.heap.size w w2 := q1.trans (b2.mono q1.size)
  have kb := hide ((b2.block w.heap.size (by omega)).trans ka)
  have lb := (b2.block (w.heap.size + 1) (by omega)).trans la_
  have zb : w.heap.size + 2 ≤ w2.heap.size := by have := b2.size; omega
  replace own := own.lower za
  obtain ⟨ca_, cn_, cc_, rfl⟩ : ∃ a n c, cv = .slice a n c := by obtain ⟨a, c, e⟩ := owns_slice own.cs; exact ⟨a, _, c, e⟩
  obtain ⟨da_, dc_, rfl⟩ : ∃ a c, dv = .slice a t.ds.length c := by obtain ⟨a, c, e⟩ := owns_slice own.ds; exact ⟨a, c, e⟩
  obtain ⟨ra_, rc_, rfl⟩ : ∃ a c, rv = .slice a t.rows.length c := by obtain ⟨a, c, e⟩ := owns_slice own.rs; exact ⟨a, c, e⟩
  obtain ⟨ia_, xn_, ic_, rfl⟩ : ∃ a n c, iv = .slice a n c := by obtain ⟨evs, -, h, -⟩ := own.is; obtain ⟨a, c, e⟩ := owns_slice h; exact ⟨a, _, c, e⟩
  obtain ⟨dn_, hdn⟩ : ∃ n, t.ds.length = n := ⟨_, rfl⟩
  obtain ⟨rn_, hrn⟩ : ∃ n, t.rows.length = n := ⟨_, rfl⟩
  rw [hdn, hrn] at own ⊢
  have HDN := hide hdn
  have HRN := hide hrn
  have OW : Hid (TbOwn w2 (w.heap.size + 2) (.slice ca_ cn_ cc_) (.slice da_ dn_ dc_) (.slice ra_ rn_ rc_) (.slice ia_ xn_ ic_) (withR t t.rows)) := own
  clear own h49 b2 ka la_ x0 x1 x2 x3 x4 x5 q1 za hdn hrn
  go_wp2_with (refine wpList_store_whole 27 _ _ rfl rfl w.heap.size [.string ⟨t.name.toArray⟩, .slice ca cn cc, .slice da dn dc, .slice ra rn rc, .int .i64 t.next, .slice ia xn ic] [.string ⟨t.name.toArray⟩, .slice ca_ cn_ cc_, .slice da_ dn_ dc_, .slice ra_ rn_ rc_, .int .i64 t.next, .slice ia_ xn_ ic_] 27 rfl rfl (by exact kb.out) rfl Tryz.size27 (by intro v hv; simp only [List.mem_cons, List.not_mem_nil, or_false] at hv; rcases hv with rfl | rfl | rfl | rfl | rfl | rfl <;> rfl) ?_; intro w3 kc p3)
  have q3 : Below w.heap.size w w3 := by rw [p3.out]; exact below_putAll (Nat.le_refl _) _ _ _ q2
  have O3 : Hid (TbOwn w3 (w.heap.size + 2) (.slice ca_ cn_ cc_) (.slice da_ dn_ dc_) (.slice ra_ rn_ rc_) (.slice ia_ xn_ ic_) (withR t t.rows)) := by rw [Hid, p3.out]; exact OW.out.putAll (by omega) _ _
  have lc3 : w3.heap[w.heap.size + 1]? = some (.cells #[.string ⟨#[]⟩, .slice none 0 0, .slice none 0 0, .slice none 0 0, .int .i64 0, .slice none 0 0] 27) := by rw [p3.out]; exact (putAll_other _ _ _ _ _ (by omega)).trans lb
  have z3 : w.heap.size + 2 ≤ w3.heap.size := by rw [p3.out, putAll_size]; exact zb
  have U3 : Hid (Upd t t.rows) := Upd.start HF.out.tb HS.out
  have E3 : Hid (updL t.ds a (L.drop 0) (V.drop 0) t.rows = updL t.ds a L V t.rows) := by rw [Hid, List.drop_zero, List.drop_zero]
  clear p3 OW kb lb zb q2
  go_loopw [29] (fun i wl => ∃ (k : Nat) (R : List Vl), k ≤ nn ∧ i = .int .i64 k ∧ Below w.heap.size w wl ∧ wl.heap[w.heap.size]? = some (.cells #[.string ⟨t.name.toArray⟩, .slice ca_ cn_ cc_, .slice da_ dn_ dc_, .slice ra_ rn_ rc_, .int .i64 t.next, .slice ia_ xn_ ic_] 27) ∧ wl.heap[w.heap.size + 1]? = some (.cells #[.string ⟨#[]⟩, .slice none 0 0, .slice none 0 0, .slice none 0 0, .int .i64 0, .slice none 0 0] 27) ∧ w.heap.size + 2 ≤ wl.heap.size ∧ Hid (TbOwn wl (w.heap.size + 2) (.slice ca_ cn_ cc_) (.slice da_ dn_ dc_) (.slice ra_ rn_ rc_) (.slice ia_ xn_ ic_) (withR t R)) ∧ Hid (Upd t R) ∧ Hid (updL t.ds a (L.drop k) (V.drop k) R = updL t.ds a L V t.rows)) (fun i _ => nn - (intOf i).toNat)
  case atStart => exact ⟨0, t.rows, Nat.zero_le _, rfl, q3, kc, lc3, z3, O3, U3, E3⟩
  case round =>
    obtain ⟨k, R, hk, rfl, qr, kr, lr, zr, OR, UR, ER⟩ := hrel
    have h1000 : R.length ≤ 1000 := by rw [UR.out.len]; exact HS.out.rl
    have hRn : R.length = rn_ := by rw [UR.out.len, HRN.out]
    by_cases hlt : k < nn
    · obtain ⟨z, hz⟩ : ∃ z, L[k]? = some z := ⟨L[k]'(by rw [← HNN.out]; exact hlt), List.getElem?_eq_getElem _⟩
      obtain ⟨v, hv⟩ : ∃ v, V[k]? = some v := ⟨V[k]'(by rw [← HLN.out]; exact hlt), List.getElem?_eq_getElem _⟩
      obtain ⟨gn, on, rfl, hgn, hcn⟩ := HNC.out (by intro e; rw [e] at hz; cases hz)
      obtain ⟨gl, ol, rfl, hgl, hcl⟩ := HLC.out (by intro e; rw [e] at hv; cases hv)
      have n0 := (qr.cell (p := ⟨gn, on + k, none⟩) hgn).trans (hcn k z hz)
      obtain ⟨v0, v1, v2⟩ := hcl k v hv
      replace v0 := (qr.cell (p := ⟨gl, ol + k * 3, none⟩) hgl).trans v0
      replace v1 := (qr.cell (p := ⟨gl, ol + k * 3 + 1, none⟩) hgl).trans v1
      replace v2 := (qr.cell (p := ⟨gl, ol + k * 3 + 2, none⟩) hgl).trans v2
      have hglr : gl < wr.heap.size := Nat.lt_of_lt_of_le hgl qr.size
      have hgnr : gn < wr.heap.size := Nat.lt_of_lt_of_le hgn qr.size
      obtain ⟨j, r, hr, rfl, hpl, hfi⟩ : ∃ (j : Nat) (r : Vl), R[j]? = some r ∧ r.k = z ∧ placeK R z = (j : Int) ∧ R.findIdx? (fun x => x.k == z) = some j := by
        refine placeK_ge ?_
        have h1 := HF.out.there z (List.mem_of_getElem? hz)
        unfold placeK at h1 ⊢
        rw [findK_keys z UR.out.keys]
        exact h1
      have hjR := (List.getElem?_eq_some_iff.1 hr).1
      have hjn : j < rn_ := by omega
      have hrs : wr.ownsRow (w.heap.size + 2) 39 3 (.slice ra_ rn_ rc_) rn_ (R.flatMap vlC) := by have := OR.out.rs; rw [show (withR t R).rows = R from rfl, hRn] at this; exact this
      obtain ⟨g, cap, e', hBg, hg⟩ := owns_some hrs (by omega)
      obtain ⟨rfl, rfl⟩ : ra_ = some ⟨g, 0, none⟩ ∧ rc_ = cap := by cases e'; exact ⟨rfl, rfl⟩
      have ho := UR.out.ok r (List.mem_of_getElem? hr)
      obtain ⟨-, -, hcw, -⟩ := frameN_zero HF.out.tb.frame
      have hac := HF.out.a1
      obtain ⟨c, hc⟩ : ∃ c, t.cols[a]? = some c := ⟨t.cols[a]'(by omega), List.getElem?_eq_getElem _⟩
      have hvv := HF.out.vals v (List.mem_of_getElem? hv)
      have hvk := HF.out.fits v (List.mem_of_getElem? hv) c (by rw [show ((a : Int)).toNat = a by omega]; exact hc)
      obtain ⟨NL, hNL⟩ : ∃ NL, nowL t.ds r = NL := ⟨_, rfl⟩
      obtain ⟨mm, hmm⟩ : ∃ mm, NL.length = mm := ⟨_, rfl⟩
      have hmc : mm = t.cols.length := by rw [← hmm, ← hNL]; exact ho.len
      have hbl : badL (NL.set a v) = 0 := badL_set a (by rw [← hNL]; exact now_right ho.ok) hvv
      have h56 : ∀ W : World, Below wr.heap.size wr W → Calls Tryz.prog 56 #[.agg #[.string ⟨t.name.toArray⟩, .slice ca_ cn_ cc_, .slice da_ dn_ dc_, .slice (some ⟨g, 0, none⟩) rn_ rc_, .int .i64 t.next, .slice ia_ xn_ ic_], .int .i64 r.k] W fun e w' => e = .returned (.int .i64 (j : Int)) ∧ Below W.heap.size W w' := by
        intro W hW
        rw [← hpl]
        have h := place_any R t.name (.slice ca_ cn_ cc_) (.slice da_ dn_ dc_) (.slice ia_ xn_ ic_) (some ⟨g, 0, none⟩) rn_ rc_ t.next r.k W (own_rows (OR.out.below hW) UR.out.sh h1000)
        unfold tbV at h
        exact h
      have h57 : ∀ W : World, Below wr.heap.size wr W → Calls Tryz.prog 57 #[.agg #[.string ⟨t.name.toArray⟩, .slice ca_ cn_ cc_, .slice da_ dn_ dc_, .slice (some ⟨g, 0, none⟩) rn_ rc_, .int .i64 t.next, .slice ia_ xn_ ic_], .agg #[.int .i64 r.k, .int .i64 r.n, .string ⟨r.s.toArray⟩]] W fun e w' => ∃ zu, e = .returned (.tuple #[zu, .int .i64 0]) ∧ Own w' W.heap.size zu NL ∧ Below W.heap.size W w' := by
        intro W hW
        have h := now_any t.ds r (.slice da_ dn_ dc_) t.name (.slice ca_ cn_ cc_) (.slice (some ⟨g, 0, none⟩) rn_ rc_) (.slice ia_ xn_ ic_) t.next W ((OR.out.below hW).tbIn (withR_sm HS.out UR.out)).at'.ds (laid.below (qr.trans (hW.mono qr.size))) ho.v0 ho.v1
        rw [ho.ok, hNL, show ((0 : Nat) : Int) = 0 from rfl] at h
        unfold tbV at h
        exact h
      obtain ⟨xa, hx⟩ : ∃ xa, NL[a]? = some xa := ⟨NL[a]'(by omega), List.getElem?_eq_getElem _⟩
      have hlt' : (k : Int) < (nn : Int) := by omega
      have hj' : (j : Int) < (rn_ : Int) := by omega
      have ha' : (a : Int) < (mm : Int) := by omega
      obtain ⟨x0, x1, x2, x3, x4, x5⟩ := six_in kr
      have HR := hide hr
      have HC := hide hc
      have HNL := hide hNL
      have HBL := hide hbl
      have HFI := hide hfi
      have HMM := hide hmm
      have HMC := hide hmc
      have HZ := hide hz
      have HV := hide hv
      have HVV := hide hvv
      have HVK := hide hvk
      have H57 := hide h57
      have HHO := hide hrs
      have HX := hide hx
      clear hr hc hNL hbl hfi hmm hmc hz hv hvv hvk hcn hcl hrs hx ho hpl h57 e'
      go_wp2_with fail
      go_region_law (go_simp; refine (h56 _ (by first | exact Below.refl _ _ | exact (Below.refl _ _).drew)).mono ?_; rintro e w7 ⟨rfl, b7⟩; have B1 : Hid (Below wr.heap.size wr w7) := hide (by first | exact b7 | exact ((Below.refl wr.heap.size wr).drew.trans (b7.mono (by simp)))); clear b7; have kr1 := (B1.out.block w.heap.size (by omega)).trans kr; obtain ⟨m0, m1, m2, m3, m4, m5⟩ := six_in kr1; dsimp only)
      all_goals
        have zr1 := Nat.le_trans zr B1.out.size
        obtain ⟨⟨r0, r1, r2⟩, -⟩ := cells_of_row HHO.out HR.out hjn
        replace r0 := (B1.out.cell (p := ⟨g, j * 3, none⟩) hg).trans r0
        replace r1 := (B1.out.cell (p := ⟨g, j * 3 + 1, none⟩) hg).trans r1
        replace r2 := (B1.out.cell (p := ⟨g, j * 3 + 2, none⟩) hg).trans r2
        clear x0 x1 x2 x3 x4 x5 h56 n0
        have h57a := H57.out w7 B1.out
        have h57b := H57.out w7.drew B1.out.drew
        go_wp2_with fail
        go_region_law (go_simp; refine (by first | exact h57a | exact h57b : Calls Tryz.prog 57 _ _ _).mono ?_; rintro e w8 ⟨zu, rfl, o8, b8⟩; have B2 : Hid (Below wr.heap.size wr w8) := hide (by first | exact B1.out.trans (b8.mono B1.out.size) | exact B1.out.drew.trans (b8.mono B1.out.drew.size)); have O8 : Hid (Own w8 (w.heap.size + 2) zu NL) := hide (own_base o8 (by first | exact zr1 | simpa using zr1)); clear b8 o8; dsimp only)
        all_goals
          have e2 := B2.out
          have q2 : Below w.heap.size w w8 := qr.trans (e2.mono qr.size)
          have kr2 := (e2.block w.heap.size (by omega)).trans kr
          have lr2 := (e2.block (w.heap.size + 1) (by omega)).trans lr
          have zr2 := Nat.le_trans zr e2.size
          have c3 := (e2.cell (p := ⟨gl, ol + k * 3, none⟩) hglr).trans v0
          have c4 := (e2.cell (p := ⟨gl, ol + k * 3 + 1, none⟩) hglr).trans v1
          have c5 := (e2.cell (p := ⟨gl, ol + k * 3 + 2, none⟩) hglr).trans v2
          have OZ : w8.ownsRow (w.heap.size + 2) 49 3 zu mm (NL.flatMap vlC) := by rw [← HMM.out]; exact O8.out
          obtain ⟨gz, mc, e', hBz, hgz⟩ := owns_some OZ (by omega)
          subst e'
          obtain ⟨⟨y0, y1, y2⟩, f0, f1, f2⟩ := cells_of_row OZ HX.out (show a < mm by omega)
          obtain ⟨S9, b9⟩ := own_set (r := NL) (by show w8.ownsRow (w.heap.size + 2) 49 3 _ NL.length _; rw [HMM.out]; exact OZ) HMM.out a (by omega) v
          have T9 : Hid (TbOwn (((w8.setCell ⟨gz, a * 3, none⟩ (.int .i64 v.k)).setCell ⟨gz, a * 3 + 1, none⟩ (.int .i64 v.n)).setCell ⟨gz, a * 3 + 2, none⟩ (.string ⟨v.s.toArray⟩)) (w.heap.size + 2) (.slice ca_ cn_ cc_) (.slice da_ dn_ dc_) (.slice (some ⟨g, 0, none⟩) rn_ rc_) (.slice ia_ xn_ ic_) (withR t R)) := hide ((OR.out.below e2).vals OZ (grown_trans (grown_trans (grown_set w8 gz (a * 3) _) (grown_set _ gz (a * 3 + 1) _)) (grown_set _ gz (a * 3 + 2) _)))
          have q9 := q2.trans (b9.mono (show w.heap.size ≤ (w.heap.size + 2) by omega))
          have kr9 := (b9.block w.heap.size (by omega)).trans kr2
          have lr9 := (b9.block (w.heap.size + 1) (by omega)).trans lr2
          have zr9 := Nat.le_trans zr2 b9.size
          have h50 := newest_any (NL.set a v) (.slice (some ⟨gz, 0, none⟩) mm mc) r.k da_ dn_ dc_ t.name (.slice ca_ cn_ cc_) (.slice (some ⟨g, 0, none⟩) rn_ rc_) (.slice ia_ xn_ ic_) t.next _ (vs_of_own S9 (by rw [List.length_set, HMM.out]; have := HMC.out; omega) (fun x hx => by have := short_of ((badL_zero _).1 HBL.out x hx); omega))
          have hr9 : (((w8.setCell ⟨gz, a * 3, none⟩ (.int .i64 v.k)).setCell ⟨gz, a * 3 + 1, none⟩ (.int .i64 v.n)).setCell ⟨gz, a * 3 + 2, none⟩ (.string ⟨v.s.toArray⟩)).ownsRow (w.heap.size + 2) 39 3 (.slice (some ⟨g, 0, none⟩) rn_ rc_) rn_ (R.flatMap vlC) := by have := T9.out.rs; rw [show (withR t R).rows = R from rfl, hRn] at this; exact this
          obtain ⟨s0, s1, s2, s3, s4, s5⟩ := six_in kr9
          have H50 := hide h50
          have HR9 := hide hr9
          clear B1 B2 O8 OZ m0 m1 m2 m3 m4 m5 r0 r1 r2 h57a h57b kr1 zr1 S9 b9 q2 kr2 lr2 zr2 e2 h50 hr9
          go_wp2_with fail
          generalize (((w8.setCell ⟨gz, a * 3, none⟩ (.int .i64 v.k)).setCell ⟨gz, a * 3 + 1, none⟩ (.int .i64 v.n)).setCell ⟨gz, a * 3 + 2, none⟩ (.string ⟨v.s.toArray⟩)) = w9 at *
          refine H50.out.mono ?_
          rintro e w10 ⟨rfl, b10⟩
          have T10 := hide (T9.out.below b10)
          have hr10 : w10.ownsRow (w.heap.size + 2) 39 3 (.slice (some ⟨g, 0, none⟩) rn_ rc_) rn_ (R.flatMap vlC) := owns_keep HR9.out b10
          have q10 := q9.trans (b10.mono q9.size)
          have kr10 := (b10.block w.heap.size (by omega)).trans kr9
          have lr10 := (b10.block (w.heap.size + 1) (by omega)).trans lr9
          have zr10 := Nat.le_trans zr9 b10.size
          obtain ⟨⟨r0, r1, r2⟩, p0, p1, p2⟩ := cells_of_row hr10 HR.out hjn
          obtain ⟨T11, b11⟩ := T10.out.row hRn hjn ⟨r.k, dn_, encR (NL.set a v)⟩
          have T11 := hide T11
          have q11 := q10.trans (b11.mono (show w.heap.size ≤ (w.heap.size + 2) by omega))
          have kr11 := (b11.block w.heap.size (by omega)).trans kr10
          have lr11 := (b11.block (w.heap.size + 1) (by omega)).trans lr10
          have zr11 := Nat.le_trans zr10 b11.size
          have ey : (⟨r.k, (dn_ : Int), encR (NL.set a v)⟩ : Vl) = setR t.ds a v r := by rw [setR, HDN.out, HNL.out]
          have U11 : Hid (Upd t (R.set j ⟨r.k, (dn_ : Int), encR (NL.set a v)⟩)) := by rw [Hid, ey]; exact UR.out.step hcw HR.out HVV.out HC.out HVK.out
          have E11 : Hid (updL t.ds a (L.drop (k + 1)) (V.drop (k + 1)) (R.set j ⟨r.k, (dn_ : Int), encR (NL.set a v)⟩) = updL t.ds a L V t.rows) := by
            rw [Hid, ey, ← stepU_at HFI.out HR.out, ← ER.out]
            obtain ⟨h1, e1⟩ := List.getElem?_eq_some_iff.1 HZ.out
            obtain ⟨h2, e2⟩ := List.getElem?_eq_some_iff.1 HV.out
            rw [List.drop_eq_getElem_cons h1, List.drop_eq_getElem_cons h2, e1, e2]
            rfl
          clear s0 s1 s2 s3 s4 s5 H50 HR9 b10 hr10 q10 kr10 lr10 zr10 q9 kr9 lr9 zr9 T9 T10 b11 c3 c4 c5 y0 y1 y2 f0 f1 f2
          go_wp2
          go_roundw
          case rel => exact ⟨k + 1, _, by omega, by go_num, q11, kr11, lr11, zr11, T11, U11, E11⟩
          case measure => simp [intOf]; omega
    · obtain rfl : k = nn := by omega
      have eR : R = updL t.ds a L V t.rows := by
        have := ER.out
        rw [HNN.out, List.drop_length] at this
        rw [← this]; simp [updL]
      have hQ : indexedT (withR t R) = QQ := by rw [eR]; exact HQ.out
      obtain ⟨x0, x1, x2, x3, x4, x5⟩ := six_in kr
      have h51x := h51 wr _ _ _ _ R UR.out qr zr OR.out
      have HQ2 := hide hQ
      clear hQ h51 eR U3 E3 O3 q3 kc lc3 z3
      go_wp2_with fail
      refine h51x.mono ?_
      rintro e w6 ⟨rfl, T6, q6, g6⟩
      have mf := hide ((g6.block (w.heap.size + 1) (by omega) (fun e => by obtain ⟨evs, -, h, -⟩ := OR.out.is; have := (h.lt _ e.symm).1; omega)).trans lr)
      have T6h := hide T6
      clear T6 g6 x0 x1 x2 x3 x4 x5 kr lr h51x
      go_wp2_with (refine wpList_store_whole 27 _ _ rfl rfl (w.heap.size + 1) [.string ⟨#[]⟩, .slice none 0 0, .slice none 0 0, .slice none 0 0, .int .i64 0, .slice none 0 0] [.string ⟨t.name.toArray⟩, .slice ca_ cn_ cc_, .slice da_ dn_ dc_, .slice ra_ rn_ rc_, .int .i64 t.next, .slice ia_ xn_ ic_] 27 rfl rfl (by exact mf.out) rfl Tryz.size27 (by intro v hv; simp only [List.mem_cons, List.not_mem_nil, or_false] at hv; rcases hv with rfl | rfl | rfl | rfl | rfl | rfl <;> rfl) ?_; intro w7 mg p7)
      have q7 : Below w.heap.size w w7 := by rw [p7.out]; exact below_putAll (by omega) _ _ _ q6
      have T7 : TbOwn w7 w.heap.size (.slice ca_ cn_ cc_) (.slice da_ dn_ dc_) (.slice ra_ rn_ rc_) (.slice ia_ xn_ ic_) QQ := by rw [← HQ2.out, p7.out]; exact (T6h.out.putAll (by omega) _ _).lower (by omega)
      obtain ⟨s0, s1, s2, s3, s4, s5⟩ := six_in mg
      refine bodyPost_ret (v := .tuple #[.agg #[.string ⟨t.name.toArray⟩, .slice ca_ cn_ cc_, .slice da_ dn_ dc_, .slice ra_ rn_ rc_, .int .i64 t.next, .slice ia_ xn_ ic_], .int .i64 0]) ?_ rfl ⟨_, _, _, _, rfl, T7, q7⟩
      simp [results, Tryz.results15, go_sem, s0, s1, s2, s3, s4, s5]
theorem update_ok (t : Tb) (L : List Int) (a : Int) (V : List Vl) (cu du ru iu nu lu : Value) (w : World) (h : TbIn w cu du ru iu t) (hL : NsAt w nu L) (hV : VsAt w lu V) (laid : Laid w) (hm : Ml w) (hF : updateF t L a V = 0) :
    Calls Tryz.prog 15 #[tbV t.name cu du ru t.next iu, nu, .int .i64 a, lu] w fun e w' => ∃ cv dv rv iv, e = .returned (.tuple #[tbV t.name cv dv rv t.next iv, .int .i64 0]) ∧ TbOwn w' w.heap.size cv dv rv iv (updateT t L a V) ∧ Below w.heap.size w w' := by
  have hok := updateF_zero hF
  have hk := hok.tb
  have hsm := h.at'.sm hk
  obtain ⟨-, -, c5, d6, r30, x4⟩ := frameN_zero hk.frame
  have hin := fun (W : World) (hW : Below w.heap.size w W) => h.below hW
  obtain ⟨ca, cc, hce, -⟩ := h.at'.cs
  obtain ⟨da, dc, hde, -⟩ := h.at'.ds
  obtain ⟨ra, rc, hre, -⟩ := h.at'.rs
  obtain ⟨ia, ic, hie, -⟩ := h.at'.is
  obtain ⟨na, nc, hne, -⟩ := id hL
  obtain ⟨la, lc, hle, -⟩ := id hV
  subst hce hde hre hie hne hle
  obtain ⟨b, rfl⟩ := Int.eq_ofNat_of_zero_le hok.a0
  refine update_raw t L b V ca da ra ia na la _ _ _ _ _ _ cc dc rc ic nc lc w hsm hok hL hV laid ?_ ?_ ?_
  · intro W hW
    have := updF_any t L b V _ _ _ _ _ _ W (hin W hW).at' (hL.below hW) (hV.below hW) (laid.below hW) (hm.below hW)
    rw [hF] at this
    exact this
  · exact fun W hW => fresh_any t _ _ _ _ W (hin W hW) (by omega)
  · intro W cv dv rv iv R hU hW hs8 hT
    exact indexed_any w (w.heap.size + 2) (by omega) (withR t R) cv dv rv iv W hs8 hW laid hT (withR_sm hsm hU) hU.ok (fun x hx => ⟨(hk.ixs x hx).a0, (hk.ixs x hx).a1⟩)
theorem c_check : checkT someT = 0 := by decide +kernel
theorem c_vals : valsT someT = [[⟨1, 5, []⟩, ⟨2, 0, [120]⟩], [⟨1, 4, []⟩, ⟨0, 0, []⟩]] := by decide +kernel
theorem c_ins : insertF someT [⟨0, 0, []⟩, ⟨2, 0, [121]⟩] = 0 := by decide +kernel
theorem c_upd : updateF someT [1] 0 [⟨1, 9, []⟩] = 0 := by decide +kernel
theorem c_alt : alterF someT ⟨2, 0, 0, ⟨0, 0, []⟩⟩ [] = 0 := by decide +kernel
theorem c_del : ((deleteT someT [1]).ixs.map (·.es.length)) = [0] := by decide +kernel
theorem c_upr : ((updateT someT [1] 0 [⟨1, 9, []⟩]).rows.map (·.n)) = [1, 1] := by decide +kernel
theorem c_inr : (insertT someT [⟨0, 0, []⟩, ⟨2, 0, [121]⟩]).rows.length = 3 := by decide +kernel
theorem c_alc : (alterT someT ⟨2, 0, 0, ⟨0, 0, []⟩⟩ []).cols.length = 1 := by decide +kernel
theorem c_ali : (alterT someT ⟨2, 0, 0, ⟨0, 0, []⟩⟩ []).ixs.length = 0 := by decide +kernel
def At (W : World) (b o : Nat) (v : Value) : Prop := b < W.heap.size ∧ W.cell? ⟨b, o, none⟩ = some v
theorem At.below {W W' : World} {b o : Nat} {v : Value} (h : At W b o v) (hb : Below W.heap.size W W') : At W' b o v := ⟨Nat.lt_of_lt_of_le h.1 hb.size, (hb.cell (p := ⟨b, o, none⟩) h.1).trans h.2⟩
theorem ns_one {w : World} {g : Nat} {k : Int} (hg : w.heap[g]? = some (.cells #[.int .i64 k] 3)) : NsAt w (.slice (some ⟨g, 0, none⟩) 1 1) [k] := by
  refine ⟨_, 1, rfl, by simp, fun _ => ⟨g, 0, rfl, (ltS hg), fun i x hx => ?_⟩⟩
  cases i with
  | zero => simp at hx; subst hx; exact (Lib.cell_of_heap hg _).trans rfl
  | succ i => simp at hx
theorem tbegun_any (w : World) (laid : Laid w) (hm : Ml w) : Calls Tryz.prog 10 #[] w fun e w' => e = .returned (.bool true) ∧ Below w.heap.size w w' := by
  go_enter Tryz.func10, Tryz.ntmps10
  go_wp2_with fail
  refine (some_any w).mono ?_
  rintro e w1 ⟨cua, dua, rua, iua, rfl, hina, b_w1⟩
  have q_w1 : Below w.heap.size w w1 := b_w1
  go_wp2_with fail
  have hr := read_any someT cua dua rua iua w1 hina.at' (laid.below q_w1) (hm.below q_w1)
  rw [c_check, if_pos rfl, if_pos rfl, c_vals] at hr
  refine hr.mono ?_
  rintro e w2 ⟨vn, vl, rfl, hn, hv, b_w2⟩
  have q_w2 : Below w.heap.size w w2 := q_w1.trans (b_w2.mono q_w1.size)
  have hn' : w2.ownsRow w1.heap.size 3 1 vn 2 [.int .i64 1, .int .i64 3] := hn
  obtain ⟨gn, cn, rfl, -, lgn⟩ := owns_some hn' (by decide)
  have FN : At w2 gn 1 (.int .i64 3) := ⟨lgn, hn'.cellAt 1 (by decide)⟩
  have hl := vv_of_own hv (by decide) (by intro l hl; simp at hl; rcases hl with rfl | rfl <;> decide)
  obtain ⟨la, lc, hle, -⟩ := id hl
  subst hle
  clear hn hn' hv hr hina lgn
  go_wp2_with fail
  refine (some_any w2).mono ?_
  rintro e w3 ⟨cub, dub, rub, iub, rfl, hinb, b_w3⟩
  replace FN := FN.below b_w3
  replace hl := hl.below b_w3
  have q_w3 : Below w.heap.size w w3 := q_w2.trans (b_w3.mono q_w2.size)
  go_wp2_with fail
  refine (txt_any _ w3).mono ?_
  rintro e w4 ⟨rfl, b_w4⟩
  replace FN := FN.below b_w4
  replace hl := hl.below b_w4
  have q_w4 : Below w.heap.size w w4 := q_w3.trans (b_w4.mono q_w3.size)
  replace hinb := hinb.below b_w4
  go_wp2_with fail
  have c5 := heap_alloc_new w4 (.cells #[.int .i64 0, .int .i64 0, .string ⟨#[]⟩, .int .i64 2, .int .i64 0, .string ⟨#[121]⟩] 49)
  have b_w5 : Below w4.heap.size w4 (w4.alloc (.cells #[.int .i64 0, .int .i64 0, .string ⟨#[]⟩, .int .i64 2, .int .i64 0, .string ⟨#[121]⟩] 49)) := (Below.refl _ _).alloc (Nat.le_refl _) _
  have lt_c5 : w4.heap.size < (w4.alloc (.cells #[.int .i64 0, .int .i64 0, .string ⟨#[]⟩, .int .i64 2, .int .i64 0, .string ⟨#[121]⟩] 49)).heap.size := by simp
  generalize (w4.alloc (.cells #[.int .i64 0, .int .i64 0, .string ⟨#[]⟩, .int .i64 2, .int .i64 0, .string ⟨#[121]⟩] 49)) = w5 at *
  replace FN := FN.below b_w5
  replace hl := hl.below b_w5
  have q_w5 : Below w.heap.size w w5 := q_w4.trans (b_w5.mono q_w4.size)
  replace hinb := hinb.below b_w5
  have hc := insert_ok someT [⟨0, 0, []⟩, ⟨2, 0, [121]⟩] cub dub rub iub (.slice (some ⟨w4.heap.size, 0, none⟩) 2 2) w5 hinb (vs_two (x := ⟨0, 0, []⟩) (y := ⟨2, 0, [121]⟩) 49 c5 (by decide) (by decide)) (laid.below q_w5) (hm.below q_w5) c_ins
  refine (hc).mono ?_
  rintro e w6 ⟨cvb, dvb, rvb, ivb, rfl, Tb, b_w6⟩
  replace FN := FN.below b_w6
  replace hl := hl.below b_w6
  have q_w6 : Below w.heap.size w w6 := q_w5.trans (b_w6.mono q_w5.size)
  obtain ⟨cab, cnb, ccb, rfl⟩ : ∃ a n c, cvb = .slice a n c := by obtain ⟨a, c, e⟩ := owns_slice Tb.cs; exact ⟨a, _, c, e⟩
  obtain ⟨dab, dnb, dcb, rfl⟩ : ∃ a n c, dvb = .slice a n c := by obtain ⟨a, c, e⟩ := owns_slice Tb.ds; exact ⟨a, _, c, e⟩
  obtain ⟨rab, rnb, rcb, rfl⟩ : ∃ a n c, rvb = .slice a n c := by obtain ⟨a, c, e⟩ := owns_slice Tb.rs; exact ⟨a, _, c, e⟩
  obtain ⟨iab, xnb, icb, rfl⟩ : ∃ a n c, ivb = .slice a n c := by obtain ⟨evs, -, h, -⟩ := Tb.is; obtain ⟨a, c, e⟩ := owns_slice h; exact ⟨a, _, c, e⟩
  obtain rfl : rnb = 3 := by
    obtain ⟨a, c, e⟩ := owns_slice Tb.rs
    cases e
    exact c_inr
  clear hc hinb c5 lt_c5
  have kzb : Hid ((w6.alloc (.cells #[.string ⟨#[]⟩, .slice none 0 0, .slice none 0 0, .slice none 0 0, .int .i64 0, .slice none 0 0] 27)).heap[w6.heap.size]? = some (.cells #[.string ⟨#[]⟩, .slice none 0 0, .slice none 0 0, .slice none 0 0, .int .i64 0, .slice none 0 0] 27)) := hide (heap_alloc_new w6 _)
  have bab : Below w6.heap.size w6 (w6.alloc (.cells #[.string ⟨#[]⟩, .slice none 0 0, .slice none 0 0, .slice none 0 0, .int .i64 0, .slice none 0 0] 27)) := (Below.refl _ _).alloc (Nat.le_refl _) _
  clear Tb
  go_wp2_with (refine wpList_store_whole 27 _ _ rfl rfl w6.heap.size [.string ⟨#[]⟩, .slice none 0 0, .slice none 0 0, .slice none 0 0, .int .i64 0, .slice none 0 0] [.string ⟨#[116]⟩, .slice cab cnb ccb, .slice dab dnb dcb, .slice rab 3 rcb, .int .i64 5, .slice iab xnb icb] 27 rfl rfl (by exact kzb.out) rfl Tryz.size27 (by intro v hv; simp only [List.mem_cons, List.not_mem_nil, or_false] at hv; rcases hv with rfl | rfl | rfl | rfl | rfl | rfl <;> rfl) ?_; intro w6s lb pb)
  have b_w6s : Below w6.heap.size w6 w6s := by rw [pb.out]; exact below_putAll (Nat.le_refl _) _ _ _ bab
  have llb := (ltS lb)
  clear kzb bab pb
  replace FN := FN.below b_w6s
  replace hl := hl.below b_w6s
  have q_w6s : Below w.heap.size w w6s := q_w6.trans (b_w6s.mono q_w6.size)
  have Fb0 : At w6s w6.heap.size 3 (.slice rab 3 rcb) := ⟨llb, (Lib.cell_of_heap lb _).trans rfl⟩
  clear lb llb
  go_wp2_with fail
  refine (some_any w6s).mono ?_
  rintro e w7 ⟨cuc, duc, ruc, iuc, rfl, hinc, b_w7⟩
  replace FN := FN.below b_w7
  replace hl := hl.below b_w7
  replace Fb0 := Fb0.below b_w7
  have q_w7 : Below w.heap.size w w7 := q_w6s.trans (b_w7.mono q_w6s.size)
  go_wp2_with fail
  have c8 := heap_alloc_new w7 (.cells #[.int .i64 1] 3)
  have b_w8 : Below w7.heap.size w7 (w7.alloc (.cells #[.int .i64 1] 3)) := (Below.refl _ _).alloc (Nat.le_refl _) _
  have lt_c8 : w7.heap.size < (w7.alloc (.cells #[.int .i64 1] 3)).heap.size := by simp
  generalize (w7.alloc (.cells #[.int .i64 1] 3)) = w8 at *
  replace FN := FN.below b_w8
  replace hl := hl.below b_w8
  replace Fb0 := Fb0.below b_w8
  have q_w8 : Below w.heap.size w w8 := q_w7.trans (b_w8.mono q_w7.size)
  replace hinc := hinc.below b_w8
  go_wp2_with fail
  refine (num_any 9 w8).mono ?_
  rintro e w9 ⟨rfl, b_w9⟩
  replace FN := FN.below b_w9
  replace hl := hl.below b_w9
  replace Fb0 := Fb0.below b_w9
  have q_w9 : Below w.heap.size w w9 := q_w8.trans (b_w9.mono q_w8.size)
  replace hinc := hinc.below b_w9
  have c8' := (b_w9.block w7.heap.size lt_c8).trans c8
  go_wp2_with fail
  have c10 := heap_alloc_new w9 (.cells #[.int .i64 1, .int .i64 9, .string ⟨#[]⟩] 49)
  have b_w10 : Below w9.heap.size w9 (w9.alloc (.cells #[.int .i64 1, .int .i64 9, .string ⟨#[]⟩] 49)) := (Below.refl _ _).alloc (Nat.le_refl _) _
  have lt_c10 : w9.heap.size < (w9.alloc (.cells #[.int .i64 1, .int .i64 9, .string ⟨#[]⟩] 49)).heap.size := by simp
  generalize (w9.alloc (.cells #[.int .i64 1, .int .i64 9, .string ⟨#[]⟩] 49)) = w10 at *
  replace FN := FN.below b_w10
  replace hl := hl.below b_w10
  replace Fb0 := Fb0.below b_w10
  have q_w10 : Below w.heap.size w w10 := q_w9.trans (b_w10.mono q_w9.size)
  replace hinc := hinc.below b_w10
  have c8'' := (b_w10.block w7.heap.size (Nat.lt_of_lt_of_le lt_c8 b_w9.size)).trans c8'
  have hc := update_ok someT [1] 0 [⟨1, 9, []⟩] cuc duc ruc iuc (.slice (some ⟨w7.heap.size, 0, none⟩) 1 1) (.slice (some ⟨w9.heap.size, 0, none⟩) 1 1) w10 hinc (ns_one c8'') (vsv_one (x := ⟨1, 9, []⟩) c10 (by decide)) (laid.below q_w10) (hm.below q_w10) c_upd
  refine (hc).mono ?_
  rintro e w11 ⟨cvc, dvc, rvc, ivc, rfl, Tc, b_w11⟩
  replace FN := FN.below b_w11
  replace hl := hl.below b_w11
  replace Fb0 := Fb0.below b_w11
  have q_w11 : Below w.heap.size w w11 := q_w10.trans (b_w11.mono q_w10.size)
  obtain ⟨cac, cnc, ccc, rfl⟩ : ∃ a n c, cvc = .slice a n c := by obtain ⟨a, c, e⟩ := owns_slice Tc.cs; exact ⟨a, _, c, e⟩
  obtain ⟨dac, dnc, dcc, rfl⟩ : ∃ a n c, dvc = .slice a n c := by obtain ⟨a, c, e⟩ := owns_slice Tc.ds; exact ⟨a, _, c, e⟩
  obtain ⟨rac, rnc, rcc, rfl⟩ : ∃ a n c, rvc = .slice a n c := by obtain ⟨a, c, e⟩ := owns_slice Tc.rs; exact ⟨a, _, c, e⟩
  obtain ⟨iac, xnc, icc, rfl⟩ : ∃ a n c, ivc = .slice a n c := by obtain ⟨evs, -, h, -⟩ := Tc.is; obtain ⟨a, c, e⟩ := owns_slice h; exact ⟨a, _, c, e⟩
  have hR : w11.ownsRow w10.heap.size 39 3 (.slice rac rnc rcc) (updateT someT [1] 0 [⟨1, 9, []⟩]).rows.length ((updateT someT [1] 0 [⟨1, 9, []⟩]).rows.flatMap vlC) := Tc.rs
  have hlen : (updateT someT [1] 0 [⟨1, 9, []⟩]).rows.length = 2 := by have := congrArg List.length c_upr; simpa using this
  obtain ⟨gc, xc, e', -, lgc⟩ := owns_some hR (by rw [hlen]; decide)
  rw [hlen] at e'
  cases e'
  have FU : At w11 gc 1 (.int .i64 1) := by
    refine ⟨lgc, ?_⟩
    obtain ⟨r, hr⟩ : ∃ r, (updateT someT [1] 0 [⟨1, 9, []⟩]).rows[0]? = some r := ⟨_, List.getElem?_eq_getElem (by rw [hlen]; decide)⟩
    have e1 : r.n = 1 := by have := congrArg (fun l : List Int => l[0]?) c_upr; simp only [List.getElem?_map, hr] at this; simpa using this
    rw [hlen] at hR
    have := (cells_of_row hR hr (by decide)).1.2.1
    rw [e1] at this
    simpa using this
  clear hc hinc hR hlen c8 c8' c8'' c10 lt_c8 lt_c10 lgc
  have kzc : Hid ((w11.alloc (.cells #[.string ⟨#[]⟩, .slice none 0 0, .slice none 0 0, .slice none 0 0, .int .i64 0, .slice none 0 0] 27)).heap[w11.heap.size]? = some (.cells #[.string ⟨#[]⟩, .slice none 0 0, .slice none 0 0, .slice none 0 0, .int .i64 0, .slice none 0 0] 27)) := hide (heap_alloc_new w11 _)
  have bac : Below w11.heap.size w11 (w11.alloc (.cells #[.string ⟨#[]⟩, .slice none 0 0, .slice none 0 0, .slice none 0 0, .int .i64 0, .slice none 0 0] 27)) := (Below.refl _ _).alloc (Nat.le_refl _) _
  clear Tc
  go_wp2_with (refine wpList_store_whole 27 _ _ rfl rfl w11.heap.size [.string ⟨#[]⟩, .slice none 0 0, .slice none 0 0, .slice none 0 0, .int .i64 0, .slice none 0 0] [.string ⟨#[116]⟩, .slice cac cnc ccc, .slice dac dnc dcc, .slice (some ⟨gc, 0, none⟩) 2 rcc, .int .i64 4, .slice iac xnc icc] 27 rfl rfl (by exact kzc.out) rfl Tryz.size27 (by intro v hv; simp only [List.mem_cons, List.not_mem_nil, or_false] at hv; rcases hv with rfl | rfl | rfl | rfl | rfl | rfl <;> rfl) ?_; intro w11s lc pc)
  have b_w11s : Below w11.heap.size w11 w11s := by rw [pc.out]; exact below_putAll (Nat.le_refl _) _ _ _ bac
  have llc := (ltS lc)
  clear kzc bac pc
  replace FN := FN.below b_w11s
  replace hl := hl.below b_w11s
  replace Fb0 := Fb0.below b_w11s
  have q_w11s : Below w.heap.size w w11s := q_w11.trans (b_w11s.mono q_w11.size)
  have Fc0 : At w11s w11.heap.size 3 (.slice (some ⟨gc, 0, none⟩) 2 rcc) := ⟨llc, (Lib.cell_of_heap lc _).trans rfl⟩
  clear lc llc
  replace FU := FU.below b_w11s
  go_wp2_with fail
  refine (some_any w11s).mono ?_
  rintro e w12 ⟨cud, dud, rud, iud, rfl, hind, b_w12⟩
  replace FN := FN.below b_w12
  replace hl := hl.below b_w12
  replace Fb0 := Fb0.below b_w12
  replace Fc0 := Fc0.below b_w12
  replace FU := FU.below b_w12
  have q_w12 : Below w.heap.size w w12 := q_w11s.trans (b_w12.mono q_w11s.size)
  go_wp2_with fail
  have c13 := heap_alloc_new w12 (.cells #[.int .i64 1] 3)
  have b_w13 : Below w12.heap.size w12 (w12.alloc (.cells #[.int .i64 1] 3)) := (Below.refl _ _).alloc (Nat.le_refl _) _
  have lt_c13 : w12.heap.size < (w12.alloc (.cells #[.int .i64 1] 3)).heap.size := by simp
  generalize (w12.alloc (.cells #[.int .i64 1] 3)) = w13 at *
  replace FN := FN.below b_w13
  replace hl := hl.below b_w13
  replace Fb0 := Fb0.below b_w13
  replace Fc0 := Fc0.below b_w13
  replace FU := FU.below b_w13
  have q_w13 : Below w.heap.size w w13 := q_w12.trans (b_w13.mono q_w12.size)
  replace hind := hind.below b_w13
  have hc := delete_ok someT [1] cud dud rud iud (.slice (some ⟨w12.heap.size, 0, none⟩) 1 1) w13 hind (ns_one c13) (laid.below q_w13) (hm.below q_w13) c_check
  refine (hc).mono ?_
  rintro e w14 ⟨cvd, dvd, rvd, ivd, rfl, Td, b_w14⟩
  replace FN := FN.below b_w14
  replace hl := hl.below b_w14
  replace Fb0 := Fb0.below b_w14
  replace Fc0 := Fc0.below b_w14
  replace FU := FU.below b_w14
  have q_w14 : Below w.heap.size w w14 := q_w13.trans (b_w14.mono q_w13.size)
  obtain ⟨cad, cnd, ccd, rfl⟩ : ∃ a n c, cvd = .slice a n c := by obtain ⟨a, c, e⟩ := owns_slice Td.cs; exact ⟨a, _, c, e⟩
  obtain ⟨dad, dnd, dcd, rfl⟩ : ∃ a n c, dvd = .slice a n c := by obtain ⟨a, c, e⟩ := owns_slice Td.ds; exact ⟨a, _, c, e⟩
  obtain ⟨rad, rnd, rcd, rfl⟩ : ∃ a n c, rvd = .slice a n c := by obtain ⟨a, c, e⟩ := owns_slice Td.rs; exact ⟨a, _, c, e⟩
  obtain ⟨iad, xnd, icd, rfl⟩ : ∃ a n c, ivd = .slice a n c := by obtain ⟨evs, -, h, -⟩ := Td.is; obtain ⟨a, c, e⟩ := owns_slice h; exact ⟨a, _, c, e⟩
  obtain ⟨evs, hel, hX, hes⟩ := Td.is
  have hlen : (deleteT someT [1]).ixs.length = 1 := by have := congrArg List.length c_del; simpa using this
  obtain ⟨gd, xd, e', -, lgd⟩ := owns_some hX (by rw [hlen]; decide)
  rw [hlen] at e'
  cases e'
  obtain ⟨ea, ec, FD⟩ : ∃ ea ec, At w14 gd 3 (.slice ea 0 ec) := by
    obtain ⟨x, hx⟩ : ∃ x, (deleteT someT [1]).ixs[0]? = some x := ⟨_, List.getElem?_eq_getElem (by rw [hlen]; decide)⟩
    obtain ⟨ev, hev⟩ : ∃ ev, evs[0]? = some ev := ⟨_, List.getElem?_eq_getElem (by rw [hel, hlen]; decide)⟩
    have e1 : x.es.length = 0 := by have := congrArg (fun l : List Nat => l[0]?) c_del; simp only [List.getElem?_map, hx] at this; simpa using this
    have h1 := hes 0 ev x hev hx
    rw [e1] at h1
    obtain ⟨ea, ec, rfl⟩ := owns_slice h1
    refine ⟨ea, ec, lgd, ?_⟩
    have := hX.cellAt 3 (by decide)
    rw [show (3 : Nat) = 0 * 4 + 3 by rfl, ixsC_get _ evs 0 x _ hx hev 3 (by decide)] at this
    exact this
  clear hc hind c13 lt_c13 lgd hes hX hel hlen evs
  have kzd : Hid ((w14.alloc (.cells #[.string ⟨#[]⟩, .slice none 0 0, .slice none 0 0, .slice none 0 0, .int .i64 0, .slice none 0 0] 27)).heap[w14.heap.size]? = some (.cells #[.string ⟨#[]⟩, .slice none 0 0, .slice none 0 0, .slice none 0 0, .int .i64 0, .slice none 0 0] 27)) := hide (heap_alloc_new w14 _)
  have bad : Below w14.heap.size w14 (w14.alloc (.cells #[.string ⟨#[]⟩, .slice none 0 0, .slice none 0 0, .slice none 0 0, .int .i64 0, .slice none 0 0] 27)) := (Below.refl _ _).alloc (Nat.le_refl _) _
  clear Td
  go_wp2_with (refine wpList_store_whole 27 _ _ rfl rfl w14.heap.size [.string ⟨#[]⟩, .slice none 0 0, .slice none 0 0, .slice none 0 0, .int .i64 0, .slice none 0 0] [.string ⟨#[116]⟩, .slice cad cnd ccd, .slice dad dnd dcd, .slice rad rnd rcd, .int .i64 4, .slice (some ⟨gd, 0, none⟩) 1 icd] 27 rfl rfl (by exact kzd.out) rfl Tryz.size27 (by intro v hv; simp only [List.mem_cons, List.not_mem_nil, or_false] at hv; rcases hv with rfl | rfl | rfl | rfl | rfl | rfl <;> rfl) ?_; intro w14s ld pd)
  have b_w14s : Below w14.heap.size w14 w14s := by rw [pd.out]; exact below_putAll (Nat.le_refl _) _ _ _ bad
  have lld := (ltS ld)
  clear kzd bad pd
  replace FN := FN.below b_w14s
  replace hl := hl.below b_w14s
  replace Fb0 := Fb0.below b_w14s
  replace Fc0 := Fc0.below b_w14s
  replace FU := FU.below b_w14s
  have q_w14s : Below w.heap.size w w14s := q_w14.trans (b_w14s.mono q_w14.size)
  have Fd0 : At w14s w14.heap.size 5 (.slice (some ⟨gd, 0, none⟩) 1 icd) := ⟨lld, (Lib.cell_of_heap ld _).trans rfl⟩
  clear ld lld
  replace FD := FD.below b_w14s
  go_wp2_with fail
  refine (some_any w14s).mono ?_
  rintro e w15 ⟨cue, due, rue, iue, rfl, hine, b_w15⟩
  replace FN := FN.below b_w15
  replace hl := hl.below b_w15
  replace Fb0 := Fb0.below b_w15
  replace Fc0 := Fc0.below b_w15
  replace FU := FU.below b_w15
  replace Fd0 := Fd0.below b_w15
  replace FD := FD.below b_w15
  have q_w15 : Below w.heap.size w w15 := q_w14s.trans (b_w15.mono q_w14s.size)
  go_wp2_with fail
  have hc := alter_ok someT ⟨2, 0, 0, ⟨0, 0, []⟩⟩ [] cue due rue iue w15 hine (by decide) (by decide) (laid.below q_w15) (hm.below q_w15) c_alt
  refine (hc).mono ?_
  rintro e w16 ⟨cve, dve, rve, ive, rfl, Te, b_w16⟩
  replace FN := FN.below b_w16
  replace hl := hl.below b_w16
  replace Fb0 := Fb0.below b_w16
  replace Fc0 := Fc0.below b_w16
  replace FU := FU.below b_w16
  replace Fd0 := Fd0.below b_w16
  replace FD := FD.below b_w16
  have q_w16 : Below w.heap.size w w16 := q_w15.trans (b_w16.mono q_w15.size)
  obtain ⟨cae, cne, cce, rfl⟩ : ∃ a n c, cve = .slice a n c := by obtain ⟨a, c, e⟩ := owns_slice Te.cs; exact ⟨a, _, c, e⟩
  obtain ⟨dae, dne, dce, rfl⟩ : ∃ a n c, dve = .slice a n c := by obtain ⟨a, c, e⟩ := owns_slice Te.ds; exact ⟨a, _, c, e⟩
  obtain ⟨rae, rne, rce, rfl⟩ : ∃ a n c, rve = .slice a n c := by obtain ⟨a, c, e⟩ := owns_slice Te.rs; exact ⟨a, _, c, e⟩
  obtain ⟨iae, xne, ice, rfl⟩ : ∃ a n c, ive = .slice a n c := by obtain ⟨evs, -, h, -⟩ := Te.is; obtain ⟨a, c, e⟩ := owns_slice h; exact ⟨a, _, c, e⟩
  obtain rfl : cne = 1 := by
    obtain ⟨a, c, e⟩ := owns_slice Te.cs
    cases e
    exact c_alc
  obtain rfl : xne = 0 := by
    obtain ⟨evs, -, h, -⟩ := Te.is
    obtain ⟨a, c, e⟩ := owns_slice h
    cases e
    exact c_ali
  clear hc hine
  have kze : Hid ((w16.alloc (.cells #[.string ⟨#[]⟩, .slice none 0 0, .slice none 0 0, .slice none 0 0, .int .i64 0, .slice none 0 0] 27)).heap[w16.heap.size]? = some (.cells #[.string ⟨#[]⟩, .slice none 0 0, .slice none 0 0, .slice none 0 0, .int .i64 0, .slice none 0 0] 27)) := hide (heap_alloc_new w16 _)
  have bae : Below w16.heap.size w16 (w16.alloc (.cells #[.string ⟨#[]⟩, .slice none 0 0, .slice none 0 0, .slice none 0 0, .int .i64 0, .slice none 0 0] 27)) := (Below.refl _ _).alloc (Nat.le_refl _) _
  clear Te
  go_wp2_with (refine wpList_store_whole 27 _ _ rfl rfl w16.heap.size [.string ⟨#[]⟩, .slice none 0 0, .slice none 0 0, .slice none 0 0, .int .i64 0, .slice none 0 0] [.string ⟨#[116]⟩, .slice cae 1 cce, .slice dae dne dce, .slice rae rne rce, .int .i64 4, .slice iae 0 ice] 27 rfl rfl (by exact kze.out) rfl Tryz.size27 (by intro v hv; simp only [List.mem_cons, List.not_mem_nil, or_false] at hv; rcases hv with rfl | rfl | rfl | rfl | rfl | rfl <;> rfl) ?_; intro w16s le pe)
  have b_w16s : Below w16.heap.size w16 w16s := by rw [pe.out]; exact below_putAll (Nat.le_refl _) _ _ _ bae
  have lle := (ltS le)
  clear kze bae pe
  replace FN := FN.below b_w16s
  replace hl := hl.below b_w16s
  replace Fb0 := Fb0.below b_w16s
  replace Fc0 := Fc0.below b_w16s
  replace FU := FU.below b_w16s
  replace Fd0 := Fd0.below b_w16s
  replace FD := FD.below b_w16s
  have q_w16s : Below w.heap.size w w16s := q_w16.trans (b_w16s.mono q_w16.size)
  have Fe0 : At w16s w16.heap.size 1 (.slice cae 1 cce) := ⟨lle, (Lib.cell_of_heap le _).trans rfl⟩
  have Fe1 : At w16s w16.heap.size 5 (.slice iae 0 ice) := ⟨lle, (Lib.cell_of_heap le _).trans rfl⟩
  clear le lle
  go_wp2_with fail
  refine (some_any w16s).mono ?_
  rintro e w17 ⟨cuf, duf, ruf, iuf, rfl, hinf, b_w17⟩
  replace FN := FN.below b_w17
  replace hl := hl.below b_w17
  replace Fb0 := Fb0.below b_w17
  replace Fc0 := Fc0.below b_w17
  replace FU := FU.below b_w17
  replace Fd0 := Fd0.below b_w17
  replace FD := FD.below b_w17
  replace Fe0 := Fe0.below b_w17
  replace Fe1 := Fe1.below b_w17
  have q_w17 : Below w.heap.size w w17 := q_w16s.trans (b_w17.mono q_w16s.size)
  go_wp2_with fail
  have hc := tcheck_any someT cuf duf ruf iuf w17 hinf.at' (laid.below q_w17) (hm.below q_w17)
  rw [c_check] at hc
  refine hc.mono ?_
  rintro e w18 ⟨rfl, b_w18⟩
  replace FN := FN.below b_w18
  replace hl := hl.below b_w18
  replace Fb0 := Fb0.below b_w18
  replace Fc0 := Fc0.below b_w18
  replace FU := FU.below b_w18
  replace Fd0 := Fd0.below b_w18
  replace FD := FD.below b_w18
  replace Fe0 := Fe0.below b_w18
  replace Fe1 := Fe1.below b_w18
  have q_w18 : Below w.heap.size w w18 := q_w17.trans (b_w18.mono q_w17.size)
  clear hc hinf
  have n1 := FN.2
  go_wp2_with fail
  refine (num_any 5 w18).mono ?_
  rintro e w19 ⟨rfl, b_w19⟩
  replace FN := FN.below b_w19
  replace hl := hl.below b_w19
  replace Fb0 := Fb0.below b_w19
  replace Fc0 := Fc0.below b_w19
  replace FU := FU.below b_w19
  replace Fd0 := Fd0.below b_w19
  replace FD := FD.below b_w19
  replace Fe0 := Fe0.below b_w19
  replace Fe1 := Fe1.below b_w19
  have q_w19 : Below w.heap.size w w19 := q_w18.trans (b_w19.mono q_w18.size)
  clear n1
  go_wp2_with fail
  refine (txt_any _ w19).mono ?_
  rintro e w20 ⟨rfl, b_w20⟩
  replace FN := FN.below b_w20
  replace hl := hl.below b_w20
  replace Fb0 := Fb0.below b_w20
  replace Fc0 := Fc0.below b_w20
  replace FU := FU.below b_w20
  replace Fd0 := Fd0.below b_w20
  replace FD := FD.below b_w20
  replace Fe0 := Fe0.below b_w20
  replace Fe1 := Fe1.below b_w20
  have q_w20 : Below w.heap.size w w20 := q_w19.trans (b_w20.mono q_w19.size)
  go_wp2_with fail
  have c21 := heap_alloc_new w20 (.cells #[.int .i64 1, .int .i64 5, .string ⟨#[]⟩, .int .i64 2, .int .i64 0, .string ⟨#[120]⟩] 49)
  have b_w21 : Below w20.heap.size w20 (w20.alloc (.cells #[.int .i64 1, .int .i64 5, .string ⟨#[]⟩, .int .i64 2, .int .i64 0, .string ⟨#[120]⟩] 49)) := (Below.refl _ _).alloc (Nat.le_refl _) _
  have lt_c21 : w20.heap.size < (w20.alloc (.cells #[.int .i64 1, .int .i64 5, .string ⟨#[]⟩, .int .i64 2, .int .i64 0, .string ⟨#[120]⟩] 49)).heap.size := by simp
  generalize (w20.alloc (.cells #[.int .i64 1, .int .i64 5, .string ⟨#[]⟩, .int .i64 2, .int .i64 0, .string ⟨#[120]⟩] 49)) = w21 at *
  replace FN := FN.below b_w21
  replace hl := hl.below b_w21
  replace Fb0 := Fb0.below b_w21
  replace Fc0 := Fc0.below b_w21
  replace FU := FU.below b_w21
  replace Fd0 := Fd0.below b_w21
  replace FD := FD.below b_w21
  replace Fe0 := Fe0.below b_w21
  replace Fe1 := Fe1.below b_w21
  have q_w21 : Below w.heap.size w w21 := q_w20.trans (b_w21.mono q_w20.size)
  go_wp2_with fail
  refine (num_any 4 w21).mono ?_
  rintro e w22 ⟨rfl, b_w22⟩
  replace FN := FN.below b_w22
  replace hl := hl.below b_w22
  replace Fb0 := Fb0.below b_w22
  replace Fc0 := Fc0.below b_w22
  replace FU := FU.below b_w22
  replace Fd0 := Fd0.below b_w22
  replace FD := FD.below b_w22
  replace Fe0 := Fe0.below b_w22
  replace Fe1 := Fe1.below b_w22
  have q_w22 : Below w.heap.size w w22 := q_w21.trans (b_w22.mono q_w21.size)
  have c21' := (b_w22.block w20.heap.size lt_c21).trans c21
  have s1 : (w22.alloc (.cells #[.int .i64 1, .int .i64 4, .string ⟨#[]⟩, .int .i64 0, .int .i64 0, .string ⟨#[]⟩] 49)).heap.size = w22.heap.size + 1 := by simp
  have bA : Below w22.heap.size w22 (w22.alloc (.cells #[.int .i64 1, .int .i64 4, .string ⟨#[]⟩, .int .i64 0, .int .i64 0, .string ⟨#[]⟩] 49)) := (Below.refl _ _).alloc (Nat.le_refl _) _
  have bB : Below (w22.heap.size + 1) (w22.alloc (.cells #[.int .i64 1, .int .i64 4, .string ⟨#[]⟩, .int .i64 0, .int .i64 0, .string ⟨#[]⟩] 49)) ((w22.alloc (.cells #[.int .i64 1, .int .i64 4, .string ⟨#[]⟩, .int .i64 0, .int .i64 0, .string ⟨#[]⟩] 49)).alloc (.cells #[.slice (some ⟨w20.heap.size, 0, none⟩) 2 2, .slice (some ⟨w22.heap.size, 0, none⟩) 2 2] 41)) := (Below.refl _ _).alloc (by omega) _
  have b_w24 : Below w22.heap.size w22 ((w22.alloc (.cells #[.int .i64 1, .int .i64 4, .string ⟨#[]⟩, .int .i64 0, .int .i64 0, .string ⟨#[]⟩] 49)).alloc (.cells #[.slice (some ⟨w20.heap.size, 0, none⟩) 2 2, .slice (some ⟨w22.heap.size, 0, none⟩) 2 2] 41)) := bA.trans (bB.mono (by omega))
  have cA := (bB.block w22.heap.size (by omega)).trans (heap_alloc_new w22 (.cells #[.int .i64 1, .int .i64 4, .string ⟨#[]⟩, .int .i64 0, .int .i64 0, .string ⟨#[]⟩] 49))
  have cB : ((w22.alloc (.cells #[.int .i64 1, .int .i64 4, .string ⟨#[]⟩, .int .i64 0, .int .i64 0, .string ⟨#[]⟩] 49)).alloc (.cells #[.slice (some ⟨w20.heap.size, 0, none⟩) 2 2, .slice (some ⟨w22.heap.size, 0, none⟩) 2 2] 41)).heap[w22.heap.size + 1]? = some (.cells #[.slice (some ⟨w20.heap.size, 0, none⟩) 2 2, .slice (some ⟨w22.heap.size, 0, none⟩) 2 2] 41) := by
    have := heap_alloc_new (w22.alloc (.cells #[.int .i64 1, .int .i64 4, .string ⟨#[]⟩, .int .i64 0, .int .i64 0, .string ⟨#[]⟩] 49)) (.cells #[.slice (some ⟨w20.heap.size, 0, none⟩) 2 2, .slice (some ⟨w22.heap.size, 0, none⟩) 2 2] 41)
    rw [s1] at this
    exact this
  have c21'' := (b_w24.block w20.heap.size (by have := b_w22.size; omega)).trans c21'
  have hvv : VvAt ((w22.alloc (.cells #[.int .i64 1, .int .i64 4, .string ⟨#[]⟩, .int .i64 0, .int .i64 0, .string ⟨#[]⟩] 49)).alloc (.cells #[.slice (some ⟨w20.heap.size, 0, none⟩) 2 2, .slice (some ⟨w22.heap.size, 0, none⟩) 2 2] 41)) (.slice (some ⟨w22.heap.size + 1, 0, none⟩) 2 2) [[⟨1, 5, []⟩, ⟨2, 0, [120]⟩], [⟨1, 4, []⟩, ⟨0, 0, []⟩]] := by
    refine ⟨_, 2, rfl, by decide, fun _ => ⟨w22.heap.size + 1, 0, rfl, (ltS cB), fun i l hi => ?_⟩⟩
    match i, hi with
    | 0, hi => simp at hi; subst hi; exact ⟨_, (Lib.cell_of_heap cB _).trans rfl, vs_two (x := ⟨1, 5, []⟩) (y := ⟨2, 0, [120]⟩) 49 c21'' (by decide) (by decide)⟩
    | 1, hi => simp at hi; subst hi; exact ⟨_, (Lib.cell_of_heap cB _).trans rfl, vs_two (x := ⟨1, 4, []⟩) (y := ⟨0, 0, []⟩) 49 cA (by decide) (by decide)⟩
    | i + 2, hi => simp at hi
  go_wp2_with fail
  generalize ((w22.alloc (.cells #[.int .i64 1, .int .i64 4, .string ⟨#[]⟩, .int .i64 0, .int .i64 0, .string ⟨#[]⟩] 49)).alloc (.cells #[.slice (some ⟨w20.heap.size, 0, none⟩) 2 2, .slice (some ⟨w22.heap.size, 0, none⟩) 2 2] 41)) = w24 at *
  replace FN := FN.below b_w24
  replace hl := hl.below b_w24
  replace Fb0 := Fb0.below b_w24
  replace Fc0 := Fc0.below b_w24
  replace FU := FU.below b_w24
  replace Fd0 := Fd0.below b_w24
  replace FD := FD.below b_w24
  replace Fe0 := Fe0.below b_w24
  replace Fe1 := Fe1.below b_w24
  have q_w24 : Below w.heap.size w w24 := q_w22.trans (b_w24.mono q_w22.size)
  refine (sameRows_any _ _ _ w24 hl hvv).mono ?_
  rintro e w25 ⟨rfl, b_w25⟩
  replace FN := FN.below b_w25
  replace hl := hl.below b_w25
  replace Fb0 := Fb0.below b_w25
  replace Fc0 := Fc0.below b_w25
  replace FU := FU.below b_w25
  replace Fd0 := Fd0.below b_w25
  replace FD := FD.below b_w25
  replace Fe0 := Fe0.below b_w25
  replace Fe1 := Fe1.below b_w25
  have q_w25 : Below w.heap.size w w25 := q_w24.trans (b_w25.mono q_w24.size)
  have FNx := FN.2
  have Fb0x := Fb0.2
  have Fc0x := Fc0.2
  have FUx := FU.2
  have Fd0x := Fd0.2
  have FDx := FD.2
  have Fe0x := Fe0.2
  have Fe1x := Fe1.2
  clear FN hl Fb0 Fc0 FU Fd0 FD Fe0 Fe1
  go_wp2
  go_ret
  exact ⟨rfl, q_w25⟩
end Go.Proofs.YtcnnjladaoaeiaaGreatDoor
