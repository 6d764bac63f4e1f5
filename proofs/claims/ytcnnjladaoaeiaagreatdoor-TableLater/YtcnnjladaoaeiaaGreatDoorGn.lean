/-
  Package table: Alter, where a column is added.
  Package table: Alter, where a column goes.
  Package table: Alter, where a column is of another type.
-/
import Derived.Test.YtcnnjladaoaeiaaGreatDoorGa
import Derived.Test.YtcnnjladaoaeiaaGreatDoorGm

set_option maxRecDepth 100000
set_option maxHeartbeats 25600000
namespace Go.Proofs.YtcnnjladaoaeiaaGreatDoor
open Go.RowKit
theorem alter_add (t : Tb) (d : Dl) (ty2 : Int) (hty : ty2 = (if d.k = 1 then 0 else d.ty)) (hk : d.k = 1) (nm : List UInt8) (ca da ra ia : Option Addr) (cn dn rn xn cc dc rc ic : Nat) (w : World) (hd6 : t.ds.length ≤ 6) (hc5 : t.cols.length ≤ 5)
    (h65 : ∀ W : World, Below w.heap.size w W → Calls Tryz.prog 65 #[tbV t.name (.slice ca cn cc) (.slice da dn dc) (.slice ra rn rc) t.next (.slice ia xn ic), dlV d, .string ⟨nm.toArray⟩] W fun e w' => e = .returned (.int .i64 0) ∧ Below W.heap.size W w')
    (h49 : ∀ W : World, Below w.heap.size w W → Calls Tryz.prog 49 #[tbV t.name (.slice ca cn cc) (.slice da dn dc) (.slice ra rn rc) t.next (.slice ia xn ic)] W fun e w' => ∃ cv dv rv iv, e = .returned (tbV t.name cv dv rv t.next iv) ∧ TbOwn w' W.heap.size cv dv rv iv t ∧ Below W.heap.size W w')
    (h66 : ∀ W : World, Calls Tryz.prog 66 #[.agg #[.int .i64 d.k, .int .i64 d.a, .int .i64 d.ty, .int .i64 d.v.k, .int .i64 d.v.n, .string ⟨d.v.s.toArray⟩]] W fun e w' => e = .returned (.agg #[.int .i64 d.k, .int .i64 d.a, .int .i64 ty2, .int .i64 d.v.k, .int .i64 d.v.n, .string ⟨d.v.s.toArray⟩]) ∧ Below W.heap.size W w')
    (h51 : ∀ (W : World) (cv dv rv iv : Value), Below w.heap.size w W → w.heap.size + 3 ≤ W.heap.size → TbOwn W (w.heap.size + 3) cv dv rv iv (alteredT t d nm) → Calls Tryz.prog 51 #[tbV t.name cv dv rv t.next iv] W fun e w' => e = .returned (tbV t.name cv dv rv t.next iv) ∧ TbOwn w' (w.heap.size + 3) cv dv rv iv (alterT t d nm) ∧ Below w.heap.size w w' ∧ W.grownBy w' iv.ownBlock) :
    Calls Tryz.prog 20 #[tbV t.name (.slice ca cn cc) (.slice da dn dc) (.slice ra rn rc) t.next (.slice ia xn ic), dlV d, .string ⟨nm.toArray⟩] w fun e w' => ∃ cv dv rv iv, e = .returned (.tuple #[tbV t.name cv dv rv t.next iv, .int .i64 0]) ∧ TbOwn w' w.heap.size cv dv rv iv (alterT t d nm) ∧ Below w.heap.size w w' := by
  obtain ⟨i5, si, sz0, sz1, sz2⟩ := info_parts Tryz.info_dl
  have HTY := hide hty
  have HK := hide hk
  clear hty hk
  obtain ⟨j5, sj, sy0, sy1, sy2⟩ := info_parts Tryz.info_cl
  obtain ⟨QQ, hQQ⟩ : ∃ QQ : Tb, alterT t d nm = QQ := ⟨_, rfl⟩
  rw [hQQ] at h51 ⊢
  clear hQQ
  have z1 : (w.alloc (.cells #[.string ⟨t.name.toArray⟩, .slice ca cn cc, .slice da dn dc, .slice ra rn rc, .int .i64 t.next, .slice ia xn ic] 27)).heap.size = w.heap.size + 1 := by simp
  have z2 : ((w.alloc (.cells #[.string ⟨t.name.toArray⟩, .slice ca cn cc, .slice da dn dc, .slice ra rn rc, .int .i64 t.next, .slice ia xn ic] 27)).alloc (.cells #[.int .i64 d.k, .int .i64 d.a, .int .i64 d.ty, .int .i64 d.v.k, .int .i64 d.v.n, .string ⟨d.v.s.toArray⟩] 51)).heap.size = w.heap.size + 1 + 1 := by simp
  have hz0 : (((w.alloc (.cells #[.string ⟨t.name.toArray⟩, .slice ca cn cc, .slice da dn dc, .slice ra rn rc, .int .i64 t.next, .slice ia xn ic] 27)).alloc (.cells #[.int .i64 d.k, .int .i64 d.a, .int .i64 d.ty, .int .i64 d.v.k, .int .i64 d.v.n, .string ⟨d.v.s.toArray⟩] 51)).alloc (.cells #[.string ⟨#[]⟩, .slice none 0 0, .slice none 0 0, .slice none 0 0, .int .i64 0, .slice none 0 0] 27)).heap.size = w.heap.size + 3 := by simp
  have b0 : Below w.heap.size w (((w.alloc (.cells #[.string ⟨t.name.toArray⟩, .slice ca cn cc, .slice da dn dc, .slice ra rn rc, .int .i64 t.next, .slice ia xn ic] 27)).alloc (.cells #[.int .i64 d.k, .int .i64 d.a, .int .i64 d.ty, .int .i64 d.v.k, .int .i64 d.v.n, .string ⟨d.v.s.toArray⟩] 51)).alloc (.cells #[.string ⟨#[]⟩, .slice none 0 0, .slice none 0 0, .slice none 0 0, .int .i64 0, .slice none 0 0] 27)) := (((Below.refl w.heap.size w).alloc (Nat.le_refl _) _).alloc (by omega) _).alloc (by omega) _
  have k0 : (((w.alloc (.cells #[.string ⟨t.name.toArray⟩, .slice ca cn cc, .slice da dn dc, .slice ra rn rc, .int .i64 t.next, .slice ia xn ic] 27)).alloc (.cells #[.int .i64 d.k, .int .i64 d.a, .int .i64 d.ty, .int .i64 d.v.k, .int .i64 d.v.n, .string ⟨d.v.s.toArray⟩] 51)).alloc (.cells #[.string ⟨#[]⟩, .slice none 0 0, .slice none 0 0, .slice none 0 0, .int .i64 0, .slice none 0 0] 27)).heap[w.heap.size]? = some (.cells #[.string ⟨t.name.toArray⟩, .slice ca cn cc, .slice da dn dc, .slice ra rn rc, .int .i64 t.next, .slice ia xn ic] 27) := (Below.heap_alloc ((w.alloc (.cells #[.string ⟨t.name.toArray⟩, .slice ca cn cc, .slice da dn dc, .slice ra rn rc, .int .i64 t.next, .slice ia xn ic] 27)).alloc (.cells #[.int .i64 d.k, .int .i64 d.a, .int .i64 d.ty, .int .i64 d.v.k, .int .i64 d.v.n, .string ⟨d.v.s.toArray⟩] 51)) _ _ (by omega)).trans ((Below.heap_alloc (w.alloc (.cells #[.string ⟨t.name.toArray⟩, .slice ca cn cc, .slice da dn dc, .slice ra rn rc, .int .i64 t.next, .slice ia xn ic] 27)) _ _ (by omega)).trans (heap_alloc_new w _))
  have k1 : (((w.alloc (.cells #[.string ⟨t.name.toArray⟩, .slice ca cn cc, .slice da dn dc, .slice ra rn rc, .int .i64 t.next, .slice ia xn ic] 27)).alloc (.cells #[.int .i64 d.k, .int .i64 d.a, .int .i64 d.ty, .int .i64 d.v.k, .int .i64 d.v.n, .string ⟨d.v.s.toArray⟩] 51)).alloc (.cells #[.string ⟨#[]⟩, .slice none 0 0, .slice none 0 0, .slice none 0 0, .int .i64 0, .slice none 0 0] 27)).heap[w.heap.size + 1]? = some (.cells #[.int .i64 d.k, .int .i64 d.a, .int .i64 d.ty, .int .i64 d.v.k, .int .i64 d.v.n, .string ⟨d.v.s.toArray⟩] 51) := by
    have := heap_alloc_new (w.alloc (.cells #[.string ⟨t.name.toArray⟩, .slice ca cn cc, .slice da dn dc, .slice ra rn rc, .int .i64 t.next, .slice ia xn ic] 27)) (.cells #[.int .i64 d.k, .int .i64 d.a, .int .i64 d.ty, .int .i64 d.v.k, .int .i64 d.v.n, .string ⟨d.v.s.toArray⟩] 51)
    rw [z1] at this
    exact (Below.heap_alloc ((w.alloc (.cells #[.string ⟨t.name.toArray⟩, .slice ca cn cc, .slice da dn dc, .slice ra rn rc, .int .i64 t.next, .slice ia xn ic] 27)).alloc (.cells #[.int .i64 d.k, .int .i64 d.a, .int .i64 d.ty, .int .i64 d.v.k, .int .i64 d.v.n, .string ⟨d.v.s.toArray⟩] 51)) _ _ (by omega)).trans this
  have k2 : (((w.alloc (.cells #[.string ⟨t.name.toArray⟩, .slice ca cn cc, .slice da dn dc, .slice ra rn rc, .int .i64 t.next, .slice ia xn ic] 27)).alloc (.cells #[.int .i64 d.k, .int .i64 d.a, .int .i64 d.ty, .int .i64 d.v.k, .int .i64 d.v.n, .string ⟨d.v.s.toArray⟩] 51)).alloc (.cells #[.string ⟨#[]⟩, .slice none 0 0, .slice none 0 0, .slice none 0 0, .int .i64 0, .slice none 0 0] 27)).heap[w.heap.size + 1 + 1]? = some (.cells #[.string ⟨#[]⟩, .slice none 0 0, .slice none 0 0, .slice none 0 0, .int .i64 0, .slice none 0 0] 27) := by
    have := heap_alloc_new ((w.alloc (.cells #[.string ⟨t.name.toArray⟩, .slice ca cn cc, .slice da dn dc, .slice ra rn rc, .int .i64 t.next, .slice ia xn ic] 27)).alloc (.cells #[.int .i64 d.k, .int .i64 d.a, .int .i64 d.ty, .int .i64 d.v.k, .int .i64 d.v.n, .string ⟨d.v.s.toArray⟩] 51)) (.cells #[.string ⟨#[]⟩, .slice none 0 0, .slice none 0 0, .slice none 0 0, .int .i64 0, .slice none 0 0] 27)
    rw [z2] at this
    exact this
  clear z1 z2
  unfold tbV dlV at *
  go_enter Tryz.func20, Tryz.ntmps20
  go_wp2_with fail
  generalize (((w.alloc (.cells #[.string ⟨t.name.toArray⟩, .slice ca cn cc, .slice da dn dc, .slice ra rn rc, .int .i64 t.next, .slice ia xn ic] 27)).alloc (.cells #[.int .i64 d.k, .int .i64 d.a, .int .i64 d.ty, .int .i64 d.v.k, .int .i64 d.v.n, .string ⟨d.v.s.toArray⟩] 51)).alloc (.cells #[.string ⟨#[]⟩, .slice none 0 0, .slice none 0 0, .slice none 0 0, .int .i64 0, .slice none 0 0] 27)) = w0 at *
  refine (h65 _ b0).mono ?_
  rintro e w1 ⟨rfl, b1⟩
  have q1 : Below w.heap.size w w1 := b0.trans (b1.mono b0.size)
  have ka := (b1.block w.heap.size (by omega)).trans k0
  have la := (b1.block (w.heap.size + 1) (by omega)).trans k1
  have ma := (b1.block (w.heap.size + 1 + 1) (by omega)).trans k2
  have za : w.heap.size + 3 ≤ w1.heap.size := by have := b1.size; omega
  obtain ⟨x0, x1, x2, x3, x4, x5⟩ := six_in ka
  clear h65 b1 b0 k0 k1 k2 hz0
  go_wp2_with fail
  refine (h49 _ q1).mono ?_
  rintro e w2 ⟨cv, dv, rv, iv, rfl, own, b2⟩
  have q2 : Below w.heap.size w w2 := q1.trans (b2.mono q1.size)
  have kb := hide ((b2.block w.heap.size (by omega)).trans ka)
  have lb := (b2.block (w.heap.size + 1) (by omega)).trans la
  have mb := (b2.block (w.heap.size + 1 + 1) (by omega)).trans ma
  have zb : w.heap.size + 3 ≤ w2.heap.size := by have := b2.size; omega
  replace own := own.lower za
  obtain ⟨ca_, cc_, rfl⟩ : ∃ a c, cv = .slice a t.cols.length c := by obtain ⟨a, c, e⟩ := owns_slice own.cs; exact ⟨a, c, e⟩
  obtain ⟨da_, dc_, rfl⟩ : ∃ a c, dv = .slice a t.ds.length c := by obtain ⟨a, c, e⟩ := owns_slice own.ds; exact ⟨a, c, e⟩
  obtain ⟨ra_, rn_, rc_, rfl⟩ : ∃ a n c, rv = .slice a n c := by obtain ⟨a, c, e⟩ := owns_slice own.rs; exact ⟨a, _, c, e⟩
  obtain ⟨ia_, xn_, ic_, rfl⟩ : ∃ a n c, iv = .slice a n c := by obtain ⟨evs, -, h, -⟩ := own.is; obtain ⟨a, c, e⟩ := owns_slice h; exact ⟨a, _, c, e⟩
  obtain ⟨dn_, hdn⟩ : ∃ n, t.ds.length = n := ⟨_, rfl⟩
  obtain ⟨cn_, hcn⟩ : ∃ n, t.cols.length = n := ⟨_, rfl⟩
  rw [hdn, hcn] at own ⊢
  rw [hdn] at hd6
  rw [hcn] at hc5
  have HDN := hide hdn
  have HCN := hide hcn
  have OW := hide own
  clear own h49 b2 ka la ma x0 x1 x2 x3 x4 x5 q1 za hdn hcn
  go_wp2_with (refine wpList_store_whole 27 _ _ rfl rfl w.heap.size [.string ⟨t.name.toArray⟩, .slice ca cn cc, .slice da dn dc, .slice ra rn rc, .int .i64 t.next, .slice ia xn ic] [.string ⟨t.name.toArray⟩, .slice ca_ cn_ cc_, .slice da_ dn_ dc_, .slice ra_ rn_ rc_, .int .i64 t.next, .slice ia_ xn_ ic_] 27 rfl rfl (by exact kb.out) rfl Tryz.size27 (by intro v hv; simp only [List.mem_cons, List.not_mem_nil, or_false] at hv; rcases hv with rfl | rfl | rfl | rfl | rfl | rfl <;> rfl) ?_; intro w3 kc p3)
  have q3 : Below w.heap.size w w3 := by rw [p3.out]; exact below_putAll (Nat.le_refl _) _ _ _ q2
  have O3 : Hid (TbOwn w3 (w.heap.size + 3) (.slice ca_ cn_ cc_) (.slice da_ dn_ dc_) (.slice ra_ rn_ rc_) (.slice ia_ xn_ ic_) t) := by rw [Hid, p3.out]; exact OW.out.putAll (by omega) _ _
  have lc : w3.heap[w.heap.size + 1]? = some (.cells #[.int .i64 d.k, .int .i64 d.a, .int .i64 d.ty, .int .i64 d.v.k, .int .i64 d.v.n, .string ⟨d.v.s.toArray⟩] 51) := by rw [p3.out]; exact (putAll_other _ _ _ _ _ (by omega)).trans lb
  have mc : w3.heap[w.heap.size + 1 + 1]? = some (.cells #[.string ⟨#[]⟩, .slice none 0 0, .slice none 0 0, .slice none 0 0, .int .i64 0, .slice none 0 0] 27) := by rw [p3.out]; exact (putAll_other _ _ _ _ _ (by omega)).trans mb
  have z3 : w.heap.size + 3 ≤ w3.heap.size := by rw [p3.out, putAll_size]; exact zb
  have OD3 : Hid (w3.ownsRow (w.heap.size + 3) 51 6 (.slice da_ dn_ dc_) dn_ (t.ds.flatMap dlC)) := by have := O3.out.ds; rw [HDN.out] at this; exact this
  obtain ⟨x0, x1, x2, x3, x4, x5⟩ := six_in kc
  obtain ⟨d0, d1, d2, d3, d4, d5⟩ := six_in lc
  clear p3 OW kb lb mb zb q2
  go_wp2_with fail
  go_region_law (first | (refine step_append_lies _ (by rfl) _ _ _ (by rfl) (w.heap.size + 3) 51 i5 _ 6 56 Tryz.underlying23 si sz0 sz1 sz2 rfl (by omega) (.slice da_ dn_ dc_) dn_ (t.ds.flatMap dlC) (by rfl) (OD5.out.alloc _) ⟨w5.heap.size, 0, none⟩ 1 1 [.int .i64 d.k, .int .i64 d.a, .int .i64 ty2, .int .i64 d.v.k, .int .i64 d.v.n, .string ⟨d.v.s.toArray⟩] (by rfl) (by rfl) (World.news_of_block (cs := #[.int .i64 d.k, .int .i64 d.a, .int .i64 ty2, .int .i64 d.v.k, .int .i64 d.v.n, .string ⟨d.v.s.toArray⟩]) (t := 51) (fr := (0, 0)) (heap_alloc_new w5 _)) (by simp [Value.oneCell']) (by omega) (by unfold maxLen; omega) (by omega) (by simp; omega) (w5.heap.size + 1) (by simp) ?_; intro gg cap' w6 hown hgrow hgg hglt; have hne6 : (Value.slice da_ dn_ dc_).ownBlock ≠ some w.heap.size := (fun e => by have := (OD5.out.lt _ e).1; omega); have k6 := (hgrow.block w.heap.size (by simp; omega) (fun e => hne6 e.symm)).trans ((((Below.refl w5.heap.size w5).alloc (Nat.le_refl _) (.cells #[.int .i64 d.k, .int .i64 d.a, .int .i64 ty2, .int .i64 d.v.k, .int .i64 d.v.n, .string ⟨d.v.s.toArray⟩] 51)).block w.heap.size (by omega)).trans k5); obtain ⟨y0, y1, y2, y3, y4, y5⟩ := six_in k6; have fz2 := six_frz k6 2) | (go_simp; refine (h66 _).mono ?_; rintro e w5 ⟨rfl, b5⟩; have B5 : Hid (Below w3.heap.size w3 w5) := hide (by first | exact b5 | exact ((Below.refl w3.heap.size w3).drew.trans (b5.mono (by simp)))); have k5 := (B5.out.block w.heap.size (by omega)).trans kc; have z5 : w.heap.size + 3 ≤ w5.heap.size := (by have := B5.out.size; omega); have z5' : w.heap.size < w5.heap.size := (by omega); have OD5 := hide (owns_keep OD3.out B5.out); obtain ⟨u0, u1, u2, u3, u4, u5⟩ := six_in k5; clear b5; dsimp only))
  all_goals
    have sg := hgrow.size
    have s6 : w.heap.size + 3 ≤ w6.heap.size := by simp at sg; omega
    have q5 : Below w.heap.size w w5 := q3.trans (B5.out.mono q3.size)
    have hneb : ∀ j, j < (w.heap.size + 3) → (Value.slice da_ dn_ dc_).ownBlock ≠ some j := fun j hj e => by have := (OD5.out.lt _ e).1; omega
    have l6 := (hgrow.block (w.heap.size + 1) (by simp; omega) (fun e => hneb _ (by omega) e.symm)).trans ((((Below.refl w5.heap.size w5).alloc (Nat.le_refl _) (.cells #[.int .i64 d.k, .int .i64 d.a, .int .i64 ty2, .int .i64 d.v.k, .int .i64 d.v.n, .string ⟨d.v.s.toArray⟩] 51)).block (w.heap.size + 1) (by omega)).trans ((B5.out.block (w.heap.size + 1) (by omega)).trans lc))
    have m6 := (hgrow.block (w.heap.size + 1 + 1) (by simp; omega) (fun e => hneb _ (by omega) e.symm)).trans ((((Below.refl w5.heap.size w5).alloc (Nat.le_refl _) (.cells #[.int .i64 d.k, .int .i64 d.a, .int .i64 ty2, .int .i64 d.v.k, .int .i64 d.v.n, .string ⟨d.v.s.toArray⟩] 51)).block (w.heap.size + 1 + 1) (by omega)).trans ((B5.out.block (w.heap.size + 1 + 1) (by omega)).trans mc))
    have q6 : Below w.heap.size w w6 := (q5.alloc q5.size (.cells #[.int .i64 d.k, .int .i64 d.a, .int .i64 ty2, .int .i64 d.v.k, .int .i64 d.v.n, .string ⟨d.v.s.toArray⟩] 51)).grown hgrow (by simp; omega) (fun j hj => by have := (OD5.out.lt j hj).1; omega)
    have k7 : (w6.setCell ⟨w.heap.size, 2, none⟩ (.slice (some ⟨gg, 0, none⟩) (dn_ + 1) cap')).heap[w.heap.size]? = some (.cells #[.string ⟨t.name.toArray⟩, .slice ca_ cn_ cc_, .slice (some ⟨gg, 0, none⟩) (dn_ + 1) cap', .slice ra_ rn_ rc_, .int .i64 t.next, .slice ia_ xn_ ic_] 27) := by
      have := heap_setCell_same w6 w.heap.size 2 _ 27 (.slice (some ⟨gg, 0, none⟩) (dn_ + 1) cap') k6
      simpa using this
    have l7 : (w6.setCell ⟨w.heap.size, 2, none⟩ (.slice (some ⟨gg, 0, none⟩) (dn_ + 1) cap')).heap[w.heap.size + 1]? = some (.cells #[.int .i64 d.k, .int .i64 d.a, .int .i64 d.ty, .int .i64 d.v.k, .int .i64 d.v.n, .string ⟨d.v.s.toArray⟩] 51) := (heap_setCell_other _ _ _ _ (by simp)).trans l6
    have m7 : (w6.setCell ⟨w.heap.size, 2, none⟩ (.slice (some ⟨gg, 0, none⟩) (dn_ + 1) cap')).heap[w.heap.size + 1 + 1]? = some (.cells #[.string ⟨#[]⟩, .slice none 0 0, .slice none 0 0, .slice none 0 0, .int .i64 0, .slice none 0 0] 27) := (heap_setCell_other _ _ _ _ (by simp; omega)).trans m6
    have q7 : Below w.heap.size w (w6.setCell ⟨w.heap.size, 2, none⟩ (.slice (some ⟨gg, 0, none⟩) (dn_ + 1) cap')) := q6.setCell (p := ⟨w.heap.size, 2, none⟩) (Nat.le_refl w.heap.size) _
    have z7 : w.heap.size + 3 ≤ (w6.setCell ⟨w.heap.size, 2, none⟩ (.slice (some ⟨gg, 0, none⟩) (dn_ + 1) cap')).heap.size := by simpa [World.setCell] using s6
    have T7 : Hid (TbOwn (w6.setCell ⟨w.heap.size, 2, none⟩ (.slice (some ⟨gg, 0, none⟩) (dn_ + 1) cap')) (w.heap.size + 3) (.slice ca_ cn_ cc_) (.slice (some ⟨gg, 0, none⟩) (dn_ + 1) cap') (.slice ra_ rn_ rc_) (.slice ia_ xn_ ic_) { t with ds := t.ds ++ [ofD d] }) := by
      have hal := ((Below.refl w5.heap.size w5).alloc (Nat.le_refl _) (.cells #[.int .i64 d.k, .int .i64 d.a, .int .i64 ty2, .int .i64 d.v.k, .int .i64 d.v.n, .string ⟨d.v.s.toArray⟩] 51))
      have OA := owns_keep OD5.out hal
      obtain ⟨evs, h1, h2, h3⟩ := O3.out.is
      refine ⟨?_, ?_, ?_, evs, h1, ?_, fun i ev x a b => ?_⟩
      · exact owns_put0 (owns_other (owns_keep (owns_keep O3.out.cs B5.out) hal) OA (by decide) hgrow) (show w.heap.size < (w.heap.size + 3) by omega) 2 _
      · show World.ownsRow _ _ 51 6 _ (t.ds ++ [ofD d]).length ((t.ds ++ [ofD d]).flatMap dlC)
        have e : (t.ds ++ [ofD d]).flatMap dlC = t.ds.flatMap dlC ++ [.int .i64 d.k, .int .i64 d.a, .int .i64 ty2, .int .i64 d.v.k, .int .i64 d.v.n, .string ⟨d.v.s.toArray⟩] := by
          rw [List.flatMap_append, HTY.out]; simp [dlC, ofD]
        rw [e, List.length_append, HDN.out]
        exact owns_put0 hown (show w.heap.size < (w.heap.size + 3) by omega) 2 _
      · exact owns_put0 (owns_other (owns_keep (owns_keep O3.out.rs B5.out) hal) OA (by decide) hgrow) (show w.heap.size < (w.heap.size + 3) by omega) 2 _
      · exact owns_put0 (owns_other (owns_keep (owns_keep h2 B5.out) hal) OA (by decide) hgrow) (show w.heap.size < (w.heap.size + 3) by omega) 2 _
      · exact owns_put0 (owns_other (owns_keep (owns_keep (h3 i ev x a b) B5.out) hal) OA (by decide) hgrow) (show w.heap.size < (w.heap.size + 3) by omega) 2 _
    obtain ⟨a0, a1, a2, a3, a4, a5⟩ := six_in k7
    obtain ⟨e0, e1, e2, e3, e4, e5⟩ := six_in l7
    clear B5 OD5 k5 k6 hown hgrow hgg hglt sg l6 m6 q5 q6 u0 u1 u2 u3 u4 u5 x0 x1 x2 x3 x4 x5 d0 d1 d2 d3 d4 d5 hneb hne6 s6 O3 OD3 q3 kc lc mc z3 h66
    generalize (w6.setCell ⟨w.heap.size, 2, none⟩ (.slice (some ⟨gg, 0, none⟩) (dn_ + 1) cap')) = w7 at *
    rw [HK.out] at e0
    have O7 : w7.ownsRow (w.heap.size + 3) 65 2 (.slice ca_ cn_ cc_) cn_ (t.cols.flatMap clC) := by have := T7.out.cs; rw [show ({ t with ds := t.ds ++ [ofD d] } : Tb).cols = t.cols from rfl, HCN.out] at this; exact this
    have hneb : ∀ j, j < (w.heap.size + 3) → (Value.slice ca_ cn_ cc_).ownBlock ≠ some j := fun j hj e => by have := (O7.lt _ e).1; omega
    have hne : ∀ j u, [Value.string ⟨nm.toArray⟩, .int .i64 d.ty][j]? = some u → (w7.alloc (.cells #[.string ⟨nm.toArray⟩, .int .i64 d.ty] 65)).cell? ((⟨w7.heap.size, 0, none⟩ : Addr).add j) = some u := by
      intro j u hj
      match j, hj with
      | 0, hj => simp at hj; subst hj; simp [Addr.add]
      | 1, hj => simp at hj; subst hj; simp [Addr.add]
      | j + 2, hj => simp at hj
    have hone : ∀ u ∈ [Value.string ⟨nm.toArray⟩, .int .i64 d.ty], u.oneCell' = true := by
      intro u hu
      simp at hu
      rcases hu with rfl | rfl <;> rfl
    have hal : Below w7.heap.size w7 (w7.alloc (.cells #[.string ⟨nm.toArray⟩, .int .i64 d.ty] 65)) := (Below.refl _ _).alloc (Nat.le_refl _) _
    have O8 : (w7.alloc (.cells #[.string ⟨nm.toArray⟩, .int .i64 d.ty] 65)).ownsRow (w.heap.size + 3) 65 2 (.slice ca_ cn_ cc_) cn_ (t.cols.flatMap clC) := owns_keep O7 hal
    have s8 := hal.size
    go_wp2_with (at_builtin; go_loud (refine append_any rfl _ _ 22 rfl (w.heap.size + 3) 65 j5 (.agg #[.string ⟨#[]⟩, .int .i64 0]) 2 24 Tryz.underlying22 sj sy0 sy1 sy2 rfl (by decide) _ cn_ (t.cols.flatMap clC) rfl O8 (some ⟨w7.heap.size, 0, none⟩) 1 1 [.string ⟨nm.toArray⟩, .int .i64 d.ty] rfl (by intro e; cases e) rfl (by intro ad had; cases had; exact hne) hone (by unfold maxLen; omega) (by omega) (by omega) ?_))
    intro v9 w9 hown hgrow
    obtain ⟨gc, capc, rfl, hgB, hgl⟩ := owns_some hown (by omega)
    have k8 := (hgrow.block w.heap.size (by omega) (fun e => hneb _ (by omega) e.symm)).trans ((hal.block w.heap.size (by omega)).trans k7)
    have m8 := (hgrow.block (w.heap.size + 1 + 1) (by omega) (fun e => hneb _ (by omega) e.symm)).trans ((hal.block (w.heap.size + 1 + 1) (by omega)).trans m7)
    have k9 : (w9.setCell ⟨w.heap.size, 1, none⟩ (.slice (some ⟨gc, 0, none⟩) (cn_ + 1) capc)).heap[w.heap.size]? = some (.cells #[.string ⟨t.name.toArray⟩, .slice (some ⟨gc, 0, none⟩) (cn_ + 1) capc, .slice (some ⟨gg, 0, none⟩) (dn_ + 1) cap', .slice ra_ rn_ rc_, .int .i64 t.next, .slice ia_ xn_ ic_] 27) := by
      have := heap_setCell_same w9 w.heap.size 1 _ 27 (.slice (some ⟨gc, 0, none⟩) (cn_ + 1) capc) k8
      simpa using this
    have m9 : (w9.setCell ⟨w.heap.size, 1, none⟩ (.slice (some ⟨gc, 0, none⟩) (cn_ + 1) capc)).heap[w.heap.size + 1 + 1]? = some (.cells #[.string ⟨#[]⟩, .slice none 0 0, .slice none 0 0, .slice none 0 0, .int .i64 0, .slice none 0 0] 27) := (heap_setCell_other _ _ _ _ (by simp; omega)).trans m8
    have q8 : Below w.heap.size w w9 := (q7.alloc q7.size _).grown hgrow (by omega) (fun j hj => by have := (O8.lt j hj).1; omega)
    have q9 : Below w.heap.size w (w9.setCell ⟨w.heap.size, 1, none⟩ (.slice (some ⟨gc, 0, none⟩) (cn_ + 1) capc)) := q8.setCell (p := ⟨w.heap.size, 1, none⟩) (Nat.le_refl w.heap.size) _
    have z9 : w.heap.size + 3 ≤ (w9.setCell ⟨w.heap.size, 1, none⟩ (.slice (some ⟨gc, 0, none⟩) (cn_ + 1) capc)).heap.size := by have := hgrow.size; simp [World.setCell] at this ⊢; omega
    have T9 : Hid (TbOwn (w9.setCell ⟨w.heap.size, 1, none⟩ (.slice (some ⟨gc, 0, none⟩) (cn_ + 1) capc)) (w.heap.size + 3) (.slice (some ⟨gc, 0, none⟩) (cn_ + 1) capc) (.slice (some ⟨gg, 0, none⟩) (dn_ + 1) cap') (.slice ra_ rn_ rc_) (.slice ia_ xn_ ic_) (alteredT t d nm)) := by
      have e : alteredT t d nm = { ({ t with ds := t.ds ++ [ofD d] } : Tb) with cols := t.cols ++ [⟨nm, d.ty⟩] } := by
        have hk := HK.out
        rw [alteredT, alterC, alterX, if_pos hk, if_pos hk]
      rw [Hid, e]
      refine TbOwn.put0 ?_ (show w.heap.size < (w.heap.size + 3) by omega) 1 _
      refine (T7.out.keep hal).cols O8 hgrow ?_
      rw [List.length_append, List.flatMap_append, HCN.out]
      exact hown
    obtain ⟨y0, y1, y2, y3, y4, y5⟩ := six_in k8
    have fz1 := six_frz k8 1
    clear hown hgrow O8 O7 hal hneb hne hone T7 k7 l7 m7 q7 z7 q8 a0 a1 a2 a3 a4 a5 e0 e1 e2 e3 e4 e5 m8
    have h51x := h51 _ _ _ _ _ q9 z9 T9.out
    have hne : (Value.slice ia_ xn_ ic_).ownBlock ≠ some (w.heap.size + 1 + 1) := fun e => by obtain ⟨evs, -, h, -⟩ := T9.out.is; have := (h.lt _ e).1; omega
    obtain ⟨f0, f1, f2, f3, f4, f5⟩ := six_in k9
    go_wp2_with fail
    refine h51x.mono ?_
    rintro e w10 ⟨rfl, T10, q10, g10⟩
    have m10 := hide ((g10.block (w.heap.size + 1 + 1) (by omega) (fun e => hne e.symm)).trans m9)
    have T10h := hide T10
    clear T10 g10 f0 f1 f2 f3 f4 f5 k9 m9 h51x
    go_wp2_with (refine wpList_store_whole 27 _ _ rfl rfl (w.heap.size + 1 + 1) [.string ⟨#[]⟩, .slice none 0 0, .slice none 0 0, .slice none 0 0, .int .i64 0, .slice none 0 0] [.string ⟨t.name.toArray⟩, .slice (some ⟨gc, 0, none⟩) (cn_ + 1) capc, .slice (some ⟨gg, 0, none⟩) (dn_ + 1) cap', .slice ra_ rn_ rc_, .int .i64 t.next, .slice ia_ xn_ ic_] 27 rfl rfl (by exact m10.out) rfl Tryz.size27 (by intro v hv; simp only [List.mem_cons, List.not_mem_nil, or_false] at hv; rcases hv with rfl | rfl | rfl | rfl | rfl | rfl <;> rfl) ?_; intro w11 m11 p11)
    have q11 : Below w.heap.size w w11 := by rw [p11.out]; exact below_putAll (by omega) _ _ _ q10
    have T11 : TbOwn w11 w.heap.size (.slice (some ⟨gc, 0, none⟩) (cn_ + 1) capc) (.slice (some ⟨gg, 0, none⟩) (dn_ + 1) cap') (.slice ra_ rn_ rc_) (.slice ia_ xn_ ic_) QQ := by rw [p11.out]; exact (T10h.out.putAll (by omega) _ _).lower (by omega)
    obtain ⟨s0, s1, s2, s3, s4, s5⟩ := six_in m11
    refine bodyPost_ret (v := .tuple #[.agg #[.string ⟨t.name.toArray⟩, .slice (some ⟨gc, 0, none⟩) (cn_ + 1) capc, .slice (some ⟨gg, 0, none⟩) (dn_ + 1) cap', .slice ra_ rn_ rc_, .int .i64 t.next, .slice ia_ xn_ ic_], .int .i64 0]) ?_ rfl ⟨_, _, _, _, rfl, T11, q11⟩
    simp [results, Tryz.results20, go_sem, s0, s1, s2, s3, s4, s5]
theorem alter_take (t : Tb) (d : Dl) (ty2 : Int) (hty : ty2 = (if d.k = 1 then 0 else d.ty)) (hk : d.k = 2) (nm : List UInt8) (ca da ra ia : Option Addr) (cn dn rn xn cc dc rc ic : Nat) (w : World) (hd6 : t.ds.length ≤ 6) (hc5 : t.cols.length ≤ 5) (hx1000 : t.ixs.length ≤ 1000) (a : Nat) (ha : d.a = (a : Int)) (hac : a < t.cols.length) (hxa : ∀ x ∈ t.ixs, -1000000 ≤ x.a ∧ x.a ≤ 1000000)
    (h65 : ∀ W : World, Below w.heap.size w W → Calls Tryz.prog 65 #[tbV t.name (.slice ca cn cc) (.slice da dn dc) (.slice ra rn rc) t.next (.slice ia xn ic), dlV d, .string ⟨nm.toArray⟩] W fun e w' => e = .returned (.int .i64 0) ∧ Below W.heap.size W w')
    (h49 : ∀ W : World, Below w.heap.size w W → Calls Tryz.prog 49 #[tbV t.name (.slice ca cn cc) (.slice da dn dc) (.slice ra rn rc) t.next (.slice ia xn ic)] W fun e w' => ∃ cv dv rv iv, e = .returned (tbV t.name cv dv rv t.next iv) ∧ TbOwn w' W.heap.size cv dv rv iv t ∧ Below W.heap.size W w')
    (h66 : ∀ W : World, Calls Tryz.prog 66 #[.agg #[.int .i64 d.k, .int .i64 d.a, .int .i64 d.ty, .int .i64 d.v.k, .int .i64 d.v.n, .string ⟨d.v.s.toArray⟩]] W fun e w' => e = .returned (.agg #[.int .i64 d.k, .int .i64 d.a, .int .i64 ty2, .int .i64 d.v.k, .int .i64 d.v.n, .string ⟨d.v.s.toArray⟩]) ∧ Below W.heap.size W w')
    (h51 : ∀ (W : World) (cv dv rv iv : Value), Below w.heap.size w W → w.heap.size + 3 ≤ W.heap.size → TbOwn W (w.heap.size + 3) cv dv rv iv (alteredT t d nm) → Calls Tryz.prog 51 #[tbV t.name cv dv rv t.next iv] W fun e w' => e = .returned (tbV t.name cv dv rv t.next iv) ∧ TbOwn w' (w.heap.size + 3) cv dv rv iv (alterT t d nm) ∧ Below w.heap.size w w' ∧ W.grownBy w' iv.ownBlock) :
    Calls Tryz.prog 20 #[tbV t.name (.slice ca cn cc) (.slice da dn dc) (.slice ra rn rc) t.next (.slice ia xn ic), dlV d, .string ⟨nm.toArray⟩] w fun e w' => ∃ cv dv rv iv, e = .returned (.tuple #[tbV t.name cv dv rv t.next iv, .int .i64 0]) ∧ TbOwn w' w.heap.size cv dv rv iv (alterT t d nm) ∧ Below w.heap.size w w' := by
  obtain ⟨i5, si, sz0, sz1, sz2⟩ := info_parts Tryz.info_dl
  have HTY := hide hty
  have HK := hide hk
  have HA := hide ha
  clear hty hk ha
  obtain ⟨QQ, hQQ⟩ : ∃ QQ : Tb, alterT t d nm = QQ := ⟨_, rfl⟩
  rw [hQQ] at h51 ⊢
  clear hQQ
  have z1 : (w.alloc (.cells #[.string ⟨t.name.toArray⟩, .slice ca cn cc, .slice da dn dc, .slice ra rn rc, .int .i64 t.next, .slice ia xn ic] 27)).heap.size = w.heap.size + 1 := by simp
  have z2 : ((w.alloc (.cells #[.string ⟨t.name.toArray⟩, .slice ca cn cc, .slice da dn dc, .slice ra rn rc, .int .i64 t.next, .slice ia xn ic] 27)).alloc (.cells #[.int .i64 d.k, .int .i64 d.a, .int .i64 d.ty, .int .i64 d.v.k, .int .i64 d.v.n, .string ⟨d.v.s.toArray⟩] 51)).heap.size = w.heap.size + 1 + 1 := by simp
  have hz0 : (((w.alloc (.cells #[.string ⟨t.name.toArray⟩, .slice ca cn cc, .slice da dn dc, .slice ra rn rc, .int .i64 t.next, .slice ia xn ic] 27)).alloc (.cells #[.int .i64 d.k, .int .i64 d.a, .int .i64 d.ty, .int .i64 d.v.k, .int .i64 d.v.n, .string ⟨d.v.s.toArray⟩] 51)).alloc (.cells #[.string ⟨#[]⟩, .slice none 0 0, .slice none 0 0, .slice none 0 0, .int .i64 0, .slice none 0 0] 27)).heap.size = w.heap.size + 3 := by simp
  have b0 : Below w.heap.size w (((w.alloc (.cells #[.string ⟨t.name.toArray⟩, .slice ca cn cc, .slice da dn dc, .slice ra rn rc, .int .i64 t.next, .slice ia xn ic] 27)).alloc (.cells #[.int .i64 d.k, .int .i64 d.a, .int .i64 d.ty, .int .i64 d.v.k, .int .i64 d.v.n, .string ⟨d.v.s.toArray⟩] 51)).alloc (.cells #[.string ⟨#[]⟩, .slice none 0 0, .slice none 0 0, .slice none 0 0, .int .i64 0, .slice none 0 0] 27)) := (((Below.refl w.heap.size w).alloc (Nat.le_refl _) _).alloc (by omega) _).alloc (by omega) _
  have k0 : (((w.alloc (.cells #[.string ⟨t.name.toArray⟩, .slice ca cn cc, .slice da dn dc, .slice ra rn rc, .int .i64 t.next, .slice ia xn ic] 27)).alloc (.cells #[.int .i64 d.k, .int .i64 d.a, .int .i64 d.ty, .int .i64 d.v.k, .int .i64 d.v.n, .string ⟨d.v.s.toArray⟩] 51)).alloc (.cells #[.string ⟨#[]⟩, .slice none 0 0, .slice none 0 0, .slice none 0 0, .int .i64 0, .slice none 0 0] 27)).heap[w.heap.size]? = some (.cells #[.string ⟨t.name.toArray⟩, .slice ca cn cc, .slice da dn dc, .slice ra rn rc, .int .i64 t.next, .slice ia xn ic] 27) := (Below.heap_alloc ((w.alloc (.cells #[.string ⟨t.name.toArray⟩, .slice ca cn cc, .slice da dn dc, .slice ra rn rc, .int .i64 t.next, .slice ia xn ic] 27)).alloc (.cells #[.int .i64 d.k, .int .i64 d.a, .int .i64 d.ty, .int .i64 d.v.k, .int .i64 d.v.n, .string ⟨d.v.s.toArray⟩] 51)) _ _ (by omega)).trans ((Below.heap_alloc (w.alloc (.cells #[.string ⟨t.name.toArray⟩, .slice ca cn cc, .slice da dn dc, .slice ra rn rc, .int .i64 t.next, .slice ia xn ic] 27)) _ _ (by omega)).trans (heap_alloc_new w _))
  have k1 : (((w.alloc (.cells #[.string ⟨t.name.toArray⟩, .slice ca cn cc, .slice da dn dc, .slice ra rn rc, .int .i64 t.next, .slice ia xn ic] 27)).alloc (.cells #[.int .i64 d.k, .int .i64 d.a, .int .i64 d.ty, .int .i64 d.v.k, .int .i64 d.v.n, .string ⟨d.v.s.toArray⟩] 51)).alloc (.cells #[.string ⟨#[]⟩, .slice none 0 0, .slice none 0 0, .slice none 0 0, .int .i64 0, .slice none 0 0] 27)).heap[w.heap.size + 1]? = some (.cells #[.int .i64 d.k, .int .i64 d.a, .int .i64 d.ty, .int .i64 d.v.k, .int .i64 d.v.n, .string ⟨d.v.s.toArray⟩] 51) := by
    have := heap_alloc_new (w.alloc (.cells #[.string ⟨t.name.toArray⟩, .slice ca cn cc, .slice da dn dc, .slice ra rn rc, .int .i64 t.next, .slice ia xn ic] 27)) (.cells #[.int .i64 d.k, .int .i64 d.a, .int .i64 d.ty, .int .i64 d.v.k, .int .i64 d.v.n, .string ⟨d.v.s.toArray⟩] 51)
    rw [z1] at this
    exact (Below.heap_alloc ((w.alloc (.cells #[.string ⟨t.name.toArray⟩, .slice ca cn cc, .slice da dn dc, .slice ra rn rc, .int .i64 t.next, .slice ia xn ic] 27)).alloc (.cells #[.int .i64 d.k, .int .i64 d.a, .int .i64 d.ty, .int .i64 d.v.k, .int .i64 d.v.n, .string ⟨d.v.s.toArray⟩] 51)) _ _ (by omega)).trans this
  have k2 : (((w.alloc (.cells #[.string ⟨t.name.toArray⟩, .slice ca cn cc, .slice da dn dc, .slice ra rn rc, .int .i64 t.next, .slice ia xn ic] 27)).alloc (.cells #[.int .i64 d.k, .int .i64 d.a, .int .i64 d.ty, .int .i64 d.v.k, .int .i64 d.v.n, .string ⟨d.v.s.toArray⟩] 51)).alloc (.cells #[.string ⟨#[]⟩, .slice none 0 0, .slice none 0 0, .slice none 0 0, .int .i64 0, .slice none 0 0] 27)).heap[w.heap.size + 1 + 1]? = some (.cells #[.string ⟨#[]⟩, .slice none 0 0, .slice none 0 0, .slice none 0 0, .int .i64 0, .slice none 0 0] 27) := by
    have := heap_alloc_new ((w.alloc (.cells #[.string ⟨t.name.toArray⟩, .slice ca cn cc, .slice da dn dc, .slice ra rn rc, .int .i64 t.next, .slice ia xn ic] 27)).alloc (.cells #[.int .i64 d.k, .int .i64 d.a, .int .i64 d.ty, .int .i64 d.v.k, .int .i64 d.v.n, .string ⟨d.v.s.toArray⟩] 51)) (.cells #[.string ⟨#[]⟩, .slice none 0 0, .slice none 0 0, .slice none 0 0, .int .i64 0, .slice none 0 0] 27)
    rw [z2] at this
    exact this
  clear z1 z2
  unfold tbV dlV at *
  go_enter Tryz.func20, Tryz.ntmps20
  go_wp2_with fail
  generalize (((w.alloc (.cells #[.string ⟨t.name.toArray⟩, .slice ca cn cc, .slice da dn dc, .slice ra rn rc, .int .i64 t.next, .slice ia xn ic] 27)).alloc (.cells #[.int .i64 d.k, .int .i64 d.a, .int .i64 d.ty, .int .i64 d.v.k, .int .i64 d.v.n, .string ⟨d.v.s.toArray⟩] 51)).alloc (.cells #[.string ⟨#[]⟩, .slice none 0 0, .slice none 0 0, .slice none 0 0, .int .i64 0, .slice none 0 0] 27)) = w0 at *
  refine (h65 _ b0).mono ?_
  rintro e w1 ⟨rfl, b1⟩
  have q1 : Below w.heap.size w w1 := b0.trans (b1.mono b0.size)
  have ka := (b1.block w.heap.size (by omega)).trans k0
  have la := (b1.block (w.heap.size + 1) (by omega)).trans k1
  have ma := (b1.block (w.heap.size + 1 + 1) (by omega)).trans k2
  have za : w.heap.size + 3 ≤ w1.heap.size := by have := b1.size; omega
  obtain ⟨x0, x1, x2, x3, x4, x5⟩ := six_in ka
  clear h65 b1 b0 k0 k1 k2 hz0
  go_wp2_with fail
  refine (h49 _ q1).mono ?_
  rintro e w2 ⟨cv, dv, rv, iv, rfl, own, b2⟩
  have q2 : Below w.heap.size w w2 := q1.trans (b2.mono q1.size)
  have kb := hide ((b2.block w.heap.size (by omega)).trans ka)
  have lb := (b2.block (w.heap.size + 1) (by omega)).trans la
  have mb := (b2.block (w.heap.size + 1 + 1) (by omega)).trans ma
  have zb : w.heap.size + 3 ≤ w2.heap.size := by have := b2.size; omega
  replace own := own.lower za
  obtain ⟨ca_, cc_, rfl⟩ : ∃ a c, cv = .slice a t.cols.length c := by obtain ⟨a, c, e⟩ := owns_slice own.cs; exact ⟨a, c, e⟩
  obtain ⟨da_, dc_, rfl⟩ : ∃ a c, dv = .slice a t.ds.length c := by obtain ⟨a, c, e⟩ := owns_slice own.ds; exact ⟨a, c, e⟩
  obtain ⟨ra_, rn_, rc_, rfl⟩ : ∃ a n c, rv = .slice a n c := by obtain ⟨a, c, e⟩ := owns_slice own.rs; exact ⟨a, _, c, e⟩
  obtain ⟨ia_, xn_, ic_, rfl⟩ : ∃ a n c, iv = .slice a n c := by obtain ⟨evs, -, h, -⟩ := own.is; obtain ⟨a, c, e⟩ := owns_slice h; exact ⟨a, _, c, e⟩
  obtain ⟨dn_, hdn⟩ : ∃ n, t.ds.length = n := ⟨_, rfl⟩
  obtain ⟨cn_, hcn⟩ : ∃ n, t.cols.length = n := ⟨_, rfl⟩
  rw [hdn, hcn] at own ⊢
  rw [hdn] at hd6
  rw [hcn] at hc5 hac
  have HDN := hide hdn
  have HCN := hide hcn
  have OW := hide own
  clear own h49 b2 ka la ma x0 x1 x2 x3 x4 x5 q1 za hdn hcn
  go_wp2_with (refine wpList_store_whole 27 _ _ rfl rfl w.heap.size [.string ⟨t.name.toArray⟩, .slice ca cn cc, .slice da dn dc, .slice ra rn rc, .int .i64 t.next, .slice ia xn ic] [.string ⟨t.name.toArray⟩, .slice ca_ cn_ cc_, .slice da_ dn_ dc_, .slice ra_ rn_ rc_, .int .i64 t.next, .slice ia_ xn_ ic_] 27 rfl rfl (by exact kb.out) rfl Tryz.size27 (by intro v hv; simp only [List.mem_cons, List.not_mem_nil, or_false] at hv; rcases hv with rfl | rfl | rfl | rfl | rfl | rfl <;> rfl) ?_; intro w3 kc p3)
  have q3 : Below w.heap.size w w3 := by rw [p3.out]; exact below_putAll (Nat.le_refl _) _ _ _ q2
  have O3 : Hid (TbOwn w3 (w.heap.size + 3) (.slice ca_ cn_ cc_) (.slice da_ dn_ dc_) (.slice ra_ rn_ rc_) (.slice ia_ xn_ ic_) t) := by rw [Hid, p3.out]; exact OW.out.putAll (by omega) _ _
  have lc : w3.heap[w.heap.size + 1]? = some (.cells #[.int .i64 d.k, .int .i64 d.a, .int .i64 d.ty, .int .i64 d.v.k, .int .i64 d.v.n, .string ⟨d.v.s.toArray⟩] 51) := by rw [p3.out]; exact (putAll_other _ _ _ _ _ (by omega)).trans lb
  have mc : w3.heap[w.heap.size + 1 + 1]? = some (.cells #[.string ⟨#[]⟩, .slice none 0 0, .slice none 0 0, .slice none 0 0, .int .i64 0, .slice none 0 0] 27) := by rw [p3.out]; exact (putAll_other _ _ _ _ _ (by omega)).trans mb
  have z3 : w.heap.size + 3 ≤ w3.heap.size := by rw [p3.out, putAll_size]; exact zb
  have OD3 : Hid (w3.ownsRow (w.heap.size + 3) 51 6 (.slice da_ dn_ dc_) dn_ (t.ds.flatMap dlC)) := by have := O3.out.ds; rw [HDN.out] at this; exact this
  obtain ⟨x0, x1, x2, x3, x4, x5⟩ := six_in kc
  obtain ⟨d0, d1, d2, d3, d4, d5⟩ := six_in lc
  clear p3 OW kb lb mb zb q2
  go_wp2_with fail
  go_region_law (first | (refine step_append_lies _ (by rfl) _ _ _ (by rfl) (w.heap.size + 3) 51 i5 _ 6 56 Tryz.underlying23 si sz0 sz1 sz2 rfl (by omega) (.slice da_ dn_ dc_) dn_ (t.ds.flatMap dlC) (by rfl) (OD5.out.alloc _) ⟨w5.heap.size, 0, none⟩ 1 1 [.int .i64 d.k, .int .i64 d.a, .int .i64 ty2, .int .i64 d.v.k, .int .i64 d.v.n, .string ⟨d.v.s.toArray⟩] (by rfl) (by rfl) (World.news_of_block (cs := #[.int .i64 d.k, .int .i64 d.a, .int .i64 ty2, .int .i64 d.v.k, .int .i64 d.v.n, .string ⟨d.v.s.toArray⟩]) (t := 51) (fr := (0, 0)) (heap_alloc_new w5 _)) (by simp [Value.oneCell']) (by omega) (by unfold maxLen; omega) (by omega) (by simp; omega) (w5.heap.size + 1) (by simp) ?_; intro gg cap' w6 hown hgrow hgg hglt; have hne6 : (Value.slice da_ dn_ dc_).ownBlock ≠ some w.heap.size := (fun e => by have := (OD5.out.lt _ e).1; omega); have k6 := (hgrow.block w.heap.size (by simp; omega) (fun e => hne6 e.symm)).trans ((((Below.refl w5.heap.size w5).alloc (Nat.le_refl _) (.cells #[.int .i64 d.k, .int .i64 d.a, .int .i64 ty2, .int .i64 d.v.k, .int .i64 d.v.n, .string ⟨d.v.s.toArray⟩] 51)).block w.heap.size (by omega)).trans k5); obtain ⟨y0, y1, y2, y3, y4, y5⟩ := six_in k6; have fz2 := six_frz k6 2) | (go_simp; refine (h66 _).mono ?_; rintro e w5 ⟨rfl, b5⟩; have B5 : Hid (Below w3.heap.size w3 w5) := hide (by first | exact b5 | exact ((Below.refl w3.heap.size w3).drew.trans (b5.mono (by simp)))); have k5 := (B5.out.block w.heap.size (by omega)).trans kc; have z5 : w.heap.size + 3 ≤ w5.heap.size := (by have := B5.out.size; omega); have z5' : w.heap.size < w5.heap.size := (by omega); have OD5 := hide (owns_keep OD3.out B5.out); obtain ⟨u0, u1, u2, u3, u4, u5⟩ := six_in k5; clear b5; dsimp only))
  all_goals
    have sg := hgrow.size
    have s6 : w.heap.size + 3 ≤ w6.heap.size := by simp at sg; omega
    have q5 : Below w.heap.size w w5 := q3.trans (B5.out.mono q3.size)
    have hneb : ∀ j, j < (w.heap.size + 3) → (Value.slice da_ dn_ dc_).ownBlock ≠ some j := fun j hj e => by have := (OD5.out.lt _ e).1; omega
    have l6 := (hgrow.block (w.heap.size + 1) (by simp; omega) (fun e => hneb _ (by omega) e.symm)).trans ((((Below.refl w5.heap.size w5).alloc (Nat.le_refl _) (.cells #[.int .i64 d.k, .int .i64 d.a, .int .i64 ty2, .int .i64 d.v.k, .int .i64 d.v.n, .string ⟨d.v.s.toArray⟩] 51)).block (w.heap.size + 1) (by omega)).trans ((B5.out.block (w.heap.size + 1) (by omega)).trans lc))
    have m6 := (hgrow.block (w.heap.size + 1 + 1) (by simp; omega) (fun e => hneb _ (by omega) e.symm)).trans ((((Below.refl w5.heap.size w5).alloc (Nat.le_refl _) (.cells #[.int .i64 d.k, .int .i64 d.a, .int .i64 ty2, .int .i64 d.v.k, .int .i64 d.v.n, .string ⟨d.v.s.toArray⟩] 51)).block (w.heap.size + 1 + 1) (by omega)).trans ((B5.out.block (w.heap.size + 1 + 1) (by omega)).trans mc))
    have q6 : Below w.heap.size w w6 := (q5.alloc q5.size (.cells #[.int .i64 d.k, .int .i64 d.a, .int .i64 ty2, .int .i64 d.v.k, .int .i64 d.v.n, .string ⟨d.v.s.toArray⟩] 51)).grown hgrow (by simp; omega) (fun j hj => by have := (OD5.out.lt j hj).1; omega)
    have k7 : (w6.setCell ⟨w.heap.size, 2, none⟩ (.slice (some ⟨gg, 0, none⟩) (dn_ + 1) cap')).heap[w.heap.size]? = some (.cells #[.string ⟨t.name.toArray⟩, .slice ca_ cn_ cc_, .slice (some ⟨gg, 0, none⟩) (dn_ + 1) cap', .slice ra_ rn_ rc_, .int .i64 t.next, .slice ia_ xn_ ic_] 27) := by
      have := heap_setCell_same w6 w.heap.size 2 _ 27 (.slice (some ⟨gg, 0, none⟩) (dn_ + 1) cap') k6
      simpa using this
    have l7 : (w6.setCell ⟨w.heap.size, 2, none⟩ (.slice (some ⟨gg, 0, none⟩) (dn_ + 1) cap')).heap[w.heap.size + 1]? = some (.cells #[.int .i64 d.k, .int .i64 d.a, .int .i64 d.ty, .int .i64 d.v.k, .int .i64 d.v.n, .string ⟨d.v.s.toArray⟩] 51) := (heap_setCell_other _ _ _ _ (by simp)).trans l6
    have m7 : (w6.setCell ⟨w.heap.size, 2, none⟩ (.slice (some ⟨gg, 0, none⟩) (dn_ + 1) cap')).heap[w.heap.size + 1 + 1]? = some (.cells #[.string ⟨#[]⟩, .slice none 0 0, .slice none 0 0, .slice none 0 0, .int .i64 0, .slice none 0 0] 27) := (heap_setCell_other _ _ _ _ (by simp; omega)).trans m6
    have q7 : Below w.heap.size w (w6.setCell ⟨w.heap.size, 2, none⟩ (.slice (some ⟨gg, 0, none⟩) (dn_ + 1) cap')) := q6.setCell (p := ⟨w.heap.size, 2, none⟩) (Nat.le_refl w.heap.size) _
    have z7 : w.heap.size + 3 ≤ (w6.setCell ⟨w.heap.size, 2, none⟩ (.slice (some ⟨gg, 0, none⟩) (dn_ + 1) cap')).heap.size := by simpa [World.setCell] using s6
    have T7 : Hid (TbOwn (w6.setCell ⟨w.heap.size, 2, none⟩ (.slice (some ⟨gg, 0, none⟩) (dn_ + 1) cap')) (w.heap.size + 3) (.slice ca_ cn_ cc_) (.slice (some ⟨gg, 0, none⟩) (dn_ + 1) cap') (.slice ra_ rn_ rc_) (.slice ia_ xn_ ic_) { t with ds := t.ds ++ [ofD d] }) := by
      have hal := ((Below.refl w5.heap.size w5).alloc (Nat.le_refl _) (.cells #[.int .i64 d.k, .int .i64 d.a, .int .i64 ty2, .int .i64 d.v.k, .int .i64 d.v.n, .string ⟨d.v.s.toArray⟩] 51))
      have OA := owns_keep OD5.out hal
      obtain ⟨evs, h1, h2, h3⟩ := O3.out.is
      refine ⟨?_, ?_, ?_, evs, h1, ?_, fun i ev x a b => ?_⟩
      · exact owns_put0 (owns_other (owns_keep (owns_keep O3.out.cs B5.out) hal) OA (by decide) hgrow) (show w.heap.size < (w.heap.size + 3) by omega) 2 _
      · show World.ownsRow _ _ 51 6 _ (t.ds ++ [ofD d]).length ((t.ds ++ [ofD d]).flatMap dlC)
        have e : (t.ds ++ [ofD d]).flatMap dlC = t.ds.flatMap dlC ++ [.int .i64 d.k, .int .i64 d.a, .int .i64 ty2, .int .i64 d.v.k, .int .i64 d.v.n, .string ⟨d.v.s.toArray⟩] := by
          rw [List.flatMap_append, HTY.out]; simp [dlC, ofD]
        rw [e, List.length_append, HDN.out]
        exact owns_put0 hown (show w.heap.size < (w.heap.size + 3) by omega) 2 _
      · exact owns_put0 (owns_other (owns_keep (owns_keep O3.out.rs B5.out) hal) OA (by decide) hgrow) (show w.heap.size < (w.heap.size + 3) by omega) 2 _
      · exact owns_put0 (owns_other (owns_keep (owns_keep h2 B5.out) hal) OA (by decide) hgrow) (show w.heap.size < (w.heap.size + 3) by omega) 2 _
      · exact owns_put0 (owns_other (owns_keep (owns_keep (h3 i ev x a b) B5.out) hal) OA (by decide) hgrow) (show w.heap.size < (w.heap.size + 3) by omega) 2 _
    obtain ⟨a0, a1, a2, a3, a4, a5⟩ := six_in k7
    obtain ⟨e0, e1, e2, e3, e4, e5⟩ := six_in l7
    clear B5 OD5 k5 k6 hown hgrow hgg hglt sg l6 m6 q5 q6 u0 u1 u2 u3 u4 u5 x0 x1 x2 x3 x4 x5 d0 d1 d2 d3 d4 d5 hneb hne6 s6 O3 OD3 q3 kc lc mc z3 h66
    generalize (w6.setCell ⟨w.heap.size, 2, none⟩ (.slice (some ⟨gg, 0, none⟩) (dn_ + 1) cap')) = w7 at *
    rw [HK.out] at e0
    have O7 : w7.ownsRow (w.heap.size + 3) 65 2 (.slice ca_ cn_ cc_) cn_ (t.cols.flatMap clC) := by have := T7.out.cs; rw [show ({ t with ds := t.ds ++ [ofD d] } : Tb).cols = t.cols from rfl, HCN.out] at this; exact this
    have hneb : ∀ j, j < (w.heap.size + 3) → (Value.slice ca_ cn_ cc_).ownBlock ≠ some j := fun j hj e => by have := (O7.lt _ e).1; omega
    rw [HA.out] at e1
    have ha' : (a : Int) < (cn_ : Int) := by omega
    have ha5 : (a : Int) ≤ 5 := by omega
    have h67 := delcol_any (w.heap.size + 3) (.slice ca_ cn_ cc_) t.cols a (a + 1) rfl (by have := HCN.out; omega) w7 (by show w7.ownsRow (w.heap.size + 3) 65 2 _ t.cols.length _; rw [HCN.out]; exact O7) (by have := HCN.out; omega)
    rw [show (((a + 1 : Nat) : Int)) = (a : Int) + 1 by omega] at h67
    go_wp2_with fail
    refine h67.mono ?_
    rintro e w8 ⟨v8, rfl, o8, b8, g8⟩
    obtain ⟨vca, vcn, vcc, rfl⟩ : ∃ a n c, v8 = .slice a n c := by obtain ⟨a, c, e⟩ := owns_slice o8; exact ⟨a, _, c, e⟩
    have k8 := (b8.block w.heap.size (by omega)).trans k7
    have l8 := (b8.block (w.heap.size + 1) (by omega)).trans l7
    have m8 := (b8.block (w.heap.size + 1 + 1) (by omega)).trans m7
    have z8 := Nat.le_trans z7 b8.size
    have q8 : Below w.heap.size w w8 := q7.trans (b8.mono (by omega))
    have k9 : (w8.setCell ⟨w.heap.size, 1, none⟩ (.slice vca vcn vcc)).heap[w.heap.size]? = some (.cells #[.string ⟨t.name.toArray⟩, .slice vca vcn vcc, .slice (some ⟨gg, 0, none⟩) (dn_ + 1) cap', .slice ra_ rn_ rc_, .int .i64 t.next, .slice ia_ xn_ ic_] 27) := by
      have := heap_setCell_same w8 w.heap.size 1 _ 27 (.slice vca vcn vcc) k8
      simpa using this
    have l9 : (w8.setCell ⟨w.heap.size, 1, none⟩ (.slice vca vcn vcc)).heap[w.heap.size + 1]? = some (.cells #[.int .i64 d.k, .int .i64 d.a, .int .i64 d.ty, .int .i64 d.v.k, .int .i64 d.v.n, .string ⟨d.v.s.toArray⟩] 51) := (heap_setCell_other _ _ _ _ (by simp)).trans l8
    have m9 : (w8.setCell ⟨w.heap.size, 1, none⟩ (.slice vca vcn vcc)).heap[w.heap.size + 1 + 1]? = some (.cells #[.string ⟨#[]⟩, .slice none 0 0, .slice none 0 0, .slice none 0 0, .int .i64 0, .slice none 0 0] 27) := (heap_setCell_other _ _ _ _ (by simp; omega)).trans m8
    have q9 : Below w.heap.size w (w8.setCell ⟨w.heap.size, 1, none⟩ (.slice vca vcn vcc)) := q8.setCell (p := ⟨w.heap.size, 1, none⟩) (Nat.le_refl w.heap.size) _
    have z9 : w.heap.size + 3 ≤ (w8.setCell ⟨w.heap.size, 1, none⟩ (.slice vca vcn vcc)).heap.size := by simpa [World.setCell] using z8
    have T9 : Hid (TbOwn (w8.setCell ⟨w.heap.size, 1, none⟩ (.slice vca vcn vcc)) (w.heap.size + 3) (.slice vca vcn vcc) (.slice (some ⟨gg, 0, none⟩) (dn_ + 1) cap') (.slice ra_ rn_ rc_) (.slice ia_ xn_ ic_) { ({ t with ds := t.ds ++ [ofD d] } : Tb) with cols := t.cols.eraseIdx a }) := by
      refine TbOwn.put0 ?_ (show w.heap.size < (w.heap.size + 3) by omega) 1 _
      exact T7.out.cols O7 g8 o8
    have h68 := without_any (w.heap.size + 3) (.slice ia_ xn_ ic_) t.ixs a _ T9.out.is z9 hx1000 hxa
    obtain ⟨y0, y1, y2, y3, y4, y5⟩ := six_in k8
    have fz1 := six_frz k8 1
    obtain ⟨r0, r1, r2, r3, r4, r5⟩ := six_in k9
    obtain ⟨n0, n1, n2, n3, n4, n5⟩ := six_in l9
    rw [HA.out] at n1
    clear h67 o8 b8 g8 O7 T7 hneb a0 a1 a2 a3 a4 a5 e0 e1 e2 e3 e4 e5 k7 l7 m7 q7 z7 q8 z8 l8 m8
    go_wp2_with fail
    generalize (w8.setCell ⟨w.heap.size, 1, none⟩ (.slice vca vcn vcc)) = w9 at *
    refine h68.mono ?_
    rintro e w10 ⟨v10, rfl, I10, b10, K10⟩
    obtain ⟨via, vin, vic, rfl⟩ : ∃ a n c, v10 = .slice a n c := by obtain ⟨evs, -, h, -⟩ := I10; obtain ⟨a, c, e⟩ := owns_slice h; exact ⟨a, _, c, e⟩
    have ka := (b10.block w.heap.size (by omega)).trans k9
    have ma := (b10.block (w.heap.size + 1 + 1) (by omega)).trans m9
    have za := Nat.le_trans z9 b10.size
    have qa : Below w.heap.size w w10 := q9.trans (b10.mono (by omega))
    have kx : (w10.setCell ⟨w.heap.size, 5, none⟩ (.slice via vin vic)).heap[w.heap.size]? = some (.cells #[.string ⟨t.name.toArray⟩, .slice vca vcn vcc, .slice (some ⟨gg, 0, none⟩) (dn_ + 1) cap', .slice ra_ rn_ rc_, .int .i64 t.next, .slice via vin vic] 27) := by
      have := heap_setCell_same w10 w.heap.size 5 _ 27 (.slice via vin vic) ka
      simpa using this
    have mx : (w10.setCell ⟨w.heap.size, 5, none⟩ (.slice via vin vic)).heap[w.heap.size + 1 + 1]? = some (.cells #[.string ⟨#[]⟩, .slice none 0 0, .slice none 0 0, .slice none 0 0, .int .i64 0, .slice none 0 0] 27) := (heap_setCell_other _ _ _ _ (by simp; omega)).trans ma
    have qx : Below w.heap.size w (w10.setCell ⟨w.heap.size, 5, none⟩ (.slice via vin vic)) := qa.setCell (p := ⟨w.heap.size, 5, none⟩) (Nat.le_refl w.heap.size) _
    have zx : w.heap.size + 3 ≤ (w10.setCell ⟨w.heap.size, 5, none⟩ (.slice via vin vic)).heap.size := by simpa [World.setCell] using za
    have TX : Hid (TbOwn (w10.setCell ⟨w.heap.size, 5, none⟩ (.slice via vin vic)) (w.heap.size + 3) (.slice vca vcn vcc) (.slice (some ⟨gg, 0, none⟩) (dn_ + 1) cap') (.slice ra_ rn_ rc_) (.slice via vin vic) (alteredT t d nm)) := by
      have hk := HK.out
      have ha := HA.out
      have e : alteredT t d nm = { ({ ({ t with ds := t.ds ++ [ofD d] } : Tb) with cols := t.cols.eraseIdx a } : Tb) with ixs := withoutX d.a t.ixs } := by
        rw [alteredT, alterC, alterX, if_neg (by omega), if_pos hk, if_neg (by omega), if_pos hk, show d.a.toNat = a by omega]
      rw [Hid, e, ha]
      refine TbOwn.put0 ?_ (show w.heap.size < (w.heap.size + 3) by omega) 5 _
      exact T9.out.ixs I10 K10.out
    clear y0 y1 y2 y3 y4 y5 fz1
    obtain ⟨y0, y1, y2, y3, y4, y5⟩ := six_in ka
    have fz5 := six_frz ka 5
    clear I10 b10 K10 T9 k9 l9 m9 q9 z9 k8 h68 r0 r1 r2 r3 r4 r5 n0 n1 n2 n3 n4 n5 ma za qa
    have h51x := h51 _ _ _ _ _ qx zx TX.out
    have hne : (Value.slice via vin vic).ownBlock ≠ some (w.heap.size + 1 + 1) := fun e => by obtain ⟨evs, -, h, -⟩ := TX.out.is; have := (h.lt _ e).1; omega
    obtain ⟨f0, f1, f2, f3, f4, f5⟩ := six_in kx
    go_wp2_with fail
    refine h51x.mono ?_
    rintro e w10 ⟨rfl, T10, q10, g10⟩
    have m10 := hide ((g10.block (w.heap.size + 1 + 1) (by omega) (fun e => hne e.symm)).trans mx)
    have T10h := hide T10
    clear T10 g10 f0 f1 f2 f3 f4 f5 kx mx h51x
    go_wp2_with (refine wpList_store_whole 27 _ _ rfl rfl (w.heap.size + 1 + 1) [.string ⟨#[]⟩, .slice none 0 0, .slice none 0 0, .slice none 0 0, .int .i64 0, .slice none 0 0] [.string ⟨t.name.toArray⟩, .slice vca vcn vcc, .slice (some ⟨gg, 0, none⟩) (dn_ + 1) cap', .slice ra_ rn_ rc_, .int .i64 t.next, .slice via vin vic] 27 rfl rfl (by exact m10.out) rfl Tryz.size27 (by intro v hv; simp only [List.mem_cons, List.not_mem_nil, or_false] at hv; rcases hv with rfl | rfl | rfl | rfl | rfl | rfl <;> rfl) ?_; intro w11 m11 p11)
    have q11 : Below w.heap.size w w11 := by rw [p11.out]; exact below_putAll (by omega) _ _ _ q10
    have T11 : TbOwn w11 w.heap.size (.slice vca vcn vcc) (.slice (some ⟨gg, 0, none⟩) (dn_ + 1) cap') (.slice ra_ rn_ rc_) (.slice via vin vic) QQ := by rw [p11.out]; exact (T10h.out.putAll (by omega) _ _).lower (by omega)
    obtain ⟨s0, s1, s2, s3, s4, s5⟩ := six_in m11
    refine bodyPost_ret (v := .tuple #[.agg #[.string ⟨t.name.toArray⟩, .slice vca vcn vcc, .slice (some ⟨gg, 0, none⟩) (dn_ + 1) cap', .slice ra_ rn_ rc_, .int .i64 t.next, .slice via vin vic], .int .i64 0]) ?_ rfl ⟨_, _, _, _, rfl, T11, q11⟩
    simp [results, Tryz.results20, go_sem, s0, s1, s2, s3, s4, s5]
theorem alter_retype (t : Tb) (d : Dl) (ty2 : Int) (hty : ty2 = (if d.k = 1 then 0 else d.ty)) (hk : d.k = 3) (nm : List UInt8) (ca da ra ia : Option Addr) (cn dn rn xn cc dc rc ic : Nat) (w : World) (hd6 : t.ds.length ≤ 6) (_hc5 : t.cols.length ≤ 5) (hx1000 : t.ixs.length ≤ 1000) (a : Nat) (ha : d.a = (a : Int)) (hac : a < t.cols.length)
    (h65 : ∀ W : World, Below w.heap.size w W → Calls Tryz.prog 65 #[tbV t.name (.slice ca cn cc) (.slice da dn dc) (.slice ra rn rc) t.next (.slice ia xn ic), dlV d, .string ⟨nm.toArray⟩] W fun e w' => e = .returned (.int .i64 0) ∧ Below W.heap.size W w')
    (h49 : ∀ W : World, Below w.heap.size w W → Calls Tryz.prog 49 #[tbV t.name (.slice ca cn cc) (.slice da dn dc) (.slice ra rn rc) t.next (.slice ia xn ic)] W fun e w' => ∃ cv dv rv iv, e = .returned (tbV t.name cv dv rv t.next iv) ∧ TbOwn w' W.heap.size cv dv rv iv t ∧ Below W.heap.size W w')
    (h66 : ∀ W : World, Calls Tryz.prog 66 #[.agg #[.int .i64 d.k, .int .i64 d.a, .int .i64 d.ty, .int .i64 d.v.k, .int .i64 d.v.n, .string ⟨d.v.s.toArray⟩]] W fun e w' => e = .returned (.agg #[.int .i64 d.k, .int .i64 d.a, .int .i64 ty2, .int .i64 d.v.k, .int .i64 d.v.n, .string ⟨d.v.s.toArray⟩]) ∧ Below W.heap.size W w')
    (h51 : ∀ (W : World) (cv dv rv iv : Value), Below w.heap.size w W → w.heap.size + 3 ≤ W.heap.size → TbOwn W (w.heap.size + 3) cv dv rv iv (alteredT t d nm) → Calls Tryz.prog 51 #[tbV t.name cv dv rv t.next iv] W fun e w' => e = .returned (tbV t.name cv dv rv t.next iv) ∧ TbOwn w' (w.heap.size + 3) cv dv rv iv (alterT t d nm) ∧ Below w.heap.size w w' ∧ W.grownBy w' iv.ownBlock) :
    Calls Tryz.prog 20 #[tbV t.name (.slice ca cn cc) (.slice da dn dc) (.slice ra rn rc) t.next (.slice ia xn ic), dlV d, .string ⟨nm.toArray⟩] w fun e w' => ∃ cv dv rv iv, e = .returned (.tuple #[tbV t.name cv dv rv t.next iv, .int .i64 0]) ∧ TbOwn w' w.heap.size cv dv rv iv (alterT t d nm) ∧ Below w.heap.size w w' := by
  obtain ⟨i5, si, sz0, sz1, sz2⟩ := info_parts Tryz.info_dl
  have HTY := hide hty
  have HK := hide hk
  have HA := hide ha
  clear hty hk ha
  obtain ⟨QQ, hQQ⟩ : ∃ QQ : Tb, alterT t d nm = QQ := ⟨_, rfl⟩
  rw [hQQ] at h51 ⊢
  clear hQQ
  have z1 : (w.alloc (.cells #[.string ⟨t.name.toArray⟩, .slice ca cn cc, .slice da dn dc, .slice ra rn rc, .int .i64 t.next, .slice ia xn ic] 27)).heap.size = w.heap.size + 1 := by simp
  have z2 : ((w.alloc (.cells #[.string ⟨t.name.toArray⟩, .slice ca cn cc, .slice da dn dc, .slice ra rn rc, .int .i64 t.next, .slice ia xn ic] 27)).alloc (.cells #[.int .i64 d.k, .int .i64 d.a, .int .i64 d.ty, .int .i64 d.v.k, .int .i64 d.v.n, .string ⟨d.v.s.toArray⟩] 51)).heap.size = w.heap.size + 1 + 1 := by simp
  have hz0 : (((w.alloc (.cells #[.string ⟨t.name.toArray⟩, .slice ca cn cc, .slice da dn dc, .slice ra rn rc, .int .i64 t.next, .slice ia xn ic] 27)).alloc (.cells #[.int .i64 d.k, .int .i64 d.a, .int .i64 d.ty, .int .i64 d.v.k, .int .i64 d.v.n, .string ⟨d.v.s.toArray⟩] 51)).alloc (.cells #[.string ⟨#[]⟩, .slice none 0 0, .slice none 0 0, .slice none 0 0, .int .i64 0, .slice none 0 0] 27)).heap.size = w.heap.size + 3 := by simp
  have b0 : Below w.heap.size w (((w.alloc (.cells #[.string ⟨t.name.toArray⟩, .slice ca cn cc, .slice da dn dc, .slice ra rn rc, .int .i64 t.next, .slice ia xn ic] 27)).alloc (.cells #[.int .i64 d.k, .int .i64 d.a, .int .i64 d.ty, .int .i64 d.v.k, .int .i64 d.v.n, .string ⟨d.v.s.toArray⟩] 51)).alloc (.cells #[.string ⟨#[]⟩, .slice none 0 0, .slice none 0 0, .slice none 0 0, .int .i64 0, .slice none 0 0] 27)) := (((Below.refl w.heap.size w).alloc (Nat.le_refl _) _).alloc (by omega) _).alloc (by omega) _
  have k0 : (((w.alloc (.cells #[.string ⟨t.name.toArray⟩, .slice ca cn cc, .slice da dn dc, .slice ra rn rc, .int .i64 t.next, .slice ia xn ic] 27)).alloc (.cells #[.int .i64 d.k, .int .i64 d.a, .int .i64 d.ty, .int .i64 d.v.k, .int .i64 d.v.n, .string ⟨d.v.s.toArray⟩] 51)).alloc (.cells #[.string ⟨#[]⟩, .slice none 0 0, .slice none 0 0, .slice none 0 0, .int .i64 0, .slice none 0 0] 27)).heap[w.heap.size]? = some (.cells #[.string ⟨t.name.toArray⟩, .slice ca cn cc, .slice da dn dc, .slice ra rn rc, .int .i64 t.next, .slice ia xn ic] 27) := (Below.heap_alloc ((w.alloc (.cells #[.string ⟨t.name.toArray⟩, .slice ca cn cc, .slice da dn dc, .slice ra rn rc, .int .i64 t.next, .slice ia xn ic] 27)).alloc (.cells #[.int .i64 d.k, .int .i64 d.a, .int .i64 d.ty, .int .i64 d.v.k, .int .i64 d.v.n, .string ⟨d.v.s.toArray⟩] 51)) _ _ (by omega)).trans ((Below.heap_alloc (w.alloc (.cells #[.string ⟨t.name.toArray⟩, .slice ca cn cc, .slice da dn dc, .slice ra rn rc, .int .i64 t.next, .slice ia xn ic] 27)) _ _ (by omega)).trans (heap_alloc_new w _))
  have k1 : (((w.alloc (.cells #[.string ⟨t.name.toArray⟩, .slice ca cn cc, .slice da dn dc, .slice ra rn rc, .int .i64 t.next, .slice ia xn ic] 27)).alloc (.cells #[.int .i64 d.k, .int .i64 d.a, .int .i64 d.ty, .int .i64 d.v.k, .int .i64 d.v.n, .string ⟨d.v.s.toArray⟩] 51)).alloc (.cells #[.string ⟨#[]⟩, .slice none 0 0, .slice none 0 0, .slice none 0 0, .int .i64 0, .slice none 0 0] 27)).heap[w.heap.size + 1]? = some (.cells #[.int .i64 d.k, .int .i64 d.a, .int .i64 d.ty, .int .i64 d.v.k, .int .i64 d.v.n, .string ⟨d.v.s.toArray⟩] 51) := by
    have := heap_alloc_new (w.alloc (.cells #[.string ⟨t.name.toArray⟩, .slice ca cn cc, .slice da dn dc, .slice ra rn rc, .int .i64 t.next, .slice ia xn ic] 27)) (.cells #[.int .i64 d.k, .int .i64 d.a, .int .i64 d.ty, .int .i64 d.v.k, .int .i64 d.v.n, .string ⟨d.v.s.toArray⟩] 51)
    rw [z1] at this
    exact (Below.heap_alloc ((w.alloc (.cells #[.string ⟨t.name.toArray⟩, .slice ca cn cc, .slice da dn dc, .slice ra rn rc, .int .i64 t.next, .slice ia xn ic] 27)).alloc (.cells #[.int .i64 d.k, .int .i64 d.a, .int .i64 d.ty, .int .i64 d.v.k, .int .i64 d.v.n, .string ⟨d.v.s.toArray⟩] 51)) _ _ (by omega)).trans this
  have k2 : (((w.alloc (.cells #[.string ⟨t.name.toArray⟩, .slice ca cn cc, .slice da dn dc, .slice ra rn rc, .int .i64 t.next, .slice ia xn ic] 27)).alloc (.cells #[.int .i64 d.k, .int .i64 d.a, .int .i64 d.ty, .int .i64 d.v.k, .int .i64 d.v.n, .string ⟨d.v.s.toArray⟩] 51)).alloc (.cells #[.string ⟨#[]⟩, .slice none 0 0, .slice none 0 0, .slice none 0 0, .int .i64 0, .slice none 0 0] 27)).heap[w.heap.size + 1 + 1]? = some (.cells #[.string ⟨#[]⟩, .slice none 0 0, .slice none 0 0, .slice none 0 0, .int .i64 0, .slice none 0 0] 27) := by
    have := heap_alloc_new ((w.alloc (.cells #[.string ⟨t.name.toArray⟩, .slice ca cn cc, .slice da dn dc, .slice ra rn rc, .int .i64 t.next, .slice ia xn ic] 27)).alloc (.cells #[.int .i64 d.k, .int .i64 d.a, .int .i64 d.ty, .int .i64 d.v.k, .int .i64 d.v.n, .string ⟨d.v.s.toArray⟩] 51)) (.cells #[.string ⟨#[]⟩, .slice none 0 0, .slice none 0 0, .slice none 0 0, .int .i64 0, .slice none 0 0] 27)
    rw [z2] at this
    exact this
  clear z1 z2
  unfold tbV dlV at *
  go_enter Tryz.func20, Tryz.ntmps20
  go_wp2_with fail
  generalize (((w.alloc (.cells #[.string ⟨t.name.toArray⟩, .slice ca cn cc, .slice da dn dc, .slice ra rn rc, .int .i64 t.next, .slice ia xn ic] 27)).alloc (.cells #[.int .i64 d.k, .int .i64 d.a, .int .i64 d.ty, .int .i64 d.v.k, .int .i64 d.v.n, .string ⟨d.v.s.toArray⟩] 51)).alloc (.cells #[.string ⟨#[]⟩, .slice none 0 0, .slice none 0 0, .slice none 0 0, .int .i64 0, .slice none 0 0] 27)) = w0 at *
  refine (h65 _ b0).mono ?_
  rintro e w1 ⟨rfl, b1⟩
  have q1 : Below w.heap.size w w1 := b0.trans (b1.mono b0.size)
  have ka := (b1.block w.heap.size (by omega)).trans k0
  have la := (b1.block (w.heap.size + 1) (by omega)).trans k1
  have ma := (b1.block (w.heap.size + 1 + 1) (by omega)).trans k2
  have za : w.heap.size + 3 ≤ w1.heap.size := by have := b1.size; omega
  obtain ⟨x0, x1, x2, x3, x4, x5⟩ := six_in ka
  clear h65 b1 b0 k0 k1 k2 hz0
  go_wp2_with fail
  refine (h49 _ q1).mono ?_
  rintro e w2 ⟨cv, dv, rv, iv, rfl, own, b2⟩
  have q2 : Below w.heap.size w w2 := q1.trans (b2.mono q1.size)
  have kb := hide ((b2.block w.heap.size (by omega)).trans ka)
  have lb := (b2.block (w.heap.size + 1) (by omega)).trans la
  have mb := (b2.block (w.heap.size + 1 + 1) (by omega)).trans ma
  have zb : w.heap.size + 3 ≤ w2.heap.size := by have := b2.size; omega
  replace own := own.lower za
  obtain ⟨ca_, cc_, rfl⟩ : ∃ a c, cv = .slice a t.cols.length c := by obtain ⟨a, c, e⟩ := owns_slice own.cs; exact ⟨a, c, e⟩
  obtain ⟨da_, dc_, rfl⟩ : ∃ a c, dv = .slice a t.ds.length c := by obtain ⟨a, c, e⟩ := owns_slice own.ds; exact ⟨a, c, e⟩
  obtain ⟨ra_, rn_, rc_, rfl⟩ : ∃ a n c, rv = .slice a n c := by obtain ⟨a, c, e⟩ := owns_slice own.rs; exact ⟨a, _, c, e⟩
  obtain ⟨ia_, xn_, ic_, rfl⟩ : ∃ a n c, iv = .slice a n c := by obtain ⟨evs, -, h, -⟩ := own.is; obtain ⟨a, c, e⟩ := owns_slice h; exact ⟨a, _, c, e⟩
  obtain ⟨dn_, hdn⟩ : ∃ n, t.ds.length = n := ⟨_, rfl⟩
  obtain ⟨cn_, hcn⟩ : ∃ n, t.cols.length = n := ⟨_, rfl⟩
  rw [hdn, hcn] at own ⊢
  rw [hdn] at hd6
  rw [hcn] at hac
  have HDN := hide hdn
  have HCN := hide hcn
  have OW := hide own
  clear own h49 b2 ka la ma x0 x1 x2 x3 x4 x5 q1 za hdn hcn
  go_wp2_with (refine wpList_store_whole 27 _ _ rfl rfl w.heap.size [.string ⟨t.name.toArray⟩, .slice ca cn cc, .slice da dn dc, .slice ra rn rc, .int .i64 t.next, .slice ia xn ic] [.string ⟨t.name.toArray⟩, .slice ca_ cn_ cc_, .slice da_ dn_ dc_, .slice ra_ rn_ rc_, .int .i64 t.next, .slice ia_ xn_ ic_] 27 rfl rfl (by exact kb.out) rfl Tryz.size27 (by intro v hv; simp only [List.mem_cons, List.not_mem_nil, or_false] at hv; rcases hv with rfl | rfl | rfl | rfl | rfl | rfl <;> rfl) ?_; intro w3 kc p3)
  have q3 : Below w.heap.size w w3 := by rw [p3.out]; exact below_putAll (Nat.le_refl _) _ _ _ q2
  have O3 : Hid (TbOwn w3 (w.heap.size + 3) (.slice ca_ cn_ cc_) (.slice da_ dn_ dc_) (.slice ra_ rn_ rc_) (.slice ia_ xn_ ic_) t) := by rw [Hid, p3.out]; exact OW.out.putAll (by omega) _ _
  have lc : w3.heap[w.heap.size + 1]? = some (.cells #[.int .i64 d.k, .int .i64 d.a, .int .i64 d.ty, .int .i64 d.v.k, .int .i64 d.v.n, .string ⟨d.v.s.toArray⟩] 51) := by rw [p3.out]; exact (putAll_other _ _ _ _ _ (by omega)).trans lb
  have mc : w3.heap[w.heap.size + 1 + 1]? = some (.cells #[.string ⟨#[]⟩, .slice none 0 0, .slice none 0 0, .slice none 0 0, .int .i64 0, .slice none 0 0] 27) := by rw [p3.out]; exact (putAll_other _ _ _ _ _ (by omega)).trans mb
  have z3 : w.heap.size + 3 ≤ w3.heap.size := by rw [p3.out, putAll_size]; exact zb
  have OD3 : Hid (w3.ownsRow (w.heap.size + 3) 51 6 (.slice da_ dn_ dc_) dn_ (t.ds.flatMap dlC)) := by have := O3.out.ds; rw [HDN.out] at this; exact this
  obtain ⟨x0, x1, x2, x3, x4, x5⟩ := six_in kc
  obtain ⟨d0, d1, d2, d3, d4, d5⟩ := six_in lc
  clear p3 OW kb lb mb zb q2
  go_wp2_with fail
  go_region_law (first | (refine step_append_lies _ (by rfl) _ _ _ (by rfl) (w.heap.size + 3) 51 i5 _ 6 56 Tryz.underlying23 si sz0 sz1 sz2 rfl (by omega) (.slice da_ dn_ dc_) dn_ (t.ds.flatMap dlC) (by rfl) (OD5.out.alloc _) ⟨w5.heap.size, 0, none⟩ 1 1 [.int .i64 d.k, .int .i64 d.a, .int .i64 ty2, .int .i64 d.v.k, .int .i64 d.v.n, .string ⟨d.v.s.toArray⟩] (by rfl) (by rfl) (World.news_of_block (cs := #[.int .i64 d.k, .int .i64 d.a, .int .i64 ty2, .int .i64 d.v.k, .int .i64 d.v.n, .string ⟨d.v.s.toArray⟩]) (t := 51) (fr := (0, 0)) (heap_alloc_new w5 _)) (by simp [Value.oneCell']) (by omega) (by unfold maxLen; omega) (by omega) (by simp; omega) (w5.heap.size + 1) (by simp) ?_; intro gg cap' w6 hown hgrow hgg hglt; have hne6 : (Value.slice da_ dn_ dc_).ownBlock ≠ some w.heap.size := (fun e => by have := (OD5.out.lt _ e).1; omega); have k6 := (hgrow.block w.heap.size (by simp; omega) (fun e => hne6 e.symm)).trans ((((Below.refl w5.heap.size w5).alloc (Nat.le_refl _) (.cells #[.int .i64 d.k, .int .i64 d.a, .int .i64 ty2, .int .i64 d.v.k, .int .i64 d.v.n, .string ⟨d.v.s.toArray⟩] 51)).block w.heap.size (by omega)).trans k5); obtain ⟨y0, y1, y2, y3, y4, y5⟩ := six_in k6; have fz2 := six_frz k6 2) | (go_simp; refine (h66 _).mono ?_; rintro e w5 ⟨rfl, b5⟩; have B5 : Hid (Below w3.heap.size w3 w5) := hide (by first | exact b5 | exact ((Below.refl w3.heap.size w3).drew.trans (b5.mono (by simp)))); have k5 := (B5.out.block w.heap.size (by omega)).trans kc; have z5 : w.heap.size + 3 ≤ w5.heap.size := (by have := B5.out.size; omega); have z5' : w.heap.size < w5.heap.size := (by omega); have OD5 := hide (owns_keep OD3.out B5.out); obtain ⟨u0, u1, u2, u3, u4, u5⟩ := six_in k5; clear b5; dsimp only))
  all_goals
    have sg := hgrow.size
    have s6 : w.heap.size + 3 ≤ w6.heap.size := by simp at sg; omega
    have q5 : Below w.heap.size w w5 := q3.trans (B5.out.mono q3.size)
    have hneb : ∀ j, j < (w.heap.size + 3) → (Value.slice da_ dn_ dc_).ownBlock ≠ some j := fun j hj e => by have := (OD5.out.lt _ e).1; omega
    have l6 := (hgrow.block (w.heap.size + 1) (by simp; omega) (fun e => hneb _ (by omega) e.symm)).trans ((((Below.refl w5.heap.size w5).alloc (Nat.le_refl _) (.cells #[.int .i64 d.k, .int .i64 d.a, .int .i64 ty2, .int .i64 d.v.k, .int .i64 d.v.n, .string ⟨d.v.s.toArray⟩] 51)).block (w.heap.size + 1) (by omega)).trans ((B5.out.block (w.heap.size + 1) (by omega)).trans lc))
    have m6 := (hgrow.block (w.heap.size + 1 + 1) (by simp; omega) (fun e => hneb _ (by omega) e.symm)).trans ((((Below.refl w5.heap.size w5).alloc (Nat.le_refl _) (.cells #[.int .i64 d.k, .int .i64 d.a, .int .i64 ty2, .int .i64 d.v.k, .int .i64 d.v.n, .string ⟨d.v.s.toArray⟩] 51)).block (w.heap.size + 1 + 1) (by omega)).trans ((B5.out.block (w.heap.size + 1 + 1) (by omega)).trans mc))
    have q6 : Below w.heap.size w w6 := (q5.alloc q5.size (.cells #[.int .i64 d.k, .int .i64 d.a, .int .i64 ty2, .int .i64 d.v.k, .int .i64 d.v.n, .string ⟨d.v.s.toArray⟩] 51)).grown hgrow (by simp; omega) (fun j hj => by have := (OD5.out.lt j hj).1; omega)
    have k7 : (w6.setCell ⟨w.heap.size, 2, none⟩ (.slice (some ⟨gg, 0, none⟩) (dn_ + 1) cap')).heap[w.heap.size]? = some (.cells #[.string ⟨t.name.toArray⟩, .slice ca_ cn_ cc_, .slice (some ⟨gg, 0, none⟩) (dn_ + 1) cap', .slice ra_ rn_ rc_, .int .i64 t.next, .slice ia_ xn_ ic_] 27) := by
      have := heap_setCell_same w6 w.heap.size 2 _ 27 (.slice (some ⟨gg, 0, none⟩) (dn_ + 1) cap') k6
      simpa using this
    have l7 : (w6.setCell ⟨w.heap.size, 2, none⟩ (.slice (some ⟨gg, 0, none⟩) (dn_ + 1) cap')).heap[w.heap.size + 1]? = some (.cells #[.int .i64 d.k, .int .i64 d.a, .int .i64 d.ty, .int .i64 d.v.k, .int .i64 d.v.n, .string ⟨d.v.s.toArray⟩] 51) := (heap_setCell_other _ _ _ _ (by simp)).trans l6
    have m7 : (w6.setCell ⟨w.heap.size, 2, none⟩ (.slice (some ⟨gg, 0, none⟩) (dn_ + 1) cap')).heap[w.heap.size + 1 + 1]? = some (.cells #[.string ⟨#[]⟩, .slice none 0 0, .slice none 0 0, .slice none 0 0, .int .i64 0, .slice none 0 0] 27) := (heap_setCell_other _ _ _ _ (by simp; omega)).trans m6
    have q7 : Below w.heap.size w (w6.setCell ⟨w.heap.size, 2, none⟩ (.slice (some ⟨gg, 0, none⟩) (dn_ + 1) cap')) := q6.setCell (p := ⟨w.heap.size, 2, none⟩) (Nat.le_refl w.heap.size) _
    have z7 : w.heap.size + 3 ≤ (w6.setCell ⟨w.heap.size, 2, none⟩ (.slice (some ⟨gg, 0, none⟩) (dn_ + 1) cap')).heap.size := by simpa [World.setCell] using s6
    have T7 : Hid (TbOwn (w6.setCell ⟨w.heap.size, 2, none⟩ (.slice (some ⟨gg, 0, none⟩) (dn_ + 1) cap')) (w.heap.size + 3) (.slice ca_ cn_ cc_) (.slice (some ⟨gg, 0, none⟩) (dn_ + 1) cap') (.slice ra_ rn_ rc_) (.slice ia_ xn_ ic_) { t with ds := t.ds ++ [ofD d] }) := by
      have hal := ((Below.refl w5.heap.size w5).alloc (Nat.le_refl _) (.cells #[.int .i64 d.k, .int .i64 d.a, .int .i64 ty2, .int .i64 d.v.k, .int .i64 d.v.n, .string ⟨d.v.s.toArray⟩] 51))
      have OA := owns_keep OD5.out hal
      obtain ⟨evs, h1, h2, h3⟩ := O3.out.is
      refine ⟨?_, ?_, ?_, evs, h1, ?_, fun i ev x a b => ?_⟩
      · exact owns_put0 (owns_other (owns_keep (owns_keep O3.out.cs B5.out) hal) OA (by decide) hgrow) (show w.heap.size < (w.heap.size + 3) by omega) 2 _
      · show World.ownsRow _ _ 51 6 _ (t.ds ++ [ofD d]).length ((t.ds ++ [ofD d]).flatMap dlC)
        have e : (t.ds ++ [ofD d]).flatMap dlC = t.ds.flatMap dlC ++ [.int .i64 d.k, .int .i64 d.a, .int .i64 ty2, .int .i64 d.v.k, .int .i64 d.v.n, .string ⟨d.v.s.toArray⟩] := by
          rw [List.flatMap_append, HTY.out]; simp [dlC, ofD]
        rw [e, List.length_append, HDN.out]
        exact owns_put0 hown (show w.heap.size < (w.heap.size + 3) by omega) 2 _
      · exact owns_put0 (owns_other (owns_keep (owns_keep O3.out.rs B5.out) hal) OA (by decide) hgrow) (show w.heap.size < (w.heap.size + 3) by omega) 2 _
      · exact owns_put0 (owns_other (owns_keep (owns_keep h2 B5.out) hal) OA (by decide) hgrow) (show w.heap.size < (w.heap.size + 3) by omega) 2 _
      · exact owns_put0 (owns_other (owns_keep (owns_keep (h3 i ev x a b) B5.out) hal) OA (by decide) hgrow) (show w.heap.size < (w.heap.size + 3) by omega) 2 _
    obtain ⟨a0, a1, a2, a3, a4, a5⟩ := six_in k7
    obtain ⟨e0, e1, e2, e3, e4, e5⟩ := six_in l7
    clear B5 OD5 k5 k6 hown hgrow hgg hglt sg l6 m6 q5 q6 u0 u1 u2 u3 u4 u5 x0 x1 x2 x3 x4 x5 d0 d1 d2 d3 d4 d5 hneb hne6 s6 O3 OD3 q3 kc lc mc z3 h66
    generalize (w6.setCell ⟨w.heap.size, 2, none⟩ (.slice (some ⟨gg, 0, none⟩) (dn_ + 1) cap')) = w7 at *
    rw [HK.out] at e0
    have O7 : w7.ownsRow (w.heap.size + 3) 65 2 (.slice ca_ cn_ cc_) cn_ (t.cols.flatMap clC) := by have := T7.out.cs; rw [show ({ t with ds := t.ds ++ [ofD d] } : Tb).cols = t.cols from rfl, HCN.out] at this; exact this
    have hneb : ∀ j, j < (w.heap.size + 3) → (Value.slice ca_ cn_ cc_).ownBlock ≠ some j := fun j hj e => by have := (O7.lt _ e).1; omega
    obtain ⟨gc, capc, e', hgB, hgl⟩ := owns_some O7 (by omega)
    obtain ⟨rfl, rfl⟩ : ca_ = some ⟨gc, 0, none⟩ ∧ cc_ = capc := by cases e'; exact ⟨rfl, rfl⟩
    rw [HA.out] at e1
    obtain ⟨c, hc⟩ : ∃ c, t.cols[a]? = some c := ⟨t.cols[a]'(by have := HCN.out; omega), List.getElem?_eq_getElem _⟩
    have ha' : (a : Int) < (cn_ : Int) := by omega
    obtain ⟨⟨o0, ho0⟩, hof⟩ := own_at O7 (a * 2 + 1) (by omega)
    have O8 := own_put O7 (a * 2 + 1) (.int .i64 d.ty)
    rw [flatC_ty t.cols a c d.ty hc] at O8
    have hg8 : w7.grownBy (w7.setCell ⟨gc, a * 2 + 1, none⟩ (.int .i64 d.ty)) (some gc) := grown_set w7 gc (a * 2 + 1) _
    have b8 : Below (w.heap.size + 3) w7 (w7.setCell ⟨gc, a * 2 + 1, none⟩ (.int .i64 d.ty)) := (Below.refl _ _).setCell (p := ⟨gc, a * 2 + 1, none⟩) hgB _
    have k8 := (b8.block w.heap.size (by omega)).trans k7
    have l8 := (b8.block (w.heap.size + 1) (by omega)).trans l7
    have m8 := (b8.block (w.heap.size + 1 + 1) (by omega)).trans m7
    have z8 := Nat.le_trans z7 b8.size
    have q8 : Below w.heap.size w (w7.setCell ⟨gc, a * 2 + 1, none⟩ (.int .i64 d.ty)) := q7.trans (b8.mono (by omega))
    have T8 : Hid (TbOwn (w7.setCell ⟨gc, a * 2 + 1, none⟩ (.int .i64 d.ty)) (w.heap.size + 3) (.slice (some ⟨gc, 0, none⟩) cn_ cc_) (.slice (some ⟨gg, 0, none⟩) (dn_ + 1) cap') (.slice ra_ rn_ rc_) (.slice ia_ xn_ ic_) { ({ t with ds := t.ds ++ [ofD d] } : Tb) with cols := t.cols.set a ⟨c.name, d.ty⟩ }) := by
      refine T7.out.cols O7 hg8 ?_
      rw [List.length_set, HCN.out]
      exact O8
    have h69 := unbuilt_any (w.heap.size + 3) (.slice ia_ xn_ ic_) t.ixs a _ T8.out.is z8 hx1000
    obtain ⟨r0, r1, r2, r3, r4, r5⟩ := six_in k8
    obtain ⟨n0, n1, n2, n3, n4, n5⟩ := six_in l8
    rw [HA.out] at n1
    have HC := hide hc
    clear hc O8 hg8 b8 e' hneb
    go_wp2_with fail
    generalize (w7.setCell ⟨gc, a * 2 + 1, none⟩ (.int .i64 d.ty)) = w8 at *
    refine h69.mono ?_
    rintro e w9 ⟨rfl, I9, g9, b9⟩
    have k8' := (b9.block w.heap.size (by omega)).trans k8
    have m8' := (b9.block (w.heap.size + 1 + 1) (by omega)).trans m8
    have z8' := Nat.le_trans z8 b9.size
    have q8' : Below w.heap.size w w9 := q8.trans (b9.mono (by omega))
    have k9 : (w9.setCell ⟨w.heap.size, 5, none⟩ (.slice ia_ xn_ ic_)).heap[w.heap.size]? = some (.cells #[.string ⟨t.name.toArray⟩, .slice (some ⟨gc, 0, none⟩) cn_ cc_, .slice (some ⟨gg, 0, none⟩) (dn_ + 1) cap', .slice ra_ rn_ rc_, .int .i64 t.next, .slice ia_ xn_ ic_] 27) := by
      have := heap_setCell_same w9 w.heap.size 5 _ 27 (.slice ia_ xn_ ic_) k8'
      simpa using this
    have m9 : (w9.setCell ⟨w.heap.size, 5, none⟩ (.slice ia_ xn_ ic_)).heap[w.heap.size + 1 + 1]? = some (.cells #[.string ⟨#[]⟩, .slice none 0 0, .slice none 0 0, .slice none 0 0, .int .i64 0, .slice none 0 0] 27) := (heap_setCell_other _ _ _ _ (by simp; omega)).trans m8'
    have q9 : Below w.heap.size w (w9.setCell ⟨w.heap.size, 5, none⟩ (.slice ia_ xn_ ic_)) := q8'.setCell (p := ⟨w.heap.size, 5, none⟩) (Nat.le_refl w.heap.size) _
    have z9 : w.heap.size + 3 ≤ (w9.setCell ⟨w.heap.size, 5, none⟩ (.slice ia_ xn_ ic_)).heap.size := by simpa [World.setCell] using z8'
    have T9 : Hid (TbOwn (w9.setCell ⟨w.heap.size, 5, none⟩ (.slice ia_ xn_ ic_)) (w.heap.size + 3) (.slice (some ⟨gc, 0, none⟩) cn_ cc_) (.slice (some ⟨gg, 0, none⟩) (dn_ + 1) cap') (.slice ra_ rn_ rc_) (.slice ia_ xn_ ic_) (alteredT t d nm)) := by
      have hk := HK.out
      have ha := HA.out
      have e : alteredT t d nm = { ({ ({ t with ds := t.ds ++ [ofD d] } : Tb) with cols := t.cols.set a ⟨c.name, d.ty⟩ } : Tb) with ixs := t.ixs.map (unbX d.a) } := by
        rw [alteredT, alterC, alterX, if_neg (by omega), if_neg (by omega), if_neg (by omega), if_neg (by omega), show d.a.toNat = a by omega, retyC_at HC.out]
      rw [Hid, e, ha]
      refine TbOwn.put0 ?_ (show w.heap.size < (w.heap.size + 3) by omega) 5 _
      obtain ⟨evs, h1, h2, -⟩ := T8.out.is
      exact T8.out.ixs I9 (fun B' ty m x n xs hne h => owns_other h h2 hne g9)
    obtain ⟨y0, y1, y2, y3, y4, y5⟩ := six_in k8'
    have fz5 := six_frz k8' 5
    clear I9 g9 b9 T8 O7 T7 k7 l7 m7 q7 z7 q8 q8' z8 z8' k8 l8 m8 m8' a0 a1 a2 a3 a4 a5 e0 e1 e2 e3 e4 e5 r0 r1 r2 r3 r4 r5 n0 n1 n2 n3 n4 n5 h69 HC ho0 hof
    have h51x := h51 _ _ _ _ _ q9 z9 T9.out
    have hne : (Value.slice ia_ xn_ ic_).ownBlock ≠ some (w.heap.size + 1 + 1) := fun e => by obtain ⟨evs, -, h, -⟩ := T9.out.is; have := (h.lt _ e).1; omega
    obtain ⟨f0, f1, f2, f3, f4, f5⟩ := six_in k9
    go_wp2_with fail
    refine h51x.mono ?_
    rintro e w10 ⟨rfl, T10, q10, g10⟩
    have m10 := hide ((g10.block (w.heap.size + 1 + 1) (by omega) (fun e => hne e.symm)).trans m9)
    have T10h := hide T10
    clear T10 g10 f0 f1 f2 f3 f4 f5 k9 m9 h51x
    go_wp2_with (refine wpList_store_whole 27 _ _ rfl rfl (w.heap.size + 1 + 1) [.string ⟨#[]⟩, .slice none 0 0, .slice none 0 0, .slice none 0 0, .int .i64 0, .slice none 0 0] [.string ⟨t.name.toArray⟩, .slice (some ⟨gc, 0, none⟩) cn_ cc_, .slice (some ⟨gg, 0, none⟩) (dn_ + 1) cap', .slice ra_ rn_ rc_, .int .i64 t.next, .slice ia_ xn_ ic_] 27 rfl rfl (by exact m10.out) rfl Tryz.size27 (by intro v hv; simp only [List.mem_cons, List.not_mem_nil, or_false] at hv; rcases hv with rfl | rfl | rfl | rfl | rfl | rfl <;> rfl) ?_; intro w11 m11 p11)
    have q11 : Below w.heap.size w w11 := by rw [p11.out]; exact below_putAll (by omega) _ _ _ q10
    have T11 : TbOwn w11 w.heap.size (.slice (some ⟨gc, 0, none⟩) cn_ cc_) (.slice (some ⟨gg, 0, none⟩) (dn_ + 1) cap') (.slice ra_ rn_ rc_) (.slice ia_ xn_ ic_) QQ := by rw [p11.out]; exact (T10h.out.putAll (by omega) _ _).lower (by omega)
    obtain ⟨s0, s1, s2, s3, s4, s5⟩ := six_in m11
    refine bodyPost_ret (v := .tuple #[.agg #[.string ⟨t.name.toArray⟩, .slice (some ⟨gc, 0, none⟩) cn_ cc_, .slice (some ⟨gg, 0, none⟩) (dn_ + 1) cap', .slice ra_ rn_ rc_, .int .i64 t.next, .slice ia_ xn_ ic_], .int .i64 0]) ?_ rfl ⟨_, _, _, _, rfl, T11, q11⟩
    simp [results, Tryz.results20, go_sem, s0, s1, s2, s3, s4, s5]
end Go.Proofs.YtcnnjladaoaeiaaGreatDoor
