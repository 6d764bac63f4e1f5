/-
  Package table: Alter, whole.
  Package table: what comes of Alter passes Check.
  Keys are short; a table whose indexes were made anew.
  The law's own table 'some'; SameRows.
-/
import Derived.Test.YtcnnjladaoaeiaaGreatDoorGa
import Derived.Test.YtcnnjladaoaeiaaGreatDoorGf
import Derived.Test.YtcnnjladaoaeiaaGreatDoorGi
import Derived.Test.YtcnnjladaoaeiaaGreatDoorGj
import Derived.Test.YtcnnjladaoaeiaaGreatDoorGk
import Derived.Test.YtcnnjladaoaeiaaGreatDoorGm
import Derived.Test.YtcnnjladaoaeiaaGreatDoorGn

set_option maxRecDepth 100000
set_option maxHeartbeats 25600000
namespace Go.Proofs.YtcnnjladaoaeiaaGreatDoor
open Go.RowKit
theorem ds_one {W : World} {g : Nat} {d : Dl} (hg : W.heap[g]? = some (.cells #[.int .i64 d.k, .int .i64 d.a, .int .i64 d.ty, .int .i64 d.v.k, .int .i64 d.v.n, .string ⟨d.v.s.toArray⟩] 51)) (hs : d.v.s.length ≤ 140737488355328) : DsAt W (.slice (some ⟨g, 0, none⟩) 1 1) [d] := by
  obtain ⟨h0, h1, h2, h3, h4, h5⟩ := six_in hg
  refine ⟨some ⟨g, 0, none⟩, 1, rfl, Nat.le_refl _, by omega, by simp, by simpa using hs, fun _ => ⟨g, 0, rfl, (ltS hg), fun i x hx => ?_⟩⟩
  cases i with
  | zero => simp at hx; subst hx; exact ⟨h0, h1, h2, h3, h4, h5⟩
  | succ i => simp at hx
theorem alterF_any (t : Tb) (d : Dl) (nm : List UInt8) (cu du ru iu : Value) (w : World) (h : TbAt w cu du ru iu t) (hn : nm.length ≤ 140737488355328) (hd : d.v.s.length ≤ 140737488355328) (laid : Laid w) (hm : Ml w) :
    Calls Tryz.prog 65 #[tbV t.name cu du ru t.next iu, dlV d, .string ⟨nm.toArray⟩] w fun e w' => e = .returned (.int .i64 (alterF t d nm : Nat)) ∧ Below w.heap.size w w' := by
  have hin := fun (W : World) (hW : Below w.heap.size w W) => h.below hW
  obtain ⟨ca, cc, hce, -⟩ := h.cs
  obtain ⟨da, dc, hde, -⟩ := h.ds
  obtain ⟨ra, rc, hre, -⟩ := h.rs
  obtain ⟨ia, ic, hie, -⟩ := h.is
  subst hce hde hre hie
  have h11 := fun (W : World) (hW : Below w.heap.size w W) => tcheck_any t _ _ _ _ W (hin W hW) (laid.below hW) (hm.below hW)
  unfold alterF
  by_cases h0 : checkT t = 0
  · rw [if_neg (by simpa using h0)]
    have h11' : ∀ W : World, Below w.heap.size w W → Calls Tryz.prog 11 #[tbV t.name (.slice ca t.cols.length cc) (.slice da t.ds.length dc) (.slice ra t.rows.length rc) t.next (.slice ia t.ixs.length ic)] W fun e w' => e = .returned (.int .i64 0) ∧ Below W.heap.size W w' := by
      intro W hW
      have := h11 W hW
      rw [h0] at this
      exact this
    by_cases h1 : t.ds.length = 6
    · rw [if_pos h1]
      exact alterF_many ca da ra ia _ cc _ dc _ rc _ ic t.name t.next d.k d.a d.ty d.v.k d.v.n d.v.s ⟨nm.toArray⟩ w h1 h11'
    · rw [if_neg h1]
      have h66 := fun (W : World) => ofRows_raw d.k d.a d.ty (ofD d).ty d.v.k d.v.n d.v.s W rfl
      have h73 := fun (W : World) (g : Nat) (hg : W.heap[g]? = some (.cells #[.int .i64 (ofD d).k, .int .i64 (ofD d).a, .int .i64 (ofD d).ty, .int .i64 (ofD d).v.k, .int .i64 (ofD d).v.n, .string ⟨(ofD d).v.s.toArray⟩] 51)) => checkD_any [ofD d] (.slice (some ⟨g, 0, none⟩) 1 1) (t.cols.length : Nat) W (ds_one hg hd)
      by_cases h2 : (checkD t.cols.length [ofD d]).2 = 0
      · rw [if_neg (by simpa using h2)]
        have hE : ((⟨nm.toArray⟩ : ByteArray).toList == []) = decide (nm = []) := by rw [show (⟨nm.toArray⟩ : ByteArray).toList = nm by rw [Lib.toList_data]]; cases nm <;> rfl
        have hE' : (⟨nm.toArray⟩ : ByteArray).toList.isEmpty = decide (nm = []) := by rw [show (⟨nm.toArray⟩ : ByteArray).toList = nm by rw [Lib.toList_data]]; cases nm <;> rfl
        refine alterF_tail (checkD t.cols.length [ofD d]).1 (ofD d).ty (addF t d nm) (decide (nm = [])) ca da ra ia _ cc _ dc _ rc _ ic t.name t.next d.k d.a d.ty d.v.k d.v.n d.v.s ⟨nm.toArray⟩ w h1 hE hE' h11' h66 ?_ ?_
        · intro W g hg
          have := h73 W g hg
          rw [h2] at this
          exact this
        · exact fun W hW => addF_any t d nm _ _ _ _ W (hin W hW) hn (hm.below hW)
      · rw [if_pos h2]
        exact alterF_head (checkD t.cols.length [ofD d]).2 (by omega) (checkD t.cols.length [ofD d]).1 ca da ra ia _ cc _ dc _ rc _ ic t.name t.next d.k d.a d.ty (ofD d).ty d.v.k d.v.n d.v.s ⟨nm.toArray⟩ w h1 h11' h66 h73
  · rw [if_pos h0]
    exact alterF_bad (checkT t) (by omega) ca da ra ia _ cc _ dc _ rc _ ic t.name t.next d.k d.a d.ty d.v.k d.v.n d.v.s ⟨nm.toArray⟩ w h11
theorem alter_ok (t : Tb) (d : Dl) (nm : List UInt8) (cu du ru iu : Value) (w : World) (h : TbIn w cu du ru iu t) (hn : nm.length ≤ 140737488355328) (hd : d.v.s.length ≤ 140737488355328) (laid : Laid w) (hm : Ml w) (hF : alterF t d nm = 0) :
    Calls Tryz.prog 20 #[tbV t.name cu du ru t.next iu, dlV d, .string ⟨nm.toArray⟩] w fun e w' => ∃ cv dv rv iv, e = .returned (.tuple #[tbV t.name cv dv rv t.next iv, .int .i64 0]) ∧ TbOwn w' w.heap.size cv dv rv iv (alterT t d nm) ∧ Below w.heap.size w w' := by
  have hok := alterF_zero hF
  have hk := hok.tb
  have hsm := h.at'.sm hk
  obtain ⟨-, -, c5, d6, r30, x4⟩ := frameN_zero hk.frame
  have hin := fun (W : World) (hW : Below w.heap.size w W) => h.below hW
  obtain ⟨ca, cc, hce, -⟩ := h.at'.cs
  obtain ⟨da, dc, hde, -⟩ := h.at'.ds
  obtain ⟨ra, rc, hre, -⟩ := h.at'.rs
  obtain ⟨ia, ic, hie, -⟩ := h.at'.is
  subst hce hde hre hie
  have h65 : ∀ W : World, Below w.heap.size w W → Calls Tryz.prog 65 #[tbV t.name (.slice ca t.cols.length cc) (.slice da t.ds.length dc) (.slice ra t.rows.length rc) t.next (.slice ia t.ixs.length ic), dlV d, .string ⟨nm.toArray⟩] W fun e w' => e = .returned (.int .i64 0) ∧ Below W.heap.size W w' := by
    intro W hW
    have := alterF_any t d nm _ _ _ _ W (hin W hW).at' hn hd (laid.below hW) (hm.below hW)
    rw [hF] at this
    exact this
  have h49 := fun (W : World) (hW : Below w.heap.size w W) => fresh_any t _ _ _ _ W (hin W hW) (by omega)
  have h66 := fun (W : World) => ofRows_raw d.k d.a d.ty (ofD d).ty d.v.k d.v.n d.v.s W rfl
  have h51 := fun (W : World) (cv dv rv iv : Value) (hW : Below w.heap.size w W) (hs8 : w.heap.size + 3 ≤ W.heap.size) (hT : TbOwn W (w.heap.size + 3) cv dv rv iv (alteredT t d nm)) => indexed_any w (w.heap.size + 3) (by omega) (alteredT t d nm) cv dv rv iv W hs8 hW laid hT (hok.sm hsm hn hd) (fun r hr => (hok.row (hk.rows r hr).2).1) (fun x hx => (hok.ixs x hx).1)
  rcases hok.kinds with ⟨k, -⟩ | ⟨k, a, b⟩ | ⟨k, a, b, -, -⟩
  · exact alter_add t d (ofD d).ty rfl k nm ca da ra ia _ _ _ _ cc dc rc ic w (by omega) c5 h65 h49 h66 h51
  · exact alter_take t d (ofD d).ty rfl k nm ca da ra ia _ _ _ _ cc dc rc ic w (by omega) c5 (by omega) d.a.toNat (by omega) (by omega) (fun x hx => by have := (hk.ixs x hx).a0; have := (hk.ixs x hx).a1; omega) h65 h49 h66 h51
  · exact alter_retype t d (ofD d).ty rfl k nm ca da ra ia _ _ _ _ cc dc rc ic w (by omega) c5 (by omega) d.a.toNat (by omega) (by omega) h65 h49 h66 h51
theorem alter_bad (E : Nat) (hE : ¬ (E : Int) = 0) (d : Dl) (nm nm0 : List UInt8) (ca da ra ia : Option Addr) (cn dn rn xn cc dc rc ic : Nat) (nx : Int) (w : World)
    (h65 : ∀ W : World, Below w.heap.size w W → Calls Tryz.prog 65 #[tbV nm0 (.slice ca cn cc) (.slice da dn dc) (.slice ra rn rc) nx (.slice ia xn ic), dlV d, .string ⟨nm.toArray⟩] W fun e w' => e = .returned (.int .i64 (E : Nat)) ∧ Below W.heap.size W w') :
    Calls Tryz.prog 20 #[tbV nm0 (.slice ca cn cc) (.slice da dn dc) (.slice ra rn rc) nx (.slice ia xn ic), dlV d, .string ⟨nm.toArray⟩] w fun e w' => e = .returned (.tuple #[tbV [] (.slice none 0 0) (.slice none 0 0) (.slice none 0 0) 0 (.slice none 0 0), .int .i64 (E : Nat)]) ∧ Below w.heap.size w w' := by
  have z1 : (w.alloc (.cells #[.string ⟨nm0.toArray⟩, .slice ca cn cc, .slice da dn dc, .slice ra rn rc, .int .i64 nx, .slice ia xn ic] 27)).heap.size = w.heap.size + 1 := by simp
  have z2 : ((w.alloc (.cells #[.string ⟨nm0.toArray⟩, .slice ca cn cc, .slice da dn dc, .slice ra rn rc, .int .i64 nx, .slice ia xn ic] 27)).alloc (.cells #[.int .i64 d.k, .int .i64 d.a, .int .i64 d.ty, .int .i64 d.v.k, .int .i64 d.v.n, .string ⟨d.v.s.toArray⟩] 51)).heap.size = w.heap.size + 1 + 1 := by simp
  have hz0 : (((w.alloc (.cells #[.string ⟨nm0.toArray⟩, .slice ca cn cc, .slice da dn dc, .slice ra rn rc, .int .i64 nx, .slice ia xn ic] 27)).alloc (.cells #[.int .i64 d.k, .int .i64 d.a, .int .i64 d.ty, .int .i64 d.v.k, .int .i64 d.v.n, .string ⟨d.v.s.toArray⟩] 51)).alloc (.cells #[.string ⟨#[]⟩, .slice none 0 0, .slice none 0 0, .slice none 0 0, .int .i64 0, .slice none 0 0] 27)).heap.size = w.heap.size + 3 := by simp
  have b0 : Below w.heap.size w (((w.alloc (.cells #[.string ⟨nm0.toArray⟩, .slice ca cn cc, .slice da dn dc, .slice ra rn rc, .int .i64 nx, .slice ia xn ic] 27)).alloc (.cells #[.int .i64 d.k, .int .i64 d.a, .int .i64 d.ty, .int .i64 d.v.k, .int .i64 d.v.n, .string ⟨d.v.s.toArray⟩] 51)).alloc (.cells #[.string ⟨#[]⟩, .slice none 0 0, .slice none 0 0, .slice none 0 0, .int .i64 0, .slice none 0 0] 27)) := (((Below.refl w.heap.size w).alloc (Nat.le_refl _) _).alloc (by omega) _).alloc (by omega) _
  have k0 : (((w.alloc (.cells #[.string ⟨nm0.toArray⟩, .slice ca cn cc, .slice da dn dc, .slice ra rn rc, .int .i64 nx, .slice ia xn ic] 27)).alloc (.cells #[.int .i64 d.k, .int .i64 d.a, .int .i64 d.ty, .int .i64 d.v.k, .int .i64 d.v.n, .string ⟨d.v.s.toArray⟩] 51)).alloc (.cells #[.string ⟨#[]⟩, .slice none 0 0, .slice none 0 0, .slice none 0 0, .int .i64 0, .slice none 0 0] 27)).heap[w.heap.size]? = some (.cells #[.string ⟨nm0.toArray⟩, .slice ca cn cc, .slice da dn dc, .slice ra rn rc, .int .i64 nx, .slice ia xn ic] 27) := (Below.heap_alloc ((w.alloc (.cells #[.string ⟨nm0.toArray⟩, .slice ca cn cc, .slice da dn dc, .slice ra rn rc, .int .i64 nx, .slice ia xn ic] 27)).alloc (.cells #[.int .i64 d.k, .int .i64 d.a, .int .i64 d.ty, .int .i64 d.v.k, .int .i64 d.v.n, .string ⟨d.v.s.toArray⟩] 51)) _ _ (by omega)).trans ((Below.heap_alloc (w.alloc (.cells #[.string ⟨nm0.toArray⟩, .slice ca cn cc, .slice da dn dc, .slice ra rn rc, .int .i64 nx, .slice ia xn ic] 27)) _ _ (by omega)).trans (heap_alloc_new w _))
  have k1 : (((w.alloc (.cells #[.string ⟨nm0.toArray⟩, .slice ca cn cc, .slice da dn dc, .slice ra rn rc, .int .i64 nx, .slice ia xn ic] 27)).alloc (.cells #[.int .i64 d.k, .int .i64 d.a, .int .i64 d.ty, .int .i64 d.v.k, .int .i64 d.v.n, .string ⟨d.v.s.toArray⟩] 51)).alloc (.cells #[.string ⟨#[]⟩, .slice none 0 0, .slice none 0 0, .slice none 0 0, .int .i64 0, .slice none 0 0] 27)).heap[w.heap.size + 1]? = some (.cells #[.int .i64 d.k, .int .i64 d.a, .int .i64 d.ty, .int .i64 d.v.k, .int .i64 d.v.n, .string ⟨d.v.s.toArray⟩] 51) := by
    have := heap_alloc_new (w.alloc (.cells #[.string ⟨nm0.toArray⟩, .slice ca cn cc, .slice da dn dc, .slice ra rn rc, .int .i64 nx, .slice ia xn ic] 27)) (.cells #[.int .i64 d.k, .int .i64 d.a, .int .i64 d.ty, .int .i64 d.v.k, .int .i64 d.v.n, .string ⟨d.v.s.toArray⟩] 51)
    rw [z1] at this
    exact (Below.heap_alloc ((w.alloc (.cells #[.string ⟨nm0.toArray⟩, .slice ca cn cc, .slice da dn dc, .slice ra rn rc, .int .i64 nx, .slice ia xn ic] 27)).alloc (.cells #[.int .i64 d.k, .int .i64 d.a, .int .i64 d.ty, .int .i64 d.v.k, .int .i64 d.v.n, .string ⟨d.v.s.toArray⟩] 51)) _ _ (by omega)).trans this
  have k2 : (((w.alloc (.cells #[.string ⟨nm0.toArray⟩, .slice ca cn cc, .slice da dn dc, .slice ra rn rc, .int .i64 nx, .slice ia xn ic] 27)).alloc (.cells #[.int .i64 d.k, .int .i64 d.a, .int .i64 d.ty, .int .i64 d.v.k, .int .i64 d.v.n, .string ⟨d.v.s.toArray⟩] 51)).alloc (.cells #[.string ⟨#[]⟩, .slice none 0 0, .slice none 0 0, .slice none 0 0, .int .i64 0, .slice none 0 0] 27)).heap[w.heap.size + 1 + 1]? = some (.cells #[.string ⟨#[]⟩, .slice none 0 0, .slice none 0 0, .slice none 0 0, .int .i64 0, .slice none 0 0] 27) := by
    have := heap_alloc_new ((w.alloc (.cells #[.string ⟨nm0.toArray⟩, .slice ca cn cc, .slice da dn dc, .slice ra rn rc, .int .i64 nx, .slice ia xn ic] 27)).alloc (.cells #[.int .i64 d.k, .int .i64 d.a, .int .i64 d.ty, .int .i64 d.v.k, .int .i64 d.v.n, .string ⟨d.v.s.toArray⟩] 51)) (.cells #[.string ⟨#[]⟩, .slice none 0 0, .slice none 0 0, .slice none 0 0, .int .i64 0, .slice none 0 0] 27)
    rw [z2] at this
    exact this
  clear z1 z2
  unfold tbV dlV at *
  go_enter Tryz.func20, Tryz.ntmps20
  go_wp2_with fail
  generalize (((w.alloc (.cells #[.string ⟨nm0.toArray⟩, .slice ca cn cc, .slice da dn dc, .slice ra rn rc, .int .i64 nx, .slice ia xn ic] 27)).alloc (.cells #[.int .i64 d.k, .int .i64 d.a, .int .i64 d.ty, .int .i64 d.v.k, .int .i64 d.v.n, .string ⟨d.v.s.toArray⟩] 51)).alloc (.cells #[.string ⟨#[]⟩, .slice none 0 0, .slice none 0 0, .slice none 0 0, .int .i64 0, .slice none 0 0] 27)) = w0 at *
  refine (h65 _ b0).mono ?_
  rintro e w1 ⟨rfl, b1⟩
  have q1 : Below w.heap.size w w1 := b0.trans (b1.mono b0.size)
  have ka := (b1.block w.heap.size (by omega)).trans k0
  have la := (b1.block (w.heap.size + 1) (by omega)).trans k1
  have ma := (b1.block (w.heap.size + 1 + 1) (by omega)).trans k2
  have za : w.heap.size + 3 ≤ w1.heap.size := by have := b1.size; omega
  obtain ⟨x0, x1, x2, x3, x4, x5⟩ := six_in ka
  clear h65 b1 b0 k0 k1 k2 hz0
  have mah := hide ma
  clear ka la ma x0 x1 x2 x3 x4 x5
  go_wp2_with (refine wpList_store_whole 27 _ _ rfl rfl (w.heap.size + 1 + 1) [.string ⟨#[]⟩, .slice none 0 0, .slice none 0 0, .slice none 0 0, .int .i64 0, .slice none 0 0] [.string ⟨#[]⟩, .slice none 0 0, .slice none 0 0, .slice none 0 0, .int .i64 0, .slice none 0 0] 27 rfl rfl (by exact mah.out) rfl Tryz.size27 (by intro v hv; simp only [List.mem_cons, List.not_mem_nil, or_false] at hv; rcases hv with rfl | rfl | rfl | rfl | rfl | rfl <;> rfl) ?_; intro w9 l2 p9)
  have q2 : Below w.heap.size w w9 := by rw [p9.out]; exact below_putAll (by omega) _ _ _ q1
  obtain ⟨s0, s1, s2, s3, s4, s5⟩ := six_in l2
  refine bodyPost_ret (v := .tuple #[.agg #[.string ⟨#[]⟩, .slice none 0 0, .slice none 0 0, .slice none 0 0, .int .i64 0, .slice none 0 0], .int .i64 (E : Nat)]) ?_ rfl ⟨rfl, q2⟩
  simp [results, Tryz.results20, go_sem, s0, s1, s2, s3, s4, s5]
theorem alter_no (t : Tb) (d : Dl) (nm : List UInt8) (cu du ru iu : Value) (w : World) (h : TbIn w cu du ru iu t) (hn : nm.length ≤ 140737488355328) (hd : d.v.s.length ≤ 140737488355328) (laid : Laid w) (hm : Ml w) (hF : alterF t d nm ≠ 0) :
    Calls Tryz.prog 20 #[tbV t.name cu du ru t.next iu, dlV d, .string ⟨nm.toArray⟩] w fun e w' => e = .returned (.tuple #[tbV [] (.slice none 0 0) (.slice none 0 0) (.slice none 0 0) 0 (.slice none 0 0), .int .i64 (alterF t d nm : Nat)]) ∧ Below w.heap.size w w' := by
  have hin := fun (W : World) (hW : Below w.heap.size w W) => h.below hW
  obtain ⟨ca, cc, hce, -⟩ := h.at'.cs
  obtain ⟨da, dc, hde, -⟩ := h.at'.ds
  obtain ⟨ra, rc, hre, -⟩ := h.at'.rs
  obtain ⟨ia, ic, hie, -⟩ := h.at'.is
  subst hce hde hre hie
  exact alter_bad (alterF t d nm) (by omega) d nm t.name ca da ra ia _ _ _ _ cc dc rc ic t.next w fun W hW => alterF_any t d nm _ _ _ _ W (hin W hW).at' hn hd (laid.below hW) (hm.below hW)
def colOk (c : Cl) : Prop := nameW c.name = true ∧ 1 ≤ c.ty ∧ c.ty ≤ 3
theorem placeC_none_iff : ∀ {A : List Cl} {nm : List UInt8}, (placeC A nm).isSome = false ↔ nm ∉ A.map (·.name)
  | [], nm => by simp [placeC]
  | c :: r, nm => by
    rw [placeC, List.map_cons, List.mem_cons]
    by_cases h : c.name = nm
    · rw [if_pos h]; simp [h]
    · rw [if_neg h, Option.isSome_map, placeC_none_iff]
      constructor
      · rintro h1 (h2 | h2)
        · exact h h2.symm
        · exact h1 h2
      · exact fun h1 h2 => h1 (.inr h2)
theorem colsF_iff : ∀ {L A : List Cl}, colsF A L = 0 ↔ (∀ c ∈ L, colOk c) ∧ (∀ c ∈ L, c.name ∉ A.map (·.name)) ∧ (L.map (·.name)).Nodup
  | [], A => by simp [colsF]
  | c :: r, A => by
    have ih := colsF_iff (L := r) (A := A ++ [c])
    rw [colsF]
    constructor
    · intro h
      split at h
      · cases h
      rename_i h1
      split at h
      · cases h
      rename_i h2
      split at h
      · cases h
      rename_i h3
      obtain ⟨i1, i2, i3⟩ := ih.1 h
      have h1' : nameW c.name = true := by simpa using h1
      have h2' := Classical.not_not.1 h2
      have h3' := placeC_none_iff.1 (by simpa using h3)
      refine ⟨fun x hx => ?_, fun x hx => ?_, ?_⟩
      · rcases List.mem_cons.1 hx with rfl | hx
        · exact ⟨h1', h2'⟩
        · exact i1 x hx
      · rcases List.mem_cons.1 hx with rfl | hx
        · exact h3'
        · have := i2 x hx
          rw [List.map_append, List.mem_append] at this
          exact fun e => this (.inl e)
      · rw [List.map_cons, List.nodup_cons]
        refine ⟨fun e => ?_, i3⟩
        obtain ⟨x, hx, e⟩ := List.mem_map.1 e
        have := i2 x hx
        rw [List.map_append, List.mem_append] at this
        exact this (.inr (by simp [e]))
    · rintro ⟨h1, h2, h3⟩
      rw [List.map_cons, List.nodup_cons] at h3
      obtain ⟨a, b⟩ := h1 c (List.mem_cons_self ..)
      rw [if_neg (by rw [a]; simp), if_neg (by exact fun e => e b), if_neg (by rw [placeC_none_iff.2 (h2 c (List.mem_cons_self ..))]; simp)]
      refine ih.2 ⟨fun x hx => h1 x (List.mem_cons_of_mem _ hx), fun x hx => ?_, h3.2⟩
      rw [List.map_append, List.mem_append]
      rintro (e | e)
      · exact h2 x (List.mem_cons_of_mem _ hx) e
      · simp at e
        exact h3.1 (List.mem_map.2 ⟨x, hx, e⟩)
theorem hasIx_false {A : List Ix} {nm : List UInt8} : hasIx A nm = false ↔ nm ∉ A.map (·.name) := by
  unfold hasIx
  rw [List.any_eq_false]
  simp only [List.mem_map, not_exists, not_and]
  constructor
  · intro h x hx e
    have := h x hx
    simp at this
    exact this e
  · intro h x hx
    simpa using h x hx
def ixOk (cn : Nat) (rows : List Vl) (LL : List (List Vl)) (next : Int) (x : Ix) : Prop :=
  nameW x.name = true ∧ (0 ≤ x.a ∧ x.a < (cn : Int)) ∧ (1 ≤ x.b ∧ x.b ≤ next) ∧ x.es = sortE (entL x.a.toNat x.b rows LL)
theorem ixsF_iff {cn : Nat} {rows : List Vl} {LL : List (List Vl)} {next : Int} : ∀ {L A : List Ix}, ixsF cn rows LL next A L = 0 ↔ (∀ x ∈ L, ixOk cn rows LL next x) ∧ (∀ x ∈ L, x.name ∉ A.map (·.name)) ∧ (L.map (·.name)).Nodup
  | [], A => by simp [ixsF]
  | c :: r, A => by
    have ih := ixsF_iff (cn := cn) (rows := rows) (LL := LL) (next := next) (L := r) (A := A ++ [c])
    rw [ixsF]
    constructor
    · intro h
      split at h
      · cases h
      rename_i h1
      split at h
      · cases h
      rename_i h3
      split at h
      · cases h
      rename_i h2
      split at h
      · cases h
      rename_i h4
      split at h
      · cases h
      rename_i h5
      obtain ⟨i1, i2, i3⟩ := ih.1 h
      have h1' : nameW c.name = true := by simpa using h1
      have h2' : (decide (0 ≤ c.a) && decide (c.a < (cn : Int))) = true := by simpa using h2
      simp only [Bool.and_eq_true, decide_eq_true_eq] at h2'
      have h3' := hasIx_false.1 (by simpa using h3)
      refine ⟨fun x hx => ?_, fun x hx => ?_, ?_⟩
      · rcases List.mem_cons.1 hx with rfl | hx
        · exact ⟨h1', h2', by omega, by simpa using h5⟩
        · exact i1 x hx
      · rcases List.mem_cons.1 hx with rfl | hx
        · exact h3'
        · have := i2 x hx
          rw [List.map_append, List.mem_append] at this
          exact fun e => this (.inl e)
      · rw [List.map_cons, List.nodup_cons]
        refine ⟨fun e => ?_, i3⟩
        obtain ⟨x, hx, e⟩ := List.mem_map.1 e
        have := i2 x hx
        rw [List.map_append, List.mem_append] at this
        exact this (.inr (by simp [e]))
    · rintro ⟨h1, h2, h3⟩
      rw [List.map_cons, List.nodup_cons] at h3
      obtain ⟨a, b, b2, c2⟩ := h1 c (List.mem_cons_self ..)
      rw [if_neg (by rw [a]; simp), if_neg (by rw [hasIx_false.2 (h2 c (List.mem_cons_self ..))]; simp), if_neg (by simp [b.1, b.2]), if_neg (by omega), if_neg (by simpa using c2)]
      refine ih.2 ⟨fun x hx => h1 x (List.mem_cons_of_mem _ hx), fun x hx => ?_, h3.2⟩
      rw [List.map_append, List.mem_append]
      rintro (e | e)
      · exact h2 x (List.mem_cons_of_mem _ hx) e
      · simp at e
        exact h3.1 (List.mem_map.2 ⟨x, hx, e⟩)
theorem checkT_parts {t : Tb} (h : checkT t = 0) : frameN (nameW t.name) t.cols.length t.ds.length t.rows.length t.ixs.length = 0 ∧ colsF [] t.cols = 0 ∧ nextF t.next = 0 ∧ deltasF t.cols.length t.ds = 0 ∧ rowsF t.cols t.ds t.next 0 t.rows = 0 ∧ ixsF t.cols.length t.rows (valsT t) t.next [] t.ixs = 0 := by
  have hz := firstE_zero h
  unfold faultsT at hz
  simpa only [List.mem_cons, List.not_mem_nil, or_false, forall_eq_or_imp, forall_eq] using hz
theorem checkT_mk {t : Tb} (h0 : frameN (nameW t.name) t.cols.length t.ds.length t.rows.length t.ixs.length = 0) (h1 : colsF [] t.cols = 0) (h2 : nextF t.next = 0) (h3 : deltasF t.cols.length t.ds = 0) (h4 : rowsF t.cols t.ds t.next 0 t.rows = 0) (h5 : ixsF t.cols.length t.rows (valsT t) t.next [] t.ixs = 0) : checkT t = 0 := by
  unfold checkT faultsT
  rw [h0, h1, h2, h3, h4, h5]
  rfl
theorem check_indexed {t : Tb} (h0 : frameN (nameW t.name) t.cols.length t.ds.length t.rows.length t.ixs.length = 0) (h1 : colsF [] t.cols = 0) (h2 : nextF t.next = 0) (h3 : deltasF t.cols.length t.ds = 0) (h4 : rowsF t.cols t.ds t.next 0 t.rows = 0)
    (h5 : ∀ x ∈ t.ixs, nameW x.name = true ∧ (0 ≤ x.a ∧ x.a < (t.cols.length : Int)) ∧ (1 ≤ x.b ∧ x.b ≤ t.next)) (h6 : (t.ixs.map (·.name)).Nodup) : checkT (indexedT t) = 0 := by
  refine checkT_mk ?_ h1 h2 h3 h4 ?_
  · show frameN _ _ _ _ (t.ixs.map _).length = 0
    rw [List.length_map]; exact h0
  · show ixsF t.cols.length t.rows (valsT t) t.next [] (t.ixs.map fun x => { x with es := entX t x }) = 0
    rw [ixsF_iff]
    refine ⟨fun x hx => ?_, fun x _ => by simp, ?_⟩
    · obtain ⟨y, hy, rfl⟩ := List.mem_map.1 hx
      obtain ⟨a, b, c⟩ := h5 y hy
      exact ⟨a, b, c, rfl⟩
    · rw [List.map_map]
      exact h6
theorem rowsF_map {cs cs' : List Cl} {ds ds' : List Dl} {next : Int} (hr : ∀ r, RowOk cs ds next r → RowOk cs' ds' next r) : ∀ {l : List Vl} {a : Int}, rowsF cs ds next a l = 0 → rowsF cs' ds' next a l = 0
  | [], _, _ => rfl
  | x :: l, a, h => by
    have h0 := rowsF_zero h x (List.mem_cons_self ..)
    have hx := hr x h0.2
    have hl := hx.lt
    have hv0 := hx.v0
    have hv1 := hx.v1
    rw [rowsF, if_neg (by omega), if_neg (by omega), if_neg (fun e => e hx.ok), if_neg (fun e => e ⟨hx.len, hx.kinds⟩)]
    refine rowsF_map hr ?_
    rw [rowsF] at h
    split at h
    · cases h
    split at h
    · cases h
    split at h
    · rename_i h3; exact absurd h h3
    split at h
    · cases h
    exact h
theorem width_shift (c : Int) : ∀ (L : List Dl) (x : Int), widthF (x + c) L = widthF x L + c
  | [], x => rfl
  | d :: L, x => by
    rw [widthF_eq, widthF_eq, List.foldl_cons, List.foldl_cons, ← widthF_eq, ← widthF_eq]
    have e : stepW (x + c) d = stepW x d + c := by unfold stepW; split <;> (try split) <;> omega
    rw [e]
    exact width_shift c L _
theorem width_cons (x : Int) (d : Dl) (L : List Dl) : widthF x (d :: L) = widthF (stepW x d) L := rfl
theorem ckD_last : ∀ (L : List Dl) (w : Int), (ckD w L).2 = 0 → widthF (ckD w L).1 L = w
  | [], w, _ => rfl
  | d :: L, w, h => by
    rw [ckD] at h ⊢
    by_cases h1 : (widB w d).2 = 0
    · rw [if_pos h1] at h ⊢
      have ih := ckD_last L _ h
      rw [width_cons]
      have e : stepW (ckD (widB w d).1 L).1 d = (ckD (widB w d).1 L).1 + (w - (widB w d).1) := by
        rcases widB_ok h1 with ⟨k, a, b, c⟩ | ⟨k, a, b, c⟩ | ⟨k, a, b, t0, t1, c⟩
        · rw [b, stepW, if_pos k]; omega
        · rw [c, stepW, if_neg (by omega), if_pos k]; omega
        · rw [c, stepW, if_neg (by omega), if_neg (by omega)]; omega
      rw [e, width_shift, ih]
      omega
    · rw [if_neg h1] at h; exact absurd h h1
theorem width_push (x : Int) (L : List Dl) (d : Dl) : widthF x (L ++ [d]) = stepW (widthF x L) d := by
  rw [widthF_eq, List.foldl_append]; rfl
theorem ckD_width {n : Nat} {L : List Dl} (h : deltasF n L = 0) : (0 ≤ widthF n L ∧ widthF n L ≤ 5) ∧ ckD (widthF n L) L = ((n : Int), 0) := by
  unfold deltasF at h
  split at h
  · cases h
  rename_i h1
  unfold checkD at h
  rw [if_neg h1] at h
  refine ⟨by omega, ?_⟩
  have e := ckD_last L _ h
  have e2 : (ckD (widthF n L) L).1 = n := by
    have h3 := width_shift ((ckD (widthF n L) L).1 - n) L n
    rw [show (n : Int) + ((ckD (widthF n L) L).1 - n) = (ckD (widthF n L) L).1 by omega, e] at h3
    omega
  exact Prod.ext e2 h
theorem deltas_push {n : Nat} {L : List Dl} {d : Dl} {n' : Nat} (h : deltasF n L = 0) (hw : widB n d = ((n' : Int), 0)) : deltasF n' (L ++ [d]) = 0 := by
  obtain ⟨h0, hc⟩ := ckD_width h
  have e : widthF n' (L ++ [d]) = widthF n L := by
    rw [width_push]
    have h1 : (widB n d).2 = 0 := by rw [hw]
    have h2 : (widB n d).1 = n' := by rw [hw]
    have hs := width_shift ((n' : Int) - n) L n
    rw [show (n : Int) + ((n' : Int) - n) = n' by omega] at hs
    rw [hs]
    rcases widB_ok h1 with ⟨k, a, b, c⟩ | ⟨k, a, b, c⟩ | ⟨k, a, b, t0, t1, c⟩
    · rw [h2] at b; rw [stepW, if_pos k]; omega
    · rw [h2] at c; rw [stepW, if_neg (by omega), if_pos k]; omega
    · rw [h2] at c; rw [stepW, if_neg (by omega), if_neg (by omega)]; omega
  unfold deltasF
  rw [e, if_neg (by omega)]
  unfold checkD
  rw [if_neg (by omega), ckD_append, hc]
  simp only [if_true]
  rw [ckD, hw]
  rfl
theorem retyC_names (a : Nat) (ty : Int) (cs : List Cl) : (retyC a ty cs).map (·.name) = cs.map (·.name) := by
  unfold retyC
  split
  · rename_i c hc
    have hl := (List.getElem?_eq_some_iff.1 hc).1
    rw [List.map_set]
    have e : c.name = (cs.map (·.name))[a]'(by simpa using hl) := by
      rw [List.getElem_map]
      have : cs[a] = c := by rw [List.getElem?_eq_getElem hl] at hc; cases hc; rfl
      rw [this]
    simp only []
    rw [e, List.set_getElem_self]
  · rfl
theorem alter_check {t : Tb} {d : Dl} {nm : List UInt8} (h : AlOk t d nm) : checkT (alterT t d nm) = 0 := by
  obtain ⟨p0, p1, p2, p3, p4, p5⟩ := checkT_parts h.check
  obtain ⟨f0, f1, f2, f3, f4, f5⟩ := frameN_zero p0
  have hfew := h.few
  obtain ⟨c1, -, c3⟩ := colsF_iff.1 p1
  obtain ⟨x1, -, x3⟩ := ixsF_iff.1 p5
  have hxl := alterX_len d t.ixs
  have hn1 : 1 ≤ t.next := by unfold nextF at p2; split at p2 <;> simp_all <;> omega
  have hcl : 1 ≤ (alterC d nm t.cols).length ∧ (alterC d nm t.cols).length ≤ 5 ∧ widB (t.cols.length : Nat) (ofD d) = (((alterC d nm t.cols).length : Int), 0) := by
    rcases widB_ok h.wid with ⟨k, a, b, hv⟩ | ⟨k, a, b, c⟩ | ⟨k, a, b, t0, t1, c⟩
    · have k' : d.k = 1 := k
      rw [alterC, if_pos k', List.length_append, List.length_singleton]
      exact ⟨by omega, by omega, Prod.ext (by rw [b]; simp) h.wid⟩
    · have k' : d.k = 2 := k
      have a' : 0 ≤ d.a := a
      have b' : d.a < (t.cols.length : Int) := b
      have := h.one k'
      rw [alterC, if_neg (by omega), if_pos k', List.length_eraseIdx, if_pos (by omega)]
      exact ⟨by omega, by omega, Prod.ext (by rw [c]; simp only []; omega) h.wid⟩
    · have k' : d.k = 3 := k
      rw [alterC, if_neg (by omega), if_neg (by omega), retyC_len]
      exact ⟨by omega, by omega, Prod.ext c h.wid⟩
  obtain ⟨l1, l5, hw⟩ := hcl
  refine check_indexed ?_ ?_ p2 ?_ ?_ ?_ ?_
  · show frameN (nameW t.name) (alterC d nm t.cols).length (t.ds ++ [ofD d]).length t.rows.length (alterX d t.ixs).length = 0
    rw [List.length_append, List.length_singleton]
    unfold frameN
    rw [if_neg (by rw [f0]; simp; intro e; rw [e] at l1; simp at l1), if_neg (by omega)]
  · show colsF [] (alterC d nm t.cols) = 0
    rw [colsF_iff]
    rcases h.kinds with ⟨k, hv⟩ | ⟨k, a, b⟩ | ⟨k, a, b, t0, t1⟩
    · obtain ⟨a1, -, a3, a4⟩ := addF_zero (h.add k)
      rw [alterC, if_pos k]
      refine ⟨fun x hx => ?_, fun x _ => by simp, ?_⟩
      · rcases List.mem_append.1 hx with hx | hx
        · exact c1 x hx
        · rw [List.mem_singleton] at hx; subst hx; exact ⟨a3, a1⟩
      · rw [List.map_append, List.nodup_append]
        refine ⟨c3, by simp, fun x hx y hy => ?_⟩
        simp at hy
        subst hy
        intro e
        exact placeC_none_iff.1 (by rw [a4]; rfl) (e ▸ hx)
    · rw [alterC, if_neg (by omega), if_pos k]
      refine ⟨fun x hx => c1 x (List.mem_of_mem_eraseIdx hx), fun x _ => by simp, ?_⟩
      exact c3.sublist ((List.eraseIdx_sublist _ _).map _)
    · rw [alterC, if_neg (by omega), if_neg (by omega)]
      refine ⟨fun x hx => ?_, fun x _ => by simp, by rw [retyC_names]; exact c3⟩
      unfold retyC at hx
      split at hx
      · rename_i c hc
        rcases List.mem_or_eq_of_mem_set hx with hx | rfl
        · exact c1 x hx
        · exact ⟨(c1 c (List.mem_of_getElem? hc)).1, t0, t1⟩
      · exact c1 x hx
  · exact deltas_push p3 hw
  · exact rowsF_map (fun r hr => (h.row hr).1) p4
  · intro x hx
    obtain ⟨hb, y, hy, e1, -⟩ := h.ixs x hx
    obtain ⟨n1, -, n3, -⟩ := x1 y hy
    refine ⟨by rw [e1]; exact n1, ⟨hb.1, hb.2⟩, ?_⟩
    have hx' : x ∈ alterX d t.ixs := hx
    rcases h.kinds with ⟨k, hv⟩ | ⟨k, a, b⟩ | ⟨k, a, b, t0, t1⟩
    · rw [alterX, if_pos k] at hx'
      exact (x1 x hx').2.2.1
    · rw [alterX, if_neg (by omega), if_pos k] at hx'
      obtain ⟨z, hz, rfl⟩ := List.mem_map.1 hx'
      have := (x1 z (List.mem_filter.1 hz).1).2.2.1
      unfold downX
      split <;> exact this
    · rw [alterX, if_neg (by omega), if_neg (by omega)] at hx'
      obtain ⟨z, hz, rfl⟩ := List.mem_map.1 hx'
      have := (x1 z hz).2.2.1
      unfold unbX
      split
      · exact ⟨Int.le_refl _, hn1⟩
      · exact this
  · show ((alterX d t.ixs).map (·.name)).Nodup
    unfold alterX
    split
    · exact x3
    · split
      · unfold withoutX
        rw [List.map_map]
        have e : ((fun x : Ix => x.name) ∘ downX d.a) = fun x : Ix => x.name := by funext x; simp only [Function.comp]; unfold downX; split <;> rfl
        rw [e]
        exact x3.sublist ((List.filter_sublist).map _)
      · rw [List.map_map]
        have e : ((fun x : Ix => x.name) ∘ unbX d.a) = fun x : Ix => x.name := by funext x; simp only [Function.comp]; unfold unbX; split <;> rfl
        rw [e]
        exact x3
theorem keyT_short (y : Vl) : (keyT y).length ≤ 1000 := by
  unfold keyT
  split
  · rename_i h
    have hr : ∀ (k : Nat) (l : List UInt8), (Lib.repeatL l k).length = k * l.length := by
      intro k l
      induction k with
      | zero => simp [Lib.repeatL]
      | succ k ih => simp [Lib.repeatL, ih, Nat.succ_mul, Nat.add_comm]
    unfold keyV
    rcases chk_zero h with ⟨a, b, c⟩ | ⟨a, b, c⟩ | ⟨a, b, c, d⟩ | ⟨a, b, c⟩
    · rw [if_neg (by omega), if_neg (by omega), if_neg (by omega)]; simp
    · rw [if_pos a]
      have hi := itoa_len (y.n + 1000000000) (by omega) (by omega)
      have e : (tenL (y.n + 1000000000)).length = (10 - (Lib.itoa (y.n + 1000000000)).length) * 1 + (Lib.itoa (y.n + 1000000000)).length := by
        show (Lib.repeatL [48] (10 - (Lib.itoa (y.n + 1000000000)).length) ++ Lib.itoa (y.n + 1000000000)).length = _
        rw [List.length_append, hr]; rfl
      rw [List.length_cons, e]; omega
    · rw [if_neg (by omega), if_pos a, List.length_cons]; omega
    · rw [if_neg (by omega), if_neg (by omega), if_pos a]
      have hi := itoa_len y.n (by omega) (by omega)
      rw [List.length_cons]; omega
  · simp
theorem entL_names (c : Nat) (b : Int) : ∀ (rs : List Vl) (ls : List (List Vl)), ∀ e ∈ entL c b rs ls, e.name.length ≤ 1000
  | [], _, e, h => by simp [entL] at h
  | _ :: _, [], e, h => by simp [entL] at h
  | r :: rs, l :: ls, e, h => by
    rw [entL] at h
    split at h
    · rcases List.mem_cons.1 h with rfl | h
      · exact keyT_short _
      · exact entL_names c b rs ls e h
    · exact entL_names c b rs ls e h
theorem sm_indexed {t : Tb} (hs : Sm t) : Sm (indexedT t) := by
  refine ⟨hs.nm, hs.cl, hs.cn, hs.dl, hs.dn, hs.rl, hs.rn, by show (t.ixs.map _).length ≤ _; rw [List.length_map]; exact hs.il, fun x hx => ?_, fun x hx => ?_⟩
  · obtain ⟨y, hy, rfl⟩ := List.mem_map.1 hx
    exact hs.inm y hy
  · obtain ⟨y, hy, rfl⟩ := List.mem_map.1 hx
    refine ⟨?_, fun e he => ?_⟩
    · have := entX_few t y
      have := hs.rl
      show (entX t y).length ≤ 1000
      omega
    · have he' : e ∈ entL y.a.toNat y.b t.rows (valsT t) := (sortE_perm _).mem_iff.1 he
      have := entL_names _ _ _ _ e he'
      omega
theorem vals_short {t : Tb} (h : TbOk t) : ∀ l ∈ valsT t, l.length ≤ 1000 ∧ ∀ x ∈ l, x.s.length ≤ 140737488355328 := by
  obtain ⟨-, -, c5, -⟩ := frameN_zero h.frame
  intro l hl
  obtain ⟨r, hr, rfl⟩ := List.mem_map.1 hl
  obtain ⟨-, ho⟩ := h.rows r hr
  refine ⟨by rw [ho.len]; omega, fun x hx => ?_⟩
  have := short_of ((badL_zero _).1 (now_right ho.ok) x hx)
  omega
theorem vals_altered {t : Tb} {d : Dl} {nm : List UInt8} (h : AlOk t d nm) : valsT (alterT t d nm) = (valsT t).map fun l => rowB l (ofD d) := by
  show t.rows.map (nowL (t.ds ++ [ofD d])) = (t.rows.map (nowL t.ds)).map fun l => rowB l (ofD d)
  rw [List.map_map]
  apply List.map_congr_left
  intro r hr
  exact (h.row (h.tb.rows r hr).2).2
def VvAt (w : World) (u : Value) (L : List (List Vl)) : Prop :=
  ∃ ao cap, u = .slice ao L.length cap ∧ L.length ≤ 1000 ∧ (L ≠ [] → ∃ g o, ao = some ⟨g, o, none⟩ ∧ g < w.heap.size ∧ ∀ i l, L[i]? = some l → ∃ z, w.cell? ⟨g, o + i, none⟩ = some z ∧ VsAt w z l)
theorem VvAt.below {w w' : World} {u : Value} {L : List (List Vl)} (h : VvAt w u L) (hb : Below w.heap.size w w') : VvAt w' u L := by
  obtain ⟨ao, cap, e, hl, hc⟩ := h
  refine ⟨ao, cap, e, hl, fun hne => ?_⟩
  obtain ⟨g, o, e, hg, hc⟩ := hc hne
  refine ⟨g, o, e, Nat.lt_of_lt_of_le hg hb.size, fun i l hi => ?_⟩
  obtain ⟨z, h1, h2⟩ := hc i l hi
  exact ⟨z, (hb.cell (p := ⟨g, o + i, none⟩) hg).trans h1, h2.below hb⟩
theorem vv_of_own {w : World} {B : Nat} {u : Value} {L : List (List Vl)} (h : VvOwn w B u L) (hl : L.length ≤ 1000) (hs : ∀ l ∈ L, l.length ≤ 1000 ∧ ∀ x ∈ l, x.s.length ≤ 140737488355328) : VvAt w u L := by
  obtain ⟨us, h1, h2, h3⟩ := h
  obtain ⟨ao, cap, e⟩ := owns_slice h2
  refine ⟨ao, cap, e, hl, fun hne => ?_⟩
  obtain ⟨g, cap', e', -, hg⟩ := owns_some h2 (by intro e0; exact hne (List.eq_nil_of_length_eq_zero e0))
  rw [e] at e'
  cases e'
  refine ⟨g, 0, rfl, hg, fun i l hi => ?_⟩
  have hi' := (List.getElem?_eq_some_iff.1 hi).1
  obtain ⟨z, hz⟩ : ∃ z, us[i]? = some z := ⟨us[i]'(by omega), List.getElem?_eq_getElem _⟩
  rw [e] at h2
  have hc := h2.cellAt i (by omega)
  rw [hz] at hc
  rw [Nat.zero_add]
  obtain ⟨a, b⟩ := hs l (List.mem_of_getElem? hi)
  exact ⟨z, hc, vs_of_own (h3 i z l hz hi) a b⟩
theorem sameRows_any (L : List (List Vl)) (u v : Value) (w : World) (h : VvAt w u L) (h' : VvAt w v L) : Calls Tryz.prog 12 #[u, v] w fun e w' => e = .returned (.bool true) ∧ Below w.heap.size w w' := by
  have hU := fun (W : World) (hW : Below w.heap.size w W) => h.below hW
  have hV := fun (W : World) (hW : Below w.heap.size w W) => h'.below hW
  obtain ⟨ao, cap, rfl, h1, -⟩ := h
  obtain ⟨ao', cap', rfl, -, -⟩ := h'
  obtain ⟨n, hn⟩ : ∃ n, L.length = n := ⟨_, rfl⟩
  have HN := hide hn
  rw [hn] at h1 hU hV ⊢
  clear hn
  go_enter Tryz.func12, Tryz.ntmps12
  go_wp2
  go_loopw [5] (fun i wl => ∃ k : Nat, k ≤ n ∧ i = .int .i64 k ∧ Below w.heap.size w wl) (fun i _ => n - (intOf i).toNat)
  case atStart => exact ⟨0, Nat.zero_le _, rfl, Below.refl _ _⟩
  case round =>
    obtain ⟨k, hk, rfl, hnx⟩ := hrel
    by_cases hlt : k < n
    · obtain ⟨l, hl⟩ : ∃ l, L[k]? = some l := ⟨L[k]'(by rw [HN.out]; exact hlt), List.getElem?_eq_getElem _⟩
      have hne : L ≠ [] := by intro e; rw [e] at hl; cases hl
      obtain ⟨a1, p1, ea, -, hA⟩ := hU wr hnx
      obtain ⟨a2, p2, eb, -, hB⟩ := hV wr hnx
      obtain rfl : ao = a1 := by cases ea; rfl
      obtain rfl : ao' = a2 := by cases eb; rfl
      clear ea eb
      obtain ⟨g, o, rfl, hg, hA⟩ := hA hne
      obtain ⟨g', o', rfl, hg', hB⟩ := hB hne
      obtain ⟨x, c0, hx⟩ := hA k l hl
      obtain ⟨y, f0, hy⟩ := hB k l hl
      have hlt' : (k : Int) < (n : Int) := by omega
      have hc1 := same_vals l x y wr hx hy
      have hc2 := same_vals l x y wr.drew (hx.below (Below.refl _ _).drew) (hy.below (Below.refl _ _).drew)
      clear hA hB hl hne hU hV hx hy
      go_wp2_with fail
      go_region_law (go_simp; refine (by first | exact hc1 | exact hc2 : Calls Tryz.prog 22 _ _ _).mono ?_; rintro e w7 ⟨rfl, b7⟩; have B1 : Hid (Below w.heap.size w w7) := hide (by first | exact hnx.trans (b7.mono hnx.size) | exact hnx.drew.trans (b7.mono hnx.drew.size)); clear b7; dsimp only)
      all_goals
        have q8 := B1.out
        clear B1 c0 f0 hc1 hc2
        go_wp2
        go_roundw
        case rel => exact ⟨k + 1, by omega, by go_num, q8⟩
        case measure => simp [intOf]; omega
    · clear hU hV
      go_wp2
      go_ret
      exact ⟨rfl, hnx⟩
theorem vsv_one {w : World} {g : Nat} {x : Vl} (hg : w.heap[g]? = some (.cells #[.int .i64 x.k, .int .i64 x.n, .string ⟨x.s.toArray⟩] 49)) (hs : x.s.length ≤ 1000) : VsAt w (.slice (some ⟨g, 0, none⟩) 1 1) [x] := by
  refine ⟨_, 1, rfl, by simp, by simp; omega, fun _ => ⟨g, 0, rfl, (ltS hg), fun i y hy => ?_⟩⟩
  cases i with
  | zero => simp at hy; subst hy; exact ⟨(Lib.cell_of_heap hg _).trans rfl, (Lib.cell_of_heap hg _).trans rfl, (Lib.cell_of_heap hg _).trans rfl⟩
  | succ i => simp at hy
theorem vs_two {w : World} {g : Nat} {x y : Vl} (t : TypeId) (hg : w.heap[g]? = some (.cells #[.int .i64 x.k, .int .i64 x.n, .string ⟨x.s.toArray⟩, .int .i64 y.k, .int .i64 y.n, .string ⟨y.s.toArray⟩] t)) (hs : x.s.length ≤ 1000) (hs' : y.s.length ≤ 1000) : VsAt w (.slice (some ⟨g, 0, none⟩) 2 2) [x, y] := by
  refine ⟨_, 2, rfl, by simp, by simp; omega, fun _ => ⟨g, 0, rfl, (ltS hg), fun i z hz => ?_⟩⟩
  match i, hz with
  | 0, hz => simp at hz; subst hz; exact ⟨(Lib.cell_of_heap hg _).trans rfl, (Lib.cell_of_heap hg _).trans rfl, (Lib.cell_of_heap hg _).trans rfl⟩
  | 1, hz => simp at hz; subst hz; exact ⟨(Lib.cell_of_heap hg _).trans rfl, (Lib.cell_of_heap hg _).trans rfl, (Lib.cell_of_heap hg _).trans rfl⟩
  | i + 2, hz => simp at hz
theorem two_any (w : World) : Calls Tryz.prog 84 #[] w fun e w' => e = .returned (.slice (some ⟨w.heap.size, 0, none⟩) 2 2) ∧ w' = w.alloc (.cells #[.string ⟨#[97]⟩, .int .i64 1, .string ⟨#[98]⟩, .int .i64 2] 65) := by
  go_enter Tryz.func84, Tryz.ntmps84
  go_wp2
  go_ret
  exact ⟨rfl, rfl⟩
def someT : Tb := { name := [116], cols := [⟨[97], 1⟩, ⟨[98], 2⟩], ds := [⟨1, 0, 0, ⟨2, 0, [120]⟩⟩], rows := [⟨1, 0, encL [⟨1, 5, []⟩]⟩, ⟨3, 1, encL [⟨1, 4, []⟩, ⟨0, 0, []⟩]⟩], next := 4, ixs := [⟨[105], 0, 2, [⟨[49, 49, 48, 48, 48, 48, 48, 48, 48, 48, 53], 1⟩]⟩] }
def some5 (E5 E4 : List UInt8) : Tb := { name := [116], cols := [⟨[97], 1⟩, ⟨[98], 2⟩], ds := [⟨1, 0, 0, ⟨2, 0, [120]⟩⟩], rows := [⟨1, 0, E5⟩, ⟨3, 1, E4⟩], next := 4, ixs := [⟨[105], 0, 2, [⟨[49, 49, 48, 48, 48, 48, 48, 48, 48, 48, 53], 1⟩]⟩] }
theorem some_at (E5 E4 : List UInt8) (l5 : E5.length ≤ 1000) (l4 : E4.length ≤ 1000) {W : World} {g1 g2 g3 g4 g5 : Nat} (C1 : W.heap[g1]? = some (.cells #[.string ⟨#[97]⟩, .int .i64 1, .string ⟨#[98]⟩, .int .i64 2] 65)) (C2 : W.heap[g2]? = some (.cells #[.int .i64 1, .int .i64 0, .int .i64 0, .int .i64 2, .int .i64 0, .string ⟨#[120]⟩] 51))
    (C3 : W.heap[g3]? = some (.cells #[.int .i64 1, .int .i64 0, .string ⟨E5.toArray⟩, .int .i64 3, .int .i64 1, .string ⟨E4.toArray⟩] 39)) (C4 : W.heap[g4]? = some (.cells #[.string ⟨#[49, 49, 48, 48, 48, 48, 48, 48, 48, 48, 53]⟩, .int .i64 1] 111)) (A3 : W.heap[g5]? = some (.cells #[.string ⟨#[105]⟩, .int .i64 0, .int .i64 2, .slice (some ⟨g4, 0, none⟩) 1 1] 73)) :
    TbIn W (.slice (some ⟨g1, 0, none⟩) 2 2) (.slice (some ⟨g2, 0, none⟩) 1 1) (.slice (some ⟨g3, 0, none⟩) 2 2) (.slice (some ⟨g5, 0, none⟩) 1 1) (some5 E5 E4) := by
  refine ⟨⟨by simp [some5], ?_, ⟨_, _, _, rfl, Nat.le_refl _⟩, by intro x hx; simp [some5] at hx; rcases hx with rfl | rfl <;> decide, ?_, vs_two (x := ⟨1, 0, E5⟩) (y := ⟨3, 1, E4⟩) 39 C3 l5 l4, ?_⟩, ?_, ?_, ?_, ?_, ?_⟩
  · refine ⟨_, 2, rfl, by simp [some5], fun _ => ⟨g1, 0, rfl, (ltS C1), fun i c hc => ?_⟩⟩
    match i, hc with
    | 0, hc => simp [some5] at hc; subst hc; exact ⟨(Lib.cell_of_heap C1 _).trans rfl, (Lib.cell_of_heap C1 _).trans rfl⟩
    | 1, hc => simp [some5] at hc; subst hc; exact ⟨(Lib.cell_of_heap C1 _).trans rfl, (Lib.cell_of_heap C1 _).trans rfl⟩
    | i + 2, hc => simp [some5] at hc
  · refine ds_new W g2 _ _ 1 rfl (by decide) (by intro x hx; simp [some5] at hx; subst hx; decide) C2 (fun i x hx => ?_)
    match i, hx with
    | 0, hx => simp [some5] at hx; subst hx; exact ⟨rfl, rfl, rfl, rfl, rfl, rfl⟩
    | i + 1, hx => simp [some5] at hx
  · refine ⟨_, 1, rfl, Nat.le_refl _, by simp [some5], by intro x hx; simp [some5] at hx; subst hx; decide, fun _ => ⟨g5, 0, rfl, (ltS A3), fun i x hx => ?_⟩⟩
    match i, hx with
    | 0, hx =>
      simp [some5] at hx
      subst hx
      refine ⟨.slice (some ⟨g4, 0, none⟩) 1 1, (Lib.cell_of_heap A3 _).trans rfl, (Lib.cell_of_heap A3 _).trans rfl, (Lib.cell_of_heap A3 _).trans rfl, (Lib.cell_of_heap A3 _).trans rfl, ?_, by intro y hy; simp at hy; subst hy; decide⟩
      refine ⟨_, 1, rfl, by decide, fun _ => ⟨g4, 0, rfl, (ltS C4), fun i c hc => ?_⟩⟩
      match i, hc with
      | 0, hc => simp at hc; subst hc; exact ⟨(Lib.cell_of_heap C4 _).trans rfl, (Lib.cell_of_heap C4 _).trans rfl⟩
      | i + 1, hc => simp at hc
    | i + 1, hx => simp [some5] at hx
  · intro ao n cap e h; cases e; cases h
  · intro ao n cap e h; cases e; cases h
  · intro ao n cap e h; cases e; cases h
  · intro ao n cap e h; cases e; cases h
  · intro g o n cap e i ev hi hv
    cases e
    have hi0 : i = 0 := by simp [some5] at hi; omega
    subst hi0
    have : W.cell? ⟨g5, 3, none⟩ = some (.slice (some ⟨g4, 0, none⟩) 1 1) := (Lib.cell_of_heap A3 _).trans rfl
    simp at hv
    rw [this] at hv
    cases hv
    intro ao n cap e h; cases e; cases h
theorem some_any (w : World) : Calls Tryz.prog 39 #[] w fun e w' => ∃ cu du ru iu, e = .returned (tbV [116] cu du ru 4 iu) ∧ TbIn w' cu du ru iu someT ∧ Below w.heap.size w w' := by
  have e5 : chkL [⟨1, 5, []⟩] = 0 := by decide +kernel
  have e4 : chkL [⟨1, 4, []⟩, ⟨0, 0, []⟩] = 0 := by decide +kernel
  have l5 : (encL [⟨1, 5, []⟩]).length ≤ 1000 := by decide +kernel
  have l4 : (encL [⟨1, 4, []⟩, ⟨0, 0, []⟩]).length ≤ 1000 := by decide +kernel
  obtain ⟨E5, h5⟩ : ∃ E5, encL [⟨1, 5, []⟩] = E5 := ⟨_, rfl⟩
  obtain ⟨E4, h4⟩ : ∃ E4, encL [⟨1, 4, []⟩, ⟨0, 0, []⟩] = E4 := ⟨_, rfl⟩
  have hT : someT = some5 E5 E4 := by rw [← h5, ← h4]; rfl
  rw [h5] at l5
  rw [h4] at l4
  have H5 := hide h5
  have H4 := hide h4
  have HT := hide hT
  clear h5 h4 hT
  have q0 : Below w.heap.size w (w.alloc (.cells #[.string ⟨#[]⟩, .slice none 0 0, .slice none 0 0, .slice none 0 0, .int .i64 0, .slice none 0 0] 27)) := (Below.refl _ _).alloc (Nat.le_refl _) _
  have k0 := heap_alloc_new w (.cells #[.string ⟨#[]⟩, .slice none 0 0, .slice none 0 0, .slice none 0 0, .int .i64 0, .slice none 0 0] 27)
  have s0 : (w.alloc (.cells #[.string ⟨#[]⟩, .slice none 0 0, .slice none 0 0, .slice none 0 0, .int .i64 0, .slice none 0 0] 27)).heap.size = w.heap.size + 1 := by simp
  go_enter Tryz.func39, Tryz.ntmps39
  go_wp2_with fail
  generalize (w.alloc (.cells #[.string ⟨#[]⟩, .slice none 0 0, .slice none 0 0, .slice none 0 0, .int .i64 0, .slice none 0 0] 27)) = w0 at *
  refine (two_any w0).mono ?_
  rintro e w1 ⟨rfl, hw1⟩
  have b1 : Below w0.heap.size w0 w1 := by rw [hw1]; exact (Below.refl _ _).alloc (Nat.le_refl _) _
  have c1 : w1.heap[w0.heap.size]? = some (.cells #[.string ⟨#[97]⟩, .int .i64 1, .string ⟨#[98]⟩, .int .i64 2] 65) := by rw [hw1]; exact heap_alloc_new _ _
  have s1 : w1.heap.size = w0.heap.size + 1 := by rw [hw1]; simp
  clear hw1
  go_wp2_with fail
  refine (txt_any _ w1).mono ?_
  rintro e w2 ⟨rfl, b2⟩
  go_wp2_with fail
  have c2 := heap_alloc_new w2 (.cells #[.int .i64 1, .int .i64 0, .int .i64 0, .int .i64 2, .int .i64 0, .string ⟨#[120]⟩] 51)
  have b3 : Below w2.heap.size w2 (w2.alloc (.cells #[.int .i64 1, .int .i64 0, .int .i64 0, .int .i64 2, .int .i64 0, .string ⟨#[120]⟩] 51)) := (Below.refl _ _).alloc (Nat.le_refl _) _
  have s3 : (w2.alloc (.cells #[.int .i64 1, .int .i64 0, .int .i64 0, .int .i64 2, .int .i64 0, .string ⟨#[120]⟩] 51)).heap.size = w2.heap.size + 1 := by simp
  generalize (w2.alloc (.cells #[.int .i64 1, .int .i64 0, .int .i64 0, .int .i64 2, .int .i64 0, .string ⟨#[120]⟩] 51)) = w3 at *
  refine (num_any 5 w3).mono ?_
  rintro e w4 ⟨rfl, b4⟩
  go_wp2_with fail
  have c4 := heap_alloc_new w4 (.cells #[.int .i64 1, .int .i64 5, .string ⟨#[]⟩] 49)
  have b5 : Below w4.heap.size w4 (w4.alloc (.cells #[.int .i64 1, .int .i64 5, .string ⟨#[]⟩] 49)) := (Below.refl _ _).alloc (Nat.le_refl _) _
  generalize (w4.alloc (.cells #[.int .i64 1, .int .i64 5, .string ⟨#[]⟩] 49)) = w5 at *
  have hx := encodeOf_any [⟨1, 5, []⟩] (.slice (some ⟨w4.heap.size, 0, none⟩) 1 1) w5 (vsv_one (x := ⟨1, 5, []⟩) c4 (by decide)) e5
  rw [H5.out] at hx
  refine hx.mono ?_
  rintro e w6 ⟨rfl, b6⟩
  clear hx
  go_wp2_with fail
  refine (num_any 4 w6).mono ?_
  rintro e w7 ⟨rfl, b7⟩
  go_wp2_with fail
  have c7 := heap_alloc_new w7 (.cells #[.int .i64 1, .int .i64 4, .string ⟨#[]⟩, .int .i64 0, .int .i64 0, .string ⟨#[]⟩] 49)
  have b8 : Below w7.heap.size w7 (w7.alloc (.cells #[.int .i64 1, .int .i64 4, .string ⟨#[]⟩, .int .i64 0, .int .i64 0, .string ⟨#[]⟩] 49)) := (Below.refl _ _).alloc (Nat.le_refl _) _
  generalize (w7.alloc (.cells #[.int .i64 1, .int .i64 4, .string ⟨#[]⟩, .int .i64 0, .int .i64 0, .string ⟨#[]⟩] 49)) = w8 at *
  have hx := encodeOf_any [⟨1, 4, []⟩, ⟨0, 0, []⟩] (.slice (some ⟨w7.heap.size, 0, none⟩) 2 2) w8 (vs_two (x := ⟨1, 4, []⟩) (y := ⟨0, 0, []⟩) 49 c7 (by decide) (by decide)) e4
  rw [H4.out] at hx
  refine hx.mono ?_
  rintro e w9 ⟨rfl, b9⟩
  clear hx
  have p9 : Below w3.heap.size w3 w9 := ((((b4.trans (b5.mono b4.size)).trans (b6.mono (Nat.le_trans b4.size b5.size))).trans (b7.mono (Nat.le_trans (Nat.le_trans b4.size b5.size) b6.size))).trans (b8.mono (Nat.le_trans (Nat.le_trans (Nat.le_trans b4.size b5.size) b6.size) b7.size))).trans (b9.mono (Nat.le_trans (Nat.le_trans (Nat.le_trans (Nat.le_trans b4.size b5.size) b6.size) b7.size) b8.size))
  have z12 : w1.heap.size ≤ w2.heap.size := b2.size
  have p1 : Below w1.heap.size w1 w9 := (b2.trans (b3.mono z12)).trans (p9.mono (by omega))
  have q9 : Below w.heap.size w w9 := (q0.trans (b1.mono q0.size)).trans (p1.mono (by omega))
  have k9 := (p1.block w.heap.size (by omega)).trans ((b1.block w.heap.size (by omega)).trans k0)
  have c9 := (p1.block w0.heap.size (by omega)).trans c1
  have d9 := (p9.block w2.heap.size (by omega)).trans c2
  have z9 := p9.size
  clear b1 b2 b3 b4 b5 b6 b7 b8 b9 c1 c2 c4 c7 p1 p9 q0 k0
  rw [s0] at c9
  have t1 : (w9.alloc (.cells #[.int .i64 1, .int .i64 0, .string ⟨E5.toArray⟩, .int .i64 3, .int .i64 1, .string ⟨E4.toArray⟩] 39)).heap.size = w9.heap.size + 1 := by simp
  have t2 : ((w9.alloc (.cells #[.int .i64 1, .int .i64 0, .string ⟨E5.toArray⟩, .int .i64 3, .int .i64 1, .string ⟨E4.toArray⟩] 39)).alloc (.cells #[.string ⟨#[49, 49, 48, 48, 48, 48, 48, 48, 48, 48, 53]⟩, .int .i64 1] 111)).heap.size = w9.heap.size + 1 + 1 := by simp
  have B1 : Below w9.heap.size w9 (w9.alloc (.cells #[.int .i64 1, .int .i64 0, .string ⟨E5.toArray⟩, .int .i64 3, .int .i64 1, .string ⟨E4.toArray⟩] 39)) := (Below.refl _ _).alloc (Nat.le_refl _) _
  have B2 : Below (w9.heap.size + 1) (w9.alloc (.cells #[.int .i64 1, .int .i64 0, .string ⟨E5.toArray⟩, .int .i64 3, .int .i64 1, .string ⟨E4.toArray⟩] 39)) ((w9.alloc (.cells #[.int .i64 1, .int .i64 0, .string ⟨E5.toArray⟩, .int .i64 3, .int .i64 1, .string ⟨E4.toArray⟩] 39)).alloc (.cells #[.string ⟨#[49, 49, 48, 48, 48, 48, 48, 48, 48, 48, 53]⟩, .int .i64 1] 111)) := (Below.refl _ _).alloc (by omega) _
  have B3 : Below (w9.heap.size + 1 + 1) ((w9.alloc (.cells #[.int .i64 1, .int .i64 0, .string ⟨E5.toArray⟩, .int .i64 3, .int .i64 1, .string ⟨E4.toArray⟩] 39)).alloc (.cells #[.string ⟨#[49, 49, 48, 48, 48, 48, 48, 48, 48, 48, 53]⟩, .int .i64 1] 111)) (((w9.alloc (.cells #[.int .i64 1, .int .i64 0, .string ⟨E5.toArray⟩, .int .i64 3, .int .i64 1, .string ⟨E4.toArray⟩] 39)).alloc (.cells #[.string ⟨#[49, 49, 48, 48, 48, 48, 48, 48, 48, 48, 53]⟩, .int .i64 1] 111)).alloc (.cells #[.string ⟨#[105]⟩, .int .i64 0, .int .i64 2, .slice (some ⟨w9.heap.size + 1, 0, none⟩) 1 1] 73)) := (Below.refl _ _).alloc (by omega) _
  have QC : Below w9.heap.size w9 (((w9.alloc (.cells #[.int .i64 1, .int .i64 0, .string ⟨E5.toArray⟩, .int .i64 3, .int .i64 1, .string ⟨E4.toArray⟩] 39)).alloc (.cells #[.string ⟨#[49, 49, 48, 48, 48, 48, 48, 48, 48, 48, 53]⟩, .int .i64 1] 111)).alloc (.cells #[.string ⟨#[105]⟩, .int .i64 0, .int .i64 2, .slice (some ⟨w9.heap.size + 1, 0, none⟩) 1 1] 73)) := (B1.trans (B2.mono (by omega))).trans (B3.mono (by omega))
  have KC : Hid ((((w9.alloc (.cells #[.int .i64 1, .int .i64 0, .string ⟨E5.toArray⟩, .int .i64 3, .int .i64 1, .string ⟨E4.toArray⟩] 39)).alloc (.cells #[.string ⟨#[49, 49, 48, 48, 48, 48, 48, 48, 48, 48, 53]⟩, .int .i64 1] 111)).alloc (.cells #[.string ⟨#[105]⟩, .int .i64 0, .int .i64 2, .slice (some ⟨w9.heap.size + 1, 0, none⟩) 1 1] 73)).heap[w.heap.size]? = some (.cells #[.string ⟨#[]⟩, .slice none 0 0, .slice none 0 0, .slice none 0 0, .int .i64 0, .slice none 0 0] 27)) := hide ((QC.block w.heap.size (by omega)).trans k9)
  have C1 := (QC.block (w.heap.size + 1) (by omega)).trans c9
  have C2 := (QC.block w2.heap.size (by omega)).trans d9
  have C3 := ((B2.trans (B3.mono (by omega))).block w9.heap.size (by omega)).trans (heap_alloc_new w9 (.cells #[.int .i64 1, .int .i64 0, .string ⟨E5.toArray⟩, .int .i64 3, .int .i64 1, .string ⟨E4.toArray⟩] 39))
  have C4 : (((w9.alloc (.cells #[.int .i64 1, .int .i64 0, .string ⟨E5.toArray⟩, .int .i64 3, .int .i64 1, .string ⟨E4.toArray⟩] 39)).alloc (.cells #[.string ⟨#[49, 49, 48, 48, 48, 48, 48, 48, 48, 48, 53]⟩, .int .i64 1] 111)).alloc (.cells #[.string ⟨#[105]⟩, .int .i64 0, .int .i64 2, .slice (some ⟨w9.heap.size + 1, 0, none⟩) 1 1] 73)).heap[w9.heap.size + 1]? = some (.cells #[.string ⟨#[49, 49, 48, 48, 48, 48, 48, 48, 48, 48, 53]⟩, .int .i64 1] 111) := by
    have := heap_alloc_new (w9.alloc (.cells #[.int .i64 1, .int .i64 0, .string ⟨E5.toArray⟩, .int .i64 3, .int .i64 1, .string ⟨E4.toArray⟩] 39)) (.cells #[.string ⟨#[49, 49, 48, 48, 48, 48, 48, 48, 48, 48, 53]⟩, .int .i64 1] 111)
    rw [t1] at this
    exact (B3.block (w9.heap.size + 1) (by omega)).trans this
  have C5 : (((w9.alloc (.cells #[.int .i64 1, .int .i64 0, .string ⟨E5.toArray⟩, .int .i64 3, .int .i64 1, .string ⟨E4.toArray⟩] 39)).alloc (.cells #[.string ⟨#[49, 49, 48, 48, 48, 48, 48, 48, 48, 48, 53]⟩, .int .i64 1] 111)).alloc (.cells #[.string ⟨#[105]⟩, .int .i64 0, .int .i64 2, .slice (some ⟨w9.heap.size + 1, 0, none⟩) 1 1] 73)).heap[w9.heap.size + 1 + 1]? = some (.cells #[.string ⟨#[105]⟩, .int .i64 0, .int .i64 2, .slice (some ⟨w9.heap.size + 1, 0, none⟩) 1 1] 73) := by
    have := heap_alloc_new ((w9.alloc (.cells #[.int .i64 1, .int .i64 0, .string ⟨E5.toArray⟩, .int .i64 3, .int .i64 1, .string ⟨E4.toArray⟩] 39)).alloc (.cells #[.string ⟨#[49, 49, 48, 48, 48, 48, 48, 48, 48, 48, 53]⟩, .int .i64 1] 111)) (.cells #[.string ⟨#[105]⟩, .int .i64 0, .int .i64 2, .slice (some ⟨w9.heap.size + 1, 0, none⟩) 1 1] 73)
    rw [t2] at this
    exact this
  have QQ : Below w.heap.size w (((w9.alloc (.cells #[.int .i64 1, .int .i64 0, .string ⟨E5.toArray⟩, .int .i64 3, .int .i64 1, .string ⟨E4.toArray⟩] 39)).alloc (.cells #[.string ⟨#[49, 49, 48, 48, 48, 48, 48, 48, 48, 48, 53]⟩, .int .i64 1] 111)).alloc (.cells #[.string ⟨#[105]⟩, .int .i64 0, .int .i64 2, .slice (some ⟨w9.heap.size + 1, 0, none⟩) 1 1] 73)) := q9.trans (QC.mono q9.size)
  have hne2 : w2.heap.size ≠ w.heap.size := by omega
  have hne9 : w9.heap.size ≠ w.heap.size := by omega
  clear t1 t2 B1 B2 B3 QC c9 d9 k9
  go_wp2_with (refine wpList_store_whole 27 _ _ rfl rfl w.heap.size [.string ⟨#[]⟩, .slice none 0 0, .slice none 0 0, .slice none 0 0, .int .i64 0, .slice none 0 0] [.string ⟨#[116]⟩, .slice (some ⟨w.heap.size + 1, 0, none⟩) 2 2, .slice (some ⟨w2.heap.size, 0, none⟩) 1 1, .slice (some ⟨w9.heap.size, 0, none⟩) 2 2, .int .i64 4, .slice (some ⟨w9.heap.size + 1 + 1, 0, none⟩) 1 1] 27 rfl rfl (by exact KC.out) rfl Tryz.size27 (by intro v hv; simp only [List.mem_cons, List.not_mem_nil, or_false] at hv; rcases hv with rfl | rfl | rfl | rfl | rfl | rfl <;> rfl) ?_; intro wd ld pd)
  have qd : Below w.heap.size w wd := by rw [pd.out]; exact below_putAll (Nat.le_refl _) _ _ _ QQ
  have HIN : TbIn wd (.slice (some ⟨w.heap.size + 1, 0, none⟩) 2 2) (.slice (some ⟨w2.heap.size, 0, none⟩) 1 1) (.slice (some ⟨w9.heap.size, 0, none⟩) 2 2) (.slice (some ⟨w9.heap.size + 1 + 1, 0, none⟩) 1 1) someT := by
    rw [HT.out]
    exact some_at E5 E4 l5 l4 (by rw [pd.out]; exact (putAll_other _ _ _ _ _ (by omega)).trans C1) (by rw [pd.out]; exact (putAll_other _ _ _ _ _ hne2).trans C2) (by rw [pd.out]; exact (putAll_other _ _ _ _ _ hne9).trans C3) (by rw [pd.out]; exact (putAll_other _ _ _ _ _ (by omega)).trans C4) (by rw [pd.out]; exact (putAll_other _ _ _ _ _ (by omega)).trans C5)
  obtain ⟨r0, r1, r2, r3, r4, r5⟩ := six_in ld
  refine bodyPost_ret (v := .agg #[.string ⟨#[116]⟩, .slice (some ⟨w.heap.size + 1, 0, none⟩) 2 2, .slice (some ⟨w2.heap.size, 0, none⟩) 1 1, .slice (some ⟨w9.heap.size, 0, none⟩) 2 2, .int .i64 4, .slice (some ⟨w9.heap.size + 1 + 1, 0, none⟩) 1 1]) ?_ rfl ⟨_, _, _, _, rfl, HIN, qd⟩
  simp [results, Tryz.results39, go_sem, r0, r1, r2, r3, r4, r5]
end Go.Proofs.YtcnnjladaoaeiaaGreatDoor
