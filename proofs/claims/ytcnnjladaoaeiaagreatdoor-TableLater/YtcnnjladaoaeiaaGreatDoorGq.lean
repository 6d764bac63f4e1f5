/-
  TableLater answers true.
  A table that came in: what its reading says of its cells.
  What the listed variables give, and a world that holds them.
-/
import Derived.ProofKit
import Derived.Deep.Slices
import Derived.Deep.Strs
import Derived.Lib.SmallJoins
import Derived.SizedLaws
import Derived.ChangeOld
import Derived.Test.YtcnnjladaoaeiaaGreatDoorRows
import Derived.LaidMore
import Derived.Stop.LaidErr
import Derived.Lib.LaidTab
import Derived.OpenShut
import Derived.MakeChecks
import Derived.Test.YtcnnjladaoaeiaaGreatDoorGa
import Derived.Test.YtcnnjladaoaeiaaGreatDoorGb
import Derived.Test.YtcnnjladaoaeiaaGreatDoorGe
import Derived.Test.YtcnnjladaoaeiaaGreatDoorGg
import Derived.Test.YtcnnjladaoaeiaaGreatDoorGo
import Derived.Test.YtcnnjladaoaeiaaGreatDoorGp

set_option maxRecDepth 100000
set_option maxHeartbeats 25600000
namespace Go.Proofs.YtcnnjladaoaeiaaGreatDoor
open Go.RowKit
theorem Tryz.size51 : (Tryz.prog.info? 51).map (·.size) = some 6 := by kernel_rfl
theorem later_no (t : Tb) (d : Dl) (nm : List UInt8) (cu du ru iu : Value) (w : World) (h : TbIn w cu du ru iu t) (hn : nm.length ≤ 140737488355328) (hd : d.v.s.length ≤ 140737488355328) (laid : Laid w) (hm : Ml w) (hF : alterF t d nm ≠ 0) :
    Calls Tryz.prog 6 #[tbV t.name cu du ru t.next iu, dlV d, .string ⟨nm.toArray⟩] w fun e w' => e = .returned (.bool true) ∧ Below w.heap.size w w' := by
  have h20 := fun (W : World) (hW : Below w.heap.size w W) => alter_no t d nm cu du ru iu W (h.below hW) hn hd (laid.below hW) (hm.below hW) hF
  obtain ⟨ca, cn, cc, hce⟩ : ∃ a n c, cu = .slice a n c := by obtain ⟨a, c, e, -⟩ := h.at'.cs; exact ⟨a, _, c, e⟩
  obtain ⟨da, dn, dc, hde⟩ : ∃ a n c, du = .slice a n c := by obtain ⟨a, c, e, -⟩ := h.at'.ds; exact ⟨a, _, c, e⟩
  obtain ⟨ra, rn, rc, hre⟩ : ∃ a n c, ru = .slice a n c := by obtain ⟨a, c, e, -⟩ := h.at'.rs; exact ⟨a, _, c, e⟩
  obtain ⟨ia, xn, ic, hie⟩ : ∃ a n c, iu = .slice a n c := by obtain ⟨a, c, e, -⟩ := h.at'.is; exact ⟨a, _, c, e⟩
  subst hce hde hre hie
  obtain ⟨E, hE⟩ : ∃ E, alterF t d nm = E := ⟨_, rfl⟩
  rw [hE] at h20 hF
  have hE0 : ¬ (E : Int) = 0 := by omega
  clear hE h
  have z1 : (w.alloc (.cells #[.string ⟨t.name.toArray⟩, .slice ca cn cc, .slice da dn dc, .slice ra rn rc, .int .i64 t.next, .slice ia xn ic] 27)).heap.size = w.heap.size + 1 := by simp
  have z0 : w.heap.size + 2 ≤ ((w.alloc (.cells #[.string ⟨t.name.toArray⟩, .slice ca cn cc, .slice da dn dc, .slice ra rn rc, .int .i64 t.next, .slice ia xn ic] 27)).alloc (.cells #[.int .i64 d.k, .int .i64 d.a, .int .i64 d.ty, .int .i64 d.v.k, .int .i64 d.v.n, .string ⟨d.v.s.toArray⟩] 51)).heap.size := by simp
  have q0 : Below w.heap.size w ((w.alloc (.cells #[.string ⟨t.name.toArray⟩, .slice ca cn cc, .slice da dn dc, .slice ra rn rc, .int .i64 t.next, .slice ia xn ic] 27)).alloc (.cells #[.int .i64 d.k, .int .i64 d.a, .int .i64 d.ty, .int .i64 d.v.k, .int .i64 d.v.n, .string ⟨d.v.s.toArray⟩] 51)) := ((Below.refl w.heap.size w).alloc (Nat.le_refl _) _).alloc (by omega) _
  have k0 : ((w.alloc (.cells #[.string ⟨t.name.toArray⟩, .slice ca cn cc, .slice da dn dc, .slice ra rn rc, .int .i64 t.next, .slice ia xn ic] 27)).alloc (.cells #[.int .i64 d.k, .int .i64 d.a, .int .i64 d.ty, .int .i64 d.v.k, .int .i64 d.v.n, .string ⟨d.v.s.toArray⟩] 51)).heap[w.heap.size]? = some (.cells #[.string ⟨t.name.toArray⟩, .slice ca cn cc, .slice da dn dc, .slice ra rn rc, .int .i64 t.next, .slice ia xn ic] 27) := (Below.heap_alloc (w.alloc (.cells #[.string ⟨t.name.toArray⟩, .slice ca cn cc, .slice da dn dc, .slice ra rn rc, .int .i64 t.next, .slice ia xn ic] 27)) _ _ (by omega)).trans (heap_alloc_new w _)
  have l0 : ((w.alloc (.cells #[.string ⟨t.name.toArray⟩, .slice ca cn cc, .slice da dn dc, .slice ra rn rc, .int .i64 t.next, .slice ia xn ic] 27)).alloc (.cells #[.int .i64 d.k, .int .i64 d.a, .int .i64 d.ty, .int .i64 d.v.k, .int .i64 d.v.n, .string ⟨d.v.s.toArray⟩] 51)).heap[w.heap.size + 1]? = some (.cells #[.int .i64 d.k, .int .i64 d.a, .int .i64 d.ty, .int .i64 d.v.k, .int .i64 d.v.n, .string ⟨d.v.s.toArray⟩] 51) := by
    have := heap_alloc_new (w.alloc (.cells #[.string ⟨t.name.toArray⟩, .slice ca cn cc, .slice da dn dc, .slice ra rn rc, .int .i64 t.next, .slice ia xn ic] 27)) (.cells #[.int .i64 d.k, .int .i64 d.a, .int .i64 d.ty, .int .i64 d.v.k, .int .i64 d.v.n, .string ⟨d.v.s.toArray⟩] 51)
    rw [z1] at this
    exact this
  clear z1
  unfold tbV dlV at *
  go_enter Tryz.func6, Tryz.ntmps6
  go_wp2_with fail
  generalize ((w.alloc (.cells #[.string ⟨t.name.toArray⟩, .slice ca cn cc, .slice da dn dc, .slice ra rn rc, .int .i64 t.next, .slice ia xn ic] 27)).alloc (.cells #[.int .i64 d.k, .int .i64 d.a, .int .i64 d.ty, .int .i64 d.v.k, .int .i64 d.v.n, .string ⟨d.v.s.toArray⟩] 51)) = w0 at *
  refine (h20 _ q0).mono ?_
  rintro e w1 ⟨rfl, b1⟩
  have q1 := q0.trans (b1.mono q0.size)
  have kz : Hid ((w1.alloc (.cells #[.string ⟨#[]⟩, .slice none 0 0, .slice none 0 0, .slice none 0 0, .int .i64 0, .slice none 0 0] 27)).heap[w1.heap.size]? = some (.cells #[.string ⟨#[]⟩, .slice none 0 0, .slice none 0 0, .slice none 0 0, .int .i64 0, .slice none 0 0] 27)) := hide (heap_alloc_new w1 _)
  have ba : Below w1.heap.size w1 (w1.alloc (.cells #[.string ⟨#[]⟩, .slice none 0 0, .slice none 0 0, .slice none 0 0, .int .i64 0, .slice none 0 0] 27)) := (Below.refl _ _).alloc (Nat.le_refl _) _
  clear b1 q0 k0 l0 z0 h20
  go_wp2_with (refine wpList_store_whole 27 _ _ rfl rfl w1.heap.size [.string ⟨#[]⟩, .slice none 0 0, .slice none 0 0, .slice none 0 0, .int .i64 0, .slice none 0 0] [.string ⟨#[]⟩, .slice none 0 0, .slice none 0 0, .slice none 0 0, .int .i64 0, .slice none 0 0] 27 rfl rfl (by exact kz.out) rfl Tryz.size27 (by intro v hv; simp only [List.mem_cons, List.not_mem_nil, or_false] at hv; rcases hv with rfl | rfl | rfl | rfl | rfl | rfl <;> rfl) ?_; intro w2 l2 p2)
  have b2 : Below w1.heap.size w1 w2 := by rw [p2.out]; exact below_putAll (Nat.le_refl _) _ _ _ ba
  have q2 := q1.trans (b2.mono q1.size)
  have lt2 := (ltS l2)
  clear kz ba p2 b2
  refine (tbegun_any w2 (laid.below q2) (hm.below q2)).mono ?_
  rintro e w3 ⟨rfl, b3⟩
  have q3 := q2.trans (b3.mono q2.size)
  have l3 := (b3.block _ lt2).trans l2
  obtain ⟨c0, c1, c2, c3, c4, c5⟩ := six_in l3
  clear b3 l2 lt2
  go_wp2
  go_ret
  exact ⟨rfl, q3⟩
theorem Tryz.fields39 : (Tryz.prog.fieldsOf 39).toList.map (fun f => (f.name, f.type, f.offset)) = [("Number", 3, 0), ("Version", 3, 1), ("Bytes", 9, 2)] := by kernel_rfl
theorem Tryz.under39 : Tryz.prog.underlying 39 = some (.struct (Tryz.prog.fieldsOf 39)) := by kernel_rfl
theorem Tryz.stood39 : Tryz.prog.stoodInHeld 39 = false := by kernel_rfl
theorem neqSt (k a : Int) (t : ByteArray) (w : World) :
    (binOp .neq 39 (.agg #[.int .i64 k, .int .i64 a, .string t]) (.agg #[.int .i64 k, .int .i64 a, .string t])).run Tryz.prog w = .ok (.bool false) w := by
  rw [run_neq_struct, run_equalIn_struct w 9999 39 _ _ Tryz.under39 Tryz.stood39]
  obtain ⟨f0, f1, f2, hf, n0, t0, o0, n1, t1, o1, n2, t2, o2⟩ := fields_three Tryz.fields39
  rw [hf]
  simp [Op.eqFields, n0, t0, o0, n1, t1, o1, n2, t2, o2, go_sem]
theorem AlOk.apply {t : Tb} {d : Dl} {nm : List UInt8} (h : AlOk t d nm) {r : Vl} (hr : RowOk t.cols t.ds t.next r) : applyE (nowL t.ds r) [ofD d] = 0 := by
  obtain ⟨-, -, c5, -⟩ := frameN_zero h.tb.frame
  have hl := hr.len
  have hc : (checkD ((nowL t.ds r).length : Nat) [ofD d]).2 = 0 := by
    unfold checkD
    rw [if_neg (by omega), hl, ckD, if_pos h.wid]; rfl
  unfold applyE
  rw [if_neg (by omega), if_neg (by rw [hc]; simp)]
  exact now_right hr.ok
theorem AlOk.short {t : Tb} {d : Dl} {nm : List UInt8} (h : AlOk t d nm) {r : Vl} (hr : RowOk t.cols t.ds t.next r) : (rowB (nowL t.ds r) (ofD d)).length ≤ 1000 ∧ ∀ x ∈ rowB (nowL t.ds r) (ofD d), x.s.length ≤ 140737488355328 := by
  have h1 := (h.row hr).1
  have h2 := (h.row hr).2
  have hck := frameN_zero (checkT_zero (alter_check h)).frame
  have hl := h1.len
  rw [h2] at hl
  refine ⟨by rw [hl]; have : (alterC d nm t.cols).length ≤ 5 := hck.2.2.1; omega, fun x hx => ?_⟩
  rw [← h2] at hx
  have := short_of ((badL_zero _).1 (now_right h1.ok) x hx)
  omega
theorem ds_ofD {W : World} {g : Nat} {d : Dl} {ty2 : Int} (hty : ty2 = (ofD d).ty) (hg : W.heap[g]? = some (.cells #[.int .i64 d.k, .int .i64 d.a, .int .i64 ty2, .int .i64 d.v.k, .int .i64 d.v.n, .string ⟨d.v.s.toArray⟩] 51)) (hs : d.v.s.length ≤ 140737488355328) : DsAt W (.slice (some ⟨g, 0, none⟩) 1 1) [ofD d] := by
  subst hty
  exact ds_one (d := ofD d) hg hs
theorem later_yes (t : Tb) (d : Dl) (nm : List UInt8) (cu du ru iu : Value) (w : World) (h : TbIn w cu du ru iu t) (hn : nm.length ≤ 140737488355328) (hd : d.v.s.length ≤ 140737488355328) (laid : Laid w) (hm : Ml w) (hF : alterF t d nm = 0) :
    Calls Tryz.prog 6 #[tbV t.name cu du ru t.next iu, dlV d, .string ⟨nm.toArray⟩] w fun e w' => e = .returned (.bool true) ∧ Below w.heap.size w w' := by
  have hok := alterF_zero hF
  have hsm := h.at'.sm hok.tb
  have hck := alter_check hok
  have hsm2 := sm_indexed (hok.sm hsm hn hd)
  have hvA := vals_short hok.tb
  have hvB := vals_short (checkT_zero hck)
  have hva := vals_altered hok
  have h1000 : t.rows.length ≤ 1000 := hsm.rl
  have h20 := fun (W : World) (hW : Below w.heap.size w W) => alter_ok t d nm cu du ru iu W (h.below hW) hn hd (laid.below hW) (hm.below hW) hF
  have h8 := fun (W : World) (hW : Below w.heap.size w W) => read_any t cu du ru iu W (h.at'.below hW) (laid.below hW) (hm.below hW)
  have hrs := h.at'.rs
  obtain ⟨ca, cn, cc, hce⟩ : ∃ a n c, cu = .slice a n c := by obtain ⟨a, c, e, -⟩ := h.at'.cs; exact ⟨a, _, c, e⟩
  obtain ⟨da, dn, dc, hde⟩ : ∃ a n c, du = .slice a n c := by obtain ⟨a, c, e, -⟩ := h.at'.ds; exact ⟨a, _, c, e⟩
  obtain ⟨ra, rc, hre, hr1, hr2, hr3⟩ := hrs
  obtain ⟨ia, xn, ic, hie⟩ : ∃ a n c, iu = .slice a n c := by obtain ⟨a, c, e, -⟩ := h.at'.is; exact ⟨a, _, c, e⟩
  subst hce hde hre hie
  obtain ⟨rn, hrn⟩ : ∃ n, t.rows.length = n := ⟨_, rfl⟩
  rw [hrn] at h20 h8 h1000 ⊢
  have hap1 := fun (r : Vl) (ho : RowOk t.cols t.ds t.next r) => hok.short ho
  have HAP1 := hide hap1
  clear hap1
  have HRN := hide hrn
  have HR3 := hide hr3
  have HOK := hide hok
  have HCK := hide hck
  have HSM := hide hsm2
  have HVA := hide hvA
  have HVB := hide hvB
  have HVV := hide hva
  have h8' : ∀ W : World, Below w.heap.size w W → Calls Tryz.prog 8 #[tbV t.name (.slice ca cn cc) (.slice da dn dc) (.slice ra rn rc) t.next (.slice ia xn ic)] W fun e w' => ∃ v u, e = .returned (.tuple #[v, u, .int .i64 0]) ∧ VvOwn w' W.heap.size u (valsT t) ∧ Below W.heap.size W w' := by
    intro W hW
    refine (h8 W hW).mono ?_
    rintro e w' ⟨v, u, rfl, -, hv, hb⟩
    rw [hok.check] at hv ⊢
    exact ⟨v, u, rfl, hv, hb⟩
  clear h8 hrn hr1 hr2 hr3 hok hck hsm hsm2 hvA hvB hva h hF
  have z1 : (w.alloc (.cells #[.string ⟨t.name.toArray⟩, .slice ca cn cc, .slice da dn dc, .slice ra rn rc, .int .i64 t.next, .slice ia xn ic] 27)).heap.size = w.heap.size + 1 := by simp
  have z0 : w.heap.size + 2 ≤ ((w.alloc (.cells #[.string ⟨t.name.toArray⟩, .slice ca cn cc, .slice da dn dc, .slice ra rn rc, .int .i64 t.next, .slice ia xn ic] 27)).alloc (.cells #[.int .i64 d.k, .int .i64 d.a, .int .i64 d.ty, .int .i64 d.v.k, .int .i64 d.v.n, .string ⟨d.v.s.toArray⟩] 51)).heap.size := by simp
  have q0 : Below w.heap.size w ((w.alloc (.cells #[.string ⟨t.name.toArray⟩, .slice ca cn cc, .slice da dn dc, .slice ra rn rc, .int .i64 t.next, .slice ia xn ic] 27)).alloc (.cells #[.int .i64 d.k, .int .i64 d.a, .int .i64 d.ty, .int .i64 d.v.k, .int .i64 d.v.n, .string ⟨d.v.s.toArray⟩] 51)) := ((Below.refl w.heap.size w).alloc (Nat.le_refl _) _).alloc (by omega) _
  have k0 : ((w.alloc (.cells #[.string ⟨t.name.toArray⟩, .slice ca cn cc, .slice da dn dc, .slice ra rn rc, .int .i64 t.next, .slice ia xn ic] 27)).alloc (.cells #[.int .i64 d.k, .int .i64 d.a, .int .i64 d.ty, .int .i64 d.v.k, .int .i64 d.v.n, .string ⟨d.v.s.toArray⟩] 51)).heap[w.heap.size]? = some (.cells #[.string ⟨t.name.toArray⟩, .slice ca cn cc, .slice da dn dc, .slice ra rn rc, .int .i64 t.next, .slice ia xn ic] 27) := (Below.heap_alloc (w.alloc (.cells #[.string ⟨t.name.toArray⟩, .slice ca cn cc, .slice da dn dc, .slice ra rn rc, .int .i64 t.next, .slice ia xn ic] 27)) _ _ (by omega)).trans (heap_alloc_new w _)
  have l0 : ((w.alloc (.cells #[.string ⟨t.name.toArray⟩, .slice ca cn cc, .slice da dn dc, .slice ra rn rc, .int .i64 t.next, .slice ia xn ic] 27)).alloc (.cells #[.int .i64 d.k, .int .i64 d.a, .int .i64 d.ty, .int .i64 d.v.k, .int .i64 d.v.n, .string ⟨d.v.s.toArray⟩] 51)).heap[w.heap.size + 1]? = some (.cells #[.int .i64 d.k, .int .i64 d.a, .int .i64 d.ty, .int .i64 d.v.k, .int .i64 d.v.n, .string ⟨d.v.s.toArray⟩] 51) := by
    have := heap_alloc_new (w.alloc (.cells #[.string ⟨t.name.toArray⟩, .slice ca cn cc, .slice da dn dc, .slice ra rn rc, .int .i64 t.next, .slice ia xn ic] 27)) (.cells #[.int .i64 d.k, .int .i64 d.a, .int .i64 d.ty, .int .i64 d.v.k, .int .i64 d.v.n, .string ⟨d.v.s.toArray⟩] 51)
    rw [z1] at this
    exact this
  clear z1
  unfold tbV dlV at *
  go_enter Tryz.func6, Tryz.ntmps6
  go_wp2_with fail
  generalize ((w.alloc (.cells #[.string ⟨t.name.toArray⟩, .slice ca cn cc, .slice da dn dc, .slice ra rn rc, .int .i64 t.next, .slice ia xn ic] 27)).alloc (.cells #[.int .i64 d.k, .int .i64 d.a, .int .i64 d.ty, .int .i64 d.v.k, .int .i64 d.v.n, .string ⟨d.v.s.toArray⟩] 51)) = w0 at *
  refine (h20 _ q0).mono ?_
  rintro e w1 ⟨cv, dv, rv, iv, rfl, own, b1⟩
  have q1 := q0.trans (b1.mono q0.size)
  have k1 := (b1.block w.heap.size (by omega)).trans k0
  have l1 := (b1.block (w.heap.size + 1) (by omega)).trans l0
  have z1 := Nat.le_trans z0 b1.size
  obtain ⟨ca_, cn_, cc_, rfl⟩ : ∃ a n c, cv = .slice a n c := by obtain ⟨a, c, e⟩ := owns_slice own.cs; exact ⟨a, _, c, e⟩
  obtain ⟨da_, dn_, dc_, rfl⟩ : ∃ a n c, dv = .slice a n c := by obtain ⟨a, c, e⟩ := owns_slice own.ds; exact ⟨a, _, c, e⟩
  obtain ⟨ra_, rc_, rfl⟩ : ∃ a c, rv = .slice a rn c := by obtain ⟨a, c, e⟩ := owns_slice own.rs; exact ⟨a, c, by rw [e, ← HRN.out]; rfl⟩
  obtain ⟨ia_, xn_, ic_, rfl⟩ : ∃ a n c, iv = .slice a n c := by obtain ⟨evs, -, h, -⟩ := own.is; obtain ⟨a, c, e⟩ := owns_slice h; exact ⟨a, _, c, e⟩
  have kz : Hid ((w1.alloc (.cells #[.string ⟨#[]⟩, .slice none 0 0, .slice none 0 0, .slice none 0 0, .int .i64 0, .slice none 0 0] 27)).heap[w1.heap.size]? = some (.cells #[.string ⟨#[]⟩, .slice none 0 0, .slice none 0 0, .slice none 0 0, .int .i64 0, .slice none 0 0] 27)) := hide (heap_alloc_new w1 _)
  have ba : Below w1.heap.size w1 (w1.alloc (.cells #[.string ⟨#[]⟩, .slice none 0 0, .slice none 0 0, .slice none 0 0, .int .i64 0, .slice none 0 0] 27)) := (Below.refl _ _).alloc (Nat.le_refl _) _
  have OWN := hide own
  clear own b1 q0 k0 l0 h20
  go_wp2_with (refine wpList_store_whole 27 _ _ rfl rfl w1.heap.size [.string ⟨#[]⟩, .slice none 0 0, .slice none 0 0, .slice none 0 0, .int .i64 0, .slice none 0 0] [.string ⟨t.name.toArray⟩, .slice ca_ cn_ cc_, .slice da_ dn_ dc_, .slice ra_ rn rc_, .int .i64 t.next, .slice ia_ xn_ ic_] 27 rfl rfl (by exact kz.out) rfl Tryz.size27 (by intro v hv; simp only [List.mem_cons, List.not_mem_nil, or_false] at hv; rcases hv with rfl | rfl | rfl | rfl | rfl | rfl <;> rfl) ?_; intro w2 l2 p2)
  have b2 : Below w1.heap.size w1 w2 := by rw [p2.out]; exact below_putAll (Nat.le_refl _) _ _ _ ba
  have lt2 := (ltS l2)
  obtain ⟨pu, hpu⟩ : ∃ pu, w1.heap.size = pu := ⟨_, rfl⟩
  rw [hpu] at l2 lt2 b2 z1 ⊢
  have k2 := (b2.block w.heap.size (by omega)).trans k1
  have e2 := (b2.block (w.heap.size + 1) (by omega)).trans l1
  have q2 : Below w.heap.size w w2 := q1.trans (b2.mono (by omega))
  have O2 : Hid (TbOwn w2 (w.heap.size + 2) (.slice ca_ cn_ cc_) (.slice da_ dn_ dc_) (.slice ra_ rn rc_) (.slice ia_ xn_ ic_) (alterT t d nm)) := hide ((OWN.out.below (by rw [hpu]; exact b2)).lower (by omega))
  clear kz ba p2 b2 k1 l1 OWN hpu z0
  refine (tbegun_any w2 (laid.below q2) (hm.below q2)).mono ?_
  rintro e w3 ⟨rfl, b3⟩
  have q3 := q2.trans (b3.mono q2.size)
  have z3 : w.heap.size + 2 ≤ w2.heap.size := by omega
  have k3 := (b3.block w.heap.size (by omega)).trans k2
  have e3 := (b3.block (w.heap.size + 1) (by omega)).trans e2
  have l3 := (b3.block pu lt2).trans l2
  have lt3 := Nat.lt_of_lt_of_le lt2 b3.size
  have O3 := hide (O2.out.below b3)
  have z3' := Nat.le_trans z3 b3.size
  clear b3 k2 e2 l2 lt2 O2 z3
  obtain ⟨a0, a1, a2, a3, a4, a5⟩ := six_in k3
  go_wp2_with fail
  refine (h8' _ q3).mono ?_
  rintro e w4 ⟨vn, ua, rfl, hA, b4⟩
  have q4 := q3.trans (b4.mono q3.size)
  have k4 := (b4.block w.heap.size (by omega)).trans k3
  have e4 := (b4.block (w.heap.size + 1) (by omega)).trans e3
  have l4 := (b4.block pu lt3).trans l3
  have lt4 := Nat.lt_of_lt_of_le lt3 b4.size
  have z4 := Nat.le_trans z3' b4.size
  have O4 := hide (O3.out.below b4)
  have VA4 := hide (vv_of_own hA (by show (t.rows.map _).length ≤ 1000; rw [List.length_map, HRN.out]; exact h1000) HVA.out)
  have hua : ∃ a c, ua = .slice a rn c := by obtain ⟨a, c, e, -⟩ := VA4.out; exact ⟨a, c, by rw [e]; show Value.slice a (t.rows.map _).length c = _; rw [List.length_map, HRN.out]⟩
  obtain ⟨aa, ac, rfl⟩ := hua
  clear a0 a1 a2 a3 a4 a5 hA b4 k3 e3 l3 lt3 z3' O3 h8'
  obtain ⟨a0, a1, a2, a3, a4, a5⟩ := six_in l4
  have h8u := read_any (alterT t d nm) _ _ _ _ w4 (O4.out.tbIn HSM.out).at' (laid.below q4) (hm.below q4)
  rw [HCK.out, if_pos rfl, if_pos rfl] at h8u
  unfold tbV at h8u
  have H8U := hide h8u
  clear h8u
  go_wp2_with fail
  refine H8U.out.mono ?_
  rintro e w5 ⟨vm, ub, rfl, -, hB, b5⟩
  have q5 := q4.trans (b5.mono q4.size)
  have k5 := (b5.block w.heap.size (by omega)).trans k4
  have e5 := (b5.block (w.heap.size + 1) (by omega)).trans e4
  have l5 := (b5.block pu lt4).trans l4
  have lt5 := Nat.lt_of_lt_of_le lt4 b5.size
  have z5 := Nat.le_trans z4 b5.size
  have O5 := hide (O4.out.below b5)
  have VA5 := hide (VA4.out.below b5)
  have VB5 := hide (vv_of_own hB (by show (t.rows.map _).length ≤ 1000; rw [List.length_map, HRN.out]; exact h1000) HVB.out)
  have hub : ∃ a c, ub = .slice a rn c := by obtain ⟨a, c, e, -⟩ := VB5.out; exact ⟨a, c, by rw [e]; show Value.slice a (t.rows.map _).length c = _; rw [List.length_map, HRN.out]⟩
  obtain ⟨bb, bc, rfl⟩ := hub
  clear a0 a1 a2 a3 a4 a5 hB b5 k4 e4 l4 lt4 z4 O4 VA4 H8U
  obtain ⟨a0, a1, a2, a3, a4, a5⟩ := six_in l5
  obtain ⟨x0, x1, x2, x3, x4, x5⟩ := six_in k5
  have h11u := tcheck_any (alterT t d nm) _ _ _ _ w5 (O5.out.tbIn HSM.out).at' (laid.below q5) (hm.below q5)
  rw [HCK.out] at h11u
  unfold tbV at h11u
  have H11 := hide h11u
  clear h11u
  go_wp2_with fail
  refine H11.out.mono ?_
  rintro e w6 ⟨rfl, b6⟩
  have q6 := q5.trans (b6.mono q5.size)
  have k6 := (b6.block w.heap.size (by omega)).trans k5
  have e6 := (b6.block (w.heap.size + 1) (by omega)).trans e5
  have l6 := (b6.block pu lt5).trans l5
  have lt6 := Nat.lt_of_lt_of_le lt5 b6.size
  have z6 := Nat.le_trans z5 b6.size
  have O6 := hide (O5.out.below b6)
  have VA6 := hide (VA5.out.below b6)
  have VB6 := hide (VB5.out.below b6)
  have kz : Hid ((w6.alloc (.cells #[.int .i64 0, .int .i64 0, .int .i64 0, .int .i64 0, .int .i64 0, .string ⟨#[]⟩] 51)).heap[w6.heap.size]? = some (.cells #[.int .i64 0, .int .i64 0, .int .i64 0, .int .i64 0, .int .i64 0, .string ⟨#[]⟩] 51)) := hide (heap_alloc_new w6 _)
  have ba : Below w6.heap.size w6 (w6.alloc (.cells #[.int .i64 0, .int .i64 0, .int .i64 0, .int .i64 0, .int .i64 0, .string ⟨#[]⟩] 51)) := (Below.refl _ _).alloc (Nat.le_refl _) _
  clear a0 a1 a2 a3 a4 a5 x0 x1 x2 x3 x4 x5 b6 k5 e5 l5 lt5 z5 O5 VA5 VB5 H11
  obtain ⟨a0, a1, a2, a3, a4, a5⟩ := six_in e6
  have HTY : Hid (∀ ty2 : Int, ty2 = (if d.k = 1 then 0 else d.ty) → ty2 = (ofD d).ty) := fun ty2 h => h
  have hpu6 : pu < w6.heap.size := lt6
  have ea6 : w.heap.size + 1 < w6.heap.size := by omega
  have E6 := hide e6
  have BA := hide ba
  clear HCK HSM HVA HVB a0 a1 a2 a3 a4 a5 e6 ba
  obtain ⟨a0, a1, a2, a3, a4, a5⟩ := six_in E6.out
  by_cases hk : d.k = 1
  · have hty2 := HTY.out 0 (by rw [if_pos hk])
    have HK := hide hk
    have HT2 := hide hty2
    clear hk hty2
    go_wp2_with (refine wpList_store_whole 51 _ _ rfl rfl w6.heap.size [.int .i64 0, .int .i64 0, .int .i64 0, .int .i64 0, .int .i64 0, .string ⟨#[]⟩] [.int .i64 d.k, .int .i64 d.a, .int .i64 d.ty, .int .i64 d.v.k, .int .i64 d.v.n, .string ⟨d.v.s.toArray⟩] 51 rfl rfl (by exact kz.out) rfl Tryz.size51 (by intro v hv; simp only [List.mem_cons, List.not_mem_nil, or_false] at hv; rcases hv with rfl | rfl | rfl | rfl | rfl | rfl <;> rfl) ?_; intro w7 l7 p7; have B7 : Hid (Below w6.heap.size w6 w7) := hide (by rw [p7.out]; exact below_putAll (Nat.le_refl _) _ _ _ BA.out); have c0 := (six_in ((B7.out.block (w.heap.size + 1) ea6).trans E6.out)).1; rw [HK.out] at c0; obtain ⟨d0, d1, d2, d3, d4, d5⟩ := six_in l7; have fz2 := six_frz l7 2)
    have BL : Below w6.heap.size w6 (w7.setCell ⟨w6.heap.size, 2, none⟩ (.int .i64 0)) := B7.out.setCell (p := ⟨w6.heap.size, 2, none⟩) (Nat.le_refl _) _
    have KD : (w7.setCell ⟨w6.heap.size, 2, none⟩ (.int .i64 0)).heap[w6.heap.size]? = some (.cells #[.int .i64 d.k, .int .i64 d.a, .int .i64 0, .int .i64 d.v.k, .int .i64 d.v.n, .string ⟨d.v.s.toArray⟩] 51) := by
      have := heap_setCell_same w7 w6.heap.size 2 _ 51 (.int .i64 0) l7
      simpa using this
    generalize (w7.setCell ⟨w6.heap.size, 2, none⟩ (.int .i64 0)) = wl at *
    clear c0 d0 d1 d2 d3 d4 d5 fz2 l7 B7 a0 a1 a2 a3 a4 a5 kz p7
    have KT := (BL.block w.heap.size (by omega)).trans k6
    have KU := (BL.block pu lt6).trans l6
    have QL : Below w.heap.size w wl := q6.trans (BL.mono q6.size)
    have OL := hide (O6.out.below BL)
    have VAL := hide (VA6.out.below BL)
    have VBL := hide (VB6.out.below BL)
    have szl : w6.heap.size < wl.heap.size := (ltS KD)
    clear k6 l6 O6 VA6 VB6 BL q6
    go_loopw [15] (fun i wx => ∃ k : Nat, k ≤ rn ∧ i = .int .i64 k ∧ Below wl.heap.size wl wx) (fun i _ => rn - (intOf i).toNat)
    case atStart => exact ⟨0, Nat.zero_le _, rfl, Below.refl _ _⟩
    case round =>
      obtain ⟨k, hk, rfl, hnx⟩ := hrel
      by_cases hlt : k < rn
      · obtain ⟨r, hr⟩ : ∃ r, t.rows[k]? = some r := ⟨t.rows[k]'(by rw [HRN.out]; exact hlt), List.getElem?_eq_getElem _⟩
        have ho := (HOK.out.tb.rows r (List.mem_of_getElem? hr)).2
        have hap0 := HOK.out.apply ho
        have hla : (valsT t)[k]? = some (nowL t.ds r) := by unfold valsT; rw [List.getElem?_map, hr]; rfl
        have hlb : (valsT (alterT t d nm))[k]? = some (rowB (nowL t.ds r) (ofD d)) := by rw [HVV.out, List.getElem?_map, hla]; rfl
        obtain ⟨a1, p1, ea, -, hA0⟩ := VAL.out.below hnx
        obtain ⟨a2, p2, eb, -, hB0⟩ := VBL.out.below hnx
        obtain rfl : aa = a1 := by cases ea; rfl
        obtain rfl : bb = a2 := by cases eb; rfl
        clear ea eb
        obtain ⟨ga, oa, rfl, lga, hA⟩ := hA0 (by intro e; rw [e] at hla; cases hla)
        obtain ⟨gb, ob, rfl, lgb, hB⟩ := hB0 (by intro e; rw [e] at hlb; cases hlb)
        obtain ⟨za, ca0, hza⟩ := hA k _ hla
        obtain ⟨zb, cb0, hzb⟩ := hB k _ hlb
        obtain ⟨gr, og, rfl, lgr, hR⟩ := HR3.out (by intro e; rw [e] at hr; cases hr)
        obtain ⟨g0, g1, g2⟩ := hR k r hr
        have qx : Below w.heap.size w wr := QL.trans (hnx.mono QL.size)
        have hou : wr.ownsRow (w.heap.size + 2) 39 3 (.slice ra_ rn rc_) rn (t.rows.flatMap vlC) := by
          have h1 := owns_keep OL.out.rs hnx
          have h2 : (alterT t d nm).rows = t.rows := rfl
          rw [h2, HRN.out] at h1
          exact h1
        obtain ⟨gu, xu, e', lBu, lgu⟩ := owns_some hou (by omega)
        obtain ⟨rfl, rfl⟩ : ra_ = some ⟨gu, 0, none⟩ ∧ rc_ = xu := by cases e'; exact ⟨rfl, rfl⟩
        obtain ⟨⟨u0, u1, u2⟩, -⟩ := cells_of_row hou hr hlt
        obtain ⟨m0, m1, m2, m3, m4, m5⟩ := six_in ((hnx.block _ szl).trans KD)
        obtain ⟨-, -, -, t3, -, -⟩ := six_in ((hnx.block _ (by omega)).trans KT)
        obtain ⟨-, -, -, v3, -, -⟩ := six_in ((hnx.block _ (by omega)).trans KU)
        have sx := hnx.size
        have sq := qx.size
        have S0 : wr.cell? ⟨gb, ob + k, none⟩ = some zb ∧ wr.cell? ⟨ga, oa + k, none⟩ = some za ∧ wr.cell? ⟨w6.heap.size, 0, none⟩ = some (.int .i64 d.k) ∧ wr.cell? ⟨w6.heap.size, 1, none⟩ = some (.int .i64 d.a) ∧ wr.cell? ⟨w6.heap.size, 2, none⟩ = some (.int .i64 0) ∧ wr.cell? ⟨w6.heap.size, 3, none⟩ = some (.int .i64 d.v.k) ∧ wr.cell? ⟨w6.heap.size, 4, none⟩ = some (.int .i64 d.v.n) ∧ wr.cell? ⟨w6.heap.size, 5, none⟩ = some (.string ⟨d.v.s.toArray⟩) ∧ wr.cell? ⟨w.heap.size, 3, none⟩ = some (.slice (some ⟨gr, og, none⟩) rn rc) ∧ wr.cell? ⟨gr, og + k * 3, none⟩ = some (.int .i64 r.k) ∧ wr.cell? ⟨gr, og + k * 3 + 1, none⟩ = some (.int .i64 r.n) ∧ wr.cell? ⟨gr, og + k * 3 + 2, none⟩ = some (.string ⟨r.s.toArray⟩) ∧ wr.cell? ⟨pu, 3, none⟩ = some (.slice (some ⟨gu, 0, none⟩) rn rc_) ∧ wr.cell? ⟨gu, k * 3, none⟩ = some (.int .i64 r.k) ∧ wr.cell? ⟨gu, k * 3 + 1, none⟩ = some (.int .i64 r.n) ∧ wr.cell? ⟨gu, k * 3 + 2, none⟩ = some (.string ⟨r.s.toArray⟩) ∧ Below wr.heap.size wr wr := ⟨cb0, ca0, m0, m1, m2, m3, m4, m5, t3, (qx.cell (p := ⟨gr, og + k * 3, none⟩) lgr).trans g0, (qx.cell (p := ⟨gr, og + k * 3 + 1, none⟩) lgr).trans g1, (qx.cell (p := ⟨gr, og + k * 3 + 2, none⟩) lgr).trans g2, v3, u0, u1, u2, Below.refl _ _⟩
        have KS : ∀ W W' : World, (W.cell? ⟨gb, ob + k, none⟩ = some zb ∧ W.cell? ⟨ga, oa + k, none⟩ = some za ∧ W.cell? ⟨w6.heap.size, 0, none⟩ = some (.int .i64 d.k) ∧ W.cell? ⟨w6.heap.size, 1, none⟩ = some (.int .i64 d.a) ∧ W.cell? ⟨w6.heap.size, 2, none⟩ = some (.int .i64 0) ∧ W.cell? ⟨w6.heap.size, 3, none⟩ = some (.int .i64 d.v.k) ∧ W.cell? ⟨w6.heap.size, 4, none⟩ = some (.int .i64 d.v.n) ∧ W.cell? ⟨w6.heap.size, 5, none⟩ = some (.string ⟨d.v.s.toArray⟩) ∧ W.cell? ⟨w.heap.size, 3, none⟩ = some (.slice (some ⟨gr, og, none⟩) rn rc) ∧ W.cell? ⟨gr, og + k * 3, none⟩ = some (.int .i64 r.k) ∧ W.cell? ⟨gr, og + k * 3 + 1, none⟩ = some (.int .i64 r.n) ∧ W.cell? ⟨gr, og + k * 3 + 2, none⟩ = some (.string ⟨r.s.toArray⟩) ∧ W.cell? ⟨pu, 3, none⟩ = some (.slice (some ⟨gu, 0, none⟩) rn rc_) ∧ W.cell? ⟨gu, k * 3, none⟩ = some (.int .i64 r.k) ∧ W.cell? ⟨gu, k * 3 + 1, none⟩ = some (.int .i64 r.n) ∧ W.cell? ⟨gu, k * 3 + 2, none⟩ = some (.string ⟨r.s.toArray⟩) ∧ Below wr.heap.size wr W) → Below W.heap.size W W' → (W'.cell? ⟨gb, ob + k, none⟩ = some zb ∧ W'.cell? ⟨ga, oa + k, none⟩ = some za ∧ W'.cell? ⟨w6.heap.size, 0, none⟩ = some (.int .i64 d.k) ∧ W'.cell? ⟨w6.heap.size, 1, none⟩ = some (.int .i64 d.a) ∧ W'.cell? ⟨w6.heap.size, 2, none⟩ = some (.int .i64 0) ∧ W'.cell? ⟨w6.heap.size, 3, none⟩ = some (.int .i64 d.v.k) ∧ W'.cell? ⟨w6.heap.size, 4, none⟩ = some (.int .i64 d.v.n) ∧ W'.cell? ⟨w6.heap.size, 5, none⟩ = some (.string ⟨d.v.s.toArray⟩) ∧ W'.cell? ⟨w.heap.size, 3, none⟩ = some (.slice (some ⟨gr, og, none⟩) rn rc) ∧ W'.cell? ⟨gr, og + k * 3, none⟩ = some (.int .i64 r.k) ∧ W'.cell? ⟨gr, og + k * 3 + 1, none⟩ = some (.int .i64 r.n) ∧ W'.cell? ⟨gr, og + k * 3 + 2, none⟩ = some (.string ⟨r.s.toArray⟩) ∧ W'.cell? ⟨pu, 3, none⟩ = some (.slice (some ⟨gu, 0, none⟩) rn rc_) ∧ W'.cell? ⟨gu, k * 3, none⟩ = some (.int .i64 r.k) ∧ W'.cell? ⟨gu, k * 3 + 1, none⟩ = some (.int .i64 r.n) ∧ W'.cell? ⟨gu, k * 3 + 2, none⟩ = some (.string ⟨r.s.toArray⟩) ∧ Below wr.heap.size wr W') := by
          rintro W W' ⟨s0, s1, s2, s3, s4, s5, s6, s7, s8, s9, s10, s11, s12, s13, s14, s15, s16⟩ hb
          have sz := s16.size
          exact ⟨(hb.cell (p := ⟨gb, _, none⟩) (by show gb < _; omega)).trans s0, (hb.cell (p := ⟨ga, _, none⟩) (by show ga < _; omega)).trans s1, (hb.cell (p := ⟨w6.heap.size, _, none⟩) (by show w6.heap.size < _; omega)).trans s2, (hb.cell (p := ⟨w6.heap.size, _, none⟩) (by show w6.heap.size < _; omega)).trans s3, (hb.cell (p := ⟨w6.heap.size, _, none⟩) (by show w6.heap.size < _; omega)).trans s4, (hb.cell (p := ⟨w6.heap.size, _, none⟩) (by show w6.heap.size < _; omega)).trans s5, (hb.cell (p := ⟨w6.heap.size, _, none⟩) (by show w6.heap.size < _; omega)).trans s6, (hb.cell (p := ⟨w6.heap.size, _, none⟩) (by show w6.heap.size < _; omega)).trans s7, (hb.cell (p := ⟨w.heap.size, _, none⟩) (by show w.heap.size < _; omega)).trans s8, (hb.cell (p := ⟨gr, _, none⟩) (by show gr < _; omega)).trans s9, (hb.cell (p := ⟨gr, _, none⟩) (by show gr < _; omega)).trans s10, (hb.cell (p := ⟨gr, _, none⟩) (by show gr < _; omega)).trans s11, (hb.cell (p := ⟨pu, _, none⟩) (by show pu < _; omega)).trans s12, (hb.cell (p := ⟨gu, _, none⟩) (by show gu < _; omega)).trans s13, (hb.cell (p := ⟨gu, _, none⟩) (by show gu < _; omega)).trans s14, (hb.cell (p := ⟨gu, _, none⟩) (by show gu < _; omega)).trans s15, s16.trans (hb.mono sz)⟩
        have S1 : wr.drew.cell? ⟨gb, ob + k, none⟩ = some zb ∧ wr.drew.cell? ⟨ga, oa + k, none⟩ = some za ∧ wr.drew.cell? ⟨w6.heap.size, 0, none⟩ = some (.int .i64 d.k) ∧ wr.drew.cell? ⟨w6.heap.size, 1, none⟩ = some (.int .i64 d.a) ∧ wr.drew.cell? ⟨w6.heap.size, 2, none⟩ = some (.int .i64 0) ∧ wr.drew.cell? ⟨w6.heap.size, 3, none⟩ = some (.int .i64 d.v.k) ∧ wr.drew.cell? ⟨w6.heap.size, 4, none⟩ = some (.int .i64 d.v.n) ∧ wr.drew.cell? ⟨w6.heap.size, 5, none⟩ = some (.string ⟨d.v.s.toArray⟩) ∧ wr.drew.cell? ⟨w.heap.size, 3, none⟩ = some (.slice (some ⟨gr, og, none⟩) rn rc) ∧ wr.drew.cell? ⟨gr, og + k * 3, none⟩ = some (.int .i64 r.k) ∧ wr.drew.cell? ⟨gr, og + k * 3 + 1, none⟩ = some (.int .i64 r.n) ∧ wr.drew.cell? ⟨gr, og + k * 3 + 2, none⟩ = some (.string ⟨r.s.toArray⟩) ∧ wr.drew.cell? ⟨pu, 3, none⟩ = some (.slice (some ⟨gu, 0, none⟩) rn rc_) ∧ wr.drew.cell? ⟨gu, k * 3, none⟩ = some (.int .i64 r.k) ∧ wr.drew.cell? ⟨gu, k * 3 + 1, none⟩ = some (.int .i64 r.n) ∧ wr.drew.cell? ⟨gu, k * 3 + 2, none⟩ = some (.string ⟨r.s.toArray⟩) ∧ Below wr.heap.size wr wr.drew := ⟨cb0, ca0, m0, m1, m2, m3, m4, m5, t3, (qx.cell (p := ⟨gr, og + k * 3, none⟩) lgr).trans g0, (qx.cell (p := ⟨gr, og + k * 3 + 1, none⟩) lgr).trans g1, (qx.cell (p := ⟨gr, og + k * 3 + 2, none⟩) lgr).trans g2, v3, u0, u1, u2, (Below.refl _ _).drew⟩
        have HAP : ∀ (W : World) (g : Nat), (W.cell? ⟨gb, ob + k, none⟩ = some zb ∧ W.cell? ⟨ga, oa + k, none⟩ = some za ∧ W.cell? ⟨w6.heap.size, 0, none⟩ = some (.int .i64 d.k) ∧ W.cell? ⟨w6.heap.size, 1, none⟩ = some (.int .i64 d.a) ∧ W.cell? ⟨w6.heap.size, 2, none⟩ = some (.int .i64 0) ∧ W.cell? ⟨w6.heap.size, 3, none⟩ = some (.int .i64 d.v.k) ∧ W.cell? ⟨w6.heap.size, 4, none⟩ = some (.int .i64 d.v.n) ∧ W.cell? ⟨w6.heap.size, 5, none⟩ = some (.string ⟨d.v.s.toArray⟩) ∧ W.cell? ⟨w.heap.size, 3, none⟩ = some (.slice (some ⟨gr, og, none⟩) rn rc) ∧ W.cell? ⟨gr, og + k * 3, none⟩ = some (.int .i64 r.k) ∧ W.cell? ⟨gr, og + k * 3 + 1, none⟩ = some (.int .i64 r.n) ∧ W.cell? ⟨gr, og + k * 3 + 2, none⟩ = some (.string ⟨r.s.toArray⟩) ∧ W.cell? ⟨pu, 3, none⟩ = some (.slice (some ⟨gu, 0, none⟩) rn rc_) ∧ W.cell? ⟨gu, k * 3, none⟩ = some (.int .i64 r.k) ∧ W.cell? ⟨gu, k * 3 + 1, none⟩ = some (.int .i64 r.n) ∧ W.cell? ⟨gu, k * 3 + 2, none⟩ = some (.string ⟨r.s.toArray⟩) ∧ Below wr.heap.size wr W) → W.heap[g]? = some (.cells #[.int .i64 d.k, .int .i64 d.a, .int .i64 0, .int .i64 d.v.k, .int .i64 d.v.n, .string ⟨d.v.s.toArray⟩] 51) → Calls Tryz.prog 23 #[za, .slice (some ⟨g, 0, none⟩) 1 1] W fun e w' => ∃ x, e = .returned x ∧ Own w' W.heap.size x (rowB (nowL t.ds r) (ofD d)) ∧ Below W.heap.size W w' := by
          intro W g hS hg
          have hb := hS.2.2.2.2.2.2.2.2.2.2.2.2.2.2.2.2
          refine rap_any (nowL t.ds r) [ofD d] za _ W (hza.below hb) ?_ (ds_ofD HT2.out hg hd) hap0
          intro ao cap e _
          obtain ⟨a3, c3, e3, -⟩ := hza
          rw [e] at e3
          have h0 : (nowL t.ds r).length = 0 := by injection e3 with _ h0 _; exact h0.symm
          rw [ho.len] at h0
          have := frameN_zero HOK.out.tb.frame
          omega
        have HSV : ∀ (W : World) (x : Value) (B : Nat), (W.cell? ⟨gb, ob + k, none⟩ = some zb ∧ W.cell? ⟨ga, oa + k, none⟩ = some za ∧ W.cell? ⟨w6.heap.size, 0, none⟩ = some (.int .i64 d.k) ∧ W.cell? ⟨w6.heap.size, 1, none⟩ = some (.int .i64 d.a) ∧ W.cell? ⟨w6.heap.size, 2, none⟩ = some (.int .i64 0) ∧ W.cell? ⟨w6.heap.size, 3, none⟩ = some (.int .i64 d.v.k) ∧ W.cell? ⟨w6.heap.size, 4, none⟩ = some (.int .i64 d.v.n) ∧ W.cell? ⟨w6.heap.size, 5, none⟩ = some (.string ⟨d.v.s.toArray⟩) ∧ W.cell? ⟨w.heap.size, 3, none⟩ = some (.slice (some ⟨gr, og, none⟩) rn rc) ∧ W.cell? ⟨gr, og + k * 3, none⟩ = some (.int .i64 r.k) ∧ W.cell? ⟨gr, og + k * 3 + 1, none⟩ = some (.int .i64 r.n) ∧ W.cell? ⟨gr, og + k * 3 + 2, none⟩ = some (.string ⟨r.s.toArray⟩) ∧ W.cell? ⟨pu, 3, none⟩ = some (.slice (some ⟨gu, 0, none⟩) rn rc_) ∧ W.cell? ⟨gu, k * 3, none⟩ = some (.int .i64 r.k) ∧ W.cell? ⟨gu, k * 3 + 1, none⟩ = some (.int .i64 r.n) ∧ W.cell? ⟨gu, k * 3 + 2, none⟩ = some (.string ⟨r.s.toArray⟩) ∧ Below wr.heap.size wr W) → Own W B x (rowB (nowL t.ds r) (ofD d)) → Calls Tryz.prog 22 #[zb, x] W fun e w' => e = .returned (.bool true) ∧ Below W.heap.size W w' := by
          intro W x B hS hx
          have hb := hS.2.2.2.2.2.2.2.2.2.2.2.2.2.2.2.2
          have hsh := HAP1.out r ho
          exact same_vals _ zb x W (hzb.below hb) (vs_of_own hx hsh.1 hsh.2)
        have hq : ∀ W : World, (binOp .neq 39 (.agg #[.int .i64 r.k, .int .i64 r.n, .string ⟨r.s.toArray⟩]) (.agg #[.int .i64 r.k, .int .i64 r.n, .string ⟨r.s.toArray⟩])).run Tryz.prog W = .ok (.bool false) W := fun W => neqSt _ _ _ W
        have hlt' : (k : Int) < (rn : Int) := by omega
        have HNX := hide hnx
        replace S0 := hide S0
        replace S1 := hide S1
        replace KS := hide KS
        replace HAP := hide HAP
        replace HSV := hide HSV
        have KT' := hide KT
        have KU' := hide KU
        have KD' := hide KD
        clear KT KU KD
        clear hA0 hB0 hr ho hap0 hla hlb hA hB ca0 cb0 hza hzb hR g0 g1 g2 qx hou e' u0 u1 u2 m0 m1 m2 m3 m4 m5 t3 v3 lga lgb lgr lBu lgu sx sq hnx
        go_wp2_with fail
        go_region_held3 (fun w' => w'.cell? ⟨gb, ob + k, none⟩ = some zb ∧ w'.cell? ⟨ga, oa + k, none⟩ = some za ∧ w'.cell? ⟨w6.heap.size, 0, none⟩ = some (.int .i64 d.k) ∧ w'.cell? ⟨w6.heap.size, 1, none⟩ = some (.int .i64 d.a) ∧ w'.cell? ⟨w6.heap.size, 2, none⟩ = some (.int .i64 0) ∧ w'.cell? ⟨w6.heap.size, 3, none⟩ = some (.int .i64 d.v.k) ∧ w'.cell? ⟨w6.heap.size, 4, none⟩ = some (.int .i64 d.v.n) ∧ w'.cell? ⟨w6.heap.size, 5, none⟩ = some (.string ⟨d.v.s.toArray⟩) ∧ w'.cell? ⟨w.heap.size, 3, none⟩ = some (.slice (some ⟨gr, og, none⟩) rn rc) ∧ w'.cell? ⟨gr, og + k * 3, none⟩ = some (.int .i64 r.k) ∧ w'.cell? ⟨gr, og + k * 3 + 1, none⟩ = some (.int .i64 r.n) ∧ w'.cell? ⟨gr, og + k * 3 + 2, none⟩ = some (.string ⟨r.s.toArray⟩) ∧ w'.cell? ⟨pu, 3, none⟩ = some (.slice (some ⟨gu, 0, none⟩) rn rc_) ∧ w'.cell? ⟨gu, k * 3, none⟩ = some (.int .i64 r.k) ∧ w'.cell? ⟨gu, k * 3 + 1, none⟩ = some (.int .i64 r.n) ∧ w'.cell? ⟨gu, k * 3 + 2, none⟩ = some (.string ⟨r.s.toArray⟩) ∧ Below wr.heap.size wr w') (first | exact S1.out | exact S0.out | exact KS.out _ _ SY.out hc | exact SY.out | exact KS.out _ _ (by assumption) (by assumption) | exact KS.out _ _ SY.out (by assumption) | exact KS.out _ _ (by assumption) ((Below.refl _ _).alloc (Nat.le_refl _) _)) (first | (go_simp; refine (HAP.out ((wr.alloc (.cells #[.int .i64 d.k, .int .i64 d.a, .int .i64 0, .int .i64 d.v.k, .int .i64 d.v.n, .string ⟨d.v.s.toArray⟩] 51)).drew) wr.heap.size (KS.out _ _ S0.out (((Below.refl wr.heap.size wr).alloc (Nat.le_refl _) _).drew)) (heap_alloc_new wr _)).mono ?_; rintro e wy ⟨x, rfl, ox, hb⟩; have SY := hide (KS.out _ _ (KS.out _ _ S0.out (((Below.refl wr.heap.size wr).alloc (Nat.le_refl _) (.cells #[.int .i64 d.k, .int .i64 d.a, .int .i64 0, .int .i64 d.v.k, .int .i64 d.v.n, .string ⟨d.v.s.toArray⟩] 51)).drew)) hb); have OX := hide ox; dsimp only) | (go_simp; refine (HSV.out wy _ _ SY.out OX.out).mono ?_; rintro e wz ⟨rfl, hc⟩; dsimp only))
        rename_i hH
        have q8 := HNX.out.trans (hH.2.2.2.2.2.2.2.2.2.2.2.2.2.2.2.2.mono HNX.out.size)
        clear hH
        go_wp2
        go_roundw
        case rel => exact ⟨k + 1, by omega, by go_num, q8⟩
        case measure => simp [intOf]; omega
      · have hkn : ¬ (k : Int) < (rn : Int) := by omega
        have qe := QL.trans (hnx.mono QL.size)
        go_wp2
        go_ret
        exact ⟨rfl, qe⟩
  · have hkb : (d.k == 1) = false := by simpa using hk
    have hty2 := HTY.out d.ty (by rw [if_neg hk])
    have HT2 := hide hty2
    clear hty2
    go_wp2_with (refine wpList_store_whole 51 _ _ rfl rfl w6.heap.size [.int .i64 0, .int .i64 0, .int .i64 0, .int .i64 0, .int .i64 0, .string ⟨#[]⟩] [.int .i64 d.k, .int .i64 d.a, .int .i64 d.ty, .int .i64 d.v.k, .int .i64 d.v.n, .string ⟨d.v.s.toArray⟩] 51 rfl rfl (by exact kz.out) rfl Tryz.size51 (by intro v hv; simp only [List.mem_cons, List.not_mem_nil, or_false] at hv; rcases hv with rfl | rfl | rfl | rfl | rfl | rfl <;> rfl) ?_; intro w7 l7 p7; have B7 : Hid (Below w6.heap.size w6 w7) := hide (by rw [p7.out]; exact below_putAll (Nat.le_refl _) _ _ _ BA.out); have c0 := (six_in ((B7.out.block (w.heap.size + 1) ea6).trans E6.out)).1; obtain ⟨d0, d1, d2, d3, d4, d5⟩ := six_in l7; have fz2 := six_frz l7 2)
    have BL := B7.out
    have KD := l7
    clear c0 d0 d1 d2 d3 d4 d5 hk hkb l7 B7 a0 a1 a2 a3 a4 a5 kz p7 fz2
    have KT := (BL.block w.heap.size (by omega)).trans k6
    have KU := (BL.block pu lt6).trans l6
    have QL : Below w.heap.size w w7 := q6.trans (BL.mono q6.size)
    have OL := hide (O6.out.below BL)
    have VAL := hide (VA6.out.below BL)
    have VBL := hide (VB6.out.below BL)
    have szl : w6.heap.size < w7.heap.size := (ltS KD)
    clear k6 l6 O6 VA6 VB6 BL q6
    go_loopw [15] (fun i wx => ∃ k : Nat, k ≤ rn ∧ i = .int .i64 k ∧ Below w7.heap.size w7 wx) (fun i _ => rn - (intOf i).toNat)
    case atStart => exact ⟨0, Nat.zero_le _, rfl, Below.refl _ _⟩
    case round =>
      obtain ⟨k, hk, rfl, hnx⟩ := hrel
      by_cases hlt : k < rn
      · obtain ⟨r, hr⟩ : ∃ r, t.rows[k]? = some r := ⟨t.rows[k]'(by rw [HRN.out]; exact hlt), List.getElem?_eq_getElem _⟩
        have ho := (HOK.out.tb.rows r (List.mem_of_getElem? hr)).2
        have hap0 := HOK.out.apply ho
        have hla : (valsT t)[k]? = some (nowL t.ds r) := by unfold valsT; rw [List.getElem?_map, hr]; rfl
        have hlb : (valsT (alterT t d nm))[k]? = some (rowB (nowL t.ds r) (ofD d)) := by rw [HVV.out, List.getElem?_map, hla]; rfl
        obtain ⟨a1, p1, ea, -, hA0⟩ := VAL.out.below hnx
        obtain ⟨a2, p2, eb, -, hB0⟩ := VBL.out.below hnx
        obtain rfl : aa = a1 := by cases ea; rfl
        obtain rfl : bb = a2 := by cases eb; rfl
        clear ea eb
        obtain ⟨ga, oa, rfl, lga, hA⟩ := hA0 (by intro e; rw [e] at hla; cases hla)
        obtain ⟨gb, ob, rfl, lgb, hB⟩ := hB0 (by intro e; rw [e] at hlb; cases hlb)
        obtain ⟨za, ca0, hza⟩ := hA k _ hla
        obtain ⟨zb, cb0, hzb⟩ := hB k _ hlb
        obtain ⟨gr, og, rfl, lgr, hR⟩ := HR3.out (by intro e; rw [e] at hr; cases hr)
        obtain ⟨g0, g1, g2⟩ := hR k r hr
        have qx : Below w.heap.size w wr := QL.trans (hnx.mono QL.size)
        have hou : wr.ownsRow (w.heap.size + 2) 39 3 (.slice ra_ rn rc_) rn (t.rows.flatMap vlC) := by
          have h1 := owns_keep OL.out.rs hnx
          have h2 : (alterT t d nm).rows = t.rows := rfl
          rw [h2, HRN.out] at h1
          exact h1
        obtain ⟨gu, xu, e', lBu, lgu⟩ := owns_some hou (by omega)
        obtain ⟨rfl, rfl⟩ : ra_ = some ⟨gu, 0, none⟩ ∧ rc_ = xu := by cases e'; exact ⟨rfl, rfl⟩
        obtain ⟨⟨u0, u1, u2⟩, -⟩ := cells_of_row hou hr hlt
        obtain ⟨m0, m1, m2, m3, m4, m5⟩ := six_in ((hnx.block _ szl).trans KD)
        obtain ⟨-, -, -, t3, -, -⟩ := six_in ((hnx.block _ (by omega)).trans KT)
        obtain ⟨-, -, -, v3, -, -⟩ := six_in ((hnx.block _ (by omega)).trans KU)
        have sx := hnx.size
        have sq := qx.size
        have S0 : wr.cell? ⟨gb, ob + k, none⟩ = some zb ∧ wr.cell? ⟨ga, oa + k, none⟩ = some za ∧ wr.cell? ⟨w6.heap.size, 0, none⟩ = some (.int .i64 d.k) ∧ wr.cell? ⟨w6.heap.size, 1, none⟩ = some (.int .i64 d.a) ∧ wr.cell? ⟨w6.heap.size, 2, none⟩ = some (.int .i64 d.ty) ∧ wr.cell? ⟨w6.heap.size, 3, none⟩ = some (.int .i64 d.v.k) ∧ wr.cell? ⟨w6.heap.size, 4, none⟩ = some (.int .i64 d.v.n) ∧ wr.cell? ⟨w6.heap.size, 5, none⟩ = some (.string ⟨d.v.s.toArray⟩) ∧ wr.cell? ⟨w.heap.size, 3, none⟩ = some (.slice (some ⟨gr, og, none⟩) rn rc) ∧ wr.cell? ⟨gr, og + k * 3, none⟩ = some (.int .i64 r.k) ∧ wr.cell? ⟨gr, og + k * 3 + 1, none⟩ = some (.int .i64 r.n) ∧ wr.cell? ⟨gr, og + k * 3 + 2, none⟩ = some (.string ⟨r.s.toArray⟩) ∧ wr.cell? ⟨pu, 3, none⟩ = some (.slice (some ⟨gu, 0, none⟩) rn rc_) ∧ wr.cell? ⟨gu, k * 3, none⟩ = some (.int .i64 r.k) ∧ wr.cell? ⟨gu, k * 3 + 1, none⟩ = some (.int .i64 r.n) ∧ wr.cell? ⟨gu, k * 3 + 2, none⟩ = some (.string ⟨r.s.toArray⟩) ∧ Below wr.heap.size wr wr := ⟨cb0, ca0, m0, m1, m2, m3, m4, m5, t3, (qx.cell (p := ⟨gr, og + k * 3, none⟩) lgr).trans g0, (qx.cell (p := ⟨gr, og + k * 3 + 1, none⟩) lgr).trans g1, (qx.cell (p := ⟨gr, og + k * 3 + 2, none⟩) lgr).trans g2, v3, u0, u1, u2, Below.refl _ _⟩
        have KS : ∀ W W' : World, (W.cell? ⟨gb, ob + k, none⟩ = some zb ∧ W.cell? ⟨ga, oa + k, none⟩ = some za ∧ W.cell? ⟨w6.heap.size, 0, none⟩ = some (.int .i64 d.k) ∧ W.cell? ⟨w6.heap.size, 1, none⟩ = some (.int .i64 d.a) ∧ W.cell? ⟨w6.heap.size, 2, none⟩ = some (.int .i64 d.ty) ∧ W.cell? ⟨w6.heap.size, 3, none⟩ = some (.int .i64 d.v.k) ∧ W.cell? ⟨w6.heap.size, 4, none⟩ = some (.int .i64 d.v.n) ∧ W.cell? ⟨w6.heap.size, 5, none⟩ = some (.string ⟨d.v.s.toArray⟩) ∧ W.cell? ⟨w.heap.size, 3, none⟩ = some (.slice (some ⟨gr, og, none⟩) rn rc) ∧ W.cell? ⟨gr, og + k * 3, none⟩ = some (.int .i64 r.k) ∧ W.cell? ⟨gr, og + k * 3 + 1, none⟩ = some (.int .i64 r.n) ∧ W.cell? ⟨gr, og + k * 3 + 2, none⟩ = some (.string ⟨r.s.toArray⟩) ∧ W.cell? ⟨pu, 3, none⟩ = some (.slice (some ⟨gu, 0, none⟩) rn rc_) ∧ W.cell? ⟨gu, k * 3, none⟩ = some (.int .i64 r.k) ∧ W.cell? ⟨gu, k * 3 + 1, none⟩ = some (.int .i64 r.n) ∧ W.cell? ⟨gu, k * 3 + 2, none⟩ = some (.string ⟨r.s.toArray⟩) ∧ Below wr.heap.size wr W) → Below W.heap.size W W' → (W'.cell? ⟨gb, ob + k, none⟩ = some zb ∧ W'.cell? ⟨ga, oa + k, none⟩ = some za ∧ W'.cell? ⟨w6.heap.size, 0, none⟩ = some (.int .i64 d.k) ∧ W'.cell? ⟨w6.heap.size, 1, none⟩ = some (.int .i64 d.a) ∧ W'.cell? ⟨w6.heap.size, 2, none⟩ = some (.int .i64 d.ty) ∧ W'.cell? ⟨w6.heap.size, 3, none⟩ = some (.int .i64 d.v.k) ∧ W'.cell? ⟨w6.heap.size, 4, none⟩ = some (.int .i64 d.v.n) ∧ W'.cell? ⟨w6.heap.size, 5, none⟩ = some (.string ⟨d.v.s.toArray⟩) ∧ W'.cell? ⟨w.heap.size, 3, none⟩ = some (.slice (some ⟨gr, og, none⟩) rn rc) ∧ W'.cell? ⟨gr, og + k * 3, none⟩ = some (.int .i64 r.k) ∧ W'.cell? ⟨gr, og + k * 3 + 1, none⟩ = some (.int .i64 r.n) ∧ W'.cell? ⟨gr, og + k * 3 + 2, none⟩ = some (.string ⟨r.s.toArray⟩) ∧ W'.cell? ⟨pu, 3, none⟩ = some (.slice (some ⟨gu, 0, none⟩) rn rc_) ∧ W'.cell? ⟨gu, k * 3, none⟩ = some (.int .i64 r.k) ∧ W'.cell? ⟨gu, k * 3 + 1, none⟩ = some (.int .i64 r.n) ∧ W'.cell? ⟨gu, k * 3 + 2, none⟩ = some (.string ⟨r.s.toArray⟩) ∧ Below wr.heap.size wr W') := by
          rintro W W' ⟨s0, s1, s2, s3, s4, s5, s6, s7, s8, s9, s10, s11, s12, s13, s14, s15, s16⟩ hb
          have sz := s16.size
          exact ⟨(hb.cell (p := ⟨gb, _, none⟩) (by show gb < _; omega)).trans s0, (hb.cell (p := ⟨ga, _, none⟩) (by show ga < _; omega)).trans s1, (hb.cell (p := ⟨w6.heap.size, _, none⟩) (by show w6.heap.size < _; omega)).trans s2, (hb.cell (p := ⟨w6.heap.size, _, none⟩) (by show w6.heap.size < _; omega)).trans s3, (hb.cell (p := ⟨w6.heap.size, _, none⟩) (by show w6.heap.size < _; omega)).trans s4, (hb.cell (p := ⟨w6.heap.size, _, none⟩) (by show w6.heap.size < _; omega)).trans s5, (hb.cell (p := ⟨w6.heap.size, _, none⟩) (by show w6.heap.size < _; omega)).trans s6, (hb.cell (p := ⟨w6.heap.size, _, none⟩) (by show w6.heap.size < _; omega)).trans s7, (hb.cell (p := ⟨w.heap.size, _, none⟩) (by show w.heap.size < _; omega)).trans s8, (hb.cell (p := ⟨gr, _, none⟩) (by show gr < _; omega)).trans s9, (hb.cell (p := ⟨gr, _, none⟩) (by show gr < _; omega)).trans s10, (hb.cell (p := ⟨gr, _, none⟩) (by show gr < _; omega)).trans s11, (hb.cell (p := ⟨pu, _, none⟩) (by show pu < _; omega)).trans s12, (hb.cell (p := ⟨gu, _, none⟩) (by show gu < _; omega)).trans s13, (hb.cell (p := ⟨gu, _, none⟩) (by show gu < _; omega)).trans s14, (hb.cell (p := ⟨gu, _, none⟩) (by show gu < _; omega)).trans s15, s16.trans (hb.mono sz)⟩
        have S1 : wr.drew.cell? ⟨gb, ob + k, none⟩ = some zb ∧ wr.drew.cell? ⟨ga, oa + k, none⟩ = some za ∧ wr.drew.cell? ⟨w6.heap.size, 0, none⟩ = some (.int .i64 d.k) ∧ wr.drew.cell? ⟨w6.heap.size, 1, none⟩ = some (.int .i64 d.a) ∧ wr.drew.cell? ⟨w6.heap.size, 2, none⟩ = some (.int .i64 d.ty) ∧ wr.drew.cell? ⟨w6.heap.size, 3, none⟩ = some (.int .i64 d.v.k) ∧ wr.drew.cell? ⟨w6.heap.size, 4, none⟩ = some (.int .i64 d.v.n) ∧ wr.drew.cell? ⟨w6.heap.size, 5, none⟩ = some (.string ⟨d.v.s.toArray⟩) ∧ wr.drew.cell? ⟨w.heap.size, 3, none⟩ = some (.slice (some ⟨gr, og, none⟩) rn rc) ∧ wr.drew.cell? ⟨gr, og + k * 3, none⟩ = some (.int .i64 r.k) ∧ wr.drew.cell? ⟨gr, og + k * 3 + 1, none⟩ = some (.int .i64 r.n) ∧ wr.drew.cell? ⟨gr, og + k * 3 + 2, none⟩ = some (.string ⟨r.s.toArray⟩) ∧ wr.drew.cell? ⟨pu, 3, none⟩ = some (.slice (some ⟨gu, 0, none⟩) rn rc_) ∧ wr.drew.cell? ⟨gu, k * 3, none⟩ = some (.int .i64 r.k) ∧ wr.drew.cell? ⟨gu, k * 3 + 1, none⟩ = some (.int .i64 r.n) ∧ wr.drew.cell? ⟨gu, k * 3 + 2, none⟩ = some (.string ⟨r.s.toArray⟩) ∧ Below wr.heap.size wr wr.drew := ⟨cb0, ca0, m0, m1, m2, m3, m4, m5, t3, (qx.cell (p := ⟨gr, og + k * 3, none⟩) lgr).trans g0, (qx.cell (p := ⟨gr, og + k * 3 + 1, none⟩) lgr).trans g1, (qx.cell (p := ⟨gr, og + k * 3 + 2, none⟩) lgr).trans g2, v3, u0, u1, u2, (Below.refl _ _).drew⟩
        have HAP : ∀ (W : World) (g : Nat), (W.cell? ⟨gb, ob + k, none⟩ = some zb ∧ W.cell? ⟨ga, oa + k, none⟩ = some za ∧ W.cell? ⟨w6.heap.size, 0, none⟩ = some (.int .i64 d.k) ∧ W.cell? ⟨w6.heap.size, 1, none⟩ = some (.int .i64 d.a) ∧ W.cell? ⟨w6.heap.size, 2, none⟩ = some (.int .i64 d.ty) ∧ W.cell? ⟨w6.heap.size, 3, none⟩ = some (.int .i64 d.v.k) ∧ W.cell? ⟨w6.heap.size, 4, none⟩ = some (.int .i64 d.v.n) ∧ W.cell? ⟨w6.heap.size, 5, none⟩ = some (.string ⟨d.v.s.toArray⟩) ∧ W.cell? ⟨w.heap.size, 3, none⟩ = some (.slice (some ⟨gr, og, none⟩) rn rc) ∧ W.cell? ⟨gr, og + k * 3, none⟩ = some (.int .i64 r.k) ∧ W.cell? ⟨gr, og + k * 3 + 1, none⟩ = some (.int .i64 r.n) ∧ W.cell? ⟨gr, og + k * 3 + 2, none⟩ = some (.string ⟨r.s.toArray⟩) ∧ W.cell? ⟨pu, 3, none⟩ = some (.slice (some ⟨gu, 0, none⟩) rn rc_) ∧ W.cell? ⟨gu, k * 3, none⟩ = some (.int .i64 r.k) ∧ W.cell? ⟨gu, k * 3 + 1, none⟩ = some (.int .i64 r.n) ∧ W.cell? ⟨gu, k * 3 + 2, none⟩ = some (.string ⟨r.s.toArray⟩) ∧ Below wr.heap.size wr W) → W.heap[g]? = some (.cells #[.int .i64 d.k, .int .i64 d.a, .int .i64 d.ty, .int .i64 d.v.k, .int .i64 d.v.n, .string ⟨d.v.s.toArray⟩] 51) → Calls Tryz.prog 23 #[za, .slice (some ⟨g, 0, none⟩) 1 1] W fun e w' => ∃ x, e = .returned x ∧ Own w' W.heap.size x (rowB (nowL t.ds r) (ofD d)) ∧ Below W.heap.size W w' := by
          intro W g hS hg
          have hb := hS.2.2.2.2.2.2.2.2.2.2.2.2.2.2.2.2
          refine rap_any (nowL t.ds r) [ofD d] za _ W (hza.below hb) ?_ (ds_ofD HT2.out hg hd) hap0
          intro ao cap e _
          obtain ⟨a3, c3, e3, -⟩ := hza
          rw [e] at e3
          have h0 : (nowL t.ds r).length = 0 := by injection e3 with _ h0 _; exact h0.symm
          rw [ho.len] at h0
          have := frameN_zero HOK.out.tb.frame
          omega
        have HSV : ∀ (W : World) (x : Value) (B : Nat), (W.cell? ⟨gb, ob + k, none⟩ = some zb ∧ W.cell? ⟨ga, oa + k, none⟩ = some za ∧ W.cell? ⟨w6.heap.size, 0, none⟩ = some (.int .i64 d.k) ∧ W.cell? ⟨w6.heap.size, 1, none⟩ = some (.int .i64 d.a) ∧ W.cell? ⟨w6.heap.size, 2, none⟩ = some (.int .i64 d.ty) ∧ W.cell? ⟨w6.heap.size, 3, none⟩ = some (.int .i64 d.v.k) ∧ W.cell? ⟨w6.heap.size, 4, none⟩ = some (.int .i64 d.v.n) ∧ W.cell? ⟨w6.heap.size, 5, none⟩ = some (.string ⟨d.v.s.toArray⟩) ∧ W.cell? ⟨w.heap.size, 3, none⟩ = some (.slice (some ⟨gr, og, none⟩) rn rc) ∧ W.cell? ⟨gr, og + k * 3, none⟩ = some (.int .i64 r.k) ∧ W.cell? ⟨gr, og + k * 3 + 1, none⟩ = some (.int .i64 r.n) ∧ W.cell? ⟨gr, og + k * 3 + 2, none⟩ = some (.string ⟨r.s.toArray⟩) ∧ W.cell? ⟨pu, 3, none⟩ = some (.slice (some ⟨gu, 0, none⟩) rn rc_) ∧ W.cell? ⟨gu, k * 3, none⟩ = some (.int .i64 r.k) ∧ W.cell? ⟨gu, k * 3 + 1, none⟩ = some (.int .i64 r.n) ∧ W.cell? ⟨gu, k * 3 + 2, none⟩ = some (.string ⟨r.s.toArray⟩) ∧ Below wr.heap.size wr W) → Own W B x (rowB (nowL t.ds r) (ofD d)) → Calls Tryz.prog 22 #[zb, x] W fun e w' => e = .returned (.bool true) ∧ Below W.heap.size W w' := by
          intro W x B hS hx
          have hb := hS.2.2.2.2.2.2.2.2.2.2.2.2.2.2.2.2
          have hsh := HAP1.out r ho
          exact same_vals _ zb x W (hzb.below hb) (vs_of_own hx hsh.1 hsh.2)
        have hq : ∀ W : World, (binOp .neq 39 (.agg #[.int .i64 r.k, .int .i64 r.n, .string ⟨r.s.toArray⟩]) (.agg #[.int .i64 r.k, .int .i64 r.n, .string ⟨r.s.toArray⟩])).run Tryz.prog W = .ok (.bool false) W := fun W => neqSt _ _ _ W
        have hlt' : (k : Int) < (rn : Int) := by omega
        have HNX := hide hnx
        replace S0 := hide S0
        replace S1 := hide S1
        replace KS := hide KS
        replace HAP := hide HAP
        replace HSV := hide HSV
        have KT' := hide KT
        have KU' := hide KU
        have KD' := hide KD
        clear KT KU KD
        clear hA0 hB0 hr ho hap0 hla hlb hA hB ca0 cb0 hza hzb hR g0 g1 g2 qx hou e' u0 u1 u2 m0 m1 m2 m3 m4 m5 t3 v3 lga lgb lgr lBu lgu sx sq hnx
        go_wp2_with fail
        go_region_held3 (fun w' => w'.cell? ⟨gb, ob + k, none⟩ = some zb ∧ w'.cell? ⟨ga, oa + k, none⟩ = some za ∧ w'.cell? ⟨w6.heap.size, 0, none⟩ = some (.int .i64 d.k) ∧ w'.cell? ⟨w6.heap.size, 1, none⟩ = some (.int .i64 d.a) ∧ w'.cell? ⟨w6.heap.size, 2, none⟩ = some (.int .i64 d.ty) ∧ w'.cell? ⟨w6.heap.size, 3, none⟩ = some (.int .i64 d.v.k) ∧ w'.cell? ⟨w6.heap.size, 4, none⟩ = some (.int .i64 d.v.n) ∧ w'.cell? ⟨w6.heap.size, 5, none⟩ = some (.string ⟨d.v.s.toArray⟩) ∧ w'.cell? ⟨w.heap.size, 3, none⟩ = some (.slice (some ⟨gr, og, none⟩) rn rc) ∧ w'.cell? ⟨gr, og + k * 3, none⟩ = some (.int .i64 r.k) ∧ w'.cell? ⟨gr, og + k * 3 + 1, none⟩ = some (.int .i64 r.n) ∧ w'.cell? ⟨gr, og + k * 3 + 2, none⟩ = some (.string ⟨r.s.toArray⟩) ∧ w'.cell? ⟨pu, 3, none⟩ = some (.slice (some ⟨gu, 0, none⟩) rn rc_) ∧ w'.cell? ⟨gu, k * 3, none⟩ = some (.int .i64 r.k) ∧ w'.cell? ⟨gu, k * 3 + 1, none⟩ = some (.int .i64 r.n) ∧ w'.cell? ⟨gu, k * 3 + 2, none⟩ = some (.string ⟨r.s.toArray⟩) ∧ Below wr.heap.size wr w') (first | exact S1.out | exact S0.out | exact KS.out _ _ SY.out hc | exact SY.out | exact KS.out _ _ (by assumption) (by assumption) | exact KS.out _ _ SY.out (by assumption) | exact KS.out _ _ (by assumption) ((Below.refl _ _).alloc (Nat.le_refl _) _)) (first | (go_simp; refine (HAP.out ((wr.alloc (.cells #[.int .i64 d.k, .int .i64 d.a, .int .i64 d.ty, .int .i64 d.v.k, .int .i64 d.v.n, .string ⟨d.v.s.toArray⟩] 51)).drew) wr.heap.size (KS.out _ _ S0.out (((Below.refl wr.heap.size wr).alloc (Nat.le_refl _) _).drew)) (heap_alloc_new wr _)).mono ?_; rintro e wy ⟨x, rfl, ox, hb⟩; have SY := hide (KS.out _ _ (KS.out _ _ S0.out (((Below.refl wr.heap.size wr).alloc (Nat.le_refl _) (.cells #[.int .i64 d.k, .int .i64 d.a, .int .i64 d.ty, .int .i64 d.v.k, .int .i64 d.v.n, .string ⟨d.v.s.toArray⟩] 51)).drew)) hb); have OX := hide ox; dsimp only) | (go_simp; refine (HSV.out wy _ _ SY.out OX.out).mono ?_; rintro e wz ⟨rfl, hc⟩; dsimp only))
        rename_i hH
        have q8 := HNX.out.trans (hH.2.2.2.2.2.2.2.2.2.2.2.2.2.2.2.2.mono HNX.out.size)
        clear hH
        go_wp2
        go_roundw
        case rel => exact ⟨k + 1, by omega, by go_num, q8⟩
        case measure => simp [intOf]; omega
      · have hkn : ¬ (k : Int) < (rn : Int) := by omega
        have qe := QL.trans (hnx.mono QL.size)
        go_wp2
        go_ret
        exact ⟨rfl, qe⟩
theorem oc22 : Tryz.prog.cellsOf 22 = 1 := by kernel_rfl
theorem oc23 : Tryz.prog.cellsOf 23 = 1 := by kernel_rfl
theorem oc24 : Tryz.prog.cellsOf 24 = 1 := by kernel_rfl
theorem oc25 : Tryz.prog.cellsOf 25 = 1 := by kernel_rfl
theorem oc27 : Tryz.prog.cellsOf 27 = 6 := by kernel_rfl
theorem oc39 : Tryz.prog.cellsOf 39 = 3 := by kernel_rfl
theorem oc51 : Tryz.prog.cellsOf 51 = 6 := by kernel_rfl
theorem oc65 : Tryz.prog.cellsOf 65 = 2 := by kernel_rfl
theorem oc71 : Tryz.prog.cellsOf 71 = 1 := by kernel_rfl
theorem oc73 : Tryz.prog.cellsOf 73 = 4 := by kernel_rfl
theorem oc111 : Tryz.prog.cellsOf 111 = 2 := by kernel_rfl
theorem ob39 : Tryz.prog.bytesOf 39 = 32 := by kernel_rfl
theorem ob51 : Tryz.prog.bytesOf 51 = 56 := by kernel_rfl
theorem ob65 : Tryz.prog.bytesOf 65 = 24 := by kernel_rfl
theorem ob73 : Tryz.prog.bytesOf 73 = 56 := by kernel_rfl
theorem ob111 : Tryz.prog.bytesOf 111 = 24 := by kernel_rfl
theorem len2' {α : Type} {l : List α} (h : l.length = 2) : ∃ a b, l = [a, b] := by
  match l, h with
  | [a, b], _ => exact ⟨a, b, rfl⟩
theorem len4' {α : Type} {l : List α} (h : l.length = 4) : ∃ a b c d, l = [a, b, c, d] := by
  match l, h with
  | [a, b, c, d], _ => exact ⟨a, b, c, d, rfl⟩
section
variable {H : Type} {enc : TypeId × Value → H} {W : World} {spare : Nat → Bool} {held : Bool}
theorem fld {n k off : Nat} {t : TypeId} {l cs : List Value} {y : Option (DataW H × List MemPlace)} (hk : Tryz.prog.cellsOf t = k) (h : DataW.trod enc Tryz.prog W 0 spare held n t ((l.drop off).take (Tryz.prog.cellsOf t)) = y) (hc : (l.drop off).take k = cs) : DataW.trod enc Tryz.prog W 0 spare held n t cs = y := by
  rw [← hc, ← hk]; exact h
structure SeqAt (W : World) (v : Value) {α : Type} (m bs : Nat) (P : List Value → α → Prop) (L : List α) : Prop where
  ex : ∃ ao cap, v = .slice ao L.length cap ∧ L.length ≤ cap ∧ cap ≤ 9223372036854775807 ∧ L.length * bs ≤ reachBytes ∧ (ao = none → L.length = 0 ∧ cap = 0) ∧
    (L ≠ [] → ∃ g o, ao = some ⟨g, o, none⟩ ∧ g < W.heap.size ∧ ∀ i y, L[i]? = some y → ∃ cs, (∀ q, q < m → W.cell? ⟨g, o + i * m + q, none⟩ = cs[q]?) ∧ P cs y)
theorem open_seq {α : Type} [Inhabited α] {t e : TypeId} {fuel : Nat} {v : Value} {x : DataW H × List MemPlace} (m bs : Nat) (P : List Value → α → Prop) (hm : 0 < m)
    (ht : Tryz.prog.underlying t = some (.slice e)) (hc : Tryz.prog.cellsOf e = m) (hb : Tryz.prog.bytesOf e = bs)
    (one : ∀ {fuel : Nat} {cs : List Value} {x : DataW H × List MemPlace}, DataW.trod enc Tryz.prog W 0 spare held fuel e cs = some x → (∀ n ∈ x.1.weights Tryz.prog e, n ≤ reachBytes) → ∃ y : α, cs.length = m ∧ P cs y)
    (h : DataW.trod enc Tryz.prog W 0 spare held fuel t [v] = some x) (hsz : ∀ n ∈ x.1.weights Tryz.prog t, n ≤ reachBytes) : ∃ L : List α, SeqAt W v m bs P L := by
  have hmx : maxLen = 9223372036854775807 := by rfl
  rcases Deep.open_slice ht h with ⟨hcs, _⟩ | ⟨a, l, c, m', n, D, Pl, hcs, hb', hl, hm', hmm, hx, hel⟩
  · simp at hcs
    subst hcs
    exact ⟨[], ⟨none, 0, rfl, Nat.le_refl _, by decide, by simp, fun _ => ⟨rfl, rfl⟩, fun e => absurd rfl e⟩⟩
  · simp at hcs
    subst hcs
    have hlm : l ≤ m' := by rw [hmm]; split <;> omega
    have hex : ∀ i, i < l → ∃ y : α, ∃ cs, W.cells? 0 (a.add (i * m)) m = some cs ∧ cs.length = m ∧ P cs y := by
      intro i hi
      obtain ⟨cs', h1, h2⟩ := hel i (by omega)
      rw [hc] at h1
      obtain ⟨y, h3, h4⟩ := one h2 (fun n hn => by
        apply hsz
        rw [hx]
        simp only [DataW.weights, ht, List.mem_cons, List.mem_append]
        right; left
        exact mem_weightsAll (List.mem_map.2 ⟨i, by simpa using hi, rfl⟩) hn)
      exact ⟨y, cs', h1, h3, h4⟩
    obtain ⟨F, hF⟩ := Deep.choose_lt (α := α) hex
    have hw1 : (l + (m' - l)) * bs ≤ reachBytes := by
      have := hsz ((l + (m' - l)) * bs) (by rw [hx]; simp [DataW.weights, ht, hb])
      exact this
    have hw2 : l * bs ≤ (l + (m' - l)) * bs := Nat.mul_le_mul (by omega) (Nat.le_refl _)
    have hll : ((List.range l).map F).length = l := by simp
    refine ⟨(List.range l).map F, ⟨some a, c, by rw [hll], by rw [hll]; exact hl, by omega, by rw [hll]; omega, fun e => (by cases e), fun hne => ?_⟩⟩
    have h0 : 0 < l := by
      rcases Nat.eq_zero_or_pos l with h | h
      · subst h; exact absurd rfl hne
      · exact h
    obtain ⟨b, off, spot⟩ := a
    have add_plain : ∀ j, (⟨b, off, none⟩ : Addr).add j = ⟨b, off + j, none⟩ := fun j => Go.WideShapes.add_plain b off j
    have hspot : spot = none := by
      obtain ⟨cs, h1, h2, -⟩ := hF 0 h0
      have := (World.cells?_some h1).2.2 0 (by omega)
      simp only [Nat.zero_mul] at this
      have hne : cs[0]? ≠ none := by
        intro hh
        have := List.getElem?_eq_none_iff.1 hh
        omega
      obtain ⟨q, hq⟩ := Option.ne_none_iff_exists'.1 hne
      rw [hq] at this
      have := World.cell?_spot this
      simpa [Addr.add] using this
    subst hspot
    refine ⟨b, off, rfl, ?_, fun i y hy => ?_⟩
    · obtain ⟨cs, h1, -, -⟩ := hF 0 h0
      have := World.cells?_block h1 (by omega)
      simpa [Addr.add] using this
    · rw [List.getElem?_map] at hy
      obtain ⟨j, h1, h2⟩ := Option.map_eq_some_iff.1 hy
      obtain ⟨h3, h4⟩ := List.getElem?_eq_some_iff.1 h1
      simp at h3 h4
      subst h4 h2
      obtain ⟨cs, e1, e2, e3⟩ := hF i h3
      refine ⟨cs, fun q hq => ?_, e3⟩
      have := (World.cells?_some e1).2.2 q (by omega)
      rw [add_plain, Go.WideShapes.add_plain] at this
      exact this
theorem SeqAt.nil {v : Value} {α : Type} {m bs : Nat} {P : List Value → α → Prop} {L : List α} (h : SeqAt W v m bs P L) : NilOk v := by
  obtain ⟨ao, cap, rfl, -, -, -, h1, -⟩ := h.ex
  intro ao' n cap' e hn
  cases e
  exact h1 hn
def clP (cs : List Value) (y : Cl) : Prop := cs = clC y ∧ y.name.length ≤ 140737488355328
def vlP (cs : List Value) (y : Vl) : Prop := cs = vlC y ∧ y.s.length ≤ 140737488355328
def dlP (cs : List Value) (y : Dl) : Prop := cs = dlC y ∧ y.v.s.length ≤ 140737488355328
def ixQ (W : World) (cs : List Value) (x : Ix) : Prop := ∃ ev, cs = ixC x ev ∧ x.name.length ≤ 140737488355328 ∧ CsAt W ev x.es ∧ (∀ y ∈ x.es, y.name.length ≤ 140737488355328) ∧ NilOk ev
theorem open_pair {e : TypeId} {f0 f1 : Field} (he : Tryz.prog.underlying e = some (.struct #[f0, f1])) (t0 : f0.type = 9) (t1 : f1.type = 3) (o0 : f0.offset = 0) (o1 : f1.offset = 1) (hc : Tryz.prog.cellsOf e = 2) {fuel : Nat} {cs : List Value} {x : DataW H × List MemPlace}
    (h : DataW.trod enc Tryz.prog W 0 spare held fuel e cs = some x) (hsz : ∀ n ∈ x.1.weights Tryz.prog e, n ≤ reachBytes) : ∃ y : Cl, cs.length = 2 ∧ clP cs y := by
  have hr := reachBytes_lt
  obtain ⟨y0, y1, n, rfl, hl, h0, h1⟩ := ChangeShapes.trod_struct2 he h
  obtain ⟨c0, c1, rfl⟩ := len2' (hl.trans hc)
  rw [t0, o0] at h0
  rw [t1, o1] at h1
  have g0 := fld (cs := [c0]) Tryz.cells9 h0 rfl
  have g1 := fld (cs := [c1]) Tryz.cells3 h1 rfl
  obtain ⟨s, e0, rfl, _⟩ := DataW.trod_string Tryz.underlying9 g0
  obtain ⟨a, e1, rfl, _⟩ := DataW.trod_int Tryz.underlying3 g1
  simp at e0 e1
  subst e0 e1
  refine ⟨⟨s.data.toList, a⟩, rfl, rfl, ?_⟩
  have := hsz s.data.toList.length (by simp [DataW.weights, DataW.weightsEach, he, t0])
  show s.data.toList.length ≤ _
  omega
theorem open_st39 {fuel : Nat} {cs : List Value} {x : DataW H × List MemPlace} (h : DataW.trod enc Tryz.prog W 0 spare held fuel 39 cs = some x) (hsz : ∀ n ∈ x.1.weights Tryz.prog 39, n ≤ reachBytes) : ∃ y : Vl, cs.length = 3 ∧ vlP cs y := by
  have hr := reachBytes_lt
  obtain ⟨y0, y1, y2, n, rfl, hl, h0, h1, h2⟩ := Deep.trod_struct3 Tryz.underlying39 h
  obtain ⟨c0, c1, c2, rfl⟩ := len3 (hl.trans oc39)
  have g0 := fld (cs := [c0]) Tryz.cells3 h0 rfl
  have g1 := fld (cs := [c1]) Tryz.cells3 h1 rfl
  have g2 := fld (cs := [c2]) Tryz.cells9 h2 rfl
  obtain ⟨k, e0, rfl, _⟩ := DataW.trod_int Tryz.underlying3 g0
  obtain ⟨a, e1, rfl, _⟩ := DataW.trod_int Tryz.underlying3 g1
  obtain ⟨s, e2, rfl, _⟩ := DataW.trod_string Tryz.underlying9 g2
  simp at e0 e1 e2
  subst e0 e1 e2
  refine ⟨⟨k, a, s.data.toList⟩, rfl, rfl, ?_⟩
  have := hsz s.data.toList.length (by simp [DataW.weights, DataW.weightsEach, Tryz.underlying39])
  show s.data.toList.length ≤ _
  omega
theorem open_dl51 {fuel : Nat} {cs : List Value} {x : DataW H × List MemPlace} (h : DataW.trod enc Tryz.prog W 0 spare held fuel 51 cs = some x) (hsz : ∀ n ∈ x.1.weights Tryz.prog 51, n ≤ reachBytes) : ∃ y : Dl, cs.length = 6 ∧ dlP cs y := by
  have hr := reachBytes_lt
  obtain ⟨y, rfl, hy⟩ := open_dl h
  refine ⟨y, rfl, rfl, ?_⟩
  have := hsz y.v.s.length (by rw [hy]; simp [DataW.weights, DataW.weightsEach, Tryz.underlying51, Tryz.underlying49])
  omega
theorem cs_seq {v : Value} {L : List Cl} (h : SeqAt W v 2 24 clP L) : CsAt W v L ∧ (∃ ao n cap, v = .slice ao n cap ∧ n ≤ cap) ∧ ∀ y ∈ L, y.name.length ≤ 140737488355328 := by
  have hr := reachBytes_lt
  obtain ⟨ao, cap, rfl, h1, h2, h3, -, h4⟩ := h.ex
  refine ⟨⟨ao, cap, rfl, by omega, fun hne => ?_⟩, ⟨_, _, _, rfl, h1⟩, fun y hy => ?_⟩
  · obtain ⟨g, o, e, hg, hc⟩ := h4 hne
    refine ⟨g, o, e, hg, fun i y hy => ?_⟩
    obtain ⟨cs, e1, rfl, -⟩ := hc i y hy
    exact ⟨e1 0 (by decide), e1 1 (by decide)⟩
  · obtain ⟨i, hi, rfl⟩ := List.getElem_of_mem hy
    obtain ⟨g, o, e, hg, hc⟩ := h4 (by intro e; rw [e] at hi; simp at hi)
    obtain ⟨cs, e1, e2⟩ := hc i _ (List.getElem?_eq_getElem hi)
    exact e2.2
theorem vs_seq {v : Value} {L : List Vl} (h : SeqAt W v 3 32 vlP L) : VsAt W v L := by
  have hr := reachBytes_lt
  obtain ⟨ao, cap, rfl, h1, h2, h3, -, h4⟩ := h.ex
  refine ⟨ao, cap, rfl, by omega, fun y hy => ?_, fun hne => ?_⟩
  · obtain ⟨i, hi, rfl⟩ := List.getElem_of_mem hy
    obtain ⟨g, o, e, hg, hc⟩ := h4 (by intro e; rw [e] at hi; simp at hi)
    obtain ⟨cs, e1, e2⟩ := hc i _ (List.getElem?_eq_getElem hi)
    exact e2.2
  · obtain ⟨g, o, e, hg, hc⟩ := h4 hne
    refine ⟨g, o, e, hg, fun i y hy => ?_⟩
    obtain ⟨cs, e1, rfl, -⟩ := hc i y hy
    exact ⟨e1 0 (by decide), e1 1 (by decide), e1 2 (by decide)⟩
theorem ds_seq {v : Value} {L : List Dl} (h : SeqAt W v 6 56 dlP L) : DsAt W v L := by
  have hr := reachBytes_lt
  obtain ⟨ao, cap, rfl, h1, h2, h3, -, h4⟩ := h.ex
  refine ⟨ao, cap, rfl, h1, h2, by omega, fun y hy => ?_, fun hne => ?_⟩
  · obtain ⟨i, hi, rfl⟩ := List.getElem_of_mem hy
    obtain ⟨g, o, e, hg, hc⟩ := h4 (by intro e; rw [e] at hi; simp at hi)
    obtain ⟨cs, e1, e2⟩ := hc i _ (List.getElem?_eq_getElem hi)
    exact e2.2
  · obtain ⟨g, o, e, hg, hc⟩ := h4 hne
    refine ⟨g, o, e, hg, fun i y hy => ?_⟩
    obtain ⟨cs, e1, rfl, -⟩ := hc i y hy
    exact ⟨e1 0 (by decide), e1 1 (by decide), e1 2 (by decide), e1 3 (by decide), e1 4 (by decide), e1 5 (by decide)⟩
theorem open_ix73 {fuel : Nat} {cs : List Value} {x : DataW H × List MemPlace} (h : DataW.trod enc Tryz.prog W 0 spare held fuel 73 cs = some x) (hsz : ∀ n ∈ x.1.weights Tryz.prog 73, n ≤ reachBytes) : ∃ y : Ix, cs.length = 4 ∧ ixQ W cs y := by
  have hr := reachBytes_lt
  obtain ⟨y0, y1, y2, y3, n, rfl, hl, h0, h1, h2, h3⟩ := Joins.trod_struct4 Tryz.underlying73 h
  obtain ⟨c0, c1, c2, c3, rfl⟩ := len4' (hl.trans oc73)
  have g0 := fld (cs := [c0]) Tryz.cells9 h0 rfl
  have g1 := fld (cs := [c1]) Tryz.cells3 h1 rfl
  have g2 := fld (cs := [c2]) Tryz.cells3 h2 rfl
  have g3 := fld (cs := [c3]) oc71 h3 rfl
  have W3 : ∀ n ∈ y3.1.weights Tryz.prog 71, n ≤ reachBytes := fun n hn => hsz n (by simp [DataW.weights, DataW.weightsEach, Tryz.underlying73, hn])
  have inh : Inhabited Cl := ⟨⟨[], 0⟩⟩
  obtain ⟨L, hL⟩ := open_seq 2 24 clP (by decide) Tryz.underlying71 oc111 ob111 (fun h hs => open_pair Tryz.underlying111 rfl rfl rfl rfl oc111 h hs) g3 W3
  have hs0 : ∀ n ∈ y0.1.weights Tryz.prog 9, n ≤ reachBytes := fun n hn => hsz n (by simp [DataW.weights, DataW.weightsEach, Tryz.underlying73, hn])
  obtain ⟨s, e0, rfl, _⟩ := DataW.trod_string Tryz.underlying9 g0
  obtain ⟨a, e1, rfl, _⟩ := DataW.trod_int Tryz.underlying3 g1
  obtain ⟨b, e2, rfl, _⟩ := DataW.trod_int Tryz.underlying3 g2
  simp at e0 e1 e2
  subst e0 e1 e2
  obtain ⟨q1, -, q3⟩ := cs_seq hL
  refine ⟨⟨s.data.toList, a, b, L⟩, rfl, c3, rfl, ?_, q1, q3, hL.nil⟩
  have := hs0 s.data.toList.length (by simp [DataW.weights])
  show s.data.toList.length ≤ _
  omega
theorem is_seq {v : Value} {L : List Ix} (h : SeqAt W v 4 56 (ixQ W) L) : IsAt W v L ∧ ∀ g o n cap, v = .slice (some ⟨g, o, none⟩) n cap → ∀ i ev, i < L.length → W.cell? ⟨g, o + i * 4 + 3, none⟩ = some ev → NilOk ev := by
  have hr := reachBytes_lt
  obtain ⟨ao, cap, rfl, h1, h2, h3, -, h4⟩ := h.ex
  refine ⟨⟨ao, cap, rfl, h1, by omega, fun y hy => ?_, fun hne => ?_⟩, fun g o n cap e i ev hi hv => ?_⟩
  · obtain ⟨i, hi, rfl⟩ := List.getElem_of_mem hy
    obtain ⟨g, o, e, hg, hc⟩ := h4 (by intro e; rw [e] at hi; simp at hi)
    obtain ⟨cs, e1, ev, e2, e3, -⟩ := hc i _ (List.getElem?_eq_getElem hi)
    exact e3
  · obtain ⟨g, o, e, hg, hc⟩ := h4 hne
    refine ⟨g, o, e, hg, fun i y hy => ?_⟩
    obtain ⟨cs, e1, ev, rfl, -, e4, e5, -⟩ := hc i y hy
    exact ⟨ev, e1 0 (by decide), e1 1 (by decide), e1 2 (by decide), e1 3 (by decide), e4, e5⟩
  · cases e
    obtain ⟨g', o', e, hg, hc⟩ := h4 (by intro e; rw [e] at hi; simp at hi)
    cases e
    obtain ⟨cs, e1, ev', rfl, -, -, -, e6⟩ := hc i _ (List.getElem?_eq_getElem hi)
    have := e1 3 (by decide)
    rw [this] at hv
    have e' : ev' = ev := by simpa [ixC] using hv
    exact e' ▸ e6
theorem open_tb {b0 : Nat} {v : Value} {d : DataW H} {p : List MemPlace} (hv : Value.okWide Tryz.prog W .any b0 27 v) (h : DataW.Trod enc Tryz.prog W 0 spare held 27 v d p) (hsz : ∀ n ∈ d.weights Tryz.prog 27, n ≤ reachBytes) :
    ∃ t cu du ru iu, v = tbV t.name cu du ru t.next iu ∧ TbIn W cu du ru iu t := by
  have hr := reachBytes_lt
  obtain ⟨cs, rfl, hn⟩ := WideShapes.okWide_struct Tryz.underlying27 hv
  rw [oc27] at hn
  obtain ⟨fuel, hf⟩ := h
  obtain ⟨xs, n, _, hx, hl, hlen, hF⟩ := DataW.trod_struct Tryz.underlying27 hf
  rw [oc27] at hl
  simp only [Value.cells] at hF hl
  generalize hcs : cs.toList = l at hF hl
  obtain rfl : cs = l.toArray := by rw [← hcs]
  clear hcs hf hn
  obtain ⟨y0, y1, y2, y3, y4, y5, rfl⟩ := len6 hlen
  obtain ⟨c0, c1, c2, c3, c4, c5, rfl⟩ := len6 hl
  have g0 : DataW.trod enc Tryz.prog W 0 spare held n 9 [c0] = some y0 := fld Tryz.cells9 (hF 0 _ rfl) rfl
  have g1 : DataW.trod enc Tryz.prog W 0 spare held n 22 [c1] = some y1 := fld oc22 (hF 1 _ rfl) rfl
  have g2 : DataW.trod enc Tryz.prog W 0 spare held n 23 [c2] = some y2 := fld oc23 (hF 2 _ rfl) rfl
  have g3 : DataW.trod enc Tryz.prog W 0 spare held n 24 [c3] = some y3 := fld oc24 (hF 3 _ rfl) rfl
  have g4 : DataW.trod enc Tryz.prog W 0 spare held n 3 [c4] = some y4 := fld Tryz.cells3 (hF 4 _ rfl) rfl
  have g5 : DataW.trod enc Tryz.prog W 0 spare held n 25 [c5] = some y5 := fld oc25 (hF 5 _ rfl) rfl
  simp only [Prod.mk.injEq] at hx
  have hd : d = .agg [y0.1, y1.1, y2.1, y3.1, y4.1, y5.1] := hx.1
  subst hd
  have W0 : ∀ n ∈ y0.1.weights Tryz.prog 9, n ≤ reachBytes := fun n hn => hsz n (by simp [DataW.weights, DataW.weightsEach, Tryz.underlying27, hn])
  have W1 : ∀ n ∈ y1.1.weights Tryz.prog 22, n ≤ reachBytes := fun n hn => hsz n (by simp [DataW.weights, DataW.weightsEach, Tryz.underlying27, hn])
  have W2 : ∀ n ∈ y2.1.weights Tryz.prog 23, n ≤ reachBytes := fun n hn => hsz n (by simp [DataW.weights, DataW.weightsEach, Tryz.underlying27, hn])
  have W3 : ∀ n ∈ y3.1.weights Tryz.prog 24, n ≤ reachBytes := fun n hn => hsz n (by simp [DataW.weights, DataW.weightsEach, Tryz.underlying27, hn])
  have W5 : ∀ n ∈ y5.1.weights Tryz.prog 25, n ≤ reachBytes := fun n hn => hsz n (by simp [DataW.weights, DataW.weightsEach, Tryz.underlying27, hn])
  have i1 : Inhabited Cl := ⟨⟨[], 0⟩⟩
  have i2 : Inhabited Vl := ⟨⟨0, 0, []⟩⟩
  have i3 : Inhabited Dl := ⟨⟨0, 0, 0, ⟨0, 0, []⟩⟩⟩
  have i4 : Inhabited Ix := ⟨⟨[], 0, 0, []⟩⟩
  obtain ⟨L1, R1⟩ := open_seq 2 24 clP (by decide) Tryz.underlying22 oc65 ob65 (fun h hs => open_pair Tryz.underlying65 rfl rfl rfl rfl oc65 h hs) g1 W1
  obtain ⟨L2, R2⟩ := open_seq 6 56 dlP (by decide) Tryz.underlying23 oc51 ob51 (fun h hs => open_dl51 h hs) g2 W2
  obtain ⟨L3, R3⟩ := open_seq 3 32 vlP (by decide) Tryz.underlying24 oc39 ob39 (fun h hs => open_st39 h hs) g3 W3
  obtain ⟨L5, R5⟩ := open_seq 4 56 (ixQ W) (by decide) Tryz.underlying25 oc73 ob73 (fun h hs => open_ix73 h hs) g5 W5
  obtain ⟨s, e0, hs0, _⟩ := DataW.trod_string Tryz.underlying9 g0
  obtain ⟨k, e4, _, _⟩ := DataW.trod_int Tryz.underlying3 g4
  simp at e0 e4
  subst e0 e4
  have hnm : s.data.toList.length ≤ 140737488355328 := by
    rw [hs0] at W0
    have := W0 s.data.toList.length (by simp [DataW.weights])
    omega
  obtain ⟨q1, q2, q3⟩ := cs_seq R1
  obtain ⟨r1, r2⟩ := is_seq R5
  exact ⟨⟨s.data.toList, L1, L2, L3, k, L5⟩, c1, c2, c3, c5, rfl, ⟨⟨hnm, q1, q2, q3, ds_seq R2, vs_seq R3, r1⟩, R1.nil, R2.nil, R3.nil, R5.nil, r2⟩⟩
end
end Go.Proofs.YtcnnjladaoaeiaaGreatDoor
namespace Go.Proofs.YtcnnjladaoaeiaaGreatDoor
open Go.ChangeShapes Go.WideShapes Go.ChangeAt Go.RowKit

theorem Tryz.own : ownKnob Tryz.prog.godebug = none := by kernel_rfl
theorem Tryz.laidOut : laidOutB Tryz.prog = true := by kernel_rfl
theorem Tryz.gPow : Tryz.prog.globalNamed "internal/strconv.uint64pow10" = some 1 := by kernel_rfl
theorem Tryz.gPowType : (Tryz.prog.globals[1]?).map (·.type) = some 248 := by kernel_rfl
theorem Tryz.gES : Tryz.prog.globalNamed "strconv.ErrSyntax" = some 2 := by kernel_rfl
theorem Tryz.gESType : (Tryz.prog.globals[2]?).map (·.type) = some 187 := by kernel_rfl
theorem Tryz.gER : Tryz.prog.globalNamed "strconv.ErrRange" = some 3 := by kernel_rfl
theorem Tryz.gERType : (Tryz.prog.globals[3]?).map (·.type) = some 187 := by kernel_rfl
theorem Tryz.c243 : Tryz.prog.cellsOf 248 = 20 := by kernel_rfl
theorem Tryz.c209 : Tryz.prog.cellsOf 214 = 1 := by kernel_rfl
theorem Tryz.c255 : Tryz.prog.cellsOf 260 = 1 := by kernel_rfl
theorem Tryz.c9 : Tryz.prog.cellsOf 9 = 1 := by kernel_rfl
theorem Tryz.star : "*" ++ "errors.errorString" = "*errors.errorString" := by decide
theorem Tryz.row253 (u : TypeId) (h : Tryz.prog.typeName? 3 u = some "*errors.errorString") : u = 258 :=
  typeName_ptr_named (nm := "errors.errorString") (by rw [Tryz.star]; kernel_rfl) (by kernel_rfl) (by decide) u (by rw [Tryz.star]; exact h)

theorem pow_laid : (Rows.laid_internal_strconv_uint64pow10 : DataW Unit) = Lib.tabData .u64 Lib.pow10Tab := by rfl

theorem laid_of {W : World} (h : laidMetH Tryz.prog Rows.restRowsRow.laid W) : Laid W := by
  rw [MakeChecks.laidMetH_plain _ _ _ (by kernel_rfl)] at h
  have h3 : laidMet Tryz.prog (("internal/strconv.uint64pow10", Rows.laid_internal_strconv_uint64pow10) :: ("strconv.ErrRange", Rows.laid_strconv_ErrRange) :: ("strconv.ErrSyntax", Rows.laid_strconv_ErrSyntax) :: []) W := h.tail.tail
  rw [pow_laid] at h3
  refine ⟨Lib.tabIs_of_head Tryz.gPow Tryz.gPowType Tryz.underlying248 Tryz.underlying214 Tryz.c209 Tryz.c243 h3, ?_, ?_⟩
  · obtain ⟨a0, s0, hv0, -, -, -⟩ := laid_sentinel h3.tail.tail Tryz.gES Tryz.gESType Tryz.underlying187 Tryz.row253 Tryz.underlying258 Tryz.underlying260 rfl rfl Tryz.underlying9 Tryz.c255 Tryz.c9
    exact ⟨_, _, hv0⟩
  · obtain ⟨a0, s0, hv0, -, -, -⟩ := laid_sentinel h3.tail Tryz.gER Tryz.gERType Tryz.underlying187 Tryz.row253 Tryz.underlying258 Tryz.underlying260 rfl rfl Tryz.underlying9 Tryz.c255 Tryz.c9
    exact ⟨_, _, hv0⟩

theorem door_met (os : Os) (args : Array Value) : laidMetH Tryz.prog Rows.restRowsRow.laid ((World.doorLaid Tryz.prog 200 os).forCall (fun _ _ => 0) ⟨#[], args, []⟩).memory := by
  rw [MakeChecks.laidMetH_plain _ _ _ (by kernel_rfl)]
  exact laidMet_of_run' 8 (by kernel_rfl) (by kernel_rfl)

end Go.Proofs.YtcnnjladaoaeiaaGreatDoor
