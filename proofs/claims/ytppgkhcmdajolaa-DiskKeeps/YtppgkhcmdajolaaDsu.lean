/-
  DiskKeeps: true, whatever it is called with.
-/
import Derived.Test.YtppgkhcmdajolaaDst
import Derived.Test.YtppgkhcmdajolaaDka
namespace Go.Proofs.Ytppgkhcmdajolaa
open Go.RowKit

set_option maxRecDepth 100000 in
set_option maxHeartbeats 3200000 in
theorem keeps_no (d : Dk) (x : Wr) (ku wu : Value) (ba : Option Addr) (bn bc : Nat) (w : World) (h : DkAt w ku wu d) (h0 : writeN d x ≠ 0) :
    Calls Try.prog 4 #[.agg #[ku, wu], .int .i64 x.n, .string x.s, .slice ba bn bc] w fun e w' => e = .returned (.bool true) ∧ Below w.heap.size w w' := by
  have b0 := (Below.refl w.heap.size w).alloc (Nat.le_refl _) (.cells #[ku, wu] 25)
  obtain ⟨x0, x1⟩ := two_in (heap_alloc_new w (.cells #[ku, wu] 25))
  go_enter Try.func4, Try.ntmps4
  go_wp2_with fail
  refine (write_any d x ku wu _ (h.below b0)).mono ?_
  rintro e w1 ⟨kv, wv, rfl, ho, b1⟩
  have hD : writeD d x = ⟨[], []⟩ := by unfold writeD; rw [if_neg h0]
  rw [hD] at ho
  obtain ⟨⟨ka, kc, e1⟩, wa, wc, e2⟩ := ho.form
  obtain rfl : kv = .slice ka 0 kc := e1
  obtain rfl : wv = .slice wa 0 wc := e2
  have q1 : Below w.heap.size w w1 := b0.trans (b1.mono b0.size)
  obtain ⟨F, hF⟩ : ∃ F, writeN d x = F := ⟨_, rfl⟩
  rw [hF] at h0 ⊢
  have hne : (((F : Nat) : Int) == 0) = false := by simpa using h0
  have hne' : ((F : Nat) : Int) ≠ 0 := by omega
  have K1 := hide (heap_alloc_new w1 (.cells #[.slice none 0 0, .slice none 0 0] 25))
  clear x0 x1 b1 ho hF h0 hD b0 h
  go_wp2_with (refine wpList_store_whole 25 _ _ rfl rfl w1.heap.size [.slice none 0 0, .slice none 0 0] [.slice ka 0 kc, .slice wa 0 wc] 25 rfl rfl (by exact K1.out) rfl Try.size25 (by intro v hv; simp only [List.mem_cons, List.not_mem_nil, or_false] at hv; rcases hv with rfl | rfl <;> rfl) ?_; intro w2 l2 p2)
  obtain ⟨b2, s2⟩ := alloc_put p2.out
  have q2 := q1.trans (b2.mono q1.size)
  refine (diskBegun_any w2).mono ?_
  rintro e w3 ⟨rfl, b3⟩
  have l3 := (b3.block w1.heap.size s2).trans l2
  have q3 := q2.trans (b3.mono q2.size)
  obtain ⟨y0, y1⟩ := two_in l3
  clear b3 b2 p2 K1
  go_wp2
  go_ret
  exact ⟨rfl, q3⟩

set_option maxRecDepth 100000 in
set_option maxHeartbeats 6400000 in
theorem keeps_yes (d : Dk) (i : Nat) (s : ByteArray) (keep : List Bool) (ku wu : Value) (ba : Option Addr) (bn bc : Nat) (w : World) (h : DkAt w ku wu d) (hk : BoAt w (.slice ba bn bc) keep) (h0 : writeN d ⟨i, s⟩ = 0) :
    Calls Try.prog 4 #[.agg #[ku, wu], .int .i64 i, .string s, .slice ba bn bc] w fun e w' => e = .returned (.bool true) ∧ Below w.heap.size w w' := by
  have b0 := (Below.refl w.heap.size w).alloc (Nat.le_refl _) (.cells #[ku, wu] 25)
  obtain ⟨x0, x1⟩ := two_in (heap_alloc_new w (.cells #[ku, wu] 25))
  go_enter Try.func4, Try.ntmps4
  go_wp2_with fail
  refine (write_any d ⟨i, s⟩ ku wu _ (h.below b0)).mono ?_
  rintro e w1 ⟨kv, wv, rfl, ho, b1⟩
  rw [h0]
  have hcx := write_check h0
  obtain ⟨-, hfl, hfs⟩ := flush_last h0
  have hcc := crash_flushed keep hcx
  generalize hX : writeD d ⟨i, s⟩ = X at *
  obtain ⟨-, hx2, -, hx4, -⟩ := checkD_zero hcx
  have hA := ho.at (by omega) (by omega)
  obtain ⟨⟨ka, kc, rfl⟩, wa, wc, rfl⟩ := ho.form
  have q1 : Below w.heap.size w w1 := b0.trans (b1.mono b0.size)
  have K1 := hide (heap_alloc_new w1 (.cells #[.slice none 0 0, .slice none 0 0] 25))
  clear x0 x1 b1 ho b0 h h0 hX
  go_wp2_with (refine wpList_store_whole 25 _ _ rfl rfl w1.heap.size [.slice none 0 0, .slice none 0 0] [.slice ka X.ks.length kc, .slice wa X.ws.length wc] 25 rfl rfl (by exact K1.out) rfl Try.size25 (by intro v hv; simp only [List.mem_cons, List.not_mem_nil, or_false] at hv; rcases hv with rfl | rfl <;> rfl) ?_; intro w2 l2 p2)
  obtain ⟨b2, s2⟩ := alloc_put p2.out
  have q2 := q1.trans (b2.mono q1.size)
  have hA2 := hA.below b2
  refine (diskBegun_any w2).mono ?_
  rintro e w3 ⟨rfl, b3⟩
  have l3 := (b3.block w1.heap.size s2).trans l2
  have q3 := q2.trans (b3.mono q2.size)
  have hA3 := hA2.below b3
  obtain ⟨y0, y1⟩ := two_in l3
  clear b3 b2 p2 K1 l2 q1 q2 hA hA2
  go_wp2_with fail
  refine (flush_any X _ _ w3 hA3).mono ?_
  rintro e w4 ⟨kv, wv, rfl, ho, b4⟩
  have hcy : checkD (flushD X) = 0 := settleD_check _ hcx
  have hyw : (flushD X).ws.length = 0 := rfl
  rw [hcx]
  generalize flushD X = Y at *
  obtain ⟨-, hy2, -, -, -⟩ := checkD_zero hcy
  rw [Int.toNat_natCast] at hfl hfs
  have hA4 := ho.at (by omega) (by omega)
  obtain ⟨⟨ya, yc, rfl⟩, yb, yd, rfl⟩ := ho.form
  rw [hyw] at hA4
  obtain ⟨m, hm⟩ : ∃ m, Y.ks.length = m := ⟨_, rfl⟩
  have HM := hide hm
  have HW := hide hyw
  rw [hyw, hm]
  rw [hm] at hA4 hfl hy2
  have q4 := q3.trans (b4.mono q3.size)
  have K4 := hide (heap_alloc_new w4 (.cells #[.slice none 0 0, .slice none 0 0] 25))
  clear y0 y1 l3 hA3 hcx hx2 hx4 ho hm hyw b4
  have HCX := hide (And.intro hcc hcy)
  clear hcc hcy
  go_wp2_with (refine wpList_store_whole 25 _ _ rfl rfl w4.heap.size [.slice none 0 0, .slice none 0 0] [.slice ya m yc, .slice yb 0 yd] 25 rfl rfl (by exact K4.out) rfl Try.size25 (by intro v hv; simp only [List.mem_cons, List.not_mem_nil, or_false] at hv; rcases hv with rfl | rfl <;> rfl) ?_; intro w5 l5 p5; obtain ⟨b5, S5⟩ := alloc_put p5.out; have hA5 := hA4.below b5; have Q5 := q4.trans (b5.mono q4.size); have QK : Below w.heap.size w w5 := Q5; obtain ⟨x0, x1⟩ := two_in l5; clear hA4 q4 b5 K4 p5)
  generalize hq : w4.heap.size = q5 at *
  clear hq
  refine (crash_any Y keep ba bn bc _ _ w5 hA5 (hk.below QK)).mono ?_
  rintro e w6 ⟨kv, wv, rfl, ho, b6⟩
  rw [HCX.out.1] at ho
  rw [HCX.out.2]
  have hA6 := ho.at (by rw [HM.out]; omega) (by rw [HW.out]; omega)
  obtain ⟨⟨za, zc, rfl⟩, zb, zd, rfl⟩ := ho.form
  rw [HW.out, HM.out] at hA6 ⊢
  obtain ⟨ax, cx, e3, -, -, hc⟩ := hA6.1
  obtain ⟨g, o, e4, hg, hgc⟩ := hc (by intro e; have := HM.out; rw [e] at this; simp at this; omega)
  simp only [Value.slice.injEq] at e3
  obtain ⟨rfl, -, -⟩ := e3
  subst e4
  have hgs := hgc i s hfs
  have q6 := Q5.trans (b6.mono Q5.size)
  have l6 := (b6.block q5 S5).trans l5
  have s6 : q5 < w6.heap.size := Nat.lt_of_lt_of_le S5 b6.size
  have K6 := hide (heap_alloc_new w6 (.cells #[.slice none 0 0, .slice none 0 0] 25))
  have hA56 := hA5.below b6
  clear hc hgc ho x0 x1 l5 hA5 b6 Q5
  rename_i Ka hKa Kb hKb
  have HK := hide hKa
  clear hKa
  go_wp2_with (refine wpList_store_whole 25 _ _ rfl rfl w6.heap.size [.slice none 0 0, .slice none 0 0] [.slice (some ⟨g, o, none⟩) m zc, .slice zb 0 zd] 25 rfl rfl (by exact K6.out) rfl Try.size25 (by intro v hv; simp only [List.mem_cons, List.not_mem_nil, or_false] at hv; rcases hv with rfl | rfl <;> rfl) ?_; intro w7 l7 p7)
  refine HK.out _ _ ?_
  obtain ⟨b7, s7⟩ := alloc_put p7.out
  have q7 := q6.trans (b7.mono q6.size)
  have l57 := (b7.block q5 s6).trans l6
  have hA7 := hA6.below b7
  have hA57 := hA56.below b7
  have gs7 := (b7.cell (p := ⟨g, o + i, none⟩) hg).trans hgs
  have hg7 : g < w7.heap.size := Nat.lt_of_lt_of_le hg b7.size
  have s57 : q5 < w7.heap.size := Nat.lt_of_lt_of_le s6 b7.size
  generalize hq : w6.heap.size = q6 at *
  clear hq
  obtain ⟨x0, x1⟩ := two_in l57
  obtain ⟨y0, y1⟩ := two_in l7
  refine wp_seq_k fun Kc hKc => ?_
  refine wp_region_as dk_R (by kernel_rfl) ?_
  refine wp_region ?_
  refine dk_wp (i := i) (m := m) (q1 := q5) (q2 := q6) (g := g) (o := o) (yc := yc) (yd := yd) (zc := zc) (zd := zd) (ya := ya) (yb := yb) (zb := zb) (s := s) (S := fun W => Below w7.heap.size w7 W) rfl rfl rfl rfl rfl rfl
    (fun W h => (h.cell (p := ⟨q5, 0, none⟩) s57).trans x0) (fun W h => (h.cell (p := ⟨q5, 1, none⟩) s57).trans x1) (fun W h => (h.cell (p := ⟨q6, 0, none⟩) s7).trans y0) (fun W h => (h.cell (p := ⟨q6, 1, none⟩) s7).trans y1) (fun W h => (h.cell (p := ⟨g, o + i, none⟩) hg7).trans gs7) hfl
    (fun W h => (sd_any Y _ _ _ _ W (hA57.below h) (hA7.below h)).mono fun e w' q => ⟨q.1, h.trans (q.2.mono h.size)⟩) rfl (Below.refl _ _) ?_
  rintro ⟨T, D⟩ w' hS hdf hsz hnew -
  have e8 := hnew 31 8 rfl
  have hb : dk_b71 i m s = true := by
    have h1 : (i : Int) < (m : Int) := by omega
    simp [dk_b71, dk_b66, dk_b57, dk_b50, dk_b46, h1]
  refine hKc _ _ ?_
  refine wp_ret ?_
  obtain rfl : D = [] := hdf
  refine bodyPost_ret (results_tmp (t := 8) Try.results4 _ _ _) rfl ⟨?_, q7.trans (hS.mono q7.size)⟩
  have e9 : T.getD 8 undef = .bool true := by
    rw [Array.getD_eq_getD_getElem?, e8, ← hb]; rfl
  exact congrArg Ending.returned e9

theorem keeps_any (d : Dk) (x : Wr) (keep : List Bool) (ku wu : Value) (ba : Option Addr) (bn bc : Nat) (w : World) (h : DkAt w ku wu d) (hk : BoAt w (.slice ba bn bc) keep) :
    Calls Try.prog 4 #[.agg #[ku, wu], .int .i64 x.n, .string x.s, .slice ba bn bc] w fun e w' => e = .returned (.bool true) ∧ Below w.heap.size w w' := by
  by_cases h0 : writeN d x = 0
  · obtain ⟨xn, xs⟩ := x
    obtain ⟨-, hf, -⟩ := writeN_zero h0
    obtain ⟨h1, -, -⟩ := faultN_range hf
    obtain ⟨i, rfl⟩ : ∃ i : Nat, xn = i := ⟨xn.toNat, by simp only [] at h1; omega⟩
    exact keeps_yes d i xs keep ku wu ba bn bc w h hk h0
  · exact keeps_no d x ku wu ba bn bc w h h0

end Go.Proofs.Ytppgkhcmdajolaa
