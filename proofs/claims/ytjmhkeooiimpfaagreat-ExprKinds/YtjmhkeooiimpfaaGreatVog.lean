/-
  'valueOf' of package expr: of an expression with Args.
-/
import Derived.Test.YtjmhkeooiimpfaaGreatVof
namespace Go.Proofs.YtjmhkeooiimpfaaGreat
open Go.RowKit

theorem opV_dsp (k : Int) (vs : List Vl) : opV k vs = match dspO k vs with
    | some v => v
    | none => if vs.contains vl0 = true then vl0 else if k = 3 then truthV (decide (vs.getD 0 vl0 = truthV false)) else twoV k (vs.getD 0 vl0) (vs.getD 1 vl0) := by
  unfold opV dspO
  by_cases h4 : k = 4
  · rw [if_pos h4, if_pos h4]
  rw [if_neg h4, if_neg h4]
  by_cases h5 : k = 5 ∧ vs.contains (truthV false) = true
  · rw [if_pos h5, if_pos h5]
  rw [if_neg h5, if_neg h5]
  by_cases h6 : k = 6 ∧ vs.contains (truthV true) = true
  · rw [if_pos h6, if_pos h6]
  rw [if_neg h6, if_neg h6]

set_option maxRecDepth 100000 in
set_option maxHeartbeats 3200000 in
theorem vof_args (cv rv : Value) (k : Int) (k1 : (k == 1) = false) (k2 : (k == 2) = false) (v : Vl) (nm : List UInt8) (b off n ca : Nat) (xs : List Ex) (R : List Vl) (us : Nat → Value) (W : World) (hn : xs.length = n) (hRn : R.length = n) (hn3 : n ≤ 2) (hA1 : k = 3 → n = 1) (hA2 : (k == 3) = false → dspO k R = none → n = 2) (hck : ∀ x ∈ R, chkV x.k x.n x.s = 0) (hbW : b < W.heap.size)
    (hS : ∀ i y, xs[i]? = some y → ∃ (k : Int) (v : Vl) (nm : List UInt8) (ao : Option Addr) (n ca : Nat), us i = exL k v nm (.slice ao n ca) ∧ W.cell? ⟨b, off + i * 6, none⟩ = some (.int .i64 k) ∧ W.cell? ⟨b, off + i * 6 + 1, none⟩ = some (.int .i64 v.k) ∧ W.cell? ⟨b, off + i * 6 + 2, none⟩ = some (.int .i64 v.n) ∧
      W.cell? ⟨b, off + i * 6 + 3, none⟩ = some (.string ⟨v.s.toArray⟩) ∧ W.cell? ⟨b, off + i * 6 + 4, none⟩ = some (.string ⟨nm.toArray⟩) ∧ W.cell? ⟨b, off + i * 6 + 5, none⟩ = some (.slice ao n ca))
    (hf : ∀ i y x, xs[i]? = some y → R[i]? = some x → ∀ W' : World, Below W.heap.size W W' → Calls Tryz.prog 17 #[cv, rv, us i] W' fun e w' => e = .returned (vlV x) ∧ Below W'.heap.size W' w') :
    Calls Tryz.prog 17 #[cv, rv, exL k v nm (.slice (some ⟨b, off, none⟩) n ca)] W fun e w' => e = .returned (vlV (opV k R)) ∧ Below W.heap.size W w' := by
  obtain ⟨i0, hi, hz0, hz1, hz2⟩ := info_parts3 Tryz.info_val
  have HS := hide hS
  have HF := hide hf
  have HC := hide hck
  have HA1 := hide hA1
  have HA2 := hide hA2
  have HRn := hide hRn
  have Hn := hide hn
  have b0 := ((Below.refl W.heap.size W).alloc (Nat.le_refl _) (.cells #[.int .i64 k, .int .i64 v.k, .int .i64 v.n, .string ⟨v.s.toArray⟩, .string ⟨nm.toArray⟩, .slice (some ⟨b, off, none⟩) n ca] 28)).alloc (by simp) (.cells #[.int .i64 0, .int .i64 0, .string ⟨#[]⟩] 25)
  have c9 : ((W.alloc (.cells #[.int .i64 k, .int .i64 v.k, .int .i64 v.n, .string ⟨v.s.toArray⟩, .string ⟨nm.toArray⟩, .slice (some ⟨b, off, none⟩) n ca] 28)).alloc (.cells #[.int .i64 0, .int .i64 0, .string ⟨#[]⟩] 25)).heap[W.heap.size + 1]? = some (.cells #[.int .i64 0, .int .i64 0, .string ⟨#[]⟩] 25) := by
    have hz : (W.alloc (.cells #[.int .i64 k, .int .i64 v.k, .int .i64 v.n, .string ⟨v.s.toArray⟩, .string ⟨nm.toArray⟩, .slice (some ⟨b, off, none⟩) n ca] 28)).heap.size = W.heap.size + 1 := by simp
    rw [← hz]; exact heap_alloc_new _ _
  have m0 : ((W.alloc (.cells #[.int .i64 k, .int .i64 v.k, .int .i64 v.n, .string ⟨v.s.toArray⟩, .string ⟨nm.toArray⟩, .slice (some ⟨b, off, none⟩) n ca] 28)).alloc (.cells #[.int .i64 0, .int .i64 0, .string ⟨#[]⟩] 25)).cell? ⟨W.heap.size, 0, none⟩ = some (.int .i64 k) := by
    refine (((Below.refl _ _).alloc (Nat.le_refl _) _).cell (by simp)).trans ?_
    exact Lib.cell_of_heap (heap_alloc_new _ _) 0
  have z0 : ((W.alloc (.cells #[.int .i64 k, .int .i64 v.k, .int .i64 v.n, .string ⟨v.s.toArray⟩, .string ⟨nm.toArray⟩, .slice (some ⟨b, off, none⟩) n ca] 28)).alloc (.cells #[.int .i64 0, .int .i64 0, .string ⟨#[]⟩] 25)).heap.size = W.heap.size + 2 := by simp
  obtain ⟨O, hO⟩ : ∃ O, opV k R = O := ⟨_, rfl⟩
  rw [hO]
  have HO := hide hO
  clear hS hf hck hA1 hA2 hRn hn hO
  unfold vlV at HF ⊢
  go_enter Tryz.func17, Tryz.ntmps17
  go_wp2
  generalize (W.alloc (.cells #[.int .i64 k, .int .i64 v.k, .int .i64 v.n, .string ⟨v.s.toArray⟩, .string ⟨nm.toArray⟩, .slice (some ⟨b, off, none⟩) n ca] 28)).alloc (.cells #[.int .i64 0, .int .i64 0, .string ⟨#[]⟩] 25) = w0 at *
  obtain ⟨N, hN⟩ : ∃ N, w0.heap.size = N := ⟨_, rfl⟩
  have HN := hide hN
  have zN : W.heap.size + 2 = N := by omega
  have ZN := hide zN
  clear hN z0 zN
  go_loopw [7, 30] (fun vv i wl => ∃ j : Nat, j ≤ n ∧ i = .int .i64 j ∧ wl.ownsRow N 25 3 vv j ((R.take j).flatMap vlC) ∧ Below N w0 wl) (fun _ i _ => n - (intOf i).toNat)
  case atStart => exact ⟨0, Nat.zero_le _, rfl, World.ownsRow_nil _ _ _ _, Below.refl _ _⟩
  case round =>
    obtain ⟨j, hj, rfl, hown, hnx⟩ := hrel
    have hszN : N ≤ wr.heap.size := by have := hnx.size; have := HN.out; omega
    have qW : Below W.heap.size W wr := b0.trans (hnx.mono (by have := ZN.out; omega))
    by_cases hlt : j < n
    · obtain ⟨y, hy⟩ : ∃ y, xs[j]? = some y := ⟨xs[j]'(by rw [Hn.out]; exact hlt), List.getElem?_eq_getElem _⟩
      obtain ⟨x, hx⟩ : ∃ x, R[j]? = some x := ⟨R[j]'(by rw [HRn.out]; exact hlt), List.getElem?_eq_getElem _⟩
      obtain ⟨k3, v3, nm3, ao3, n3, ca3, hu, a0, a1, a2, a3, a4, a5⟩ := HS.out j y hy
      have c0 := (qW.cell (p := ⟨b, off + j * 6, none⟩) hbW).trans a0
      have c1 := (qW.cell (p := ⟨b, off + j * 6 + 1, none⟩) hbW).trans a1
      have c2 := (qW.cell (p := ⟨b, off + j * 6 + 2, none⟩) hbW).trans a2
      have c3 := (qW.cell (p := ⟨b, off + j * 6 + 3, none⟩) hbW).trans a3
      have c4 := (qW.cell (p := ⟨b, off + j * 6 + 4, none⟩) hbW).trans a4
      have c5 := (qW.cell (p := ⟨b, off + j * 6 + 5, none⟩) hbW).trans a5
      have hlt' : (j : Int) < (n : Int) := by omega
      have q2 : Below N w0 (wr.alloc (.cells #[.int .i64 k3, .int .i64 v3.k, .int .i64 v3.n, .string ⟨v3.s.toArray⟩, .string ⟨nm3.toArray⟩, .slice ao3 n3 ca3] 28)) := hnx.alloc hszN _
      have hc := HF.out j y x hy hx _ (b0.trans (q2.mono (by have := ZN.out; omega)))
      have ho1 := hown.alloc (.cells #[.int .i64 k3, .int .i64 v3.k, .int .i64 v3.n, .string ⟨v3.s.toArray⟩, .string ⟨nm3.toArray⟩, .slice ao3 n3 ca3] 28)
      rw [hu] at hc
      have HX := hide hx
      obtain ⟨va, vc, hv⟩ := owns_slice hown
      subst hv
      clear a0 a1 a2 a3 a4 a5 hy hu hx HS HF hown m0 c9
      go_wp2_with fail
      refine hc.mono ?_
      rintro e w3 ⟨rfl, b2⟩
      have ho2 := (owned_below ho1 b2).alloc (.cells #[.int .i64 x.k, .int .i64 x.n, .string ⟨x.s.toArray⟩] 25)
      have q3 : Below N w0 w3 := q2.trans (b2.mono (by simp; omega))
      have hs3 : N ≤ w3.heap.size := by have := b2.size; simp at this; omega
      have hxlt := ho2.lt
      clear ho1 b2 q2 hc c0 c1 c2 c3 c4 c5
      go_wp2_with (at_builtin; refine wpList_append_own _ rfl _ _ 23 rfl N 25 i0 (.agg #[.int .i64 0, .int .i64 0, .string ⟨#[]⟩]) 3 32 Tryz.underlying23 hi hz0 hz1 hz2 rfl (by decide) _ _ _ rfl ho2 ⟨w3.heap.size, 0, none⟩ 1 1 [.int .i64 x.k, .int .i64 x.n, .string ⟨x.s.toArray⟩] rfl rfl ?c1 ?c2 ?c3 ?c4 ?c5 ?_)
      case c1 =>
        intro j u hj
        match j, hj with
          | 0, hj => simp at hj; subst hj; simp [Addr.add]
          | 1, hj => simp at hj; subst hj; simp [Addr.add]
          | 2, hj => simp at hj; subst hj; simp [Addr.add]
      case c2 => intro u hu; simp at hu; rcases hu with rfl | rfl | rfl <;> rfl
      case c3 => unfold maxLen; omega
      case c4 => omega
      case c5 => simp; omega
      intro v' w4 hown' hgrow _
      have q4 : Below N w0 w4 := (q3.alloc hs3 _).grown hgrow (by simp; omega) (fun q hq => (hxlt q hq).1)
      have R3 : w4.ownsRow N 25 3 v' (j + 1) ((R.take (j + 1)).flatMap vlC) := by
        have e1 : R.take (j + 1) = R.take j ++ [x] := by rw [List.take_add_one, HX.out]; rfl
        rw [e1, List.flatMap_append]
        have e2 : [x].flatMap vlC = [.int .i64 x.k, .int .i64 x.n, .string ⟨x.s.toArray⟩] := by simp [vlC]
        rw [e2]; exact hown'
      clear hown' hgrow ho2 hxlt
      go_wp2
      go_roundw
      case rel => exact ⟨j + 1, by omega, by go_num, R3, q4⟩
      case measure => simp [intOf]; omega
    · obtain rfl : j = n := by omega
      have hvs := vs_of_own (xs := R) (by rw [HRn.out]; rw [List.take_of_length_le (by rw [HRn.out]; exact Nat.le_refl _)] at hown; exact hown) (by rw [HRn.out]; omega) (fun x hx => by have := (bounds_of (HC.out x hx)).2.2; omega)
      obtain ⟨va, vc, hv⟩ := owns_slice hown
      subst hv
      have hd := dsp_any k R _ wr hvs
      have n0 := (hnx.cell (p := ⟨W.heap.size, 0, none⟩) (by have := ZN.out; show W.heap.size < N; omega)).trans m0
      have c := (hnx.block (W.heap.size + 1) (by have := ZN.out; omega)).trans c9
      have HV := hide hvs
      clear hown HS HF hvs m0 c9
      have zs : W.heap.size + 2 ≤ wr.heap.size := by have := ZN.out; omega
      cases hD : dspO k R with
      | some V =>
        have HE : Hid (O = V) := by rw [Hid, ← HO.out, opV_dsp, hD]
        rw [hD] at hd
        simp only [Option.getD_some, Option.isSome_some] at hd
        unfold vlV at hd
        clear hD
        go_wp2_with fail
        refine hd.mono ?_
        rintro e w5 ⟨rfl, b5⟩
        have q5 : Below W.heap.size W w5 := qW.trans (b5.mono (by omega))
        have e5 := (b5.block (W.heap.size + 1) (by omega)).trans c
        obtain ⟨⟨g0, g1, g2⟩, f0, f1, f2⟩ := three e5
        obtain ⟨⟨d0, d1, d2⟩, -⟩ := three (three_set e5 (.int .i64 V.k) (.int .i64 V.n) (.string ⟨V.s.toArray⟩))
        have z5 : W.heap.size + 1 < w5.heap.size := Nat.le_trans zs b5.size
        clear hd c b5 e5 n0
        go_wp2_with fail
        have q8 : Below W.heap.size W (((w5.setCell ⟨W.heap.size + 1, 0, none⟩ (.int .i64 V.k)).setCell ⟨W.heap.size + 1, 1, none⟩ (.int .i64 V.n)).setCell ⟨W.heap.size + 1, 2, none⟩ (.string ⟨V.s.toArray⟩)) := ((q5.setCell (by simp) _).setCell (by simp) _).setCell (by simp) _
        have zz : (((w5.setCell ⟨W.heap.size + 1, 0, none⟩ (.int .i64 V.k)).setCell ⟨W.heap.size + 1, 1, none⟩ (.int .i64 V.n)).setCell ⟨W.heap.size + 1, 2, none⟩ (.string ⟨V.s.toArray⟩)).heap.size = w5.heap.size := by simp
        generalize (((w5.setCell ⟨W.heap.size + 1, 0, none⟩ (.int .i64 V.k)).setCell ⟨W.heap.size + 1, 1, none⟩ (.int .i64 V.n)).setCell ⟨W.heap.size + 1, 2, none⟩ (.string ⟨V.s.toArray⟩)) = w8 at *
        have q9 : Below W.heap.size W (w8.alloc (.cells #[.int .i64 V.k, .int .i64 V.n, .string ⟨V.s.toArray⟩] 25)) := q8.alloc (by omega) _
        rw [HE.out]
        have kk := (Below.refl w8.heap.size w8).alloc (Nat.le_refl _) (.cells #[.int .i64 V.k, .int .i64 V.n, .string ⟨V.s.toArray⟩] 25)
        have k0 := (kk.cell (p := ⟨W.heap.size + 1, 0, none⟩) (by show W.heap.size + 1 < _; omega)).trans d0
        have k1' := (kk.cell (p := ⟨W.heap.size + 1, 1, none⟩) (by show W.heap.size + 1 < _; omega)).trans d1
        have k2' := (kk.cell (p := ⟨W.heap.size + 1, 2, none⟩) (by show W.heap.size + 1 < _; omega)).trans d2
        clear kk d0 d1 d2 q8 zz z5
        generalize w8.alloc (.cells #[.int .i64 V.k, .int .i64 V.n, .string ⟨V.s.toArray⟩] 25) = w9 at *
        refine bodyPost_ret (v := .agg #[.int .i64 V.k, .int .i64 V.n, .string ⟨V.s.toArray⟩]) ?_ rfl ⟨rfl, q9⟩
        simp [results, Tryz.results17, go_sem, k0, k1', k2']
      | none =>
        rw [hD] at hd
        have HN0 : Hid (opV k R = if R.contains vl0 = true then vl0 else if k = 3 then truthV (decide (R.getD 0 vl0 = truthV false)) else twoV k (R.getD 0 vl0) (R.getD 1 vl0)) := by rw [Hid, opV_dsp, hD]
        simp only [Option.getD_none, Option.isSome_none] at hd
        unfold vlV at hd
        simp only [vl0] at hd
        have hcn := fun (w' : World) (hW : Below wr.heap.size wr w') => contains_any R (.slice va j vc) vl0 w' (HV.out.below hW)
        have HDn := hide hD
        clear hD
        obtain ⟨B, hB⟩ : ∃ B, R.contains vl0 = B := ⟨_, rfl⟩
        rw [hB] at hcn
        have HB := hide hB
        clear hB
        unfold vlV at hcn
        simp only [vl0] at hcn
        go_wp2_with fail
        refine hd.mono ?_
        rintro e w5 ⟨rfl, b5⟩
        have p5 : Below wr.heap.size wr (w5.alloc (.cells #[.int .i64 0, .int .i64 0, .string ⟨#[]⟩] 25)) := b5.alloc b5.size _
        have z5 : W.heap.size + 2 ≤ w5.heap.size := Nat.le_trans zs b5.size
        clear hd b5
        go_wp2_with fail
        refine (hcn _ p5).mono ?_
        rintro e w6 ⟨rfl, b6⟩
        have p6 := p5.trans (b6.mono p5.size)
        have q6 : Below W.heap.size W w6 := qW.trans (p6.mono (by omega))
        have e6 := (p6.block (W.heap.size + 1) (by omega)).trans c
        have n6 := (p6.cell (p := ⟨W.heap.size, 0, none⟩) (by show W.heap.size < _; omega)).trans n0
        have z6 : W.heap.size + 2 ≤ w6.heap.size := Nat.le_trans zs p6.size
        have v6 := hide (HV.out.below p6)
        clear hcn p5 b6 p6 c n0
        cases B with
        | true =>
          have HE : Hid (O = vl0) := by rw [Hid, ← HO.out, HN0.out, if_pos HB.out]
          obtain ⟨⟨g0, g1, g2⟩, f0, f1, f2⟩ := three e6
          obtain ⟨⟨d0, d1, d2⟩, -⟩ := three (three_set e6 (.int .i64 0) (.int .i64 0) (.string ⟨#[]⟩))
          clear e6
          go_wp2_with fail
          have q8 : Below W.heap.size W (((w6.setCell ⟨W.heap.size + 1, 0, none⟩ (.int .i64 0)).setCell ⟨W.heap.size + 1, 1, none⟩ (.int .i64 0)).setCell ⟨W.heap.size + 1, 2, none⟩ (.string ⟨#[]⟩)) := ((q6.setCell (by simp) _).setCell (by simp) _).setCell (by simp) _
          generalize (((w6.setCell ⟨W.heap.size + 1, 0, none⟩ (.int .i64 0)).setCell ⟨W.heap.size + 1, 1, none⟩ (.int .i64 0)).setCell ⟨W.heap.size + 1, 2, none⟩ (.string ⟨#[]⟩)) = w8 at *
          rw [HE.out]
          refine bodyPost_ret (v := .agg #[.int .i64 0, .int .i64 0, .string ⟨#[]⟩]) ?_ rfl ⟨rfl, q8⟩
          simp [results, Tryz.results17, go_sem, d0, d1, d2]
        | false =>
          obtain ⟨ao', cap', e, -, -, hcc⟩ := v6.out
          simp only [Value.slice.injEq] at e
          obtain ⟨rfl, -, rfl⟩ := e
          by_cases h3 : k = 3
          · subst h3
            have hj1 := HA1.out rfl
            subst hj1
            obtain ⟨x, hx⟩ : ∃ x, R[0]? = some x := ⟨R[0]'(by rw [HRn.out]; decide), List.getElem?_eq_getElem _⟩
            obtain ⟨g, o, rfl, hg, hcc'⟩ := hcc (by intro e; rw [e] at hx; cases hx)
            obtain ⟨x0, x1, x2⟩ := hcc' 0 x hx
            rw [Nat.zero_mul, Nat.add_zero] at x0 x1 x2
            have hs : sameTk x.k x.n ⟨x.s.toArray⟩ 3 0 ⟨#[]⟩ = decide (x = truthV false) := sameV x (truthV false)
            obtain ⟨D, hD⟩ : ∃ D, decide (x = truthV false) = D := ⟨_, rfl⟩
            have HE : Hid (O = truthV D) := by
              rw [Hid, ← HO.out, HN0.out, if_neg (by rw [HB.out]; decide), if_pos rfl, ← hD]
              have : R.getD 0 vl0 = x := by simp [List.getD, hx]
              rw [this]
            rw [hD] at hs
            clear hD hcc hcc' hx
            obtain ⟨V, hV⟩ : ∃ V, truthV D = V := ⟨_, rfl⟩
            have ht1 : ∀ W : World, Calls Tryz.prog 21 #[.bool false] W fun e w' => e = .returned (.agg #[.int .i64 3, .int .i64 0, .string ⟨#[]⟩]) ∧ Below W.heap.size W w' := fun W => tr_any false W
            have ht2 : ∀ W : World, Calls Tryz.prog 21 #[.bool D] W fun e w' => e = .returned (.agg #[.int .i64 V.k, .int .i64 V.n, .string ⟨V.s.toArray⟩]) ∧ Below W.heap.size W w' := fun W => by rw [← hV]; exact tr_any D W
            rw [hV] at HE
            clear hV
            have hx6 : ∀ W' : World, Below w6.heap.size w6 W' → (W'.cell? ⟨g, o, none⟩ = some (.int .i64 x.k) ∧ W'.cell? ⟨g, o + 1, none⟩ = some (.int .i64 x.n) ∧ W'.cell? ⟨g, o + 2, none⟩ = some (.string ⟨x.s.toArray⟩)) := fun W' hW => ⟨(hW.cell (p := ⟨g, _, none⟩) hg).trans x0, (hW.cell (p := ⟨g, _, none⟩) hg).trans x1, (hW.cell (p := ⟨g, _, none⟩) hg).trans x2⟩
            have hc6 := fun (W' : World) (hW : Below w6.heap.size w6 W') => (hW.block (W.heap.size + 1) (by omega)).trans e6
            have HX6 := hide hx6
            have HC6 := hide hc6
            have hq := eql25
            obtain ⟨⟨g0, g1, g2⟩, f0, f1, f2⟩ := three e6
            clear hx6 hc6 e6
            go_wp2_with fail
            go_region_law (first | (have _ := B2.out; go_simp; refine (ht2 _).mono ?_; rintro e w8 ⟨rfl, b8⟩; have B3 := hide (B2.out.trans (b8.mono B2.out.size)); obtain ⟨y0, y1, y2⟩ := HX6.out w8 B3.out; obtain ⟨⟨g0, g1, g2⟩, f0, f1, f2⟩ := three (HC6.out w8 B3.out); clear b8; dsimp only) | (go_simp; refine (ht1 _).mono ?_; rintro e w7 ⟨rfl, b7⟩; have B2 := hide ((Below.refl w6.heap.size w6).drew.trans (b7.mono (by simp))); obtain ⟨y0, y1, y2⟩ := HX6.out w7 B2.out; obtain ⟨⟨g0, g1, g2⟩, f0, f1, f2⟩ := three (HC6.out w7 B2.out); clear b7; dsimp only))
            all_goals
              obtain ⟨⟨d0, d1, d2⟩, -⟩ := three (three_set (HC6.out w8 B3.out) (.int .i64 V.k) (.int .i64 V.n) (.string ⟨V.s.toArray⟩))
              have q8 : Below W.heap.size W (((w8.setCell ⟨W.heap.size + 1, 0, none⟩ (.int .i64 V.k)).setCell ⟨W.heap.size + 1, 1, none⟩ (.int .i64 V.n)).setCell ⟨W.heap.size + 1, 2, none⟩ (.string ⟨V.s.toArray⟩)) := (((q6.trans (B3.out.mono (by omega))).setCell (by simp) _).setCell (by simp) _).setCell (by simp) _
              go_wp2_with fail
              generalize (((w8.setCell ⟨W.heap.size + 1, 0, none⟩ (.int .i64 V.k)).setCell ⟨W.heap.size + 1, 1, none⟩ (.int .i64 V.n)).setCell ⟨W.heap.size + 1, 2, none⟩ (.string ⟨V.s.toArray⟩)) = w9 at *
              rw [HE.out]
              refine bodyPost_ret (v := .agg #[.int .i64 V.k, .int .i64 V.n, .string ⟨V.s.toArray⟩]) ?_ rfl ⟨rfl, q8⟩
              simp [results, Tryz.results17, go_sem, d0, d1, d2]
          · have e3 : (k == 3) = false := by simpa using h3
            have hj2 := HA2.out e3 HDn.out
            subst hj2
            obtain ⟨x, hx⟩ : ∃ x, R[0]? = some x := ⟨R[0]'(by rw [HRn.out]; decide), List.getElem?_eq_getElem _⟩
            obtain ⟨y, hy⟩ : ∃ y, R[1]? = some y := ⟨R[1]'(by rw [HRn.out]; decide), List.getElem?_eq_getElem _⟩
            obtain ⟨g, o, rfl, hg, hcc'⟩ := hcc (by intro e; rw [e] at hx; cases hx)
            obtain ⟨x0, x1, x2⟩ := hcc' 0 x hx
            obtain ⟨y0, y1, y2⟩ := hcc' 1 y hy
            rw [Nat.zero_mul, Nat.add_zero] at x0 x1 x2
            rw [Nat.one_mul] at y0 y1 y2
            have ht : ∀ W : World, Calls Tryz.prog 31 #[.int .i64 k, vlV x, vlV y] W fun e w' => e = .returned (vlV (twoV k x y)) ∧ Below W.heap.size W w' := fun W => ofTwo_any k x y (HC.out x (List.mem_of_getElem? hx)) (HC.out y (List.mem_of_getElem? hy)) W
            obtain ⟨V, hV⟩ : ∃ V, twoV k x y = V := ⟨_, rfl⟩
            have HE : Hid (O = V) := by
              rw [Hid, ← HO.out, HN0.out, if_neg (by rw [HB.out]; decide), if_neg h3, ← hV]
              have h1 : R.getD 0 vl0 = x := by simp [List.getD, hx]
              have h2 : R.getD 1 vl0 = y := by simp [List.getD, hy]
              rw [h1, h2]
            rw [hV] at ht
            unfold vlV at ht
            clear hV hcc hcc' hx hy h3
            have hc6 := fun (W' : World) (hW : Below w6.heap.size w6 W') => (hW.block (W.heap.size + 1) (by omega)).trans e6
            have HC6 := hide hc6
            obtain ⟨⟨g0, g1, g2⟩, f0, f1, f2⟩ := three e6
            clear hc6 e6
            go_wp2_with fail
            go_region_law (go_simp; refine (ht _).mono ?_; rintro e w7 ⟨rfl, b7⟩; have B2 := hide ((Below.refl w6.heap.size w6).drew.trans (b7.mono (by simp))); obtain ⟨⟨g0, g1, g2⟩, f0, f1, f2⟩ := three (HC6.out w7 B2.out); clear b7; dsimp only)
            all_goals
              obtain ⟨⟨d0, d1, d2⟩, -⟩ := three (three_set (HC6.out w7 B2.out) (.int .i64 V.k) (.int .i64 V.n) (.string ⟨V.s.toArray⟩))
              have q8 : Below W.heap.size W (((w7.setCell ⟨W.heap.size + 1, 0, none⟩ (.int .i64 V.k)).setCell ⟨W.heap.size + 1, 1, none⟩ (.int .i64 V.n)).setCell ⟨W.heap.size + 1, 2, none⟩ (.string ⟨V.s.toArray⟩)) := (((q6.trans (B2.out.mono (by omega))).setCell (by simp) _).setCell (by simp) _).setCell (by simp) _
              go_wp2_with fail
              generalize (((w7.setCell ⟨W.heap.size + 1, 0, none⟩ (.int .i64 V.k)).setCell ⟨W.heap.size + 1, 1, none⟩ (.int .i64 V.n)).setCell ⟨W.heap.size + 1, 2, none⟩ (.string ⟨V.s.toArray⟩)) = w9 at *
              rw [HE.out]
              refine bodyPost_ret (v := .agg #[.int .i64 V.k, .int .i64 V.n, .string ⟨V.s.toArray⟩]) ?_ rfl ⟨rfl, q8⟩
              simp [results, Tryz.results17, go_sem, d0, d1, d2]

end Go.Proofs.YtjmhkeooiimpfaaGreat
