/-
  The document's ValueOf, of any expression; IsTrue.
-/
import Derived.Test.YtbelnjefnhelhabGreatRva
import Derived.Test.YtbelnjefnhelhabGreatRvb
import Derived.Test.YtbelnjefnhelhabGreatRvc
import Derived.Test.YtbelnjefnhelhabGreatRkf
namespace Go.Proofs.YtbelnjefnhelhabGreat
open Go.RowKit

theorem fit_made (M : Int) (hM : M ≠ 0) (l : List (Option Int)) (h : fitK M l = true) : ∀ K, some K ∈ l → K = 0 ∨ K = M := by
  induction l with
  | nil => intro K hK; cases hK
  | cons o r ih =>
    intro K hK
    cases o with
    | none => cases h
    | some k =>
      rw [fitK] at h
      by_cases hc : k ≠ 0 ∧ M ≠ 0 ∧ k ≠ M
      · rw [if_pos hc] at h; cases h
      · rw [if_neg hc, if_pos hM] at h
        cases hK with
        | head =>
          by_cases e : K = 0
          · exact .inl e
          · exact .inr (Classical.byContradiction fun e' => hc ⟨e, hM, e'⟩)
        | tail _ hK => exact ih h K hK

set_option maxRecDepth 100000 in
set_option maxHeartbeats 800000 in
theorem rvl_1 (cv rv : Value) (v : Vl) (nm : List UInt8) (ao : Option Addr) (n ca : Nat) (W : World) :
    Calls Tryz.prog 11 #[cv, rv, exL 1 v nm (.slice ao n ca)] W fun e w' => e = .returned (vlV v) ∧ Below W.heap.size W w' := by
  unfold vlV
  go_enter Tryz.func11, Tryz.ntmps11
  go_wp2
  refine bodyPost_ret (v := .agg #[.int .i64 v.k, .int .i64 v.n, .string ⟨v.s.toArray⟩]) ?_ rfl ⟨rfl, ?_⟩
  · simp [results, Tryz.results11, go_sem]
  · exact ((Below.refl _ _).alloc (Nat.le_refl _) _).alloc (by simp) _

set_option maxRecDepth 100000 in
set_option maxHeartbeats 1600000 in
theorem rvl_2 (cv : Value) (g o cc m i : Nat) (x : Vl) (v : Vl) (nm : List UInt8) (ao : Option Addr) (n ca : Nat) (W : World) (hg : g < W.heap.size) (hi : i < m)
    (hx : W.cell? ⟨g, o + i * 3, none⟩ = some (.int .i64 x.k) ∧ W.cell? ⟨g, o + i * 3 + 1, none⟩ = some (.int .i64 x.n) ∧ W.cell? ⟨g, o + i * 3 + 2, none⟩ = some (.string ⟨x.s.toArray⟩))
    (hp : ∀ W' : World, Below W.heap.size W W' → Calls Tryz.prog 16 #[cv, .string ⟨nm.toArray⟩] W' fun e w' => e = .returned (.int .i64 (i : Nat)) ∧ Below W'.heap.size W' w') :
    Calls Tryz.prog 11 #[cv, .slice (some ⟨g, o, none⟩) m cc, exL 2 v nm (.slice ao n ca)] W fun e w' => e = .returned (vlV x) ∧ Below W.heap.size W w' := by
  have b0 := ((Below.refl W.heap.size W).alloc (Nat.le_refl _) (.cells #[.int .i64 2, .int .i64 v.k, .int .i64 v.n, .string ⟨v.s.toArray⟩, .string ⟨nm.toArray⟩, .slice ao n ca] 28)).alloc (by simp) (.cells #[.int .i64 0, .int .i64 0, .string ⟨#[]⟩] 25)
  have h1 := hp _ b0
  have hi' : (i : Int) < (m : Int) := by omega
  have c9 : ((W.alloc (.cells #[.int .i64 2, .int .i64 v.k, .int .i64 v.n, .string ⟨v.s.toArray⟩, .string ⟨nm.toArray⟩, .slice ao n ca] 28)).alloc (.cells #[.int .i64 0, .int .i64 0, .string ⟨#[]⟩] 25)).heap[W.heap.size + 1]? = some (.cells #[.int .i64 0, .int .i64 0, .string ⟨#[]⟩] 25) := by
    have hz : (W.alloc (.cells #[.int .i64 2, .int .i64 v.k, .int .i64 v.n, .string ⟨v.s.toArray⟩, .string ⟨nm.toArray⟩, .slice ao n ca] 28)).heap.size = W.heap.size + 1 := by simp
    rw [← hz]; exact heap_alloc_new _ _
  obtain ⟨x0, x1, x2⟩ := hx
  unfold vlV
  clear hp
  go_enter Tryz.func11, Tryz.ntmps11
  go_wp2_with fail
  refine h1.mono ?_
  rintro e w1 ⟨rfl, b1⟩
  have q1 : Below W.heap.size W w1 := b0.trans (b1.mono (by simp; omega))
  have c := (b1.block (W.heap.size + 1) (by simp)).trans c9
  have y0 := (q1.cell (p := ⟨g, o + i * 3, none⟩) hg).trans x0
  have y1 := (q1.cell (p := ⟨g, o + i * 3 + 1, none⟩) hg).trans x1
  have y2 := (q1.cell (p := ⟨g, o + i * 3 + 2, none⟩) hg).trans x2
  obtain ⟨⟨c0, c1, c2⟩, f0, f1, f2⟩ := three c
  obtain ⟨⟨d0, d1, d2⟩, -⟩ := three (three_set c (.int .i64 x.k) (.int .i64 x.n) (.string ⟨x.s.toArray⟩))
  clear h1 b0 b1 x0 x1 x2 c9 c
  go_wp2_with fail
  have q2 : Below W.heap.size W (((w1.setCell ⟨W.heap.size + 1, 0, none⟩ (.int .i64 x.k)).setCell ⟨W.heap.size + 1, 1, none⟩ (.int .i64 x.n)).setCell ⟨W.heap.size + 1, 2, none⟩ (.string ⟨x.s.toArray⟩)) := ((q1.setCell (by simp) _).setCell (by simp) _).setCell (by simp) _
  generalize (((w1.setCell ⟨W.heap.size + 1, 0, none⟩ (.int .i64 x.k)).setCell ⟨W.heap.size + 1, 1, none⟩ (.int .i64 x.n)).setCell ⟨W.heap.size + 1, 2, none⟩ (.string ⟨x.s.toArray⟩)) = w2 at *
  refine bodyPost_ret (v := .agg #[.int .i64 x.k, .int .i64 x.n, .string ⟨x.s.toArray⟩]) ?_ rfl ⟨rfl, q2⟩
  simp [results, Tryz.results11, go_sem, d0, d1, d2]

theorem rvo_any (L : List Cl) (cv : Value) (r : List Vl) (rv : Value) (hr0 : rowF L r = 0) {B : Nat} {w0 : World} {u : Value} {x : Ex} (h : ExAt B w0 u x) : Fit x → faultE L x = 0 → ∀ K, kindE L x = some K → ∀ W : World, Below w0.heap.size w0 W → CsAt W cv L → VsAt W rv r →
    Calls Tryz.prog 11 #[cv, rv, u] W fun e w' => e = .returned (vlV (evalE L r x)) ∧ Below W.heap.size W w' := by
  obtain ⟨hr, hck, -⟩ := rowF_zero hr0
  have lit : ∀ (k : Int) (v : Vl) (nm : List UInt8) (ao : Option Addr) (n ca : Nat) (xs : List Ex) (W : World), k = 1 ∨ k = 2 → faultE L (.mk k v nm xs) = 0 → CsAt W cv L → VsAt W rv r →
      Calls Tryz.prog 11 #[cv, rv, exL k v nm (.slice ao n ca)] W fun e w' => e = .returned (vlV (evalE L r (.mk k v nm xs))) ∧ Below W.heap.size W w' := by
    intro k v nm ao n ca xs W hk hf hC hV
    rw [evalE]
    rcases hk with rfl | rfl
    · rw [if_pos rfl]
      exact rvl_1 cv rv v nm ao n ca W
    · rw [if_neg (by decide), if_pos rfl]
      have h6 := (partF_zero (faultE_zero hf).1).2.2.2.2.2.1
      simp only [Ex.k, Ex.nm] at h6
      obtain ⟨i, hi⟩ := h6 trivial
      have hlt := placeC_lt L nm i hi
      have hlt' : i < r.length := by omega
      have hc : r[i]? = some r[i] := List.getElem?_eq_getElem hlt'
      have hg : r.getD i vl0 = r[i] := by simp [List.getD, hc]
      rw [hi, Option.getD_some, hg]
      have hp := fun (W' : World) (hW : Below W.heap.size W W') => rcol_any L cv nm W' (hC.below hW)
      rw [placeI_some hi] at hp
      obtain ⟨ao2, cap2, rfl, h1, h2, h3⟩ := hV
      obtain ⟨g, o, rfl, hg', hcc⟩ := h3 (by intro e; rw [e] at hlt'; exact absurd hlt' (Nat.not_lt_zero _))
      exact rvl_2 cv g o cap2 r.length i _ v nm ao n ca W hg' hlt' (hcc i _ hc) hp
  induction h with
  | nil k v nm ao cap hz =>
    intro hf h0 K hK W hb hC hV
    refine lit k v nm ao 0 cap [] W ?_ h0 hC hV
    have h3 := partF_zero (faultE_zero h0).1
    simp only [Ex.k, Ex.args] at h3
    have h4 := h3.2.2.1
    unfold argsS at h4
    by_cases hk : k = 1 ∨ k = 2
    · exact hk
    · rw [if_neg hk] at h4
      exfalso
      split at h4 <;> simp at h4
  | args k v nm b off cap xs us hx hB hs hc hh ih =>
    intro hf h0 K hK W hb hC hV
    by_cases hk : k = 1 ∨ k = 2
    · exact lit k v nm _ _ cap xs W hk h0 hC hV
    · have h3 := partF_zero (faultE_zero h0).1
      simp only [Ex.k, Ex.args] at h3
      have h4 := faultL_zero (faultE_zero h0).2
      have h5 := h3.2.2.1
      rw [argsS, if_neg hk] at h5
      have hbW : b < W.heap.size := Nat.lt_of_lt_of_le hs hb.size
      rw [kindE, if_neg (fun h => hk (.inl h)), if_neg (fun h => hk (.inr h))] at hK
      have hfit : fitK (madeS k) (kindL L xs) = true := by
        by_cases hq : fitK (madeS k) (kindL L xs) = true
        · exact hq
        · rw [if_neg hq] at hK; cases hK
      have hkx : ∀ y ∈ xs, ∃ K', kindE L y = some K' ∧ some K' ∈ kindL L xs := by
        intro y hy
        obtain ⟨i, hi, e⟩ := List.getElem_of_mem hy
        have hg := kindL_get L xs i y (by rw [List.getElem?_eq_getElem hi, e])
        have hm := List.mem_of_getElem? hg
        cases e2 : kindE L y with
        | none => rw [e2] at hm; rw [fit_none _ _ hm] at hfit; cases hfit
        | some K' => rw [e2] at hm; exact ⟨K', rfl, hm⟩
      have hS0 := six_at hb hs hc hh
      have hcal : ∀ i y, xs[i]? = some y → ∀ W' : World, Below W.heap.size W W' → Calls Tryz.prog 11 #[cv, rv, us i] W' fun e w' => e = .returned (vlV (evalE L r y)) ∧ Below W'.heap.size W' w' := by
        intro i y hy W' hW
        obtain ⟨K', hK', -⟩ := hkx y (List.mem_of_getElem? hy)
        exact ih i y hy (hf.args.2 y (List.mem_of_getElem? hy)) (h4 y (List.mem_of_getElem? hy)) K' hK' W' (hb.trans (hW.mono hb.size)) (hC.below hW) (hV.below hW)
      rw [evalE, if_neg (fun h => hk (.inl h)), if_neg (fun h => hk (.inr h))]
      by_cases h34 : k = 3 ∨ k = 4
      · rw [if_pos h34] at h5
        match xs, h5, hS0, hcal, hkx, h4, hfit with
        | [e1], _, hS0, hcal, hkx, h4, hfit =>
          obtain ⟨kA, vA, nmA, aoA, nA, caA, hu, hA⟩ := hS0 0 e1 rfl
          have hfA := hcal 0 e1 rfl
          rw [hu] at hfA
          simp only [Nat.zero_mul, Nat.add_zero] at hA
          have c0 := evalE_chk L r hck e1 (h4 e1 (by simp))
          obtain ⟨K1, hK1, hm1⟩ := hkx e1 (by simp)
          have hok := evalE_ok L r hr0 e1 (h4 e1 (by simp)) K1 hK1
          have hO : opR k (evalE L r e1) (evalE L r e1) = opV k (evalL L r [e1]) := by
            refine (op_one k _ h34 c0 fun e3 => ?_).symm
            rcases hok.2 with h | h
            · exact .inl h
            · rcases fit_made (madeS k) (by rw [e3]; decide) _ hfit K1 hm1 with h' | h'
              · exact .inl (h.trans h')
              · exact .inr (by rw [h, h', e3]; rfl)
          clear hS0 hcal hkx h4 hfit ih hh hc
          rcases h34 with rfl | rfl
          · exact rva_3 cv rv v nm b off cap W _ _ hO c0 hbW kA vA nmA aoA nA caA hA hfA
          · exact rva_4 cv rv v nm b off cap W _ _ hO c0 hbW kA vA nmA aoA nA caA hA hfA
      · rw [if_neg h34] at h5
        have hk5 : 5 ≤ k := by omega
        match xs, h5, hS0, hcal, hkx, h4, hfit with
        | [e1, e2], _, hS0, hcal, hkx, h4, hfit =>
          obtain ⟨kA, vA, nmA, aoA, nA, caA, hu, hA⟩ := hS0 0 e1 rfl
          obtain ⟨kB, vB, nmB, aoB, nB, caB, hu2, hB⟩ := hS0 1 e2 rfl
          have hfA := hcal 0 e1 rfl
          rw [hu] at hfA
          have hfB := hcal 1 e2 rfl
          rw [hu2] at hfB
          simp only [Nat.zero_mul, Nat.add_zero] at hA
          simp only [Nat.one_mul] at hB
          have c0 := evalE_chk L r hck e1 (h4 e1 (by simp))
          have c1 := evalE_chk L r hck e2 (h4 e2 (by simp))
          obtain ⟨K1, hK1, hm1⟩ := hkx e1 (by simp)
          obtain ⟨K2, hK2, hm2⟩ := hkx e2 (by simp)
          have hok := evalE_ok L r hr0 e1 (h4 e1 (by simp)) K1 hK1
          have hok2 := evalE_ok L r hr0 e2 (h4 e2 (by simp)) K2 hK2
          have hO : opR k (evalE L r e1) (evalE L r e2) = opV k (evalL L r [e1, e2]) := by
            refine (op_two k _ _ hk5 h3.2.1 c0 c1 fun e9 => ⟨?_, ?_⟩).symm
            · rcases hok.2 with h | h
              · exact .inl h
              · rcases fit_made (madeS k) (by rw [e9]; decide) _ hfit K1 hm1 with h' | h'
                · exact .inl (h.trans h')
                · exact .inr (by rw [h, h', e9]; rfl)
            · rcases hok2.2 with h | h
              · exact .inl h
              · rcases fit_made (madeS k) (by rw [e9]; decide) _ hfit K2 hm2 with h' | h'
                · exact .inl (h.trans h')
                · exact .inr (by rw [h, h', e9]; rfl)
          have hkc : k = 5 ∨ k = 6 ∨ k = 7 ∨ k = 8 ∨ k = 9 ∨ k = 10 ∨ k = 11 := by omega
          clear hS0 hcal hkx h4 hfit ih hh hc h3 hk5 h34
          rcases hkc with rfl | rfl | rfl | rfl | rfl | rfl | rfl
          · exact rva_5 cv rv v nm b off cap W _ _ _ hO c0 c1 hbW kA vA nmA aoA nA caA hA hfA kB vB nmB aoB nB caB hB hfB
          · exact rva_6 cv rv v nm b off cap W _ _ _ hO c0 c1 hbW kA vA nmA aoA nA caA hA hfA kB vB nmB aoB nB caB hB hfB
          · exact rva_7 cv rv v nm b off cap W _ _ _ hO c0 c1 hbW kA vA nmA aoA nA caA hA hfA kB vB nmB aoB nB caB hB hfB
          · exact rva_8 cv rv v nm b off cap W _ _ _ hO c0 c1 hbW kA vA nmA aoA nA caA hA hfA kB vB nmB aoB nB caB hB hfB
          · exact rva_9 cv rv v nm b off cap W _ _ _ hO c0 c1 hbW kA vA nmA aoA nA caA hA hfA kB vB nmB aoB nB caB hB hfB
          · exact rva_10 cv rv v nm b off cap W _ _ _ hO c0 c1 hbW kA vA nmA aoA nA caA hA hfA kB vB nmB aoB nB caB hB hfB
          · exact rva_11 cv rv v nm b off cap W _ _ _ hO c0 c1 hbW kA vA nmA aoA nA caA hA hfA kB vB nmB aoB nB caB hB hfB

set_option maxRecDepth 100000 in
set_option maxHeartbeats 800000 in
theorem rit_core (cv rv : Value) (k : Int) (v : Vl) (nm : List UInt8) (ao : Option Addr) (n ca : Nat) (w : World) (V : Vl)
    (h11 : ∀ W : World, Below w.heap.size w W → Calls Tryz.prog 11 #[cv, rv, exL k v nm (.slice ao n ca)] W fun e w' => e = .returned (vlV V) ∧ Below W.heap.size W w') :
    Calls Tryz.prog 13 #[cv, rv, exL k v nm (.slice ao n ca)] w fun e w' => e = .returned (.bool (decide (V = truthV true))) ∧ Below w.heap.size w w' := by
  have b0 := (Below.refl w.heap.size w).alloc (Nat.le_refl _) (.cells #[.int .i64 k, .int .i64 v.k, .int .i64 v.n, .string ⟨v.s.toArray⟩, .string ⟨nm.toArray⟩, .slice ao n ca] 28)
  have h1 := h11 _ b0
  have h2 := fun (W' : World) => rtr_any true W'
  have h3 := fun (W' : World) => sameV_any V (truthV true) W'
  obtain ⟨D, hD⟩ : ∃ D, decide (V = truthV true) = D := ⟨_, rfl⟩
  have hq : eqV V (truthV true) = D := by
    rw [← hD, Bool.eq_iff_iff]
    simp [eqV, vl_eq, and_assoc]
  rw [hq] at h3
  rw [hD]
  clear h11 hq hD
  unfold vlV at h1 h2
  generalize truthV true = T at *
  go_enter Tryz.func13, Tryz.ntmps13
  go_wp2_with fail
  refine h1.mono ?_
  rintro e w1 ⟨rfl, b1⟩
  have q1 : Below w.heap.size w w1 := b0.trans (b1.mono b0.size)
  clear h1 b0 b1
  go_wp2_with fail
  refine (h2 _).mono ?_
  rintro e w2 ⟨rfl, b2⟩
  have q2 : Below w.heap.size w w2 := q1.trans (b2.mono q1.size)
  clear h2 b2 q1
  go_wp2_with fail
  refine (h3 _).mono ?_
  rintro e w3 ⟨rfl, b3⟩
  have q3 : Below w.heap.size w w3 := q2.trans (b3.mono q2.size)
  clear h3 b3 q2
  go_wp2
  go_ret
  exact ⟨rfl, q3⟩

theorem rit_any (L : List Cl) (cv : Value) (r : List Vl) (rv : Value) (hr0 : rowF L r = 0) {w : World} {u : Value} {x : Ex} (h : ExAt 0 w u x) (hf : Fit x) (h0 : faultE L x = 0) (K : Int) (hK : kindE L x = some K) (hC : CsAt w cv L) (hV : VsAt w rv r) :
    Calls Tryz.prog 13 #[cv, rv, u] w fun e w' => e = .returned (.bool (decide (evalE L r x = truthV true))) ∧ Below w.heap.size w w' := by
  have h11 := fun (W : World) (hW : Below w.heap.size w W) => rvo_any L cv r rv hr0 h hf h0 K hK W hW (hC.below hW) (hV.below hW)
  have hE : ∃ k v nm ao n ca, u = exL k v nm (.slice ao n ca) := by
    cases h with
    | nil k v nm ao cap hz => exact ⟨_, _, _, _, _, _, rfl⟩
    | args k v nm b off cap xs us hx hB hs hc hh => exact ⟨_, _, _, _, _, _, rfl⟩
  obtain ⟨k, v, nm, ao, n, ca, rfl⟩ := hE
  exact rit_core cv rv k v nm ao n ca w _ h11

end Go.Proofs.YtbelnjefnhelhabGreat
