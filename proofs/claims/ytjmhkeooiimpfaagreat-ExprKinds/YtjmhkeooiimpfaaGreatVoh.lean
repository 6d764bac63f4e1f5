/-
  'valueOf' of package expr, of any expression.
-/
import Derived.Test.YtjmhkeooiimpfaaGreatVog
namespace Go.Proofs.YtjmhkeooiimpfaaGreat
open Go.RowKit

theorem rowF_zero {L : List Cl} {r : List Vl} (h : rowF L r = 0) : r.length = L.length ∧ (∀ x ∈ r, chkV x.k x.n x.s = 0) ∧ kindsR L r = true := by
  unfold rowF at h
  by_cases hl : r.length ≠ L.length
  · rw [if_pos hl] at h; cases h
  rw [if_neg hl] at h
  by_cases hb : badR r ≠ 0
  · rw [if_pos hb] at h; exact absurd h hb
  rw [if_neg hb] at h
  refine ⟨Classical.not_not.1 hl, (badR_zero r).1 (Classical.not_not.1 hb), ?_⟩
  cases e : kindsR L r
  · rw [e] at h; cases h
  · rfl

theorem evalE_chk (L : List Cl) (r : List Vl) (hr : ∀ x ∈ r, chkV x.k x.n x.s = 0) (x : Ex) (hf : faultE L x = 0) : chkV (evalE L r x).k (evalE L r x).n (evalE L r x).s = 0 := by
  obtain ⟨k, v, nm, args⟩ := x
  obtain ⟨h1, h2⟩ := faultE_zero hf
  obtain ⟨p1, p2, p3, p4, p5, p6, p7⟩ := partF_zero h1
  rw [evalE]
  by_cases e1 : k = 1
  · rw [if_pos e1]; exact p7
  rw [if_neg e1]
  by_cases e2 : k = 2
  · rw [if_pos e2]
    rw [List.getD_eq_getElem?_getD]
    cases e : r[(placeC L nm).getD 0]? with
    | none => exact chk_vl0
    | some y => exact hr y (List.mem_of_getElem? e)
  rw [if_neg e2]
  exact (opV_ok _ _).1

theorem evalL_get (L : List Cl) (r : List Vl) (xs : List Ex) (i : Nat) (y : Ex) (hy : xs[i]? = some y) : (evalL L r xs)[i]? = some (evalE L r y) := by
  induction xs generalizing i with
  | nil => cases hy
  | cons z zs ih =>
    rw [evalL]
    cases i with
    | zero => cases hy; rfl
    | succ i => exact ih i (by simpa using hy)

theorem valueOf_any (L : List Cl) (cv : Value) (r : List Vl) (rv : Value) (hr : r.length = L.length) (hck : ∀ x ∈ r, chkV x.k x.n x.s = 0) {B : Nat} {w0 : World} {u : Value} {x : Ex} (h : ExAt B w0 u x) : Fit x → faultE L x = 0 → ∀ W : World, Below w0.heap.size w0 W → CsAt W cv L → VsAt W rv r →
    Calls Tryz.prog 17 #[cv, rv, u] W fun e w' => e = .returned (vlV (evalE L r x)) ∧ Below W.heap.size W w' := by
  have lit : ∀ (k : Int) (v : Vl) (nm : List UInt8) (ao : Option Addr) (n ca : Nat) (xs : List Ex) (W : World), k = 1 ∨ k = 2 → faultE L (.mk k v nm xs) = 0 → CsAt W cv L → VsAt W rv r →
      Calls Tryz.prog 17 #[cv, rv, exL k v nm (.slice ao n ca)] W fun e w' => e = .returned (vlV (evalE L r (.mk k v nm xs))) ∧ Below W.heap.size W w' := by
    intro k v nm ao n ca xs W hk hf hC hV
    rw [evalE]
    rcases hk with rfl | rfl
    · rw [if_pos rfl]
      exact vof_1 cv rv v nm ao n ca W
    · rw [if_neg (by decide), if_pos rfl]
      have h6 := (partF_zero (faultE_zero hf).1).2.2.2.2.2.1
      simp only [Ex.k, Ex.nm] at h6
      obtain ⟨i, hi⟩ := h6 trivial
      have hlt := placeC_lt L nm i hi
      have hlt' : i < r.length := by omega
      have hc : r[i]? = some r[i] := List.getElem?_eq_getElem hlt'
      have hg : r.getD i vl0 = r[i] := by simp [List.getD, hc]
      rw [hi, Option.getD_some, hg]
      have hp := fun (W' : World) (hW : Below W.heap.size W W') => place_any L cv nm W' (hC.below hW)
      rw [placeI_some hi] at hp
      obtain ⟨ao2, cap2, rfl, h1, h2, h3⟩ := hV
      obtain ⟨g, o, rfl, hg', hcc⟩ := h3 (by intro e; rw [e] at hlt'; exact absurd hlt' (Nat.not_lt_zero _))
      exact vof_2 cv g o cap2 r.length i _ v nm ao n ca W hg' hlt' (hcc i _ hc) hp
  induction h with
  | nil k v nm ao cap hz =>
    intro hf h0 W hb hC hV
    refine lit k v nm ao 0 cap [] W ?_ h0 hC hV
    have h3 := partF_zero (faultE_zero h0).1
    simp only [Ex.k, Ex.args] at h3
    have h4 := h3.2.2.1
    unfold argsS at h4
    by_cases hk : k = 1 ∨ k = 2
    · exact hk
    · rw [if_neg hk] at h4
      exfalso
      split at h4 <;> simp at h4
  | args k v nm b off cap xs us hx hB hs hc hh ih =>
    intro hf h0 W hb hC hV
    by_cases hk : k = 1 ∨ k = 2
    · exact lit k v nm _ _ cap xs W hk h0 hC hV
    · have h3 := partF_zero (faultE_zero h0).1
      simp only [Ex.k, Ex.args] at h3
      have h4 := faultL_zero (faultE_zero h0).2
      have h5 := h3.2.2.1
      rw [argsS, if_neg hk] at h5
      rw [evalE, if_neg (fun h => hk (.inl h)), if_neg (fun h => hk (.inr h))]
      have hbW : b < W.heap.size := Nat.lt_of_lt_of_le hs hb.size
      refine vof_args cv rv k (by simpa using fun h => hk (.inl h)) (by simpa using fun h => hk (.inr h)) v nm b off xs.length cap xs (evalL L r xs) us W rfl (evalL_len L r xs) ?_ ?_ ?_ ?_ hbW (six_at hb hs hc hh) ?_
      · rw [h5]; split <;> omega
      · intro h; rw [h5, if_pos (.inl h)]
      · intro h1 h2
        by_cases e4 : k = 4
        · rw [dspO, if_pos e4] at h2; cases h2
        · rw [h5, if_neg (by rintro (h | h); exact absurd h (by simpa using h1); exact e4 h)]
      · intro z hz
        obtain ⟨i, hi, e⟩ := List.getElem_of_mem hz
        have hi' : i < xs.length := by rw [← evalL_len L r xs]; exact hi
        have := evalL_get L r xs i _ (List.getElem?_eq_getElem hi')
        rw [List.getElem?_eq_getElem hi, e] at this
        cases this
        exact evalE_chk L r hck _ (h4 _ (List.getElem_mem hi'))
      · intro i y z hy hz W' hW
        rw [evalL_get L r xs i y hy] at hz
        cases hz
        exact ih i y hy (hf.args.2 y (List.mem_of_getElem? hy)) (h4 y (List.mem_of_getElem? hy)) W' (hb.trans (hW.mono hb.size)) (hC.below hW) (hV.below hW)

end Go.Proofs.YtjmhkeooiimpfaaGreat
