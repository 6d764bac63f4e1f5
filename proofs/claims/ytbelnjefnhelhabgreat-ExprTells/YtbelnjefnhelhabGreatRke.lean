/-
  The document's kindOf, of any expression; KindOf; CheckRow.
-/
import Derived.Test.YtbelnjefnhelhabGreatRkd
import Derived.Test.YtbelnjefnhelhabGreatRkg
import Derived.Test.YtbelnjefnhelhabGreatRkh
namespace Go.Proofs.YtbelnjefnhelhabGreat
open Go.RowKit

theorem fit_none (M : Int) (l : List (Option Int)) (h : none ∈ l) : fitK M l = false := by
  induction l generalizing M with
  | nil => cases h
  | cons o r ih =>
    cases o with
    | none => rfl
    | some k =>
      have h' : none ∈ r := by simpa using h
      rw [fitK, ih _ h']
      split <;> rfl

theorem rkd_facts (k : Int) (h3 : 3 ≤ k) (h11 : k ≤ 11) (l : List (Option Int)) (hlen : l.length = argsS k) (hp : ∀ K, some K ∈ l → 0 ≤ K) (T : Int) (hT : T = if fitK (madeS k) l = true then isSg k else -1) :
    (∀ z ∈ l.map (fun o => o.getD (-1)), z < 0 → T = -1) ∧ (∀ z ∈ l.map (fun o => o.getD (-1)), (0 : Int) < madeS k → 0 < z → z ≠ madeS k → T = -1) ∧
    ((10 : Int) ≤ k → ∀ x y, (l.map (fun o => o.getD (-1)))[0]? = some x → (l.map (fun o => o.getD (-1)))[1]? = some y → 0 < x → 0 < y → x ≠ y → T = -1) ∧
    ((∀ z ∈ l.map (fun o => o.getD (-1)), 0 ≤ z) → (∀ z ∈ l.map (fun o => o.getD (-1)), ¬ ((0 : Int) < madeS k ∧ 0 < z ∧ z ≠ madeS k)) → ((10 : Int) ≤ k → ∀ x y, (l.map (fun o => o.getD (-1)))[0]? = some x → (l.map (fun o => o.getD (-1)))[1]? = some y → ¬ (0 < x ∧ 0 < y ∧ x ≠ y)) → T = isSg k) := by
  by_cases hn : none ∈ l
  · have e : T = -1 := by rw [hT, fit_none _ l hn]; rfl
    refine ⟨fun _ _ _ => e, fun _ _ _ _ _ => e, fun _ _ _ _ _ _ _ _ => e, fun h => ?_⟩
    have := h (-1) (List.mem_map.2 ⟨none, hn, rfl⟩)
    exact absurd this (by decide)
  · by_cases h4 : k ≤ 4
    · have e1 : argsS k = 1 := by unfold argsS; rw [if_neg (by omega), if_pos (by omega)]
      rw [e1] at hlen
      match l, hlen, hn, hp, hT with
      | [none], _, hn, _, _ => exact absurd (List.mem_singleton.2 rfl) hn
      | [some a], _, _, hp, hT =>
        have ha := hp a (by simp)
        rw [fit_one k a (by omega) ha] at hT
        have hr : fitR k [a] = true ↔ ¬ (0 < madeS k ∧ 0 < a ∧ a ≠ madeS k) := by
          unfold fitR
          simp only [List.all_cons, List.all_nil, List.getD_cons_zero, List.getD_cons_succ, Bool.and_eq_true, Bool.not_eq_true', Bool.and_true, Bool.and_eq_false_iff, decide_eq_false_iff_not]
          constructor
          · rintro ⟨h1, h2⟩
            omega
          · intro h1
            exact ⟨by omega, by omega⟩
        refine ⟨fun z hz h => ?_, fun z hz m1 m2 m3 => ?_, fun h => by omega, fun q1 q2 q3 => ?_⟩
        · simp at hz; omega
        · simp at hz; subst hz
          rw [hT, if_neg (fun hh => hr.1 hh ⟨m1, m2, m3⟩)]
        · rw [hT, if_pos (hr.2 (q2 a (by simp)))]
    · have e1 : argsS k = 2 := by unfold argsS; rw [if_neg (by omega), if_neg (by omega)]
      rw [e1] at hlen
      match l, hlen, hn, hp, hT with
      | [none, _], _, hn, _, _ => exact absurd (by simp) hn
      | [some _, none], _, hn, _, _ => exact absurd (by simp) hn
      | [some a, some b], _, _, hp, hT =>
        have ha := hp a (by simp)
        have hb := hp b (by simp)
        rw [fit_two k a b (by omega) h11 ha hb] at hT
        have hr : fitR k [a, b] = true ↔ (¬ (0 < madeS k ∧ 0 < a ∧ a ≠ madeS k)) ∧ (¬ (0 < madeS k ∧ 0 < b ∧ b ≠ madeS k)) ∧ ¬ (10 ≤ k ∧ 0 < a ∧ 0 < b ∧ a ≠ b) := by
          unfold fitR
          simp only [List.all_cons, List.all_nil, List.getD_cons_zero, List.getD_cons_succ, Bool.and_eq_true, Bool.not_eq_true', Bool.and_true, Bool.and_eq_false_iff, decide_eq_false_iff_not]
          constructor
          · rintro ⟨⟨h1, h2⟩, h3⟩
            exact ⟨by omega, by omega, by omega⟩
          · rintro ⟨h1, h2, h3⟩
            exact ⟨⟨by omega, by omega⟩, by omega⟩
        refine ⟨fun z hz h => ?_, fun z hz m1 m2 m3 => ?_, fun h x y hx hy p1 p2 p3 => ?_, fun q1 q2 q3 => ?_⟩
        · simp at hz; omega
        · simp at hz
          rcases hz with rfl | rfl
          · rw [hT, if_neg (fun hh => (hr.1 hh).1 ⟨m1, m2, m3⟩)]
          · rw [hT, if_neg (fun hh => (hr.1 hh).2.1 ⟨m1, m2, m3⟩)]
        · simp at hx hy
          subst hx; subst hy
          rw [hT, if_neg (fun hh => (hr.1 hh).2.2 ⟨h, p1, p2, p3⟩)]
        · rw [hT, if_pos (hr.2 ⟨q2 a (by simp), q2 b (by simp), fun hh => q3 hh.1 a b (by simp) (by simp) hh.2⟩)]

theorem kindE_nonneg (L : List Cl) (hL : ∀ c ∈ L, 0 ≤ c.ty) (x : Ex) (hf : faultE L x = 0) (K : Int) (h : kindE L x = some K) : 0 ≤ K := by
  obtain ⟨k, v, nm, args⟩ := x
  have h7 := (partF_zero (faultE_zero hf).1).2.2.2.2.2.2
  rw [kindE] at h
  by_cases e1 : k = 1
  · rw [if_pos e1] at h; cases h
    simp only [Ex.v] at h7
    rcases chkV_zero h7 with h | h | h | h <;> omega
  rw [if_neg e1] at h
  by_cases e2 : k = 2
  · rw [if_pos e2] at h; cases h
    cases e : L[(placeC L nm).getD 0]? with
    | none => exact Int.le_refl 0
    | some c => exact hL c (List.mem_of_getElem? e)
  rw [if_neg e2] at h
  by_cases hq : fitK (madeS k) (kindL L args) = true
  · rw [if_pos hq] at h; cases h
    unfold isSg; split <;> (try split) <;> omega
  · rw [if_neg hq] at h; cases h

theorem kindL_get (L : List Cl) (xs : List Ex) (i : Nat) (y : Ex) (hy : xs[i]? = some y) : (kindL L xs)[i]? = some (kindE L y) := by
  induction xs generalizing i with
  | nil => cases hy
  | cons z zs ih =>
    rw [kindL]
    cases i with
    | zero => cases hy; rfl
    | succ i => exact ih i (by simpa using hy)

set_option maxRecDepth 100000 in
set_option maxHeartbeats 800000 in
theorem rkd_1 (cv : Value) (v : Vl) (nm : List UInt8) (ao : Option Addr) (n ca : Nat) (W : World) :
    Calls Tryz.prog 26 #[cv, exL 1 v nm (.slice ao n ca)] W fun e w' => e = .returned (.int .i64 v.k) ∧ Below W.heap.size W w' := by
  go_enter Tryz.func26, Tryz.ntmps26
  go_wp2
  go_ret
  exact ⟨rfl, (Below.refl _ _).alloc (Nat.le_refl _) _⟩

set_option maxRecDepth 100000 in
set_option maxHeartbeats 1600000 in
theorem rkd_2 (g o cc m i : Nat) (t : Int) (v : Vl) (nm : List UInt8) (ao : Option Addr) (n ca : Nat) (W : World) (hg : g < W.heap.size) (hi : i < m) (ht : W.cell? ⟨g, o + i * 2 + 1, none⟩ = some (.int .i64 t))
    (hp : ∀ W' : World, Below W.heap.size W W' → Calls Tryz.prog 16 #[.slice (some ⟨g, o, none⟩) m cc, .string ⟨nm.toArray⟩] W' fun e w' => e = .returned (.int .i64 (i : Nat)) ∧ Below W'.heap.size W' w') :
    Calls Tryz.prog 26 #[.slice (some ⟨g, o, none⟩) m cc, exL 2 v nm (.slice ao n ca)] W fun e w' => e = .returned (.int .i64 t) ∧ Below W.heap.size W w' := by
  have b0 := (Below.refl W.heap.size W).alloc (Nat.le_refl _) (.cells #[.int .i64 2, .int .i64 v.k, .int .i64 v.n, .string ⟨v.s.toArray⟩, .string ⟨nm.toArray⟩, .slice ao n ca] 28)
  have h1 := hp _ b0
  have hi' : (i : Int) < (m : Int) := by omega
  clear hp
  go_enter Tryz.func26, Tryz.ntmps26
  go_wp2_with fail
  refine h1.mono ?_
  rintro e w1 ⟨rfl, b1⟩
  have q1 : Below W.heap.size W w1 := b0.trans (b1.mono (by simp))
  have c1 := (q1.cell (p := ⟨g, o + i * 2 + 1, none⟩) hg).trans ht
  clear h1 b0 b1 ht
  go_wp2
  go_ret
  exact ⟨rfl, q1⟩

theorem rko_any (L : List Cl) (cv : Value) (hL : ∀ c ∈ L, 0 ≤ c.ty) {B : Nat} {w0 : World} {u : Value} {x : Ex} (h : ExAt B w0 u x) : Fit x → faultE L x = 0 → ∀ W : World, Below w0.heap.size w0 W → CsAt W cv L →
    Calls Tryz.prog 26 #[cv, u] W fun e w' => e = .returned (.int .i64 ((kindE L x).getD (-1))) ∧ Below W.heap.size W w' := by
  have lit : ∀ (k : Int) (v : Vl) (nm : List UInt8) (ao : Option Addr) (n ca : Nat) (xs : List Ex) (W : World), k = 1 ∨ k = 2 → faultE L (.mk k v nm xs) = 0 → CsAt W cv L →
      Calls Tryz.prog 26 #[cv, exL k v nm (.slice ao n ca)] W fun e w' => e = .returned (.int .i64 ((kindE L (.mk k v nm xs)).getD (-1))) ∧ Below W.heap.size W w' := by
    intro k v nm ao n ca xs W hk hf hC
    rw [kindE]
    rcases hk with rfl | rfl
    · rw [if_pos rfl]
      exact rkd_1 cv v nm ao n ca W
    · rw [if_neg (by decide), if_pos rfl]
      have h6 := (partF_zero (faultE_zero hf).1).2.2.2.2.2.1
      simp only [Ex.k, Ex.nm] at h6
      obtain ⟨i, hi⟩ := h6 trivial
      have hlt := placeC_lt L nm i hi
      have hc : L[i]? = some L[i] := List.getElem?_eq_getElem hlt
      rw [hi, Option.getD_some, Option.getD_some, hc]
      have hp := fun (W' : World) (hW : Below W.heap.size W W') => rcol_any L cv nm W' (hC.below hW)
      rw [placeI_some hi] at hp
      obtain ⟨ao2, cap2, rfl, h1, h2⟩ := hC
      obtain ⟨g, o, rfl, hg, hcc⟩ := h2 (by intro e; rw [e] at hlt; exact absurd hlt (Nat.not_lt_zero _))
      exact rkd_2 g o cap2 L.length i _ v nm ao n ca W hg hlt (hcc i _ hc).2 hp
  induction h with
  | nil k v nm ao cap hz =>
    intro hf h0 W hb hC
    refine lit k v nm ao 0 cap [] W ?_ h0 hC
    have h3 := partF_zero (faultE_zero h0).1
    simp only [Ex.k, Ex.args] at h3
    have h4 := h3.2.2.1
    unfold argsS at h4
    by_cases hk : k = 1 ∨ k = 2
    · exact hk
    · rw [if_neg hk] at h4
      exfalso
      split at h4 <;> simp at h4
  | args k v nm b off cap xs us hx hB hs hc hh ih =>
    intro hf h0 W hb hC
    by_cases hk : k = 1 ∨ k = 2
    · exact lit k v nm _ _ cap xs W hk h0 hC
    · have h3 := partF_zero (faultE_zero h0).1
      simp only [Ex.k, Ex.args] at h3
      have h4 := faultL_zero (faultE_zero h0).2
      have hlen : xs.length = argsS k := h3.2.2.1
      have hbW : b < W.heap.size := Nat.lt_of_lt_of_le hs hb.size
      have hpos : ∀ K, some K ∈ kindL L xs → 0 ≤ K := by
        intro K hK
        obtain ⟨i, hi, e⟩ := List.getElem_of_mem hK
        have hi' : i < xs.length := by rw [← kindL_len L xs]; exact hi
        have := kindL_get L xs i _ (List.getElem?_eq_getElem hi')
        rw [List.getElem?_eq_getElem hi, e] at this
        exact kindE_nonneg L hL _ (h4 _ (List.getElem_mem hi')) K (Option.some.inj this).symm
      obtain ⟨f1, f2, f3, f4⟩ := rkd_facts k (by omega) h3.2.1 (kindL L xs) (by rw [kindL_len]; exact hlen) hpos ((kindE L (.mk k v nm xs)).getD (-1)) (by
        rw [kindE, if_neg (fun h => hk (.inl h)), if_neg (fun h => hk (.inr h))]
        by_cases hq : fitK (madeS k) (kindL L xs) = true
        · rw [if_pos hq, if_pos hq]; rfl
        · rw [if_neg hq, if_neg hq]; rfl)
      have hS0 := six_at hb hs hc hh
      have hF' : ∀ i z, ((kindL L xs).map (fun o => o.getD (-1)))[i]? = some z → ∀ W' : World, Below W.heap.size W W' → Calls Tryz.prog 26 #[cv, us i] W' fun e w' => e = .returned (.int .i64 z) ∧ Below W'.heap.size W' w' := by
        intro i z hz W' hW
        have hi : i < xs.length := by
          have := (List.getElem?_eq_some_iff.1 hz).1
          rw [List.length_map, kindL_len] at this; exact this
        have hy := List.getElem?_eq_getElem hi
        rw [List.getElem?_map, kindL_get L xs i _ hy] at hz
        have hz' : (kindE L xs[i]).getD (-1) = z := by simpa using hz
        rw [← hz']
        exact ih i _ hy (hf.args.2 _ (List.getElem_mem hi)) (h4 _ (List.getElem_mem hi)) W' (hb.trans (hW.mono hb.size)) (hC.below hW)
      have hS : ∀ i, i < xs.length → _ := fun i hi => hS0 i _ (List.getElem?_eq_getElem hi)
      rw [hlen] at hS ⊢
      have hkc : k = 3 ∨ k = 4 ∨ k = 5 ∨ k = 6 ∨ k = 7 ∨ k = 8 ∨ k = 9 ∨ k = 10 ∨ k = 11 := by omega
      clear hS0 h3 hx hc hh ih
      rcases hkc with rfl | rfl | rfl | rfl | rfl | rfl | rfl | rfl | rfl
      · exact rkd_3 cv v nm b off cap W _ us _ (by rw [List.length_map, kindL_len]; exact hlen) hbW f1 f2 f3 f4 hS hF' (fun W' => between_rw (by decide) W')
      · exact rkd_4 cv v nm b off cap W _ us _ (by rw [List.length_map, kindL_len]; exact hlen) hbW f1 f2 f3 f4 hS hF' (fun W' => between_rw (by decide) W')
      · exact rkd_5 cv v nm b off cap W _ us _ (by rw [List.length_map, kindL_len]; exact hlen) hbW f1 f2 f3 f4 hS hF' (fun W' => between_rw (by decide) W')
      · exact rkd_6 cv v nm b off cap W _ us _ (by rw [List.length_map, kindL_len]; exact hlen) hbW f1 f2 f3 f4 hS hF' (fun W' => between_rw (by decide) W')
      · exact rkd_7 cv v nm b off cap W _ us _ (by rw [List.length_map, kindL_len]; exact hlen) hbW f1 f2 f3 f4 hS hF' (fun W' => between_rw (by decide) W')
      · exact rkd_8 cv v nm b off cap W _ us _ (by rw [List.length_map, kindL_len]; exact hlen) hbW f1 f2 f3 f4 hS hF' (fun W' => between_rw (by decide) W')
      · exact rkd_9 cv v nm b off cap W _ us _ (by rw [List.length_map, kindL_len]; exact hlen) hbW f1 f2 f3 f4 hS hF' (fun W' => between_rw (by decide) W')
      · exact rkd_10 cv v nm b off cap W _ us _ (by rw [List.length_map, kindL_len]; exact hlen) hbW f1 f2 f3 f4 hS hF' (fun W' => between_rw (by decide) W')
      · exact rkd_11 cv v nm b off cap W _ us _ (by rw [List.length_map, kindL_len]; exact hlen) hbW f1 f2 f3 f4 hS hF' (fun W' => between_rw (by decide) W')

end Go.Proofs.YtbelnjefnhelhabGreat
