/-
  Expressions without memory: the document's way.
-/
import Derived.Test.YtbelnjefnhelhabGreatExP
namespace Go.Proofs.YtbelnjefnhelhabGreat
open Go.RowKit

/-- the document's way with the kinds of Args -/
def fitR (k : Int) (ks : List Int) : Bool :=
  ks.all (fun x => !(decide (0 < madeS k) && decide (0 < x) && decide (x ≠ madeS k))) && !(decide (10 ≤ k) && decide (0 < ks.getD 0 0) && decide (0 < ks.getD 1 0) && decide (ks.getD 0 0 ≠ ks.getD 1 0))

theorem fit_one (k a : Int) (hk : k = 3 ∨ k = 4) (ha : 0 ≤ a) : fitK (madeS k) [some a] = fitR k [a] := by
  have hz : 0 < a ↔ a ≠ 0 := by omega
  rcases hk with rfl | rfl <;> simp [fitK, fitR, madeS, hz]

theorem fit_two (k a b : Int) (hk : 5 ≤ k) (hk' : k ≤ 11) (ha : 0 ≤ a) (hb : 0 ≤ b) : fitK (madeS k) [some a, some b] = fitR k [a, b] := by
  have hz : 0 < a ↔ a ≠ 0 := by omega
  have hy : 0 < b ↔ b ≠ 0 := by omega
  have hc : k = 5 ∨ k = 6 ∨ k = 7 ∨ k = 8 ∨ k = 9 ∨ k = 10 ∨ k = 11 := by omega
  rcases hc with rfl | rfl | rfl | rfl | rfl | rfl | rfl
  all_goals
    simp only [fitK, fitR, madeS, List.all_cons, List.all_nil, List.getD_cons_zero, List.getD_cons_succ]
    rw [Bool.eq_iff_iff]
    by_cases h1 : a = 0 <;> by_cases h2 : b = 0 <;> simp [h1, h2, hz, hy] <;> omega

/-- of two values: the document's way -/
def opR (k : Int) (a b : Vl) : Vl :=
  if k = 4 then truthV (decide (a.k = 0))
  else if k = 5 ∧ (a.k = 3 ∧ a.n = 0 ∨ b.k = 3 ∧ b.n = 0) then truthV false
  else if k = 6 ∧ (a.k = 3 ∧ a.n = 1 ∨ b.k = 3 ∧ b.n = 1) then truthV true
  else if a.k = 0 ∨ b.k = 0 then vl0
  else if k = 3 then truthV (decide (a.n = 0))
  else if k = 5 then truthV true
  else if k = 6 then truthV false
  else if k = 7 then (if isInt (a.n + b.n) = true then ⟨1, a.n + b.n, []⟩ else vl0)
  else if k = 8 then (if isInt (a.n - b.n) = true then ⟨1, a.n - b.n, []⟩ else vl0)
  else if k = 9 then (if 20 < a.s.length + b.s.length then vl0 else ⟨2, 0, a.s ++ b.s⟩)
  else if k = 10 then truthV (decide (ordV a.k a.n a.s b.k b.n b.s < 0))
  else truthV (decide (ordV a.k a.n a.s b.k b.n b.s = 0))

theorem vl_eq (a b : Vl) : a = b ↔ a.k = b.k ∧ a.n = b.n ∧ a.s = b.s := by
  obtain ⟨k, n, s⟩ := a
  obtain ⟨k', n', s'⟩ := b
  simp

theorem is_none (a : Vl) (h : chkV a.k a.n a.s = 0) : a = vl0 ↔ a.k = 0 := by
  rw [vl_eq]
  rcases chkV_zero h with ⟨h1, h2, h3⟩ | ⟨h1, _, _, h3⟩ | ⟨h1, h2, _⟩ | ⟨h1, h2, h3⟩ <;> simp [vl0, h1]
  exact ⟨h2, h3⟩

theorem is_truth (a : Vl) (b : Bool) (h : chkV a.k a.n a.s = 0) : a = truthV b ↔ a.k = 3 ∧ a.n = (if b = true then 1 else 0) := by
  rw [vl_eq]
  rcases chkV_zero h with ⟨h1, h2, h3⟩ | ⟨h1, _, _, h3⟩ | ⟨h1, h2, _⟩ | ⟨h1, h2, h3⟩ <;> simp [truthV, h1]
  intro _; exact h3

theorem compareInt_zero (x y : Int) : Lib.compareInt x y = 0 ↔ x = y := by
  unfold Lib.compareInt
  constructor
  · intro h
    by_cases h1 : x < y
    · rw [if_pos h1] at h; cases h
    · rw [if_neg h1] at h
      by_cases h2 : x > y
      · rw [if_pos h2] at h; cases h
      · omega
  · rintro rfl; rw [if_neg (by omega), if_neg (by omega)]

theorem ordV_zero (K N : Int) (S : List UInt8) (K' N' : Int) (S' : List UInt8) : ordV K N S K' N' S' = 0 ↔ K = K' ∧ N = N' ∧ S = S' := by
  unfold ordV orV
  by_cases h1 : Lib.compareInt K K' = 0
  · by_cases h2 : Lib.compareInt N N' = 0
    · simp only [h1, h2]
      have := (compareInt_zero K K').1 h1
      have := (compareInt_zero N N').1 h2
      have h3 := cmp_same S S'
      simp [*]
    · have : N ≠ N' := fun e => h2 ((compareInt_zero N N').2 e)
      simp [h1, h2, this]
  · have : K ≠ K' := fun e => h1 ((compareInt_zero K K').2 e)
    simp [h1, this]

theorem op_one (k : Int) (a : Vl) (hk : k = 3 ∨ k = 4) (ha : chkV a.k a.n a.s = 0) (hf : k = 3 → a.k = 0 ∨ a.k = 3) : opV k [a] = opR k a a := by
  have h0 := is_none a ha
  have hF := is_truth a false ha
  have c0 : ([a].contains vl0) = decide (a.k = 0) := by
    rw [Bool.eq_iff_iff]
    simp only [List.contains_cons, List.contains_nil, Bool.or_false, beq_iff_eq, decide_eq_true_eq]
    rw [eq_comm, h0]
  rcases hk with rfl | rfl
  · unfold opV opR
    rw [c0]
    by_cases e : a.k = 0
    · simp [e]
    · have h3 : a.k = 3 := by rcases hf rfl with h | h; exact absurd h e; exact h
      have e2 : decide (a = truthV false) = decide (a.n = 0) := by
        rw [Bool.eq_iff_iff, decide_eq_true_eq, decide_eq_true_eq, hF]; simp [h3]
      simp [h3, e2]
  · unfold opV opR
    rw [c0]
    simp

theorem orNo_int (n : Int) : orNo ⟨1, n, []⟩ = if isInt n = true then ⟨1, n, []⟩ else vl0 := by
  have e : chkV 1 n [] = if isInt n = true then 0 else 3 := by simp [chkV]
  show (if chkV 1 n [] = 0 then (⟨1, n, []⟩ : Vl) else vl0) = _
  rw [e]
  by_cases h : isInt n = true
  · simp [h]
  · simp [h]

theorem op_two (k : Int) (a b : Vl) (hk : 5 ≤ k) (hk' : k ≤ 11) (ha : chkV a.k a.n a.s = 0) (hb : chkV b.k b.n b.s = 0) (h9 : k = 9 → (a.k = 0 ∨ a.k = 2) ∧ (b.k = 0 ∨ b.k = 2)) : opV k [a, b] = opR k a b := by
  have a0 := is_none a ha
  have aF := is_truth a false ha
  have aT := is_truth a true ha
  have b0 := is_none b hb
  have bF := is_truth b false hb
  have bT := is_truth b true hb
  have c0 : ([a, b].contains vl0 = true) ↔ (a.k = 0 ∨ b.k = 0) := by
    simp only [List.contains_cons, List.contains_nil, Bool.or_false, Bool.or_eq_true, beq_iff_eq]
    rw [eq_comm, a0, eq_comm (a := vl0), b0]
  have cF : ([a, b].contains (truthV false) = true) ↔ (a.k = 3 ∧ a.n = 0 ∨ b.k = 3 ∧ b.n = 0) := by
    simp only [List.contains_cons, List.contains_nil, Bool.or_false, Bool.or_eq_true, beq_iff_eq]
    rw [eq_comm, aF, eq_comm (a := truthV false), bF]; simp
  have cT : ([a, b].contains (truthV true) = true) ↔ (a.k = 3 ∧ a.n = 1 ∨ b.k = 3 ∧ b.n = 1) := by
    simp only [List.contains_cons, List.contains_nil, Bool.or_false, Bool.or_eq_true, beq_iff_eq]
    rw [eq_comm, aT, eq_comm (a := truthV true), bT]; simp
  unfold opV opR
  rw [if_neg (show ¬ k = 4 by omega), if_neg (show ¬ k = 4 by omega)]
  by_cases e5 : k = 5 ∧ (a.k = 3 ∧ a.n = 0 ∨ b.k = 3 ∧ b.n = 0)
  · rw [if_pos e5, if_pos ⟨e5.1, cF.2 e5.2⟩]
  rw [if_neg e5, if_neg (fun h => e5 ⟨h.1, cF.1 h.2⟩)]
  by_cases e6 : k = 6 ∧ (a.k = 3 ∧ a.n = 1 ∨ b.k = 3 ∧ b.n = 1)
  · rw [if_pos e6, if_pos ⟨e6.1, cT.2 e6.2⟩]
  rw [if_neg e6, if_neg (fun h => e6 ⟨h.1, cT.1 h.2⟩)]
  by_cases e0 : a.k = 0 ∨ b.k = 0
  · rw [if_pos e0, if_pos (c0.2 e0)]
  rw [if_neg e0, if_neg (fun h => e0 (c0.1 h)), if_neg (show ¬ k = 3 by omega), if_neg (show ¬ k = 3 by omega)]
  simp only [List.getD_cons_zero, List.getD_cons_succ]
  unfold twoV
  by_cases k5 : k = 5
  · rw [if_pos k5, if_pos k5]
  rw [if_neg k5, if_neg k5]
  by_cases k6 : k = 6
  · rw [if_pos k6, if_pos k6]
  rw [if_neg k6, if_neg k6]
  by_cases k7 : k = 7
  · rw [if_pos k7, if_pos k7, orNo_int]
  rw [if_neg k7, if_neg k7]
  by_cases k8 : k = 8
  · rw [if_pos k8, if_pos k8, orNo_int]
  rw [if_neg k8, if_neg k8]
  by_cases k9 : k = 9
  · rw [if_pos k9, if_pos k9]
    obtain ⟨x1, x2⟩ := h9 k9
    have ka : a.k = 2 := by rcases x1 with h | h; exact absurd (Or.inl h) e0; exact h
    have kb : b.k = 2 := by rcases x2 with h | h; exact absurd (Or.inr h) e0; exact h
    have qa : a.s.all isQ = true := by
      rw [ka] at ha; unfold chkV at ha
      by_cases h : a.n = 0 ∧ quotB a.s = true
      · have := h.2; simp only [quotB, Bool.and_eq_true] at this; exact this.2
      · simp [h] at ha
    have qb : b.s.all isQ = true := by
      rw [kb] at hb; unfold chkV at hb
      by_cases h : b.n = 0 ∧ quotB b.s = true
      · have := h.2; simp only [quotB, Bool.and_eq_true] at this; exact this.2
      · simp [h] at hb
    have e : quotB (a.s ++ b.s) = decide (a.s.length + b.s.length ≤ 20) := by
      unfold quotB
      rw [List.length_append, List.all_append, qa, qb]; simp
    have e2 : chkV 2 0 (a.s ++ b.s) = if a.s.length + b.s.length ≤ 20 then 0 else 3 := by
      unfold chkV
      rw [e]; simp
    show (if chkV 2 0 (a.s ++ b.s) = 0 then (⟨2, 0, a.s ++ b.s⟩ : Vl) else vl0) = _
    rw [e2]
    by_cases h : 20 < a.s.length + b.s.length
    · rw [if_pos h, if_neg (show ¬ a.s.length + b.s.length ≤ 20 by omega)]; rfl
    · rw [if_neg h, if_pos (show a.s.length + b.s.length ≤ 20 by omega)]; rfl
  rw [if_neg k9, if_neg k9]
  have hN : ordN a.k a.n a.s b.k b.n b.s = ordV a.k a.n a.s b.k b.n b.s := by simp [ordN, ordE, ha, hb]
  by_cases k10 : k = 10
  · rw [if_pos k10, if_pos k10, hN]
  rw [if_neg k10, if_neg k10]
  congr 1
  rw [Bool.eq_iff_iff, decide_eq_true_eq, decide_eq_true_eq, ordV_zero, vl_eq]

end Go.Proofs.YtbelnjefnhelhabGreat
