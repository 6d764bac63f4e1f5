/-
  How rows change, without memory: what Check and Apply of package delta answer.
-/
import Derived.Test.YtcnnjladaoaeiaaGreatDoorWty
import Derived.Test.YtcnnjladaoaeiaaGreatDoorKeysP
namespace Go.Proofs.YtcnnjladaoaeiaaGreatDoor
open Go.RowKit

structure Dl where
  k : Int
  a : Int
  ty : Int
  v : Vl

/-- what is wrong with a delta, whatever rows it is for -/
def formF (d : Dl) : Nat :=
  if d.k = 1 then (if d.a ≠ 0 ∨ d.ty ≠ 0 then 1 else chkV d.v.k d.v.n d.v.s)
  else if d.k = 2 then (if d.ty ≠ 0 ∨ d.v ≠ vl0 then 1 else 0)
  else if d.k = 3 then (if d.v ≠ vl0 then 1 else 0)
  else 7

/-- how many values there are behind a delta; what is wrong -/
def widB (w : Int) (d : Dl) : Int × Nat :=
  if formF d ≠ 0 then (0, formF d)
  else if d.k = 1 then (if w = 5 then (0, 2) else (w + 1, 0))
  else if d.a < 0 ∨ w ≤ d.a then (0, 5)
  else if d.k = 2 then (w - 1, 0)
  else if 1 ≤ d.ty ∧ d.ty ≤ 3 then (w, 0) else (0, 7)

def ckD : Int → List Dl → Int × Nat
  | w, [] => (w, 0)
  | w, d :: r => if (widB w d).2 = 0 then ckD (widB w d).1 r else (0, (widB w d).2)

def checkD (w : Int) (L : List Dl) : Int × Nat := if w < 0 ∨ 5 < w then (0, 3) else ckD w L

def castX (x : Vl) (t : Int) : Vl := ⟨(castV x.k x.n x.s t).1, (castV x.k x.n x.s t).2.1, (castV x.k x.n x.s t).2.2⟩

/-- a row behind a delta -/
def rowB (r : List Vl) (d : Dl) : List Vl :=
  if d.k = 1 then r ++ [d.v] else if d.k = 2 then r.eraseIdx d.a.toNat else r.set d.a.toNat (castX (r.getD d.a.toNat vl0) d.ty)

def applyE (r : List Vl) (L : List Dl) : Nat := if 5 < r.length then 2 else if (checkD r.length L).2 ≠ 0 then (checkD r.length L).2 else badL r
def applyL (r : List Vl) (L : List Dl) : List Vl := if applyE r L = 0 then L.foldl rowB r else []

theorem widB_err (w : Int) (d : Dl) (h : (widB w d).2 ≠ 0) : (widB w d).1 = 0 := by
  unfold widB at h ⊢
  repeat' split
  all_goals first | rfl | (simp_all; done) | (exfalso; simp_all)

/-- what there must be of a delta that may be done -/
theorem widB_ok {w : Int} {d : Dl} (h : (widB w d).2 = 0) : (d.k = 1 ∧ w ≠ 5 ∧ (widB w d).1 = w + 1 ∧ chkV d.v.k d.v.n d.v.s = 0) ∨ (d.k = 2 ∧ 0 ≤ d.a ∧ d.a < w ∧ (widB w d).1 = w - 1) ∨ (d.k = 3 ∧ 0 ≤ d.a ∧ d.a < w ∧ 1 ≤ d.ty ∧ d.ty ≤ 3 ∧ (widB w d).1 = w) := by
  unfold widB at h ⊢
  by_cases hf : formF d ≠ 0
  · rw [if_pos hf] at h; exact absurd h hf
  rw [if_neg hf] at h ⊢
  have hf : formF d = 0 := Classical.not_not.1 hf
  by_cases h1 : d.k = 1
  · rw [if_pos h1] at h ⊢
    by_cases h5 : w = 5
    · rw [if_pos h5] at h; cases h
    · rw [if_neg h5]
      refine Or.inl ⟨h1, h5, rfl, ?_⟩
      unfold formF at hf
      rw [if_pos h1] at hf
      by_cases hx : d.a ≠ 0 ∨ d.ty ≠ 0
      · rw [if_pos hx] at hf; cases hf
      · rw [if_neg hx] at hf; exact hf
  rw [if_neg h1] at h ⊢
  by_cases ha : d.a < 0 ∨ w ≤ d.a
  · rw [if_pos ha] at h; cases h
  rw [if_neg ha] at h ⊢
  by_cases h2 : d.k = 2
  · rw [if_pos h2]; exact Or.inr (Or.inl ⟨h2, by omega, by omega, rfl⟩)
  rw [if_neg h2] at h ⊢
  have h3 : d.k = 3 := by
    unfold formF at hf
    rw [if_neg h1, if_neg h2] at hf
    by_cases h3 : d.k = 3
    · exact h3
    · rw [if_neg h3] at hf; cases hf
  by_cases ht : 1 ≤ d.ty ∧ d.ty ≤ 3
  · rw [if_pos ht]; exact Or.inr (Or.inr ⟨h3, by omega, by omega, ht.1, ht.2, rfl⟩)
  · rw [if_neg ht] at h; cases h

theorem widB_fit {w : Int} {d : Dl} (h : (widB w d).2 = 0) (h0 : 0 ≤ w) (h5 : w ≤ 5) : 0 ≤ (widB w d).1 ∧ (widB w d).1 ≤ 5 := by
  rcases widB_ok h with ⟨_, a, b, _⟩ | ⟨_, a, b, c⟩ | ⟨_, a, b, _, _, c⟩ <;> omega

theorem ckD_append (A B : List Dl) : ∀ w, ckD w (A ++ B) = if (ckD w A).2 = 0 then ckD (ckD w A).1 B else (0, (ckD w A).2) := by
  induction A with
  | nil => intro w; rfl
  | cons d r ih =>
    intro w
    rw [List.cons_append, ckD, ckD]
    by_cases h : (widB w d).2 = 0
    · rw [if_pos h, if_pos h, ih]
    · rw [if_neg h, if_neg h]; simp only; rw [if_neg h]

theorem ckD_err (L : List Dl) : ∀ w, (ckD w L).2 ≠ 0 → (ckD w L).1 = 0 := by
  induction L with
  | nil => intro w h; exact absurd rfl h
  | cons d r ih =>
    intro w h
    rw [ckD] at h ⊢
    by_cases h1 : (widB w d).2 = 0
    · rw [if_pos h1] at h ⊢; exact ih _ h
    · rw [if_neg h1]

theorem rowB_len {r : List Vl} {d : Dl} (h : (widB (r.length : Nat) d).2 = 0) : ((rowB r d).length : Int) = (widB (r.length : Nat) d).1 := by
  rcases widB_ok h with ⟨k, a, b, _⟩ | ⟨k, a, b, c⟩ | ⟨k, a, b, _, _, c⟩
  · rw [b, rowB, if_pos k]; simp
  · rw [c, rowB, if_neg (by omega), if_pos k, List.length_eraseIdx]
    rw [if_pos (by omega)]; omega
  · rw [c, rowB, if_neg (by omega), if_neg (by omega)]; simp

theorem apply_len (L : List Dl) : ∀ r : List Vl, (ckD (r.length : Nat) L).2 = 0 → ((L.foldl rowB r).length : Int) = (ckD (r.length : Nat) L).1 := by
  induction L with
  | nil => intro r _; rfl
  | cons d l ih =>
    intro r h
    rw [ckD] at h ⊢
    by_cases h1 : (widB (r.length : Nat) d).2 = 0
    · rw [if_pos h1] at h ⊢
      rw [← rowB_len h1] at h ⊢
      exact ih _ h
    · rw [if_neg h1] at h; exact absurd h h1

theorem castV_ok (K N : Int) (S : List UInt8) (t : Int) (h : chkV K N S = 0) (ht : 1 ≤ t ∧ t ≤ 3) : chkV (castV K N S t).1 (castV K N S t).2.1 (castV K N S t).2.2 = 0 := by
  have h0 : chkV 0 0 [] = 0 := by decide
  have hI : ∀ n : Int, -999999999 ≤ n → n ≤ 999999999 → chkV 1 n [] = 0 := by
    intro n a b
    simp [chkV, isInt, a, b]
  have hB : ∀ b : Bool, chkV 3 (oneV b) [] = 0 := by intro b; cases b <;> decide
  have ht : t = 1 ∨ t = 2 ∨ t = 3 := by omega
  rcases chk_zero h with ⟨rfl, rfl, rfl⟩ | ⟨rfl, ⟨a, b⟩, rfl⟩ | ⟨rfl, rfl, c⟩ | ⟨rfl, d, rfl⟩
  · rcases ht with rfl | rfl | rfl <;> exact h0
  · rcases ht with rfl | rfl | rfl
    · exact hI N a b
    · exact itoa_quot N a b
    · exact hB _
  · rcases ht with rfl | rfl | rfl
    · simp only [castV]
      cases hv : intV S with
      | none => simpa using h0
      | some n =>
        have : isInt n = true := by
          unfold intV at hv
          split at hv
          · split at hv
            · rename_i hc; cases hv; exact hc.1
            · cases hv
          · cases hv
        simp only [isInt, Bool.and_eq_true, decide_eq_true_eq] at this
        simpa using hI n this.1 this.2
    · exact h
    · simp only [castV]
      by_cases e1 : S = tru
      · rw [if_pos e1]; exact hB true
      · by_cases e2 : S = fal
        · rw [if_neg e1, if_pos e2]; exact hB false
        · rw [if_neg e1, if_neg e2]; simpa using h0
  · rcases ht with rfl | rfl | rfl
    · exact hI N (by omega) (by omega)
    · rcases d with rfl | rfl <;> decide
    · exact hB _

theorem rowB_ok {r : List Vl} {d : Dl} (h : (widB (r.length : Nat) d).2 = 0) (hb : badL r = 0) : badL (rowB r d) = 0 := by
  rw [badL_zero] at hb ⊢
  rcases widB_ok h with ⟨k, a, b, hv⟩ | ⟨k, a, b, c⟩ | ⟨k, a, b, t0, t1, c⟩
  · rw [rowB, if_pos k]
    intro x hx
    rcases List.mem_append.1 hx with hx | hx
    · exact hb x hx
    · rw [List.mem_singleton] at hx; subst hx; exact hv
  · rw [rowB, if_neg (by omega), if_pos k]
    intro x hx
    exact hb x (List.mem_of_mem_eraseIdx hx)
  · rw [rowB, if_neg (by omega), if_neg (by omega)]
    intro x hx
    rcases List.mem_or_eq_of_mem_set hx with hx | hx
    · exact hb x hx
    · subst hx
      have hm : r.getD d.a.toNat vl0 ∈ r := by
        have hl : d.a.toNat < r.length := by omega
        rw [List.getD_eq_getElem?_getD, List.getElem?_eq_getElem hl]
        exact List.getElem_mem _
      exact castV_ok _ _ _ _ (hb _ hm) ⟨t0, t1⟩

theorem apply_ok (L : List Dl) : ∀ r : List Vl, (ckD (r.length : Nat) L).2 = 0 → badL r = 0 → badL (L.foldl rowB r) = 0 := by
  induction L with
  | nil => intro r _ h; exact h
  | cons d l ih =>
    intro r h hb
    rw [ckD] at h
    by_cases h1 : (widB (r.length : Nat) d).2 = 0
    · rw [if_pos h1] at h
      rw [← rowB_len h1] at h
      exact ih _ h (rowB_ok h1 hb)
    · rw [if_neg h1] at h; exact absurd h h1

/-- what comes fits between: of each step -/
theorem ckD_take (L : List Dl) (n : Nat) (w : Int) (h : (ckD w L).2 = 0) : (ckD w (L.take n)).2 = 0 ∧ ckD (ckD w (L.take n)).1 (L.drop n) = ckD w L := by
  have e := ckD_append (L.take n) (L.drop n) w
  rw [List.take_append_drop] at e
  by_cases h1 : (ckD w (L.take n)).2 = 0
  · rw [if_pos h1] at e; exact ⟨h1, e.symm⟩
  · rw [if_neg h1] at e; rw [e] at h; exact absurd h h1

/-- DELTAS IN TWO PARTS -/
theorem apply_parts (r : List Vl) (L : List Dl) (n : Nat) (h : applyE r L = 0) :
    applyE r (L.take n) = 0 ∧ applyE (applyL r (L.take n)) (L.drop n) = 0 ∧ applyL (applyL r (L.take n)) (L.drop n) = applyL r L ∧ checkD (r.length : Nat) L = (((applyL r L).length : Int), 0) := by
  have hh := h
  unfold applyE at h
  by_cases h5 : 5 < r.length
  · rw [if_pos h5] at h; cases h
  rw [if_neg h5] at h
  by_cases hc : (checkD (r.length : Nat) L).2 ≠ 0
  · rw [if_pos hc] at h; exact absurd h hc
  rw [if_neg hc] at h
  have hc : (checkD (r.length : Nat) L).2 = 0 := Classical.not_not.1 hc
  have hw : ¬ ((r.length : Int) < 0 ∨ 5 < (r.length : Int)) := by omega
  unfold checkD at hc
  rw [if_neg hw] at hc
  obtain ⟨t1, t2⟩ := ckD_take L n _ hc
  have e1 : applyE r (L.take n) = 0 := by
    unfold applyE checkD
    rw [if_neg h5, if_neg hw, if_neg (by rw [t1]; exact fun h => h rfl)]; exact h
  have l1 : applyL r (L.take n) = (L.take n).foldl rowB r := by rw [applyL, if_pos e1]
  have len1 := apply_len _ r t1
  have ok1 := apply_ok _ r t1 h
  have f1 : 0 ≤ (ckD (r.length : Nat) (L.take n)).1 ∧ (ckD (r.length : Nat) (L.take n)).1 ≤ 5 := by
    have go : ∀ (A : List Dl) (w : Int), 0 ≤ w → w ≤ 5 → (ckD w A).2 = 0 → 0 ≤ (ckD w A).1 ∧ (ckD w A).1 ≤ 5 := by
      intro A
      induction A with
      | nil => intro w a b _; exact ⟨a, b⟩
      | cons d A ih =>
        intro w a b hA
        rw [ckD] at hA ⊢
        by_cases h1 : (widB w d).2 = 0
        · rw [if_pos h1] at hA ⊢
          obtain ⟨p, q⟩ := widB_fit h1 a b
          exact ih _ p q hA
        · rw [if_neg h1] at hA; exact absurd hA h1
    exact go _ _ (by omega) (by omega) t1
  have hw2 : ¬ ((((L.take n).foldl rowB r).length : Int) < 0 ∨ 5 < (((L.take n).foldl rowB r).length : Int)) := by omega
  have e2 : applyE ((L.take n).foldl rowB r) (L.drop n) = 0 := by
    unfold applyE checkD
    rw [if_neg (by omega), if_neg hw2, len1, t2, if_neg (by rw [hc]; exact fun h => h rfl)]; exact ok1
  refine ⟨e1, by rw [l1]; exact e2, ?_, ?_⟩
  · rw [l1, applyL, if_pos e2, applyL, if_pos hh, ← List.foldl_append, List.take_append_drop]
  · rw [applyL, if_pos hh, checkD, if_neg hw, apply_len L r hc]
    exact Prod.ext rfl hc

end Go.Proofs.YtcnnjladaoaeiaaGreatDoor
