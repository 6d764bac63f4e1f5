/-
  Rows as bytes, without memory: what is encoded is decoded as it was, and nothing else is.
-/
import Derived.Test.YtkpeklealgicpacCheckV
namespace Go.Proofs.Ytkpeklealgicpac
open Go.RowKit

/-- a value -/
structure Vl where
  k : Int
  n : Int
  s : List UInt8
deriving DecidableEq

/-- the lowest byte of a number -/
def b8 (n : Int) : UInt8 := UInt8.ofNat (n % 256).toNat

theorem b8_toNat (n : Int) : ((b8 n).toNat : Int) = n % 256 := by
  unfold b8
  have h1 : (UInt8.ofNat (n % 256).toNat).toNat = (n % 256).toNat % 256 := by simp
  rw [h1]; omega

theorem b8_of (c : UInt8) : b8 (c.toNat : Int) = c := by
  apply UInt8.toNat_inj.1
  have h := b8_toNat (c.toNat : Int)
  have := c.toNat_lt
  omega

theorem b8_at (c : UInt8) (n : Int) (h : n % 256 = (c.toNat : Int)) : b8 n = c := by
  apply UInt8.toNat_inj.1
  have := b8_toNat n
  omega

/-- so many bytes of a number, the lesser ones first -/
def leB : Nat → Int → List UInt8
  | 0, _ => []
  | k + 1, n => b8 n :: leB k (n / 256)

theorem leB_length (k : Nat) : ∀ n, (leB k n).length = k := by
  induction k with
  | zero => intro n; rfl
  | succ k ih => intro n; simp [leB, ih]

/-- the number that bytes are, the lesser ones first -/
def numL : List UInt8 → Nat
  | [] => 0
  | c :: r => c.toNat + 256 * numL r

theorem numL_lt (l : List UInt8) : numL l < 256 ^ l.length := by
  induction l with
  | nil => simp [numL]
  | cons c r ih =>
    have := c.toNat_lt
    simp only [numL, List.length_cons, Nat.pow_succ]
    omega

theorem numL_le (l : List UInt8) (n : Nat) (h : l.length = n) : leB n (numL l : Nat) = l := by
  induction l generalizing n with
  | nil => subst h; rfl
  | cons c r ih =>
    subst h
    have hc := c.toNat_lt
    simp only [List.length_cons, leB, numL]
    have h1 : ((c.toNat + 256 * numL r : Nat) : Int) / 256 = (numL r : Nat) := by omega
    rw [h1, ih _ rfl]
    congr 1
    exact b8_at c _ (by omega)

theorem leB_num (k : Nat) : ∀ n : Int, 0 ≤ n → n < 256 ^ k → ((numL (leB k n) : Nat) : Int) = n := by
  induction k with
  | zero => intro n h0 h1; simp [leB, numL] at *; omega
  | succ k ih =>
    intro n h0 h1
    have h2 : n / 256 < 256 ^ k := by
      have : (256 : Int) ^ (k + 1) = 256 ^ k * 256 := by rw [Int.pow_succ]
      omega
    have h3 := ih (n / 256) (by omega) h2
    have h4 := b8_toNat n
    simp only [leB, numL]
    omega

/-- a value's bytes -/
def encV (x : Vl) : List UInt8 :=
  b8 x.k :: (if x.k = 1 then leB 4 (x.n + 999999999) else if x.k = 2 then b8 (x.s.length : Nat) :: x.s else if x.k = 3 then [b8 x.n] else [])

def encL (l : List Vl) : List UInt8 := b8 (l.length : Nat) :: l.flatMap encV

/-- a value off bytes, and what is left of them -/
def valP : List UInt8 → Option (Vl × List UInt8)
  | [] => none
  | c :: r =>
    if c = 0 then some (⟨0, 0, []⟩, r)
    else if c = 1 then (if r.length < 4 then none else some (⟨1, (numL (r.take 4) : Nat) - 999999999, []⟩, r.drop 4))
    else if c = 2 then (match r with | [] => none | m :: r' => if r'.length < m.toNat then none else some (⟨2, 0, r'.take m.toNat⟩, r'.drop m.toNat))
    else if c = 3 then (match r with | [] => none | m :: r' => some (⟨3, (m.toNat : Nat), []⟩, r'))
    else none

def valsP : Nat → List UInt8 → Option (List Vl × List UInt8)
  | 0, l => some ([], l)
  | k + 1, l => (valP l).bind fun p => (valsP k p.2).map fun q => (p.1 :: q.1, q.2)

def decP : List UInt8 → Option (List Vl)
  | [] => none
  | c :: r => match valsP c.toNat r with | some (xs, []) => some xs | _ => none

/-- what is wrong with the first wrong one -/
def badL : List Vl → Nat
  | [] => 0
  | x :: r => if chkV x.k x.n x.s = 0 then badL r else chkV x.k x.n x.s

def chkL (l : List Vl) : Nat := if 5 < l.length then 2 else badL l

def decE (s : List UInt8) : Nat := match decP s with | none => 1 | some xs => chkL xs
def decR (s : List UInt8) : List Vl := if decE s = 0 then (decP s).getD [] else []

theorem badL_zero (l : List Vl) : badL l = 0 ↔ ∀ x ∈ l, chkV x.k x.n x.s = 0 := by
  induction l with
  | nil => simp [badL]
  | cons x r ih =>
    simp only [badL]
    by_cases h : chkV x.k x.n x.s = 0
    · rw [if_pos h, ih]; simp [h]
    · rw [if_neg h]; simp [h]

theorem chkV_zero {K N : Int} {S : List UInt8} (h : chkV K N S = 0) : (K = 0 ∧ N = 0 ∧ S = []) ∨ (K = 1 ∧ -999999999 ≤ N ∧ N ≤ 999999999 ∧ S = []) ∨ (K = 2 ∧ N = 0 ∧ S.length ≤ 20) ∨ (K = 3 ∧ (N = 0 ∨ N = 1) ∧ S = []) := by
  unfold chkV at h
  by_cases h0 : K = 0
  · rw [if_pos h0] at h
    left
    by_cases h1 : N = 0 ∧ S = []
    · exact ⟨h0, h1.1, h1.2⟩
    · rw [if_neg h1] at h; cases h
  rw [if_neg h0] at h
  by_cases h1 : K = 1
  · rw [if_pos h1] at h
    right; left
    by_cases h2 : isInt N = true ∧ S = []
    · have := h2.1
      simp only [isInt, Bool.and_eq_true, decide_eq_true_eq] at this
      exact ⟨h1, this.1, this.2, h2.2⟩
    · rw [if_neg h2] at h; cases h
  rw [if_neg h1] at h
  by_cases h2 : K = 2
  · rw [if_pos h2] at h
    right; right; left
    by_cases h3 : N = 0 ∧ quotB S = true
    · have := h3.2
      simp only [quotB, Bool.and_eq_true, decide_eq_true_eq] at this
      exact ⟨h2, h3.1, this.1⟩
    · rw [if_neg h3] at h; cases h
  rw [if_neg h2] at h
  by_cases h3 : K = 3
  · rw [if_pos h3] at h
    right; right; right
    by_cases h4 : (N = 0 ∨ N = 1) ∧ S = []
    · exact ⟨h3, h4.1, h4.2⟩
    · rw [if_neg h4] at h; cases h
  rw [if_neg h3] at h
  cases h

theorem valP_enc (x : Vl) (r : List UInt8) (h : chkV x.k x.n x.s = 0) : valP (encV x ++ r) = some (x, r) := by
  obtain ⟨K, N, S⟩ := x
  rcases chkV_zero h with ⟨h1, h2, h3⟩ | ⟨h1, h2, h3, h4⟩ | ⟨h1, h2, h3⟩ | ⟨h1, h2, h3⟩
  · simp only at h1 h2 h3; subst h1 h2 h3
    simp [encV, valP, b8]
  · simp only at h1 h2 h3 h4; subst h1 h4
    have hl := leB_length 4 (N + 999999999)
    have hn := leB_num 4 (N + 999999999) (by omega) (by simp; omega)
    simp only [encV, if_true, List.cons_append, valP]
    rw [if_neg (by decide), if_pos (by decide), if_neg (by simp [hl])]
    have t1 : List.take 4 (leB 4 (N + 999999999) ++ r) = leB 4 (N + 999999999) := List.take_left' hl
    have t2 : List.drop 4 (leB 4 (N + 999999999) ++ r) = r := List.drop_left' hl
    rw [t1, t2, hn]
    simp
  · simp only at h1 h2 h3; subst h1 h2
    have e : (b8 ((S.length : Nat) : Int)).toNat = S.length := by
      have := b8_toNat (S.length : Nat); omega
    have e0 : encV ⟨2, 0, S⟩ = 2 :: b8 (S.length : Nat) :: S := rfl
    rw [e0]
    simp only [List.cons_append, valP]
    rw [if_neg (by decide), if_neg (by decide), if_pos (by decide)]
    simp [e]
  · simp only at h1 h2 h3; subst h1 h3
    have e : ((b8 N).toNat : Int) = N := by
      have := b8_toNat N; omega
    have e0 : encV ⟨3, N, []⟩ = 3 :: [b8 N] := rfl
    rw [e0]
    simp only [List.cons_append, valP]
    rw [if_neg (by decide), if_neg (by decide), if_neg (by decide), if_pos (by decide)]
    simp [e]

theorem valsP_enc (l : List Vl) (h : ∀ x ∈ l, chkV x.k x.n x.s = 0) : valsP l.length (l.flatMap encV) = some (l, []) := by
  induction l with
  | nil => rfl
  | cons x r ih =>
    simp only [List.length_cons, valsP, List.flatMap_cons]
    rw [valP_enc x _ (h x (by simp))]
    simp [ih fun y hy => h y (by simp [hy])]

theorem dec_enc (l : List Vl) (h : chkL l = 0) : decE (encL l) = 0 ∧ decR (encL l) = l := by
  unfold chkL at h
  have hl : ¬ 5 < l.length := by intro h5; rw [if_pos h5] at h; cases h
  have h0 := h
  rw [if_neg hl] at h
  have e : (b8 ((l.length : Nat) : Int)).toNat = l.length := by
    have := b8_toNat (l.length : Nat); omega
  have hp : decP (encL l) = some l := by
    simp only [encL, decP]
    rw [e, valsP_enc l ((badL_zero l).1 h)]
  have hE : decE (encL l) = 0 := by unfold decE; rw [hp]; exact h0
  exact ⟨hE, by unfold decR; rw [if_pos hE, hp]; rfl⟩

theorem valP_some (l : List UInt8) (x : Vl) (r : List UInt8) (h : valP l = some (x, r)) (hx : chkV x.k x.n x.s = 0) : l = encV x ++ r := by
  cases l with
  | nil => cases h
  | cons c t =>
    simp only [valP] at h
    by_cases h0 : c = 0
    · subst h0; rw [if_pos rfl] at h; cases h; rfl
    rw [if_neg h0] at h
    by_cases h1 : c = 1
    · subst h1
      rw [if_pos rfl] at h
      by_cases h4 : t.length < 4
      · rw [if_pos h4] at h; cases h
      rw [if_neg h4] at h
      cases h
      have e : (t.take 4).length = 4 := by rw [List.length_take]; omega
      have := numL_le (t.take 4) 4 e
      simp only [encV, if_true, List.cons_append]
      have e2 : ((numL (t.take 4) : Nat) : Int) - 999999999 + 999999999 = (numL (t.take 4) : Nat) := by omega
      rw [e2, this, List.take_append_drop]
      rfl
    rw [if_neg h1] at h
    by_cases h2 : c = 2
    · subst h2
      rw [if_pos rfl] at h
      cases t with
      | nil => cases h
      | cons m t =>
        simp only at h
        by_cases h4 : t.length < m.toNat
        · rw [if_pos h4] at h; cases h
        rw [if_neg h4] at h
        cases h
        have e : (t.take m.toNat).length = m.toNat := by rw [List.length_take]; omega
        simp only [encV]
        rw [e, b8_of]
        simp [b8]
    rw [if_neg h2] at h
    by_cases h3 : c = 3
    · subst h3
      rw [if_pos rfl] at h
      cases t with
      | nil => cases h
      | cons m t =>
        cases h
        simp only [encV]
        rw [b8_of]
        simp [b8]
    rw [if_neg h3] at h
    cases h

theorem valsP_some (k : Nat) : ∀ (l : List UInt8) (xs : List Vl) (r : List UInt8), valsP k l = some (xs, r) → (∀ x ∈ xs, chkV x.k x.n x.s = 0) → xs.length = k ∧ l = xs.flatMap encV ++ r := by
  induction k with
  | zero => intro l xs r h _; simp only [valsP] at h; cases h; exact ⟨rfl, rfl⟩
  | succ k ih =>
    intro l xs r h hx
    simp only [valsP] at h
    cases hv : valP l with
    | none => rw [hv] at h; cases h
    | some p =>
      obtain ⟨x, t⟩ := p
      rw [hv] at h
      simp only [Option.bind_some] at h
      cases hw : valsP k t with
      | none => rw [hw] at h; cases h
      | some q =>
        obtain ⟨ys, u⟩ := q
        rw [hw] at h
        simp only [Option.map_some] at h
        cases h
        obtain ⟨h1, h2⟩ := ih t ys _ hw fun y hy => hx y (by simp [hy])
        have h3 := valP_some l x t hv (hx x (by simp))
        exact ⟨by simp [h1], by rw [h3, h2]; simp⟩

theorem enc_dec (s : List UInt8) (h : decE s = 0) : chkL (decR s) = 0 ∧ encL (decR s) = s := by
  have h0 := h
  unfold decE at h
  unfold decR
  rw [if_pos h0]
  cases hp : decP s with
  | none => rw [hp] at h; cases h
  | some xs =>
    rw [hp] at h
    simp only [Option.getD_some]
    refine ⟨h, ?_⟩
    simp only at h
    unfold chkL at h
    have hl : ¬ 5 < xs.length := by intro h5; rw [if_pos h5] at h; cases h
    rw [if_neg hl] at h
    cases s with
    | nil => cases hp
    | cons c r =>
      simp only [decP] at hp
      split at hp
      · rename_i ys hy
        cases hp
        obtain ⟨h1, h2⟩ := valsP_some _ _ _ _ hy ((badL_zero _).1 h)
        unfold encL
        rw [h1, b8_of, h2]; simp
      · cases hp

theorem decR_none (s : List UInt8) (h : decE s ≠ 0) : decR s = [] := by unfold decR; rw [if_neg h]

end Go.Proofs.Ytkpeklealgicpac
