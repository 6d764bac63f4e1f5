/-
  Expressions without memory: the program's way.
-/
import Derived.Test.YtjmhkeooiimpfaaGreatOrd
namespace Go.Proofs.YtjmhkeooiimpfaaGreat
open Go.RowKit

theorem chkV_zero {K N : Int} {S : List UInt8} (h : chkV K N S = 0) : (K = 0 ∧ N = 0 ∧ S = []) ∨ (K = 1 ∧ -999999999 ≤ N ∧ N ≤ 999999999 ∧ S = []) ∨ (K = 2 ∧ N = 0 ∧ S.length ≤ 20) ∨ (K = 3 ∧ (N = 0 ∨ N = 1) ∧ S = []) := by
  rcases chk_zero h with h | ⟨a, ⟨b, c⟩, d⟩ | ⟨a, b, c, _⟩ | h
  · exact .inl h
  · exact .inr (.inl ⟨a, b, c, d⟩)
  · exact .inr (.inr (.inl ⟨a, b, c⟩))
  · exact .inr (.inr (.inr h))

def vl0 : Vl := ⟨0, 0, []⟩

/-- how many Args a kind has -/
def argsS (k : Int) : Nat := if k = 1 ∨ k = 2 then 0 else if k = 3 ∨ k = 4 then 1 else 2
/-- of which kind they must be -/
def madeS (k : Int) : Int := if k = 3 ∨ k = 5 ∨ k = 6 then 3 else if k = 7 ∨ k = 8 then 1 else if k = 9 then 2 else 0
/-- of which kind it is then -/
def isSg (k : Int) : Int := if k = 7 ∨ k = 8 then 1 else if k = 9 then 2 else 3


/-- the place of a column -/
def placeC : List Cl → List UInt8 → Option Nat
  | [], _ => none
  | c :: r, s => if c.name = s then some 0 else (placeC r s).map (· + 1)

theorem placeC_lt (l : List Cl) (s : List UInt8) (i : Nat) (h : placeC l s = some i) : i < l.length := by
  induction l generalizing i with
  | nil => cases h
  | cons c r ih =>
    simp only [placeC] at h
    by_cases hc : c.name = s
    · rw [if_pos hc] at h; cases h; simp
    · rw [if_neg hc] at h
      obtain ⟨j, hj, rfl⟩ := Option.map_eq_some_iff.1 h
      have := ih j hj
      simp; omega

/-- what is wrong with a part -/
def partF (l : List Cl) (x : Ex) : Nat :=
  if x.k < 1 ∨ 11 < x.k then 7
  else if x.args.length ≠ argsS x.k ∨ (x.k ≠ 1 ∧ x.v ≠ vl0) ∨ (x.k ≠ 2 ∧ x.nm ≠ []) then 1
  else if x.k = 2 ∧ placeC l x.nm = none then 5
  else chkV x.v.k x.v.n x.v.s

mutual
/-- what is wrong with an expression -/
def faultE (l : List Cl) : Ex → Nat
  | .mk k v nm args => if partF l (.mk k v nm args) = 0 then faultL l args else partF l (.mk k v nm args)
def faultL (l : List Cl) : List Ex → Nat
  | [] => 0
  | x :: r => if faultE l x = 0 then faultL l r else faultE l x
end

/-- the kinds of Args, put together -/
def fitK : Int → List (Option Int) → Bool
  | _, [] => true
  | _, none :: _ => false
  | must, some k :: r => if k ≠ 0 ∧ must ≠ 0 ∧ k ≠ must then false else fitK (if must ≠ 0 then must else k) r

mutual
def kindE (l : List Cl) : Ex → Option Int
  | .mk k v nm args => if k = 1 then some v.k else if k = 2 then some ((l[(placeC l nm).getD 0]?).elim 0 Cl.ty) else if fitK (madeS k) (kindL l args) = true then some (isSg k) else none
def kindL (l : List Cl) : List Ex → List (Option Int)
  | [] => []
  | x :: r => kindE l x :: kindL l r
end

def truthV (b : Bool) : Vl := ⟨3, if b = true then 1 else 0, []⟩
def orNo (x : Vl) : Vl := if chkV x.k x.n x.s = 0 then x else vl0

/-- of two values that are there -/
def twoV (k : Int) (a b : Vl) : Vl :=
  if k = 5 then truthV true
  else if k = 6 then truthV false
  else if k = 7 then orNo ⟨1, a.n + b.n, []⟩
  else if k = 8 then orNo ⟨1, a.n - b.n, []⟩
  else if k = 9 then orNo ⟨2, 0, a.s ++ b.s⟩
  else if k = 10 then truthV (decide (ordN a.k a.n a.s b.k b.n b.s < 0))
  else truthV (decide (a = b))

/-- the program's way -/
def opV (k : Int) (vs : List Vl) : Vl :=
  if k = 4 then truthV (vs.contains vl0)
  else if k = 5 ∧ vs.contains (truthV false) = true then truthV false
  else if k = 6 ∧ vs.contains (truthV true) = true then truthV true
  else if vs.contains vl0 = true then vl0
  else if k = 3 then truthV (decide (vs.getD 0 vl0 = truthV false))
  else twoV k (vs.getD 0 vl0) (vs.getD 1 vl0)

mutual
def evalE (l : List Cl) (r : List Vl) : Ex → Vl
  | .mk k v nm args => if k = 1 then v else if k = 2 then r.getD ((placeC l nm).getD 0) vl0 else opV k (evalL l r args)
def evalL (l : List Cl) (r : List Vl) : List Ex → List Vl
  | [] => []
  | x :: xs => evalE l r x :: evalL l r xs
end

/-- the first wrong one of a row -/
def badR : List Vl → Nat
  | [] => 0
  | x :: r => if chkV x.k x.n x.s = 0 then badR r else chkV x.k x.n x.s
def kindsR : List Cl → List Vl → Bool
  | c :: l, x :: r => (decide (x.k = 0) || decide (x.k = c.ty)) && kindsR l r
  | _, _ => true
def rowF (l : List Cl) (r : List Vl) : Nat :=
  if r.length ≠ l.length then 1 else if badR r ≠ 0 then badR r else if kindsR l r = true then 0 else 4

theorem badR_zero (l : List Vl) : badR l = 0 ↔ ∀ x ∈ l, chkV x.k x.n x.s = 0 := by
  induction l with
  | nil => simp [badR]
  | cons x r ih =>
    simp only [badR]
    by_cases h : chkV x.k x.n x.s = 0
    · rw [if_pos h, ih]; simp [h]
    · rw [if_neg h]; simp [h]

theorem kindsR_at (l : List Cl) (r : List Vl) (h : kindsR l r = true) (i : Nat) (c : Cl) (x : Vl) (hc : l[i]? = some c) (hx : r[i]? = some x) : x.k = 0 ∨ x.k = c.ty := by
  induction l generalizing r i with
  | nil => cases hc
  | cons d l ih =>
    cases r with
    | nil => cases hx
    | cons y r =>
      simp only [kindsR, Bool.and_eq_true, Bool.or_eq_true, decide_eq_true_eq] at h
      cases i with
      | zero => cases hc; cases hx; exact h.1
      | succ i => exact ih r h.2 i hc hx

/-- a value that is right, and of a kind or nothing -/
def OfK (k : Int) (x : Vl) : Prop := chkV x.k x.n x.s = 0 ∧ (x.k = 0 ∨ x.k = k)

theorem chk_vl0 : chkV vl0.k vl0.n vl0.s = 0 := by decide
theorem chk_truth (b : Bool) : chkV (truthV b).k (truthV b).n (truthV b).s = 0 := by cases b <;> decide
theorem orNo_ok (x : Vl) (k : Int) (h : x.k = k) : OfK k (orNo x) := by
  unfold orNo
  by_cases hc : chkV x.k x.n x.s = 0
  · rw [if_pos hc]; exact ⟨hc, Or.inr h⟩
  · rw [if_neg hc]; exact ⟨chk_vl0, Or.inl rfl⟩
theorem truth_ok (b : Bool) : OfK 3 (truthV b) := ⟨chk_truth b, Or.inr rfl⟩
theorem none_ok (k : Int) : OfK k vl0 := ⟨chk_vl0, Or.inl rfl⟩

theorem twoV_ok (k : Int) (a b : Vl) : OfK (isSg k) (twoV k a b) := by
  unfold twoV
  by_cases h5 : k = 5
  · subst h5; exact truth_ok _
  rw [if_neg h5]
  by_cases h6 : k = 6
  · subst h6; exact truth_ok _
  rw [if_neg h6]
  by_cases h7 : k = 7
  · subst h7; exact orNo_ok _ _ rfl
  rw [if_neg h7]
  by_cases h8 : k = 8
  · subst h8; exact orNo_ok _ _ rfl
  rw [if_neg h8]
  by_cases h9 : k = 9
  · subst h9; exact orNo_ok _ _ rfl
  rw [if_neg h9]
  have : isSg k = 3 := by simp [isSg, h7, h8, h9]
  rw [this]
  split <;> exact truth_ok _

theorem opV_ok (k : Int) (vs : List Vl) : OfK (isSg k) (opV k vs) := by
  unfold opV
  by_cases h4 : k = 4
  · subst h4; exact truth_ok _
  rw [if_neg h4]
  by_cases h5 : k = 5 ∧ vs.contains (truthV false) = true
  · rw [if_pos h5]; obtain ⟨rfl, _⟩ := h5; exact truth_ok _
  rw [if_neg h5]
  by_cases h6 : k = 6 ∧ vs.contains (truthV true) = true
  · rw [if_pos h6]; obtain ⟨rfl, _⟩ := h6; exact truth_ok _
  rw [if_neg h6]
  by_cases h0 : vs.contains vl0 = true
  · rw [if_pos h0]; exact none_ok _
  rw [if_neg h0]
  by_cases h3 : k = 3
  · subst h3; exact truth_ok _
  rw [if_neg h3]
  exact twoV_ok _ _ _

theorem partF_zero {l : List Cl} {x : Ex} (h : partF l x = 0) : 1 ≤ x.k ∧ x.k ≤ 11 ∧ x.args.length = argsS x.k ∧ (x.k ≠ 1 → x.v = vl0) ∧ (x.k ≠ 2 → x.nm = []) ∧ (x.k = 2 → ∃ i, placeC l x.nm = some i) ∧ chkV x.v.k x.v.n x.v.s = 0 := by
  unfold partF at h
  by_cases h1 : x.k < 1 ∨ 11 < x.k
  · rw [if_pos h1] at h; cases h
  rw [if_neg h1] at h
  by_cases h2 : x.args.length ≠ argsS x.k ∨ (x.k ≠ 1 ∧ x.v ≠ vl0) ∨ (x.k ≠ 2 ∧ x.nm ≠ [])
  · rw [if_pos h2] at h; cases h
  rw [if_neg h2] at h
  by_cases h3 : x.k = 2 ∧ placeC l x.nm = none
  · rw [if_pos h3] at h; cases h
  rw [if_neg h3] at h
  refine ⟨by omega, by omega, ?_, ?_, ?_, ?_, h⟩
  · apply Classical.byContradiction; intro hh; exact h2 (Or.inl hh)
  · intro hk; apply Classical.byContradiction; intro hh; exact h2 (Or.inr (Or.inl ⟨hk, hh⟩))
  · intro hk; apply Classical.byContradiction; intro hh; exact h2 (Or.inr (Or.inr ⟨hk, hh⟩))
  · intro hk
    cases hp : placeC l x.nm with
    | none => exact absurd ⟨hk, hp⟩ h3
    | some i => exact ⟨i, rfl⟩

theorem faultE_zero {l : List Cl} {k : Int} {v : Vl} {nm : List UInt8} {args : List Ex} (h : faultE l (.mk k v nm args) = 0) : partF l (.mk k v nm args) = 0 ∧ faultL l args = 0 := by
  rw [faultE] at h
  by_cases h1 : partF l (.mk k v nm args) = 0
  · rw [if_pos h1] at h; exact ⟨h1, h⟩
  · rw [if_neg h1] at h; exact absurd h h1

theorem faultL_zero {l : List Cl} {args : List Ex} (h : faultL l args = 0) : ∀ x ∈ args, faultE l x = 0 := by
  induction args with
  | nil => intro x hx; cases hx
  | cons y r ih =>
    rw [faultL] at h
    by_cases h1 : faultE l y = 0
    · rw [if_pos h1] at h
      intro x hx
      cases hx with
      | head => exact h1
      | tail _ hx => exact ih h x hx
    · rw [if_neg h1] at h; exact absurd h h1

/-- what comes is right, and of its kind or nothing -/
theorem evalE_ok (l : List Cl) (r : List Vl) (hr : rowF l r = 0) (x : Ex) (hf : faultE l x = 0) (K : Int) (hK : kindE l x = some K) : OfK K (evalE l r x) := by
  unfold rowF at hr
  by_cases hl : r.length ≠ l.length
  · rw [if_pos hl] at hr; cases hr
  rw [if_neg hl] at hr
  have hl' : r.length = l.length := Classical.not_not.1 hl
  by_cases hb : badR r ≠ 0
  · rw [if_pos hb] at hr; exact absurd hr hb
  rw [if_neg hb] at hr
  have hb' := (badR_zero r).1 (Classical.not_not.1 hb)
  have hk : kindsR l r = true := by
    cases h : kindsR l r
    · rw [h] at hr; cases hr
    · rfl
  obtain ⟨k, v, nm, args⟩ := x
  obtain ⟨h1, h2⟩ := faultE_zero hf
  obtain ⟨p1, p2, p3, p4, p5, p6, p7⟩ := partF_zero h1
  simp only [Ex.k, Ex.v, Ex.nm, Ex.args] at p1 p2 p3 p4 p5 p6 p7
  rw [evalE]
  rw [kindE] at hK
  by_cases e1 : k = 1
  · rw [if_pos e1]; rw [if_pos e1] at hK; cases hK; exact ⟨p7, Or.inr rfl⟩
  rw [if_neg e1]; rw [if_neg e1] at hK
  by_cases e2 : k = 2
  · rw [if_pos e2]; rw [if_pos e2] at hK
    obtain ⟨i, hi⟩ := p6 e2
    have hlt := placeC_lt l nm i hi
    rw [hi] at hK ⊢
    simp only [Option.getD_some] at hK ⊢
    have c1 : l[i]? = some l[i] := List.getElem?_eq_getElem hlt
    have c2 : r[i]? = some (r[i]'(by omega)) := List.getElem?_eq_getElem (by omega)
    rw [c1] at hK
    have hK' : l[i].ty = K := by simpa using hK
    have hg : r.getD i vl0 = r[i]'(by omega) := by simp [List.getD, c2]
    rw [hg]
    refine ⟨hb' _ (List.getElem_mem _), ?_⟩
    rw [← hK']
    exact kindsR_at l r hk i _ _ c1 c2
  rw [if_neg e2]; rw [if_neg e2] at hK
  by_cases hfit : fitK (madeS k) (kindL l args) = true
  · rw [if_pos hfit] at hK; cases hK; exact opV_ok _ _
  · rw [if_neg hfit] at hK; cases hK

theorem evalL_len (l : List Cl) (r : List Vl) (xs : List Ex) : (evalL l r xs).length = xs.length := by
  induction xs with
  | nil => rfl
  | cons x xs ih => rw [evalL, List.length_cons, List.length_cons, ih]
theorem kindL_len (l : List Cl) (xs : List Ex) : (kindL l xs).length = xs.length := by
  induction xs with
  | nil => rfl
  | cons x xs ih => rw [kindL, List.length_cons, List.length_cons, ih]

end Go.Proofs.YtjmhkeooiimpfaaGreat
