/-
  The two ways to read an int from a text agree: on lists of bytes alone.
-/
import Derived.Test.YtcnnjladaoaeiaaGreatDoorIntV
namespace Go.Proofs.YtcnnjladaoaeiaaGreatDoor
open Go.RowKit

theorem isInt_iff (v : Int) : isInt v = true ↔ -999999999 ≤ v ∧ v ≤ 999999999 := by
  simp only [isInt, Bool.and_eq_true, decide_eq_true_eq]

theorem intV_iff (S : List UInt8) (v : Int) : intV S = some v ↔ (-999999999 ≤ v ∧ v ≤ 999999999) ∧ Lib.itoa v = S := by
  constructor
  · intro h
    unfold intV at h
    split at h
    · rename_i x hx
      by_cases c : isInt x = true ∧ Lib.itoa x = S
      · rw [if_pos c] at h
        obtain rfl : x = v := by simpa using h
        exact ⟨(isInt_iff _).1 c.1, c.2⟩
      · rw [if_neg c] at h; cases h
    · cases h
  · rintro ⟨⟨h0, h1⟩, rfl⟩
    rw [intV, atoi_itoa v h0 h1]
    have : isInt v = true := (isInt_iff v).2 ⟨h0, h1⟩
    simp [this]

theorem intV_none (S : List UInt8) (h : ∀ v : Int, -999999999 ≤ v → v ≤ 999999999 → Lib.itoa v ≠ S) : intV S = none := by
  cases e : intV S with
  | none => rfl
  | some v =>
    obtain ⟨⟨h0, h1⟩, e⟩ := (intV_iff S v).1 e
    exact absurd e (h v h0 h1)

/-- what a small int's text looks like -/
theorem itoa_form (v : Int) (h0 : -999999999 ≤ v) (h1 : v ≤ 999999999) :
    (∃ u : Nat, 1 ≤ u ∧ u ≤ 999999999 ∧ v = -(u : Int) ∧ Lib.itoa v = 45 :: Lib.decDigits u) ∨ (∃ u : Nat, u ≤ 999999999 ∧ v = (u : Int) ∧ Lib.itoa v = Lib.decDigits u) := by
  unfold Lib.itoa
  by_cases h : v < 0
  · exact Or.inl ⟨v.natAbs, by omega, by omega, by omega, by rw [if_pos h]⟩
  · exact Or.inr ⟨v.toNat, by omega, by omega, by rw [if_neg h]⟩

theorem digits_len9 (u : Nat) (h : u ≤ 999999999) : 1 ≤ (Lib.decDigits u).length ∧ (Lib.decDigits u).length ≤ 9 := decDigits_len 8 u (by omega)

theorem digits_zero : Lib.decDigits 0 = [48] := by rw [Lib.decDigits, dif_pos (by decide)]; rfl

theorem digits_head : ∀ u : Nat, 1 ≤ u → ∃ c r, Lib.decDigits u = c :: r ∧ c ≠ 48 ∧ c ≠ 45 := by
  intro u
  induction u using Nat.strongRecOn with
  | _ u ih =>
    intro hu
    rw [Lib.decDigits]
    by_cases h : u < 10
    · rw [dif_pos h]
      refine ⟨_, [], rfl, ?_, ?_⟩
      · intro e
        have := congrArg UInt8.toNat e
        rw [UInt8.toNat_ofNat', Nat.mod_eq_of_lt (by omega)] at this
        have e48 : (48 : UInt8).toNat = 48 := rfl
        omega
      · intro e
        have := congrArg UInt8.toNat e
        rw [UInt8.toNat_ofNat', Nat.mod_eq_of_lt (by omega)] at this
        have e45 : (45 : UInt8).toNat = 45 := rfl
        omega
    · rw [dif_neg h]
      obtain ⟨c, r, e, h1, h2⟩ := ih (u / 10) (by omega) (by omega)
      rw [e]
      exact ⟨c, _, rfl, h1, h2⟩

theorem digit_toNat (d : Nat) (h : d < 10) : (UInt8.ofNat (48 + d)).toNat = 48 + d := by rw [UInt8.toNat_ofNat', Nat.mod_eq_of_lt (by omega)]

theorem valA_last : ∀ (D : List UInt8) (c : UInt8) (acc : Nat), valA acc (D ++ [c]) = (valA acc D).bind fun u => if isD c = true then some (10 * u + (c.toNat - 48)) else none
  | [], c, acc => by simp [valA]
  | x :: D, c, acc => by
    simp only [List.cons_append, valA]
    by_cases h : isD x = true
    · rw [if_pos h, if_pos h]; exact valA_last D c _
    · rw [if_neg h, if_neg h]; rfl

theorem valA_digits : ∀ u : Nat, valA 0 (Lib.decDigits u) = some u := by
  intro u
  induction u using Nat.strongRecOn with
  | _ u ih =>
    rw [Lib.decDigits]
    by_cases h : u < 10
    · rw [dif_pos h]
      have e := digit_toNat u h
      have hd : isD (UInt8.ofNat (48 + u)) = true := (isD_iff _).2 (by omega)
      simp only [valA, hd, if_true, e]
      congr 1; omega
    · rw [dif_neg h, valA_last, ih _ (by omega)]
      have e := digit_toNat (u % 10) (Nat.mod_lt _ (by decide))
      have hd : isD (UInt8.ofNat (48 + u % 10)) = true := (isD_iff _).2 (by omega)
      simp only [Option.bind_some, hd, if_true, e]
      congr 1; omega

theorem valA_lt : ∀ (D : List UInt8) (acc u : Nat), valA acc D = some u → u < (acc + 1) * 10 ^ D.length
  | [], acc, u, h => by
    simp only [valA, Option.some.injEq] at h
    simp; omega
  | c :: r, acc, u, h => by
    simp only [valA] at h
    by_cases hd : isD c = true
    · rw [if_pos hd] at h
      have ih := valA_lt r _ u h
      have hc := (isD_iff c).1 hd
      rw [List.length_cons, Nat.pow_succ]
      have : (10 * acc + (c.toNat - 48) + 1) * 10 ^ r.length ≤ (10 * (acc + 1)) * 10 ^ r.length := Nat.mul_le_mul_right _ (by omega)
      have e : (10 * (acc + 1)) * 10 ^ r.length = (acc + 1) * (10 ^ r.length * 10) := by
        rw [Nat.mul_comm 10 (acc + 1), Nat.mul_assoc, Nat.mul_comm 10]
      omega
    · rw [if_neg hd] at h; cases h

theorem ofNat_toNat (c : UInt8) (h : 48 ≤ c.toNat) : UInt8.ofNat (48 + (c.toNat - 48)) = c := by
  rw [show 48 + (c.toNat - 48) = c.toNat by omega]
  exact UInt8.ofNat_toNat

theorem valA_back (D : List UInt8) : ∀ u : Nat, D ≠ [] → D.head? ≠ some 48 → valA 0 D = some u → Lib.decDigits u = D ∧ 1 ≤ u := by
  generalize hn : D.length = n
  induction n generalizing D with
  | zero => intro u h; exact absurd (List.length_eq_zero_iff.1 hn) h
  | succ n ih =>
    intro u hne hh hv
    obtain ⟨E, c, rfl⟩ : ∃ E c, D = E ++ [c] := ⟨D.dropLast, D.getLast hne, (List.dropLast_concat_getLast hne).symm⟩
    rw [valA_last] at hv
    have hE : E.length = n := by simpa using hn
    by_cases hEe : E = []
    · subst hEe
      simp only [valA, Option.bind_some] at hv
      by_cases hd : isD c = true
      · rw [if_pos hd] at hv
        have hc := (isD_iff c).1 hd
        obtain rfl : 10 * 0 + (c.toNat - 48) = u := by simpa using hv
        have hc8 : c ≠ 48 := by intro e; subst e; exact hh rfl
        have hcn : c.toNat ≠ 48 := by
          intro e
          exact hc8 (UInt8.toNat_inj.1 e)
        refine ⟨?_, by omega⟩
        rw [show 10 * 0 + (c.toNat - 48) = c.toNat - 48 by omega, Lib.decDigits, dif_pos (by omega), ofNat_toNat c hc.1]
        rfl
      · rw [if_neg hd] at hv; cases hv
    · cases hvE : valA 0 E with
      | none => rw [hvE] at hv; cases hv
      | some u' =>
        rw [hvE] at hv
        simp only [Option.bind_some] at hv
        have hhE : E.head? ≠ some 48 := by
          intro e
          apply hh
          cases E with
          | nil => exact absurd rfl hEe
          | cons x r => exact e
        obtain ⟨i1, i2⟩ := ih E hE u' hEe hhE hvE
        by_cases hd : isD c = true
        · rw [if_pos hd] at hv
          have hc := (isD_iff c).1 hd
          obtain rfl : 10 * u' + (c.toNat - 48) = u := by simpa using hv
          refine ⟨?_, by omega⟩
          rw [Lib.decDigits, dif_neg (by omega), show (10 * u' + (c.toNat - 48)) / 10 = u' by omega, show (10 * u' + (c.toNat - 48)) % 10 = c.toNat - 48 by omega, i1, ofNat_toNat c hc.1]
        · rw [if_neg hd] at hv; cases hv

/-- the cases, one by one -/
theorem iv_A1 : intV [45] = none := intV_none _ fun v h0 h1 e => by
  rcases itoa_form v h0 h1 with ⟨u, p, q, -, f⟩ | ⟨u, q, -, f⟩
  · rw [f] at e
    have := digits_len9 u q
    have e' : Lib.decDigits u = [] := by simpa using e
    rw [e'] at this
    simp at this
  · rw [f] at e
    have := digits_all u 45 (by rw [e]; simp)
    have e45 : (45 : UInt8).toNat = 45 := rfl
    omega

theorem iv_A (D : List UInt8) (hD : D ≠ []) (hl : D.length ≤ 9) (hh : D.head? ≠ some 48) : intV (45 :: D) = (valA 0 D).map fun u => -(u : Int) := by
  cases hv : valA 0 D with
  | some u =>
    obtain ⟨b1, b2⟩ := valA_back D u hD hh hv
    have hlt := valA_lt D 0 u hv
    have hp : (10 : Nat) ^ D.length ≤ 10 ^ 9 := Nat.pow_le_pow_right (by decide) hl
    have e9 : (10 : Nat) ^ 9 = 1000000000 := by decide
    show intV (45 :: D) = some (-(u : Int))
    refine (intV_iff _ _).2 ⟨⟨by omega, by omega⟩, ?_⟩
    rw [Lib.itoa, if_pos (by omega), show (-(u : Int)).natAbs = u by omega, b1]
  | none =>
    refine intV_none _ fun v h0 h1 e => ?_
    rcases itoa_form v h0 h1 with ⟨u, p, q, -, f⟩ | ⟨u, q, -, f⟩
    · rw [f] at e
      have e' : Lib.decDigits u = D := by simpa using e
      rw [← e', valA_digits] at hv
      cases hv
    · rw [f] at e
      have := digits_all u 45 (by rw [e]; simp)
      have e45 : (45 : UInt8).toNat = 45 := rfl
      omega

theorem iv_A2 (D : List UInt8) (hl : 9 < D.length) : intV (45 :: D) = none := intV_none _ fun v h0 h1 e => by
  rcases itoa_form v h0 h1 with ⟨u, p, q, -, f⟩ | ⟨u, q, -, f⟩
  · rw [f] at e
    have e' : Lib.decDigits u = D := by simpa using e
    have := digits_len9 u q
    rw [e'] at this
    omega
  · rw [f] at e
    have := digits_len9 u q
    rw [e] at this
    simp at this
    omega

theorem iv_A3 (D : List UInt8) : intV (45 :: 48 :: D) = none := intV_none _ fun v h0 h1 e => by
  rcases itoa_form v h0 h1 with ⟨u, p, q, -, f⟩ | ⟨u, q, -, f⟩
  · rw [f] at e
    obtain ⟨c, r, e2, n1, n2⟩ := digits_head u p
    rw [e2] at e
    have : c = 48 := by have := e; simp at this; exact this.1
    exact n1 this
  · rw [f] at e
    have := digits_all u 45 (by rw [e]; simp)
    have e45 : (45 : UInt8).toNat = 45 := rfl
    omega

theorem iv_B0 : intV [] = none := intV_none _ fun v h0 h1 e => by
  rcases itoa_form v h0 h1 with ⟨u, p, q, -, f⟩ | ⟨u, q, -, f⟩
  · rw [f] at e; cases e
  · rw [f] at e
    have := digits_len9 u q
    rw [e] at this
    simp at this

theorem iv_B2 (S : List UInt8) (h4 : S.head? ≠ some 45) (hl : 9 < S.length) : intV S = none := intV_none _ fun v h0 h1 e => by
  rcases itoa_form v h0 h1 with ⟨u, p, q, -, f⟩ | ⟨u, q, -, f⟩
  · rw [f] at e; exact h4 (by rw [← e]; rfl)
  · rw [f] at e
    have := digits_len9 u q
    rw [e] at this
    omega

theorem iv_B3 (D : List UInt8) (hD : D ≠ []) : intV (48 :: D) = none := intV_none _ fun v h0 h1 e => by
  rcases itoa_form v h0 h1 with ⟨u, p, q, -, f⟩ | ⟨u, q, -, f⟩
  · rw [f] at e
    have := e
    simp at this
  · rw [f] at e
    by_cases hu : u = 0
    · rw [hu, digits_zero] at e
      exact hD (by simpa using e.symm)
    · obtain ⟨c, r, e2, n1, n2⟩ := digits_head u (by omega)
      rw [e2] at e
      have : c = 48 := by have := e; simp at this; exact this.1
      exact n1 this

theorem iv_B (S : List UInt8) (hS : S ≠ []) (hl : S.length ≤ 9) (h4 : S.head? ≠ some 45) (hh : S.head? ≠ some 48) : intV S = (valA 0 S).map fun u => (u : Int) := by
  cases hv : valA 0 S with
  | some u =>
    obtain ⟨b1, b2⟩ := valA_back S u hS hh hv
    have hlt := valA_lt S 0 u hv
    have hp : (10 : Nat) ^ S.length ≤ 10 ^ 9 := Nat.pow_le_pow_right (by decide) hl
    have e9 : (10 : Nat) ^ 9 = 1000000000 := by decide
    show intV S = some (u : Int)
    refine (intV_iff _ _).2 ⟨⟨by omega, by omega⟩, ?_⟩
    rw [Lib.itoa, if_neg (by omega), Int.toNat_natCast, b1]
  | none =>
    refine intV_none _ fun v h0 h1 e => ?_
    rcases itoa_form v h0 h1 with ⟨u, p, q, -, f⟩ | ⟨u, q, -, f⟩
    · rw [f] at e; exact h4 (by rw [← e]; rfl)
    · rw [f] at e
      rw [← e, valA_digits] at hv
      cases hv

theorem iv_B5 : intV [48] = some 0 := (intV_iff _ _).2 ⟨by decide, itoa_0⟩

end Go.Proofs.YtcnnjladaoaeiaaGreatDoor
