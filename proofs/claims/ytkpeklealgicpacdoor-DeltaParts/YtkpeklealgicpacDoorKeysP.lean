/-
  Numbers as texts, and back.
-/
import Derived.Test.YtkpeklealgicpacDoorCast
namespace Go.Proofs.YtkpeklealgicpacDoor
open Go.RowKit

theorem parse_digits : ∀ (u : Nat) (r : List UInt8), u < 1000000000000000000 → Lib.parseUint10 0 (Lib.decDigits u ++ r) = Lib.parseUint10 u r := by
  intro u
  induction u using Nat.strongRecOn with
  | _ u ih =>
    intro r hu
    rw [Lib.decDigits]
    have dg : ∀ d, d < 10 → (UInt8.ofNat (48 + d)).toNat = 48 + d := fun d hd => by rw [UInt8.toNat_ofNat', Nat.mod_eq_of_lt (by omega)]
    by_cases h : u < 10
    · rw [dif_pos h, List.singleton_append, Lib.parseUint10, dg u h, if_pos (by omega), if_neg (by omega), if_neg (by omega), show 0 * 10 + (48 + u - 48) = u by omega]
    · rw [dif_neg h, List.append_assoc, ih (u / 10) (by omega) _ (by omega), List.singleton_append, Lib.parseUint10, dg _ (Nat.mod_lt _ (by decide)), if_pos (by omega), if_neg (by omega), if_neg (by omega), show u / 10 * 10 + (48 + u % 10 - 48) = u by omega]

theorem digits_all : ∀ u : Nat, ∀ c ∈ Lib.decDigits u, 48 ≤ c.toNat ∧ c.toNat ≤ 57 := by
  intro u
  induction u using Nat.strongRecOn with
  | _ u ih =>
    have dg : ∀ d, d < 10 → (UInt8.ofNat (48 + d)).toNat = 48 + d := fun d hd => by rw [UInt8.toNat_ofNat', Nat.mod_eq_of_lt (by omega)]
    rw [Lib.decDigits]
    by_cases h : u < 10
    · rw [dif_pos h]
      intro c hc
      rw [List.mem_singleton] at hc
      rw [hc, dg u h]; omega
    · rw [dif_neg h]
      intro c hc
      rcases List.mem_append.1 hc with hc | hc
      · exact ih _ (by omega) c hc
      · rw [List.mem_singleton] at hc
        rw [hc, dg _ (Nat.mod_lt _ (by decide))]; omega

theorem atoi_itoa (N : Int) (h0 : -999999999 ≤ N) (h1 : N ≤ 999999999) : Lib.atoiAll (Lib.itoa N) = .ok N := by
  have ps : ∀ u : Nat, u < 1000000000000000000 → Lib.parseMag (Lib.decDigits u) = .ok u := by
    intro u hu
    have h := parse_digits u [] hu
    rw [List.append_nil] at h
    have hne : Lib.decDigits u ≠ [] := by
      intro e
      have := decDigits_len 17 u hu
      rw [e] at this
      simp at this
    rw [Lib.parseMag, if_neg hne, h]
    rfl
  unfold Lib.itoa
  by_cases h : N < 0
  · rw [if_pos h, Lib.atoiAll]
    have := ps N.natAbs (by omega)
    simp only [show (45 : UInt8).toNat = 45 from rfl, or_true, if_true, this, not_true, false_and, if_false, true_and]
    rw [if_neg (by omega)]
    congr 1
    omega
  · rw [if_neg h]
    have := ps N.toNat (by omega)
    have hl := decDigits_len 17 N.toNat (by omega)
    have ha := digits_all N.toNat
    cases e : Lib.decDigits N.toNat with
    | nil => rw [e] at hl; simp at hl
    | cons c r =>
      rw [e] at this ha
      have hc := ha c (by simp)
      rw [Lib.atoiAll]
      have n1 : ¬ c.toNat = 43 := by omega
      have n2 : ¬ c.toNat = 45 := by omega
      simp only [n1, n2, or_false, if_false, this, not_false_iff, true_and, false_and]
      rw [if_neg (by omega)]
      congr 1
      omega

theorem itoa_quot (N : Int) (h0 : -999999999 ≤ N) (h1 : N ≤ 999999999) : chkV 2 0 (Lib.itoa N) = 0 := by
  have hq : ∀ u : Nat, (Lib.decDigits u).all isQ = true := by
    intro u
    rw [List.all_eq_true]
    intro c hc
    have := digits_all u c hc
    simp only [isQ, Bool.and_eq_true, decide_eq_true_eq, bne_iff_ne]
    omega
  have : quotB (Lib.itoa N) = true := by
    unfold quotB Lib.itoa
    by_cases h : N < 0
    · have hl := decDigits_len 17 N.natAbs (by omega)
      rw [if_pos h]
      simp only [List.length_cons, List.all_cons, hq, Bool.and_true, Bool.and_eq_true, decide_eq_true_eq]
      exact ⟨by omega, by decide⟩
    · have hl := decDigits_len 17 N.toNat (by omega)
      rw [if_neg h]
      simp only [hq, Bool.and_true, decide_eq_true_eq]
      omega
  simp [chkV, this]

/-- TO TEXT AND BACK -/
theorem cast_back (K N : Int) (S : List UInt8) (h : chkV K N S = 0) (h0 : K ≠ 0) (h2 : K ≠ 2) :
    castE K N S 2 = 0 ∧ castE (castR K N S 2).1 (castR K N S 2).2.1 (castR K N S 2).2.2 K = 0 ∧ castR (castR K N S 2).1 (castR K N S 2).2.1 (castR K N S 2).2.2 K = (K, N, S) := by
  have e : castE K N S 2 = 0 := by simp [castE, h]
  refine ⟨e, ?_⟩
  rw [castR, if_pos e]
  rcases chk_zero h with ⟨rfl, _⟩ | ⟨rfl, ⟨p, q⟩, rfl⟩ | ⟨rfl, _⟩ | ⟨rfl, p, rfl⟩
  · exact absurd rfl h0
  · have c := itoa_quot N p q
    have x : castV 1 N [] 2 = (2, 0, Lib.itoa N) := by simp [castV]
    have f : castE 2 0 (Lib.itoa N) 1 = 0 := by simp [castE, c]
    rw [x]
    refine ⟨f, ?_⟩
    show castR 2 0 (Lib.itoa N) 1 = _
    rw [castR, if_pos f]
    have i : intV (Lib.itoa N) = some N := by
      rw [intV, atoi_itoa N p q]
      have : isInt N = true := by simp [isInt]; omega
      simp [this]
    simp [castV, i]
  · exact absurd rfl h2
  · rcases p with rfl | rfl
    · decide +kernel
    · decide +kernel

end Go.Proofs.YtkpeklealgicpacDoor
