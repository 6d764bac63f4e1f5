/-
  Keys stand in order just as values do: on lists of bytes alone.
-/
import Derived.Test.YtcnnjladaoaeiaaGreatDoorCast
namespace Go.Proofs.YtcnnjladaoaeiaaGreatDoor
open Go.RowKit

def orV (x y z : Int) : Int := if x ≠ 0 then x else if y ≠ 0 then y else z
def ordV (K N : Int) (S : List UInt8) (K' N' : Int) (S' : List UInt8) : Int := orV (Lib.compareInt K K') (Lib.compareInt N N') (Lib.compareBytes S S')

theorem cmp_less : ∀ a b : List UInt8, Op.bytesLess a b = decide (Lib.compareBytes a b < 0)
  | [], [] => by simp [Op.bytesLess, Lib.compareBytes]
  | [], _ :: _ => by simp [Op.bytesLess, Lib.compareBytes]
  | _ :: _, [] => by simp [Op.bytesLess, Lib.compareBytes]
  | x :: a, y :: b => by
    have ih := cmp_less a b
    unfold Op.bytesLess Lib.compareBytes
    by_cases h1 : x < y
    · simp [h1]
    · by_cases h2 : y < x
      · have : x ≠ y := fun e => by subst e; exact h1 h2
        simp [h1, h2, this]
      · have : x = y := UInt8.le_antisymm (UInt8.not_lt.1 h2) (UInt8.not_lt.1 h1)
        subst this
        simp [h1, ih]

theorem cmp_same : ∀ a b : List UInt8, a = b ↔ Lib.compareBytes a b = 0
  | [], [] => by simp [Lib.compareBytes]
  | [], _ :: _ => by simp [Lib.compareBytes]
  | _ :: _, [] => by simp [Lib.compareBytes]
  | x :: a, y :: b => by
    have ih := cmp_same a b
    unfold Lib.compareBytes
    by_cases h1 : x < y
    · have : x ≠ y := fun e => by subst e; exact UInt8.lt_irrefl _ h1
      simp [h1, this]
    · by_cases h2 : y < x
      · have : x ≠ y := fun e => by subst e; exact h1 h2
        simp [h1, h2, this]
      · have : x = y := UInt8.le_antisymm (UInt8.not_lt.1 h2) (UInt8.not_lt.1 h1)
        subst this
        simp [h1, ih]

/-- k digits of a number -/
def dig : Nat → Nat → List UInt8
  | 0, _ => []
  | k + 1, u => dig k (u / 10) ++ [UInt8.ofNat (48 + u % 10)]

theorem dig_len : ∀ k u, (dig k u).length = k
  | 0, _ => rfl
  | k + 1, u => by simp [dig, dig_len k]

theorem repeat_last : ∀ k, Lib.repeatL [48] (k + 1) = Lib.repeatL [48] k ++ [48]
  | 0 => rfl
  | k + 1 => by
    have ih := repeat_last k
    show [48] ++ Lib.repeatL [48] (k + 1) = ([48] ++ Lib.repeatL [48] k) ++ [48]
    rw [ih, List.append_assoc]

theorem dig_zero : ∀ k, dig k 0 = Lib.repeatL [48] k
  | 0 => rfl
  | k + 1 => by rw [dig, dig_zero k, repeat_last]; rfl

theorem dig_of : ∀ k u, u < 10 ^ (k + 1) → Lib.repeatL [48] (k + 1 - (Lib.decDigits u).length) ++ Lib.decDigits u = dig (k + 1) u := by
  intro k
  induction k with
  | zero =>
    intro u h
    have h : u < 10 := by simpa using h
    rw [Lib.decDigits, dif_pos h]
    simp [dig, Lib.repeatL, Nat.mod_eq_of_lt h]
  | succ k ih =>
    intro u h
    by_cases hu : u < 10
    · rw [Lib.decDigits, dif_pos hu]
      rw [dig, Nat.div_eq_of_lt hu, dig_zero, Nat.mod_eq_of_lt hu]
      rfl
    · rw [Lib.decDigits, dif_neg hu]
      have h' : u / 10 < 10 ^ (k + 1) := by
        rw [Nat.pow_succ] at h
        exact Nat.div_lt_of_lt_mul (by omega)
      rw [dig, ← ih _ h']
      rw [List.length_append, List.length_singleton, ← List.append_assoc, show k + 1 + 1 - ((Lib.decDigits (u / 10)).length + 1) = k + 1 - (Lib.decDigits (u / 10)).length by omega]

theorem less_last : ∀ (x y : List UInt8) (c d : UInt8), x.length = y.length → Op.bytesLess (x ++ [c]) (y ++ [d]) = (Op.bytesLess x y || (x == y && decide (c < d)))
  | [], [], c, d, _ => by simp [Op.bytesLess]
  | a :: x, b :: y, c, d, h => by
    have ih := less_last x y c d (by simpa using h)
    simp only [List.cons_append, Op.bytesLess, ih]
    by_cases h1 : a < b
    · simp [h1]
    · by_cases h2 : a = b
      · subst h2; simp
      · have h3 : (a == b) = false := by simpa using h2
        simp [h1, h3]
  | [], _ :: _, _, _, h => by simp at h
  | _ :: _, [], _, _, h => by simp at h

theorem digit_lt (a b : Nat) (ha : a < 10) (hb : b < 10) : (UInt8.ofNat (48 + a) < UInt8.ofNat (48 + b)) ↔ a < b := by
  rw [UInt8.lt_iff_toNat_lt, UInt8.toNat_ofNat', UInt8.toNat_ofNat', Nat.mod_eq_of_lt (by omega), Nat.mod_eq_of_lt (by omega)]
  omega

theorem digit_eq (a b : Nat) (ha : a < 10) (hb : b < 10) : (UInt8.ofNat (48 + a) = UInt8.ofNat (48 + b)) ↔ a = b := by
  rw [← UInt8.toNat_inj, UInt8.toNat_ofNat', UInt8.toNat_ofNat', Nat.mod_eq_of_lt (by omega), Nat.mod_eq_of_lt (by omega)]
  omega

theorem dig_eq : ∀ k u v, u < 10 ^ k → v < 10 ^ k → (dig k u = dig k v ↔ u = v)
  | 0, u, v, hu, hv => by simp [dig] at *; omega
  | k + 1, u, v, hu, hv => by
    rw [Nat.pow_succ] at hu hv
    have ih := dig_eq k (u / 10) (v / 10) (Nat.div_lt_of_lt_mul (by omega)) (Nat.div_lt_of_lt_mul (by omega))
    rw [dig, dig]
    constructor
    · intro h
      have := List.append_inj h (by rw [dig_len, dig_len])
      have h1 := ih.1 this.1
      have h2 := (digit_eq _ _ (Nat.mod_lt _ (by decide)) (Nat.mod_lt _ (by decide))).1 (by simpa using this.2)
      omega
    · rintro rfl; rfl

theorem dig_less : ∀ k u v, u < 10 ^ k → v < 10 ^ k → Op.bytesLess (dig k u) (dig k v) = decide (u < v)
  | 0, u, v, hu, hv => by simp [dig, Op.bytesLess] at *; omega
  | k + 1, u, v, hu, hv => by
    rw [Nat.pow_succ] at hu hv
    have pu := Nat.div_lt_of_lt_mul (m := u) (n := 10) (k := 10 ^ k) (by omega)
    have pv := Nat.div_lt_of_lt_mul (m := v) (n := 10) (k := 10 ^ k) (by omega)
    have ih := dig_less k (u / 10) (v / 10) pu pv
    have ie := dig_eq k (u / 10) (v / 10) pu pv
    rw [dig, dig, less_last _ _ _ _ (by rw [dig_len, dig_len]), ih, Bool.eq_iff_iff]
    simp only [Bool.or_eq_true, decide_eq_true_eq, Bool.and_eq_true, beq_iff_eq, ie, digit_lt _ _ (Nat.mod_lt u (by decide : 10 > 0)) (Nat.mod_lt v (by decide : 10 > 0))]
    omega

theorem ten_dig (n : Int) (h0 : 0 ≤ n) (h1 : n ≤ 1999999999) : tenL n = dig 10 n.toNat := by
  have : Lib.itoa n = Lib.decDigits n.toNat := by rw [Lib.itoa, if_neg (by omega)]
  rw [tenL, this]
  exact dig_of 9 _ (by omega)

theorem ten_less (n m : Int) (h0 : 0 ≤ n) (h1 : n ≤ 1999999999) (g0 : 0 ≤ m) (g1 : m ≤ 1999999999) : Op.bytesLess (tenL n) (tenL m) = decide (n < m) := by
  rw [ten_dig n h0 h1, ten_dig m g0 g1, dig_less 10 _ _ (by omega) (by omega), Bool.eq_iff_iff]
  simp only [decide_eq_true_eq]
  omega

theorem ten_eq (n m : Int) (h0 : 0 ≤ n) (h1 : n ≤ 1999999999) (g0 : 0 ≤ m) (g1 : m ≤ 1999999999) : tenL n = tenL m ↔ n = m := by
  rw [ten_dig n h0 h1, ten_dig m g0 g1, dig_eq 10 _ _ (by omega) (by omega)]
  omega

/-- KEYS STAND IN ORDER JUST AS VALUES DO. -/
theorem keys_stand (K N K' N' : Int) (S S' : List UInt8) (h : chkV K N S = 0) (h' : chkV K' N' S' = 0) :
    Op.bytesLess (keyV K N S) (keyV K' N' S') = decide (ordV K N S K' N' S' < 0) ∧ (keyV K N S = keyV K' N' S' ↔ ordV K N S K' N' S' = 0) := by
  rcases chk_zero h with ⟨rfl, rfl, rfl⟩ | ⟨rfl, ⟨p, q⟩, rfl⟩ | ⟨rfl, rfl, -⟩ | ⟨rfl, p, rfl⟩ <;>
    rcases chk_zero h' with ⟨rfl, rfl, rfl⟩ | ⟨rfl, ⟨p', q'⟩, rfl⟩ | ⟨rfl, rfl, -⟩ | ⟨rfl, p', rfl⟩
  · decide
  · simp [keyV, ordV, orV, Lib.compareInt, Op.bytesLess]
  · simp [keyV, ordV, orV, Lib.compareInt, Op.bytesLess]
  · simp [keyV, ordV, orV, Lib.compareInt, Op.bytesLess]
  · simp [keyV, ordV, orV, Lib.compareInt, Op.bytesLess]
  · have e1 := ten_less (N + 1000000000) (N' + 1000000000) (by omega) (by omega) (by omega) (by omega)
    have e2 := ten_eq (N + 1000000000) (N' + 1000000000) (by omega) (by omega) (by omega) (by omega)
    have e3 : ordV 1 N [] 1 N' [] = Lib.compareInt N N' := by
      simp only [ordV, orV, Lib.compareBytes, show Lib.compareInt 1 1 = 0 from rfl]
      by_cases x : Lib.compareInt N N' = 0 <;> simp [x]
    rw [e3]
    have k1 : keyV 1 N [] = 49 :: tenL (N + 1000000000) := rfl
    have k2 : keyV 1 N' [] = 49 :: tenL (N' + 1000000000) := rfl
    rw [k1, k2, Op.bytesLess, e1, List.cons.injEq, e2]
    rcases Int.lt_trichotomy N N' with l | rfl | g
    · have c : Lib.compareInt N N' = -1 := by simp [Lib.compareInt, l]
      rw [c]
      simp
      omega
    · have c : Lib.compareInt N N = 0 := by simp [Lib.compareInt]
      rw [c]
      simp
    · have c : Lib.compareInt N N' = 1 := by rw [Lib.compareInt, if_neg (by omega), if_pos g]
      rw [c]
      simp
      omega
  · simp [keyV, ordV, orV, Lib.compareInt, Op.bytesLess]
  · simp [keyV, ordV, orV, Lib.compareInt, Op.bytesLess]
  · simp [keyV, ordV, orV, Lib.compareInt, Op.bytesLess]
  · simp [keyV, ordV, orV, Lib.compareInt, Op.bytesLess]
  · have e3 : ordV 2 0 S 2 0 S' = Lib.compareBytes S S' := by
      simp [ordV, orV, Lib.compareInt]
    rw [e3]
    have k1 : keyV 2 0 S = 50 :: S := rfl
    have k2 : keyV 2 0 S' = 50 :: S' := rfl
    rw [k1, k2, Op.bytesLess, List.cons.injEq, cmp_less, ← cmp_same]
    simp
  · simp [keyV, ordV, orV, Lib.compareInt, Op.bytesLess]
  · simp [keyV, ordV, orV, Lib.compareInt, Op.bytesLess]
  · simp [keyV, ordV, orV, Lib.compareInt, Op.bytesLess]
  · simp [keyV, ordV, orV, Lib.compareInt, Op.bytesLess]
  · rcases p with rfl | rfl <;> rcases p' with rfl | rfl <;> simp [keyV, ordV, orV, Lib.compareInt, Lib.compareBytes, Op.bytesLess, itoa_0, itoa_1]

theorem parse_digits : ∀ (u : Nat) (r : List UInt8), u < 1000000000000000000 → Lib.parseUint10 0 (Lib.decDigits u ++ r) = Lib.parseUint10 u r := by
  intro u
  induction u using Nat.strongRecOn with
  | _ u ih =>
    intro r hu
    rw [Lib.decDigits]
    have dg : ∀ d, d < 10 → (UInt8.ofNat (48 + d)).toNat = 48 + d := fun d hd => by rw [UInt8.toNat_ofNat', Nat.mod_eq_of_lt (by omega)]
    by_cases h : u < 10
    · rw [dif_pos h, List.singleton_append, Lib.parseUint10, dg u h, if_pos (by omega), if_neg (by omega), if_neg (by omega), show 0 * 10 + (48 + u - 48) = u by omega]
    · rw [dif_neg h, List.append_assoc, ih (u / 10) (by omega) _ (by omega), List.singleton_append, Lib.parseUint10, dg _ (Nat.mod_lt _ (by decide)), if_pos (by omega), if_neg (by omega), if_neg (by omega), show u / 10 * 10 + (48 + u % 10 - 48) = u by omega]

theorem digits_all : ∀ u : Nat, ∀ c ∈ Lib.decDigits u, 48 ≤ c.toNat ∧ c.toNat ≤ 57 := by
  intro u
  induction u using Nat.strongRecOn with
  | _ u ih =>
    have dg : ∀ d, d < 10 → (UInt8.ofNat (48 + d)).toNat = 48 + d := fun d hd => by rw [UInt8.toNat_ofNat', Nat.mod_eq_of_lt (by omega)]
    rw [Lib.decDigits]
    by_cases h : u < 10
    · rw [dif_pos h]
      intro c hc
      rw [List.mem_singleton] at hc
      rw [hc, dg u h]; omega
    · rw [dif_neg h]
      intro c hc
      rcases List.mem_append.1 hc with hc | hc
      · exact ih _ (by omega) c hc
      · rw [List.mem_singleton] at hc
        rw [hc, dg _ (Nat.mod_lt _ (by decide))]; omega

theorem atoi_itoa (N : Int) (h0 : -999999999 ≤ N) (h1 : N ≤ 999999999) : Lib.atoiAll (Lib.itoa N) = .ok N := by
  have ps : ∀ u : Nat, u < 1000000000000000000 → Lib.parseMag (Lib.decDigits u) = .ok u := by
    intro u hu
    have h := parse_digits u [] hu
    rw [List.append_nil] at h
    have hne : Lib.decDigits u ≠ [] := by
      intro e
      have := decDigits_len 17 u hu
      rw [e] at this
      simp at this
    rw [Lib.parseMag, if_neg hne, h]
    rfl
  unfold Lib.itoa
  by_cases h : N < 0
  · rw [if_pos h, Lib.atoiAll]
    have := ps N.natAbs (by omega)
    simp only [show (45 : UInt8).toNat = 45 from rfl, or_true, if_true, this, not_true, false_and, if_false, true_and]
    rw [if_neg (by omega)]
    congr 1
    omega
  · rw [if_neg h]
    have := ps N.toNat (by omega)
    have hl := decDigits_len 17 N.toNat (by omega)
    have ha := digits_all N.toNat
    cases e : Lib.decDigits N.toNat with
    | nil => rw [e] at hl; simp at hl
    | cons c r =>
      rw [e] at this ha
      have hc := ha c (by simp)
      rw [Lib.atoiAll]
      have n1 : ¬ c.toNat = 43 := by omega
      have n2 : ¬ c.toNat = 45 := by omega
      simp only [n1, n2, or_false, if_false, this, not_false_iff, true_and, false_and]
      rw [if_neg (by omega)]
      congr 1
      omega

theorem itoa_quot (N : Int) (h0 : -999999999 ≤ N) (h1 : N ≤ 999999999) : chkV 2 0 (Lib.itoa N) = 0 := by
  have hq : ∀ u : Nat, (Lib.decDigits u).all isQ = true := by
    intro u
    rw [List.all_eq_true]
    intro c hc
    have := digits_all u c hc
    simp only [isQ, Bool.and_eq_true, decide_eq_true_eq, bne_iff_ne]
    omega
  have : quotB (Lib.itoa N) = true := by
    unfold quotB Lib.itoa
    by_cases h : N < 0
    · have hl := decDigits_len 17 N.natAbs (by omega)
      rw [if_pos h]
      simp only [List.length_cons, List.all_cons, hq, Bool.and_true, Bool.and_eq_true, decide_eq_true_eq]
      exact ⟨by omega, by decide⟩
    · have hl := decDigits_len 17 N.toNat (by omega)
      rw [if_neg h]
      simp only [hq, Bool.and_true, decide_eq_true_eq]
      omega
  simp [chkV, this]

/-- TO TEXT AND BACK -/
theorem cast_back (K N : Int) (S : List UInt8) (h : chkV K N S = 0) (h0 : K ≠ 0) (h2 : K ≠ 2) :
    castE K N S 2 = 0 ∧ castE (castR K N S 2).1 (castR K N S 2).2.1 (castR K N S 2).2.2 K = 0 ∧ castR (castR K N S 2).1 (castR K N S 2).2.1 (castR K N S 2).2.2 K = (K, N, S) := by
  have e : castE K N S 2 = 0 := by simp [castE, h]
  refine ⟨e, ?_⟩
  rw [castR, if_pos e]
  rcases chk_zero h with ⟨rfl, _⟩ | ⟨rfl, ⟨p, q⟩, rfl⟩ | ⟨rfl, _⟩ | ⟨rfl, p, rfl⟩
  · exact absurd rfl h0
  · have c := itoa_quot N p q
    have x : castV 1 N [] 2 = (2, 0, Lib.itoa N) := by simp [castV]
    have f : castE 2 0 (Lib.itoa N) 1 = 0 := by simp [castE, c]
    rw [x]
    refine ⟨f, ?_⟩
    show castR 2 0 (Lib.itoa N) 1 = _
    rw [castR, if_pos f]
    have i : intV (Lib.itoa N) = some N := by
      rw [intV, atoi_itoa N p q]
      have : isInt N = true := by simp [isInt]; omega
      simp [this]
    simp [castV, i]
  · exact absurd rfl h2
  · rcases p with rfl | rfl
    · decide +kernel
    · decide +kernel

end Go.Proofs.YtcnnjladaoaeiaaGreatDoor
