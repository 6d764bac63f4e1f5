/-
  Plain functions' laws on tokens, over lists of bytes: the same as over the other laws' program.
-/
import Derived.Test.YtcnnjladaoaeiaaGreatDoorJoin
namespace Go.Proofs.YtcnnjladaoaeiaaGreatDoor
open Go.RowKit

/-- each token stands where it is told, from a place on, one behind the other -/
def placesL (s : List UInt8) : Nat → List Tk → Prop
  | _, [] => True
  | p, x :: r => ∃ A : Nat, x.a = (A : Int) ∧ p ≤ A ∧ 1 ≤ x.t.length ∧ A + x.t.length ≤ s.length ∧ x.t = (s.drop A).take x.t.length ∧ placesL s (A + x.t.length) r

theorem placesL_mono (s : List UInt8) (p q : Nat) (h : q ≤ p) (L : List Tk) (hL : placesL s p L) : placesL s q L := by
  cases L with
  | nil => trivial
  | cons x r => obtain ⟨A, h1, h2, h3⟩ := hL; exact ⟨A, h1, by omega, h3⟩

theorem scanGo_places (s : List UInt8) (f : Nat) : ∀ (a : Nat) (l : List UInt8) (acc : List Tk), a ≤ s.length → l = s.drop a → (scanGo f a l acc).2.2 = 0 → ∃ new, (scanGo f a l acc).1 = acc ++ new ∧ placesL s a new := by
  induction f with
  | zero => intro a l acc _ _ _; exact ⟨[], by simp [scanGo], trivial⟩
  | succ f ih =>
    intro a l acc ha hl h0
    cases l with
    | nil => exact ⟨[], by simp [scanGo], trivial⟩
    | cons c r =>
      have hlen : (c :: r).length = s.length - a := by rw [hl]; simp
      simp only [List.length_cons] at hlen
      have hr : r = s.drop (a + 1) := by rw [← List.drop_drop, ← hl]; rfl
      rw [scanGo] at h0 ⊢
      by_cases hb : isB c = true
      · rw [if_pos hb] at h0 ⊢
        obtain ⟨new, h1, h2⟩ := ih (a + 1) r acc (by omega) hr h0
        exact ⟨new, h1, placesL_mono s _ _ (by omega) new h2⟩
      · rw [if_neg hb] at h0 ⊢
        by_cases hw : wrongL (tokL (c :: r)).1 ((c :: r).take (tokL (c :: r)).2) = 0
        · rw [if_pos hw] at h0 ⊢
          have hpos := tokL_pos c r (wrongL_zero hw)
          have hle := tokL_le (c :: r)
          generalize tokL (c :: r) = p at *
          obtain ⟨K, N⟩ := p
          simp only [List.length_cons] at *
          obtain ⟨new, h1, h2⟩ := ih (a + N) _ _ (by omega) (by rw [hl, List.drop_drop]) h0
          have hT : ((c :: r).take N).length = N := by rw [List.length_take, List.length_cons]; omega
          refine ⟨⟨(K : Nat), (a : Nat), (c :: r).take N⟩ :: new, by rw [h1]; simp, a, rfl, Nat.le_refl _, ?_, ?_, ?_, ?_⟩
          · show 1 ≤ ((c :: r).take N).length; omega
          · show a + ((c :: r).take N).length ≤ s.length; omega
          · show (c :: r).take N = (s.drop a).take ((c :: r).take N).length; rw [hT, ← hl]
          · show placesL s (a + ((c :: r).take N).length) new; rw [hT]; exact h2
        · rw [if_neg hw] at h0
          exact absurd h0 hw

theorem hide {p : Prop} (h : p) : Hid p := h

theorem u8_is (c d : UInt8) : ((c.toNat : Int) == (d.toNat : Int)) = decide (c = d) := by
  rw [Bool.eq_iff_iff]
  simp only [beq_iff_eq, decide_eq_true_eq]
  constructor
  · intro h; apply UInt8.toNat_inj.1; omega
  · intro h; rw [h]

theorem isBars_cons (c : UInt8) (r : List UInt8) : isBars (c :: r) = (decide (c = 124) && decide (r.head? = some 124)) := by
  unfold isBars Lib.hasPrefix
  cases r with
  | nil => simp [List.isPrefixOf]
  | cons d r => simp [List.isPrefixOf]; rw [Bool.eq_iff_iff]; simp [eq_comm (a := (124 : UInt8))]

theorem isB_cases {c : UInt8} (h : isB c = true) : ((c.toNat : Int) == 32) = true ∨ (((c.toNat : Int) == 32) = false ∧ ((c.toNat : Int) == 9) = true) ∨ (((c.toNat : Int) == 32) = false ∧ ((c.toNat : Int) == 9) = false ∧ ((c.toNat : Int) == 10) = true) := by
  unfold isB at h
  cases h1 : ((c.toNat : Int) == 32) <;> cases h2 : ((c.toNat : Int) == 9) <;> cases h3 : ((c.toNat : Int) == 10) <;> simp_all

theorem isB_not {c : UInt8} (h : isB c = false) : ((c.toNat : Int) == 32) = false ∧ ((c.toNat : Int) == 9) = false ∧ ((c.toNat : Int) == 10) = false := by
  unfold isB at h
  cases h1 : ((c.toNat : Int) == 32) <;> cases h2 : ((c.toNat : Int) == 9) <;> cases h3 : ((c.toNat : Int) == 10) <;> simp_all

/-- is a text just one token of a kind? -/
def isTokB (K : Int) (l : List UInt8) : Bool := decide (l ≠ [] ∧ l.length ≤ 2000 ∧ ((tokL l).1 : Int) = K ∧ (tokL l).2 = l.length ∧ wrongL (tokL l).1 l = 0)

theorem tokL_blank (c : UInt8) (r : List UInt8) (h : isB c = true) : tokL (c :: r) = (0, 0) := by
  have hc : c = 32 ∨ c = 9 ∨ c = 10 := by
    rcases isB_cases h with h | ⟨_, h⟩ | ⟨_, _, h⟩
    · left; apply UInt8.toNat_inj.1; have := eq_of_beq h; simp; omega
    · right; left; apply UInt8.toNat_inj.1; have := eq_of_beq h; simp; omega
    · right; right; apply UInt8.toNat_inj.1; have := eq_of_beq h; simp; omega
  rcases hc with rfl | rfl | rfl
  all_goals
    rw [tokL, if_neg (by decide), if_neg (by decide), if_neg (by decide), if_neg (by rw [isBars_cons]; simp), if_neg (by decide)]

theorem isTok_iff (K : Int) (l : List UInt8) : aloneB K l = isTokB K l := by
  rw [Bool.eq_iff_iff]
  constructor
  · intro h
    have hlen := alone_len h
    unfold aloneB at h
    split at h
    · rename_i x p hs
      simp only [decide_eq_true_eq] at h
      obtain ⟨hk, ha, ht⟩ := h
      cases l with
      | nil => simp [scanS, scanL, scanGo] at hs
      | cons c r =>
        have hs' : scanL 0 (c :: r) [] = ([x], p, 0) := by
          have : scanS (c :: r) = scanL 0 (c :: r) [] := by unfold scanS; rw [if_neg (by omega)]
          rw [← this]; exact hs
        cases hB : isB c
        · by_cases hw : wrongL (tokL (c :: r)).1 ((c :: r).take (tokL (c :: r)).2) = 0
          · have h1 := scanL_tok 0 c r [] hB hw
            have hle := tokL_le (c :: r)
            rw [hs'] at h1
            obtain ⟨new, h2, _⟩ := scanGo_places (c :: r) _ (0 + (tokL (c :: r)).2) _ ([] ++ [⟨((tokL (c :: r)).1 : Nat), ((0 : Nat) : Int), (c :: r).take (tokL (c :: r)).2⟩]) (by omega) (by rw [Nat.zero_add]) (by unfold scanL at h1; rw [← h1])
            have h3 : ([x] : List Tk) = [⟨((tokL (c :: r)).1 : Nat), ((0 : Nat) : Int), (c :: r).take (tokL (c :: r)).2⟩] ++ new := by
              have := congrArg Prod.fst h1
              unfold scanL at this
              rw [h2] at this
              simpa using this
            simp only [List.cons_append, List.nil_append, List.cons.injEq] at h3
            obtain ⟨rfl, _⟩ := h3
            simp only at hk ht
            have hN : (tokL (c :: r)).2 = (c :: r).length := by
              have := congrArg List.length ht
              rw [List.length_take] at this; omega
            rw [ht] at hw
            simp only [isTokB, decide_eq_true_eq]
            exact ⟨by simp, by omega, hk, hN, hw⟩
          · have h1 := scanL_bad 0 c r [] hB hw
            rw [hs'] at h1
            simp at h1
        · have h1 := scanL_blank 0 c r [] hB
          rw [hs'] at h1
          obtain ⟨new, h2, h3⟩ := scanGo_places (c :: r) (r.length + 1) 1 r [] (by simp) rfl (by unfold scanL at h1; rw [← h1])
          have h4 : ([x] : List Tk) = new := by
            have := congrArg Prod.fst h1
            unfold scanL at this
            rw [h2] at this
            simpa using this
          subst h4
          obtain ⟨A, e1, e2, _⟩ := h3
          rw [ha] at e1
          omega
    · cases h
  · intro h
    simp only [isTokB, decide_eq_true_eq] at h
    obtain ⟨h0, hlen, hk, hN, hw⟩ := h
    cases l with
    | nil => exact absurd rfl h0
    | cons c r =>
      have hB : isB c = false := by
        cases hB : isB c
        · rfl
        · rw [tokL_blank c r hB] at hw; simp [wrongL] at hw
      have h1 := scanL_tok 0 c r [] hB (by rw [hN, List.take_of_length_le (Nat.le_refl _)]; exact hw)
      rw [hN, List.take_of_length_le (Nat.le_refl _), List.drop_eq_nil_of_le (Nat.le_refl _), scanL_nil] at h1
      unfold aloneB
      rw [show scanS (c :: r) = scanL 0 (c :: r) [] by unfold scanS; rw [if_neg (by omega)], h1]
      simp [hk]

theorem mk_append (a b : List UInt8) : ((⟨a.toArray⟩ : ByteArray) ++ ⟨b.toArray⟩) = ⟨(a ++ b).toArray⟩ := by
  apply ByteArray.ext
  simp

/-- may a text stand between quotes? -/
def quotB (S : List UInt8) : Bool := decide (S.length ≤ 20) && S.all isQ

theorem runL_quot (S : List UInt8) (h : S.all isQ = true) : runL isQ (S ++ [39]) = S.length := by
  induction S with
  | nil => rfl
  | cons c r ih =>
    rw [List.all_cons, Bool.and_eq_true] at h
    rw [List.cons_append, runL_cons, if_pos h.1, ih h.2]; rfl

theorem runL_quot_lt (S : List UInt8) (h : S.all isQ = false) : runL isQ (S ++ [39]) < S.length := by
  induction S with
  | nil => cases h
  | cons c r ih =>
    rw [List.cons_append, runL_cons]
    by_cases hc : isQ c = true
    · rw [if_pos hc]
      rw [List.all_cons, hc, Bool.true_and] at h
      have := ih h
      simp only [List.length_cons]; omega
    · rw [if_neg hc]; simp

theorem quot_alone (S : List UInt8) : aloneB 3 (39 :: (S ++ [39])) = quotB S := by
  rw [isTok_iff, Bool.eq_iff_iff]
  have l39 : isL 39 = false := by decide
  have d39 : isD 39 = false := by decide
  have hlen : (39 :: (S ++ [39])).length = S.length + 2 := by simp
  simp only [isTokB, quotB, decide_eq_true_eq, Bool.and_eq_true]
  cases hA : S.all isQ
  · have hlt := runL_quot_lt S hA
    constructor
    · rintro ⟨_, _, h3, h4, _⟩
      rw [tokL, if_neg (by simp [l39]), if_neg (by simp [d39]), if_pos rfl] at h3 h4
      split at h3
      · rename_i hz
        rw [if_pos hz] at h4
        simp only at h4
        omega
      · simp at h3
    · rintro ⟨_, h⟩; cases h
  · have hrun := runL_quot S hA
    have hz : (S ++ [39])[runL isQ (S ++ [39])]? = some 39 := by rw [hrun, List.getElem?_append_right (by omega)]; simp
    have ht : tokL (39 :: (S ++ [39])) = (3, S.length + 2) := by
      rw [tokL, if_neg (by simp [l39]), if_neg (by simp [d39]), if_pos rfl, if_pos hz, hrun]
    rw [ht]
    simp only [hlen]
    constructor
    · rintro ⟨_, _, _, _, hw⟩
      refine ⟨?_, trivial⟩
      rcases Nat.lt_or_ge 20 S.length with h | h
      · have : wrongL 3 (39 :: (S ++ [39])) = 2 := by
          unfold wrongL
          rw [hlen, if_neg (by omega), if_pos (by omega)]
        rw [this] at hw; cases hw
      · exact h
    · rintro ⟨h, _⟩
      refine ⟨by simp, by omega, rfl, trivial, ?_⟩
      unfold wrongL
      simp only [hlen]
      rw [if_neg (by omega), if_neg (by omega), if_neg (by omega)]

theorem quot_join (S : List UInt8) (a : Int) : (joinS [⟨3, a, 39 :: (S ++ [39])⟩]).2 = if quotB S = true then 0 else 1 := by
  unfold joinS
  have e : ([⟨3, a, 39 :: (S ++ [39])⟩] : List Tk).all (fun x => aloneB x.k x.t) = quotB S := by simp [quot_alone]
  rw [e]
  by_cases h : quotB S = true
  · rw [if_pos h, if_pos h]
    have : ¬ 2000 < (joinL [⟨3, a, 39 :: (S ++ [39])⟩]).length := by
      simp only [quotB, Bool.and_eq_true, decide_eq_true_eq] at h
      simp [joinL]; omega
    rw [if_neg this]
  · rw [if_neg h, if_neg h]

end Go.Proofs.YtcnnjladaoaeiaaGreatDoor
