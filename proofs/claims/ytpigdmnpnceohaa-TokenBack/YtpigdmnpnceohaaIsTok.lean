/-
  The document's 'IsToken' (package overhaulref): it is what 'alone' asks.
-/
import Derived.Test.YtpigdmnpnceohaaScans
import Derived.Test.YtpigdmnpnceohaaPlaces
namespace Go.Proofs.Ytpigdmnpnceohaa
open Go.RowKit

/-- is a text just one token of a kind? -/
def isTokB (K : Int) (l : List UInt8) : Bool := decide (l ≠ [] ∧ l.length ≤ 2000 ∧ ((tokL l).1 : Int) = K ∧ (tokL l).2 = l.length ∧ wrongL (tokL l).1 l = 0)

theorem tokL_blank (c : UInt8) (r : List UInt8) (h : isB c = true) : tokL (c :: r) = (0, 0) := by
  have hc : c = 32 ∨ c = 9 ∨ c = 10 := by
    rcases isB_cases h with h | ⟨_, h⟩ | ⟨_, _, h⟩
    · left; apply UInt8.toNat_inj.1; have := eq_of_beq h; simp; omega
    · right; left; apply UInt8.toNat_inj.1; have := eq_of_beq h; simp; omega
    · right; right; apply UInt8.toNat_inj.1; have := eq_of_beq h; simp; omega
  rcases hc with rfl | rfl | rfl
  all_goals
    rw [tokL, if_neg (by decide), if_neg (by decide), if_neg (by decide), if_neg (by rw [isBars_cons]; simp), if_neg (by decide)]

theorem isTok_iff (K : Int) (l : List UInt8) : aloneB K l = isTokB K l := by
  rw [Bool.eq_iff_iff]
  constructor
  · intro h
    have hlen := alone_len h
    unfold aloneB at h
    split at h
    · rename_i x p hs
      simp only [decide_eq_true_eq] at h
      obtain ⟨hk, ha, ht⟩ := h
      cases l with
      | nil => simp [scanS, scanL, scanGo] at hs
      | cons c r =>
        have hs' : scanL 0 (c :: r) [] = ([x], p, 0) := by
          have : scanS (c :: r) = scanL 0 (c :: r) [] := by unfold scanS; rw [if_neg (by omega)]
          rw [← this]; exact hs
        cases hB : isB c
        · by_cases hw : wrongL (tokL (c :: r)).1 ((c :: r).take (tokL (c :: r)).2) = 0
          · have h1 := scanL_tok 0 c r [] hB hw
            have hle := tokL_le (c :: r)
            rw [hs'] at h1
            obtain ⟨new, h2, _⟩ := scanGo_places (c :: r) _ (0 + (tokL (c :: r)).2) _ ([] ++ [⟨((tokL (c :: r)).1 : Nat), ((0 : Nat) : Int), (c :: r).take (tokL (c :: r)).2⟩]) (by omega) (by rw [Nat.zero_add]) (by unfold scanL at h1; rw [← h1])
            have h3 : ([x] : List Tk) = [⟨((tokL (c :: r)).1 : Nat), ((0 : Nat) : Int), (c :: r).take (tokL (c :: r)).2⟩] ++ new := by
              have := congrArg Prod.fst h1
              unfold scanL at this
              rw [h2] at this
              simpa using this
            simp only [List.cons_append, List.nil_append, List.cons.injEq] at h3
            obtain ⟨rfl, _⟩ := h3
            simp only at hk ht
            have hN : (tokL (c :: r)).2 = (c :: r).length := by
              have := congrArg List.length ht
              rw [List.length_take] at this; omega
            rw [ht] at hw
            simp only [isTokB, decide_eq_true_eq]
            exact ⟨by simp, by omega, hk, hN, hw⟩
          · have h1 := scanL_bad 0 c r [] hB hw
            rw [hs'] at h1
            simp at h1
        · have h1 := scanL_blank 0 c r [] hB
          rw [hs'] at h1
          obtain ⟨new, h2, h3⟩ := scanGo_places (c :: r) (r.length + 1) 1 r [] (by simp) rfl (by unfold scanL at h1; rw [← h1])
          have h4 : ([x] : List Tk) = new := by
            have := congrArg Prod.fst h1
            unfold scanL at this
            rw [h2] at this
            simpa using this
          subst h4
          obtain ⟨A, e1, e2, _⟩ := h3
          rw [ha] at e1
          omega
    · cases h
  · intro h
    simp only [isTokB, decide_eq_true_eq] at h
    obtain ⟨h0, hlen, hk, hN, hw⟩ := h
    cases l with
    | nil => exact absurd rfl h0
    | cons c r =>
      have hB : isB c = false := by
        cases hB : isB c
        · rfl
        · rw [tokL_blank c r hB] at hw; simp [wrongL] at hw
      have h1 := scanL_tok 0 c r [] hB (by rw [hN, List.take_of_length_le (Nat.le_refl _)]; exact hw)
      rw [hN, List.take_of_length_le (Nat.le_refl _), List.drop_eq_nil_of_le (Nat.le_refl _), scanL_nil] at h1
      unfold aloneB
      rw [show scanS (c :: r) = scanL 0 (c :: r) [] by unfold scanS; rw [if_neg (by omega)], h1]
      simp [hk]

set_option maxHeartbeats 400000 in
theorem isTok_empty (K : Int) (t : ByteArray) (w : World) (h : t.toList.isEmpty = true) :
    Calls Try.prog 24 #[.int .i64 K, .string t] w fun e w' => e = .returned (.bool false) ∧ w' = w := by
  go_enter Try.func24, Try.ntmps24
  go_wp2
  go_ret
  exact ⟨rfl, rfl⟩

set_option maxHeartbeats 400000 in
theorem isTok_long (K : Int) (t : ByteArray) (w : World) (h : t.toList.isEmpty = false) (hl : 2000 < t.size) (hm : t.size ≤ 9223372036854775000) :
    Calls Try.prog 24 #[.int .i64 K, .string t] w fun e w' => e = .returned (.bool false) ∧ w' = w := by
  go_enter Try.func24, Try.ntmps24
  go_wp2
  go_ret
  exact ⟨rfl, rfl⟩

set_option maxHeartbeats 400000 in
theorem isTok_kind0 (K : Int) (t : ByteArray) (w : World) (h : t.toList.isEmpty = false) (hl : t.size ≤ 2000) (hk : (K == 0) = true) :
    Calls Try.prog 24 #[.int .i64 K, .string t] w fun e w' => e = .returned (.bool false) ∧ w' = w := by
  go_enter Try.func24, Try.ntmps24
  go_wp2
  go_ret
  exact ⟨rfl, rfl⟩

set_option maxHeartbeats 400000 in
theorem isTok_go (K : Int) (t : ByteArray) (w : World) (h : t.toList.isEmpty = false) (h1 : 0 < t.size) (hl : t.size ≤ 2000) (hk : (K == 0) = false) (k N E : Nat) (hp : tokL t.data.toList = (k, N)) (hk4 : k ≤ 4) (hE : wrongL k t.data.toList = E) :
    Calls Try.prog 24 #[.int .i64 K, .string t] w fun e w' => e = .returned (.bool (((k : Int) == K) && ((N : Int) == (t.size : Int)) && ((E : Int) == 0))) ∧ w' = w := by
  have ht := at_any t 0 w hl h1
  rw [atV, List.drop_zero, hp] at ht
  have hw := wrong_any k t w hk4
  rw [hE] at hw
  clear hp hE
  cases b1 : ((k : Int) == K) <;> cases b2 : ((N : Int) == (t.size : Int)) <;> cases b3 : ((E : Int) == 0)
  all_goals
    go_enter Try.func24, Try.ntmps24
    go_wp2_with (first | (go_at_call 17; refine ht.mono ?_; rintro e w' ⟨rfl, hw'⟩; obtain rfl := hw'.symm; clear hw') | (go_at_call 18; refine hw.mono ?_; rintro e w' ⟨rfl, hw'⟩; obtain rfl := hw'.symm; clear hw'))
    go_ret
    exact ⟨rfl, rfl⟩

end Go.Proofs.Ytpigdmnpnceohaa
