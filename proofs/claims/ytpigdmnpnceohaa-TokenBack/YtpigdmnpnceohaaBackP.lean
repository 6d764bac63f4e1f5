/-
  What is joined is scanned as it was: the plain functions' part.
-/
import Derived.Test.YtpigdmnpnceohaaJoins
namespace Go.Proofs.Ytpigdmnpnceohaa
open Go.RowKit

theorem runL_all (p : UInt8 → Bool) (r : List UInt8) (h : runL p r = r.length) (c : UInt8) (v : List UInt8) (hc : p c = false) : runL p (r ++ c :: v) = r.length := by
  induction r with
  | nil => rw [List.nil_append, runL_cons, if_neg (by simp [hc])]; rfl
  | cons d r ih =>
    rw [runL_cons] at h
    rw [List.cons_append, runL_cons]
    by_cases hd : p d = true
    · rw [if_pos hd] at h ⊢
      simp only [List.length_cons] at h ⊢
      rw [ih (by omega)]
    · rw [if_neg hd] at h; simp at h

theorem runL_stop (p : UInt8 → Bool) (r v : List UInt8) (h : runL p r < r.length) : runL p (r ++ v) = runL p r := by
  induction r with
  | nil => simp at h
  | cons d r ih =>
    rw [runL_cons] at h
    rw [List.cons_append, runL_cons, runL_cons]
    by_cases hd : p d = true
    · rw [if_pos hd] at h ⊢
      rw [if_pos hd, ih (by simpa using h)]
    · rw [if_neg hd, if_neg hd]

theorem runL_take (p : UInt8 → Bool) (r : List UInt8) : ∀ n, n ≤ runL p r → runL p (r.take n) = n := by
  induction r with
  | nil => intro n h; simp [runL] at h; subst h; rfl
  | cons d r ih =>
    intro n h
    rw [runL_cons] at h
    by_cases hd : p d = true
    · rw [if_pos hd] at h
      cases n with
      | zero => rfl
      | succ n => rw [List.take_succ_cons, runL_cons, if_pos hd, ih n (by omega)]
    · rw [if_neg hd] at h
      have : n = 0 := by omega
      subst this; rfl

theorem isS_not124 {c : UInt8} (h : isS c = true) : ¬ c = 124 := by
  intro e; subst e; revert h; decide

theorem tokL_more (t : List UInt8) (u : List UInt8) (k : Nat) (hk : k ≠ 0) (h : tokL t = (k, t.length)) : tokL (t ++ 32 :: u) = (k, t.length) := by
  cases t with
  | nil => simp [tokL] at h; omega
  | cons c r =>
    rw [tokL] at h
    rw [List.cons_append, tokL]
    by_cases hL : isL c = true
    · rw [if_pos hL] at h ⊢
      simp only [Prod.mk.injEq, List.length_cons] at h
      rw [runL_all isW r (by omega) 32 u (by decide), List.length_cons, ← h.1]
    rw [if_neg hL] at h ⊢
    by_cases hD : isD c = true
    · rw [if_pos hD] at h ⊢
      simp only [Prod.mk.injEq, List.length_cons] at h
      rw [runL_all isD r (by omega) 32 u (by decide), List.length_cons, ← h.1]
    rw [if_neg hD] at h ⊢
    by_cases hq : c = 39
    · rw [if_pos hq] at h ⊢
      by_cases hz : r[runL isQ r]? = some 39
      · rw [if_pos hz] at h
        have hlt := (List.getElem?_eq_some_iff.1 hz).1
        rw [runL_stop isQ r _ hlt, List.getElem?_append_left hlt, if_pos hz]
        exact h
      · rw [if_neg hz] at h; simp at h
    rw [if_neg hq] at h ⊢
    by_cases hb : isBars (c :: r) = true
    · rw [if_pos hb] at h
      have hb2 : isBars (c :: (r ++ 32 :: u)) = true := by
        rw [isBars_cons] at hb ⊢
        simp only [Bool.and_eq_true, decide_eq_true_eq] at hb ⊢
        refine ⟨hb.1, ?_⟩
        cases r with
        | nil => simp at hb
        | cons d r => exact hb.2
      rw [if_pos hb2]; exact h
    rw [if_neg hb] at h
    by_cases hs : isS c = true
    · rw [if_pos hs] at h
      have hb2 : ¬ isBars (c :: (r ++ 32 :: u)) = true := by rw [isBars_cons]; simp [isS_not124 hs]
      rw [if_neg hb2, if_pos hs]; exact h
    · rw [if_neg hs] at h; simp at h

theorem tokL_less (l : List UInt8) (k N : Nat) (hk : k ≠ 0) (h : tokL l = (k, N)) : tokL (l.take N) = (k, N) := by
  cases l with
  | nil => simp [tokL] at h; omega
  | cons c r =>
    rw [tokL] at h
    by_cases hL : isL c = true
    · rw [if_pos hL] at h
      simp only [Prod.mk.injEq] at h
      obtain ⟨h1, h2⟩ := h
      subst h2
      rw [List.take_succ_cons, tokL, if_pos hL, runL_take isW r _ (Nat.le_refl _), ← h1]
    rw [if_neg hL] at h
    by_cases hD : isD c = true
    · rw [if_pos hD] at h
      simp only [Prod.mk.injEq] at h
      obtain ⟨h1, h2⟩ := h
      subst h2
      rw [List.take_succ_cons, tokL, if_neg hL, if_pos hD, runL_take isD r _ (Nat.le_refl _), ← h1]
    rw [if_neg hD] at h
    by_cases hq : c = 39
    · rw [if_pos hq] at h
      by_cases hz : r[runL isQ r]? = some 39
      · rw [if_pos hz] at h
        simp only [Prod.mk.injEq] at h
        obtain ⟨h1, h2⟩ := h
        subst h2
        have hlt := (List.getElem?_eq_some_iff.1 hz).1
        have e : r.take (runL isQ r + 1) = r.take (runL isQ r) ++ [39] := by
          rw [List.take_succ_eq_append_getElem hlt, (List.getElem?_eq_some_iff.1 hz).2]
        have hl : (r.take (runL isQ r)).length = runL isQ r := by rw [List.length_take]; omega
        have hrun : runL isQ (r.take (runL isQ r) ++ [39]) = runL isQ r := by
          have := runL_all isQ (r.take (runL isQ r)) (by rw [runL_take isQ r _ (Nat.le_refl _), hl]) 39 [] (by decide)
          rw [this, hl]
        rw [show runL isQ r + 2 = runL isQ r + 1 + 1 from rfl, List.take_succ_cons, e, tokL, if_neg hL, if_neg hD, if_pos hq, hrun]
        rw [List.getElem?_append_right (by omega), hl, Nat.sub_self, if_pos (show ([39] : List UInt8)[0]? = some 39 from rfl), ← h1]
      · rw [if_neg hz] at h; simp at h; omega
    rw [if_neg hq] at h
    by_cases hb : isBars (c :: r) = true
    · rw [if_pos hb] at h
      simp only [Prod.mk.injEq] at h
      obtain ⟨h1, h2⟩ := h
      subst h2
      have hb0 := hb
      rw [isBars_cons] at hb0
      simp only [Bool.and_eq_true, decide_eq_true_eq] at hb0
      cases r with
      | nil => simp at hb0
      | cons d r =>
        have hd : d = 124 := by simpa using hb0.2
        have hb2 : isBars (c :: [d]) = true := by rw [isBars_cons]; simp [hb0.1, hd]
        rw [show List.take 2 (c :: d :: r) = [c, d] from rfl, tokL, if_neg hL, if_neg hD, if_neg hq, if_pos hb2, ← h1]
    rw [if_neg hb] at h
    by_cases hs : isS c = true
    · rw [if_pos hs] at h
      simp only [Prod.mk.injEq] at h
      obtain ⟨h1, h2⟩ := h
      subst h2
      have hb2 : ¬ isBars [c] = true := by rw [isBars_cons]; simp
      rw [show List.take 1 (c :: r) = [c] from rfl, tokL, if_neg hL, if_neg hD, if_neg hq, if_neg hb2, if_pos hs, ← h1]
    · rw [if_neg hs] at h; simp at h; omega

/-- each token that is scanned is alone in its text -/
theorem scanGo_alone (f : Nat) : ∀ (a : Nat) (l : List UInt8) (acc : List Tk), (∀ x ∈ acc, aloneB x.k x.t = true) → ∀ x ∈ (scanGo f a l acc).1, aloneB x.k x.t = true := by
  induction f with
  | zero => intro a l acc h; exact h
  | succ f ih =>
    intro a l acc h
    cases l with
    | nil => exact h
    | cons c r =>
      rw [scanGo]
      split
      · exact ih _ _ _ h
      · split
        · rename_i hw
          apply ih
          intro x hx
          rcases List.mem_append.1 hx with hx | hx
          · exact h x hx
          · simp at hx
            have hz := wrongL_zero hw
            have hpos := tokL_pos c r hz
            have hle := tokL_le (c :: r)
            obtain ⟨K, N, hp⟩ : ∃ K N, tokL (c :: r) = (K, N) := ⟨_, _, rfl⟩
            rw [hp] at hx hw hz hpos hle
            simp only at hx hw hz hpos hle
            have hT : ((c :: r).take N).length = N := by rw [List.length_take]; omega
            have hless := tokL_less (c :: r) K N hz hp
            subst hx
            rw [isTok_iff]
            simp only [isTokB, decide_eq_true_eq]
            rw [hless]
            simp only
            refine ⟨by intro e; rw [e] at hT; simp at hT; omega, ?_, trivial, hT.symm, hw⟩
            have : ∀ y ∈ (scanGo 1 0 ((c :: r).take N) []).1, y.t.length ≤ 22 := scanGo_len 1 0 _ [] (by intro y hy; cases hy)
            have h22 : N ≤ 22 := by
              have h4 := tokL_kind (c :: r)
              rw [hp] at h4
              simp only at h4
              unfold wrongL at hw
              simp only [hz, if_false] at hw
              split at hw
              · cases hw
              · rename_i hn
                rw [hT] at hn
                omega
            omega
        · intro x hx; cases hx

theorem scanS_alone (s : List UInt8) : ∀ x ∈ (scanS s).1, aloneB x.k x.t = true := by
  unfold scanS
  split
  · intro x hx; cases hx
  · exact scanGo_alone _ _ _ _ (by intro x hx; cases hx)

/-- a token that is alone, at a text's head -/
theorem scan_head (x : Tk) (hx : aloneB x.k x.t = true) (a : Nat) (acc : List Tk) (u : List UInt8) :
    scanL a (x.t ++ 32 :: u) acc = scanL (a + x.t.length + 1) u (acc ++ [⟨x.k, (a : Nat), x.t⟩]) ∧ scanL a x.t acc = (acc ++ [⟨x.k, (a : Nat), x.t⟩], 0, 0) := by
  rw [isTok_iff] at hx
  simp only [isTokB, decide_eq_true_eq] at hx
  obtain ⟨h0, hlen, hk, hN, hw⟩ := hx
  obtain ⟨K, N, hp⟩ : ∃ K N, tokL x.t = (K, N) := ⟨_, _, rfl⟩
  rw [hp] at hk hN hw
  simp only at hk hN hw
  subst hN
  have hz := wrongL_zero hw
  have hmore := tokL_more x.t u K hz hp
  obtain ⟨xk, xa, t⟩ := x
  simp only at *
  subst hk
  cases t with
  | nil => exact absurd rfl h0
  | cons c r =>
    have hB : isB c = false := by
      cases hB : isB c
      · rfl
      · rw [tokL_blank c r hB] at hp; simp at hp
    constructor
    · rw [List.cons_append] at hmore ⊢
      have ht : List.take (c :: r).length (c :: (r ++ 32 :: u)) = c :: r := by
        rw [← List.cons_append, List.take_left']; rfl
      have hd : List.drop (c :: r).length (c :: (r ++ 32 :: u)) = 32 :: u := by
        rw [← List.cons_append, List.drop_left']; rfl
      rw [scanL_tok a c (r ++ 32 :: u) acc hB (by rw [hmore]; simp only; rw [ht]; exact hw), hmore]
      simp only
      rw [ht, hd, scanL_blank _ _ _ _ (by decide)]
    · have ht : List.take (c :: r).length (c :: r) = c :: r := List.take_of_length_le (Nat.le_refl _)
      rw [scanL_tok a c r acc hB (by rw [hp]; simp only; rw [ht]; exact hw), hp]
      simp only
      rw [ht, List.drop_eq_nil_of_le (Nat.le_refl _), scanL_nil]

theorem scan_join (L : List Tk) : ∀ (a : Nat) (acc : List Tk), L.all (fun x => aloneB x.k x.t) = true → ∃ M, scanL a (joinL L) acc = (acc ++ M, 0, 0) ∧ sameToks false L M := by
  induction L with
  | nil => intro a acc _; exact ⟨[], by simp [joinL, scanL_nil], sameToks_refl _ _⟩
  | cons x r ih =>
    intro a acc h
    rw [List.all_cons, Bool.and_eq_true] at h
    have key : ∀ M : List Tk, sameToks false r M → sameToks false (x :: r) (⟨x.k, (a : Nat), x.t⟩ :: M) := by
      intro M hM
      refine ⟨by simp [hM.1], ?_⟩
      intro i y z hy hz
      cases i with
      | zero =>
        simp at hy hz
        subst hy; subst hz
        exact ⟨rfl, rfl, fun e => by cases e⟩
      | succ i => exact hM.2 i y z (by simpa using hy) (by simpa using hz)
    cases r with
    | nil =>
      refine ⟨[⟨x.k, (a : Nat), x.t⟩], (scan_head x h.1 a acc []).2, key [] (sameToks_refl _ _)⟩
    | cons y r =>
      obtain ⟨M, h1, h2⟩ := ih (a + x.t.length + 1) (acc ++ [⟨x.k, (a : Nat), x.t⟩]) h.2
      refine ⟨⟨x.k, (a : Nat), x.t⟩ :: M, ?_, key M h2⟩
      rw [joinL, (scan_head x h.1 a acc (joinL (y :: r))).1, h1]
      simp

theorem joinS_scan (L : List Tk) (S : List UInt8) (h : joinS L = (S, 0)) : S.length ≤ 2000 ∧ ∃ M, scanS S = (M, 0, 0) ∧ sameToks false L M := by
  unfold joinS at h
  split at h
  · rename_i ha
    split at h
    · simp at h
    · rename_i hl
      simp at h
      subst h
      obtain ⟨M, h1, h2⟩ := scan_join L 0 [] ha
      refine ⟨by omega, M, ?_, h2⟩
      unfold scanS
      rw [if_neg hl, h1]; simp
  · simp at h

theorem joinS_of_scan (s : List UInt8) : (joinS (scanS s).1).2 = 0 ∨ (joinS (scanS s).1).2 = 2 := by
  unfold joinS
  rw [if_pos (List.all_eq_true.2 (scanS_alone s))]
  split
  · exact Or.inr rfl
  · exact Or.inl rfl

end Go.Proofs.Ytpigdmnpnceohaa
