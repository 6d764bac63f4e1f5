/-
  What is joined is scanned as it was: the plain functions.
  Texts and kinds of tokens alone say what is parsed.
  The law CommandTells: its call.
-/
import Derived.Test.YtkpeklealgicpabGreatDoorGg

namespace Go.Proofs.YtkpeklealgicpabGreatDoor
open Go.RowKit

/-- two tokens are the same, but for where they begin, if that is not asked -/
def sameToks (b : Bool) (L M : List Tk) : Prop := L.length = M.length ∧ ∀ (i : Nat) (x y : Tk), L[i]? = some x → M[i]? = some y → x.k = y.k ∧ x.t = y.t ∧ (b = true → x.a = y.a)

theorem sameToks_refl (b : Bool) (L : List Tk) : sameToks b L L := by
  refine ⟨rfl, ?_⟩
  intro i x y hx hy
  rw [hx] at hy
  cases hy
  exact ⟨rfl, rfl, fun _ => rfl⟩

theorem runL_allT (p : UInt8 → Bool) (r : List UInt8) (h : runL p r = r.length) (c : UInt8) (v : List UInt8) (hc : p c = false) : runL p (r ++ c :: v) = r.length := by
  induction r with
  | nil => rw [List.nil_append, runL_cons, if_neg (by simp [hc])]; rfl
  | cons d r ih =>
    rw [runL_cons] at h
    rw [List.cons_append, runL_cons]
    by_cases hd : p d = true
    · rw [if_pos hd] at h ⊢
      simp only [List.length_cons] at h ⊢
      rw [ih (by omega)]
    · rw [if_neg hd] at h; simp at h

theorem runL_stop (p : UInt8 → Bool) (r v : List UInt8) (h : runL p r < r.length) : runL p (r ++ v) = runL p r := by
  induction r with
  | nil => simp at h
  | cons d r ih =>
    rw [runL_cons] at h
    rw [List.cons_append, runL_cons, runL_cons]
    by_cases hd : p d = true
    · rw [if_pos hd] at h ⊢
      rw [if_pos hd, ih (by simpa using h)]
    · rw [if_neg hd, if_neg hd]

theorem runL_take (p : UInt8 → Bool) (r : List UInt8) : ∀ n, n ≤ runL p r → runL p (r.take n) = n := by
  induction r with
  | nil => intro n h; simp [runL] at h; subst h; rfl
  | cons d r ih =>
    intro n h
    rw [runL_cons] at h
    by_cases hd : p d = true
    · rw [if_pos hd] at h
      cases n with
      | zero => rfl
      | succ n => rw [List.take_succ_cons, runL_cons, if_pos hd, ih n (by omega)]
    · rw [if_neg hd] at h
      have : n = 0 := by omega
      subst this; rfl

theorem isS_not124 {c : UInt8} (h : isS c = true) : ¬ c = 124 := by
  intro e; subst e; revert h; decide

theorem tokL_more (t : List UInt8) (u : List UInt8) (k : Nat) (hk : k ≠ 0) (h : tokL t = (k, t.length)) : tokL (t ++ 32 :: u) = (k, t.length) := by
  cases t with
  | nil => simp [tokL] at h; omega
  | cons c r =>
    rw [tokL] at h
    rw [List.cons_append, tokL]
    by_cases hL : isL c = true
    · rw [if_pos hL] at h ⊢
      simp only [Prod.mk.injEq, List.length_cons] at h
      rw [runL_allT isW r (by omega) 32 u (by decide), List.length_cons, ← h.1]
    rw [if_neg hL] at h ⊢
    by_cases hD : isD c = true
    · rw [if_pos hD] at h ⊢
      simp only [Prod.mk.injEq, List.length_cons] at h
      rw [runL_allT isD r (by omega) 32 u (by decide), List.length_cons, ← h.1]
    rw [if_neg hD] at h ⊢
    by_cases hq : c = 39
    · rw [if_pos hq] at h ⊢
      by_cases hz : r[runL isQ r]? = some 39
      · rw [if_pos hz] at h
        have hlt := (List.getElem?_eq_some_iff.1 hz).1
        rw [runL_stop isQ r _ hlt, List.getElem?_append_left hlt, if_pos hz]
        exact h
      · rw [if_neg hz] at h; simp at h
    rw [if_neg hq] at h ⊢
    by_cases hb : isBars (c :: r) = true
    · rw [if_pos hb] at h
      have hb2 : isBars (c :: (r ++ 32 :: u)) = true := by
        rw [isBars_cons] at hb ⊢
        simp only [Bool.and_eq_true, decide_eq_true_eq] at hb ⊢
        refine ⟨hb.1, ?_⟩
        cases r with
        | nil => simp at hb
        | cons d r => exact hb.2
      rw [if_pos hb2]; exact h
    rw [if_neg hb] at h
    by_cases hs : isS c = true
    · rw [if_pos hs] at h
      have hb2 : ¬ isBars (c :: (r ++ 32 :: u)) = true := by rw [isBars_cons]; simp [isS_not124 hs]
      rw [if_neg hb2, if_pos hs]; exact h
    · rw [if_neg hs] at h; simp at h

theorem tokL_less (l : List UInt8) (k N : Nat) (hk : k ≠ 0) (h : tokL l = (k, N)) : tokL (l.take N) = (k, N) := by
  cases l with
  | nil => simp [tokL] at h; omega
  | cons c r =>
    rw [tokL] at h
    by_cases hL : isL c = true
    · rw [if_pos hL] at h
      simp only [Prod.mk.injEq] at h
      obtain ⟨h1, h2⟩ := h
      subst h2
      rw [List.take_succ_cons, tokL, if_pos hL, runL_take isW r _ (Nat.le_refl _), ← h1]
    rw [if_neg hL] at h
    by_cases hD : isD c = true
    · rw [if_pos hD] at h
      simp only [Prod.mk.injEq] at h
      obtain ⟨h1, h2⟩ := h
      subst h2
      rw [List.take_succ_cons, tokL, if_neg hL, if_pos hD, runL_take isD r _ (Nat.le_refl _), ← h1]
    rw [if_neg hD] at h
    by_cases hq : c = 39
    · rw [if_pos hq] at h
      by_cases hz : r[runL isQ r]? = some 39
      · rw [if_pos hz] at h
        simp only [Prod.mk.injEq] at h
        obtain ⟨h1, h2⟩ := h
        subst h2
        have hlt := (List.getElem?_eq_some_iff.1 hz).1
        have e : r.take (runL isQ r + 1) = r.take (runL isQ r) ++ [39] := by
          rw [List.take_succ_eq_append_getElem hlt, (List.getElem?_eq_some_iff.1 hz).2]
        have hl : (r.take (runL isQ r)).length = runL isQ r := by rw [List.length_take]; omega
        have hrun : runL isQ (r.take (runL isQ r) ++ [39]) = runL isQ r := by
          have := runL_allT isQ (r.take (runL isQ r)) (by rw [runL_take isQ r _ (Nat.le_refl _), hl]) 39 [] (by decide)
          rw [this, hl]
        rw [show runL isQ r + 2 = runL isQ r + 1 + 1 from rfl, List.take_succ_cons, e, tokL, if_neg hL, if_neg hD, if_pos hq, hrun]
        rw [List.getElem?_append_right (by omega), hl, Nat.sub_self, if_pos (show ([39] : List UInt8)[0]? = some 39 from rfl), ← h1]
      · rw [if_neg hz] at h; simp at h; omega
    rw [if_neg hq] at h
    by_cases hb : isBars (c :: r) = true
    · rw [if_pos hb] at h
      simp only [Prod.mk.injEq] at h
      obtain ⟨h1, h2⟩ := h
      subst h2
      have hb0 := hb
      rw [isBars_cons] at hb0
      simp only [Bool.and_eq_true, decide_eq_true_eq] at hb0
      cases r with
      | nil => simp at hb0
      | cons d r =>
        have hd : d = 124 := by simpa using hb0.2
        have hb2 : isBars (c :: [d]) = true := by rw [isBars_cons]; simp [hb0.1, hd]
        rw [show List.take 2 (c :: d :: r) = [c, d] from rfl, tokL, if_neg hL, if_neg hD, if_neg hq, if_pos hb2, ← h1]
    rw [if_neg hb] at h
    by_cases hs : isS c = true
    · rw [if_pos hs] at h
      simp only [Prod.mk.injEq] at h
      obtain ⟨h1, h2⟩ := h
      subst h2
      have hb2 : ¬ isBars [c] = true := by rw [isBars_cons]; simp
      rw [show List.take 1 (c :: r) = [c] from rfl, tokL, if_neg hL, if_neg hD, if_neg hq, if_neg hb2, if_pos hs, ← h1]
    · rw [if_neg hs] at h; simp at h; omega

/-- each token that is scanned is alone in its text -/
theorem scanGo_alone (f : Nat) : ∀ (a : Nat) (l : List UInt8) (acc : List Tk), (∀ x ∈ acc, aloneB x.k x.t = true) → ∀ x ∈ (scanGo f a l acc).1, aloneB x.k x.t = true := by
  induction f with
  | zero => intro a l acc h; exact h
  | succ f ih =>
    intro a l acc h
    cases l with
    | nil => exact h
    | cons c r =>
      rw [scanGo]
      split
      · exact ih _ _ _ h
      · split
        · rename_i hw
          apply ih
          intro x hx
          rcases List.mem_append.1 hx with hx | hx
          · exact h x hx
          · simp at hx
            have hz := wrongL_zero hw
            have hpos := tokL_pos c r hz
            have hle := tokL_le (c :: r)
            obtain ⟨K, N, hp⟩ : ∃ K N, tokL (c :: r) = (K, N) := ⟨_, _, rfl⟩
            rw [hp] at hx hw hz hpos hle
            simp only at hx hw hz hpos hle
            have hT : ((c :: r).take N).length = N := by rw [List.length_take]; omega
            have hless := tokL_less (c :: r) K N hz hp
            subst hx
            rw [isTok_iff]
            simp only [isTokB, decide_eq_true_eq]
            rw [hless]
            simp only
            refine ⟨by intro e; rw [e] at hT; simp at hT; omega, ?_, trivial, hT.symm, hw⟩
            have : ∀ y ∈ (scanGo 1 0 ((c :: r).take N) []).1, y.t.length ≤ 22 := scanGo_len 1 0 _ [] (by intro y hy; cases hy)
            have h22 : N ≤ 22 := by
              have h4 := tokL_kind (c :: r)
              rw [hp] at h4
              simp only at h4
              unfold wrongL at hw
              simp only [hz, if_false] at hw
              split at hw
              · cases hw
              · rename_i hn
                rw [hT] at hn
                omega
            omega
        · intro x hx; cases hx

theorem scanS_alone (s : List UInt8) : ∀ x ∈ (scanS s).1, aloneB x.k x.t = true := by
  unfold scanS
  split
  · intro x hx; cases hx
  · exact scanGo_alone _ _ _ _ (by intro x hx; cases hx)

/-- a token that is alone, at a text's head -/
theorem scan_head (x : Tk) (hx : aloneB x.k x.t = true) (a : Nat) (acc : List Tk) (u : List UInt8) :
    scanL a (x.t ++ 32 :: u) acc = scanL (a + x.t.length + 1) u (acc ++ [⟨x.k, (a : Nat), x.t⟩]) ∧ scanL a x.t acc = (acc ++ [⟨x.k, (a : Nat), x.t⟩], 0, 0) := by
  rw [isTok_iff] at hx
  simp only [isTokB, decide_eq_true_eq] at hx
  obtain ⟨h0, hlen, hk, hN, hw⟩ := hx
  obtain ⟨K, N, hp⟩ : ∃ K N, tokL x.t = (K, N) := ⟨_, _, rfl⟩
  rw [hp] at hk hN hw
  simp only at hk hN hw
  subst hN
  have hz := wrongL_zero hw
  have hmore := tokL_more x.t u K hz hp
  obtain ⟨xk, xa, t⟩ := x
  simp only at *
  subst hk
  cases t with
  | nil => exact absurd rfl h0
  | cons c r =>
    have hB : isB c = false := by
      cases hB : isB c
      · rfl
      · rw [tokL_blank c r hB] at hp; simp at hp
    constructor
    · rw [List.cons_append] at hmore ⊢
      have ht : List.take (c :: r).length (c :: (r ++ 32 :: u)) = c :: r := by
        rw [← List.cons_append, List.take_left']; rfl
      have hd : List.drop (c :: r).length (c :: (r ++ 32 :: u)) = 32 :: u := by
        rw [← List.cons_append, List.drop_left']; rfl
      rw [scanL_tok a c (r ++ 32 :: u) acc hB (by rw [hmore]; simp only; rw [ht]; exact hw), hmore]
      simp only
      rw [ht, hd, scanL_blank _ _ _ _ (by decide)]
    · have ht : List.take (c :: r).length (c :: r) = c :: r := List.take_of_length_le (Nat.le_refl _)
      rw [scanL_tok a c r acc hB (by rw [hp]; simp only; rw [ht]; exact hw), hp]
      simp only
      rw [ht, List.drop_eq_nil_of_le (Nat.le_refl _), scanL_nil]

theorem scan_join (L : List Tk) : ∀ (a : Nat) (acc : List Tk), L.all (fun x => aloneB x.k x.t) = true → ∃ M, scanL a (joinL L) acc = (acc ++ M, 0, 0) ∧ sameToks false L M := by
  induction L with
  | nil => intro a acc _; exact ⟨[], by simp [joinL, scanL_nil], sameToks_refl _ _⟩
  | cons x r ih =>
    intro a acc h
    rw [List.all_cons, Bool.and_eq_true] at h
    have key : ∀ M : List Tk, sameToks false r M → sameToks false (x :: r) (⟨x.k, (a : Nat), x.t⟩ :: M) := by
      intro M hM
      refine ⟨by simp [hM.1], ?_⟩
      intro i y z hy hz
      cases i with
      | zero =>
        simp at hy hz
        subst hy; subst hz
        exact ⟨rfl, rfl, fun e => by cases e⟩
      | succ i => exact hM.2 i y z (by simpa using hy) (by simpa using hz)
    cases r with
    | nil =>
      refine ⟨[⟨x.k, (a : Nat), x.t⟩], (scan_head x h.1 a acc []).2, key [] (sameToks_refl _ _)⟩
    | cons y r =>
      obtain ⟨M, h1, h2⟩ := ih (a + x.t.length + 1) (acc ++ [⟨x.k, (a : Nat), x.t⟩]) h.2
      refine ⟨⟨x.k, (a : Nat), x.t⟩ :: M, ?_, key M h2⟩
      rw [joinL, (scan_head x h.1 a acc (joinL (y :: r))).1, h1]
      simp

theorem joinS_scan (L : List Tk) (S : List UInt8) (h : joinS L = (S, 0)) : S.length ≤ 2000 ∧ ∃ M, scanS S = (M, 0, 0) ∧ sameToks false L M := by
  unfold joinS at h
  split at h
  · rename_i ha
    split at h
    · simp at h
    · rename_i hl
      simp at h
      subst h
      obtain ⟨M, h1, h2⟩ := scan_join L 0 [] ha
      refine ⟨by omega, M, ?_, h2⟩
      unfold scanS
      rw [if_neg hl, h1]; simp
  · simp at h

theorem joinS_of_scan (s : List UInt8) : (joinS (scanS s).1).2 = 0 ∨ (joinS (scanS s).1).2 = 2 := by
  unfold joinS
  rw [if_pos (List.all_eq_true.2 (scanS_alone s))]
  split
  · exact Or.inr rfl
  · exact Or.inl rfl


end Go.Proofs.YtkpeklealgicpabGreatDoor

namespace Go.Proofs.YtkpeklealgicpabGreatDoor
open Go.RowKit

/-- the texts and kinds of tokens -/
def TL (T : List Tk) : List (List UInt8 × Int) := T.map fun x => (x.t, x.k)

theorem tx_TL (T : List Tk) (i : Nat) : tx T i = (((TL T)[i]?).map Prod.fst).getD [] := by
  unfold tx TL
  rw [List.getElem?_map]
  cases T[i]? <;> rfl
theorem kd_TL (T : List Tk) (i : Nat) : kd T i = (((TL T)[i]?).map Prod.snd).getD 0 := by
  unfold kd TL
  rw [List.getElem?_map]
  cases T[i]? <;> rfl

section
variable {T U : List Tk} (h : TL T = TL U)
include h
theorem tx_alike : tx T = tx U := by funext i; rw [tx_TL, tx_TL, h]
theorem kd_alike : kd T = kd U := by funext i; rw [kd_TL, kd_TL, h]
theorem len_alike : T.length = U.length := by have := congrArg List.length h; simpa [TL] using this
theorem must_alike (ws : List (List UInt8)) : ∀ i, must T ws i = must U ws i := by
  induction ws with
  | nil => intro i; rfl
  | cons w ws ih => intro i; rw [must, must, tx_alike h, ih]
theorem oneOf_alike (ws : List (List UInt8)) : ∀ i, oneOf T ws i = oneOf U ws i := by
  induction ws with
  | nil => intro i; rfl
  | cons w ws ih => intro i; rw [oneOf, oneOf, tx_alike h, ih]
theorem may_alike (w : List UInt8) (ws : List (List UInt8)) (i : Nat) : may T w ws i = may U w ws i := by unfold may; rw [tx_alike h, must_alike h]
theorem kindOf_alike (f : List UInt8 → Nat) (i : Nat) : kindOf T f i = kindOf U f i := by unfold kindOf; rw [tx_alike h]
theorem name_alike : nameP T = nameP U := by funext i; unfold nameP; rw [tx_alike h]
theorem number_alike (l : Nat) (i : Nat) : numberP T l i = numberP U l i := by unfold numberP; rw [tx_alike h, kd_alike h]
theorem column_alike : columnP T = columnP U := by funext i; unfold columnP; simp only [name_alike h, kindOf_alike h]
theorem value_alike : valueP T = valueP U := by funext i; unfold valueP; simp only [kd_alike h, tx_alike h, number_alike h, oneOf_alike h]
theorem leaf_alike (i : Nat) : leafP T i = leafP U i := by unfold leafP; simp only [tx_alike h, value_alike h]
theorem brack_alike {f g : Nat → Rs Ex} (hf : f = g) (i : Nat) : brackP T f i = brackP U g i := by unfold brackP; simp only [hf, may_alike h, kindOf_alike h, must_alike h]
theorem expr_alike (f : Nat) : exprP T f = exprP U f := by
  induction f with
  | zero => funext i; rw [exprP, exprP, leaf_alike h]
  | succ f ih => funext i; rw [exprP, exprP, tx_alike h, ih, leaf_alike h, brack_alike h rfl]
theorem listGo_alike {α : Type} {f g : Nat → Rs α} (hf : f = g) (n : Nat) : ∀ (l : List α) (i : Nat), listGo T f n l i = listGo U g n l i := by
  subst hf
  induction n with
  | zero => intro l i; rfl
  | succ n ih => intro l i; rw [listGo, listGo, tx_alike h]; simp only [ih]
theorem listP_alike {α : Type} {f g : Nat → Rs α} (hf : f = g) (i : Nat) : listP T f i = listP U g i := by unfold listP; simp only [hf, len_alike h, listGo_alike h rfl]
theorem inBr_alike {α : Type} {f g : Nat → Rs α} (hf : f = g) (i : Nat) : inBrP T f i = inBrP U g i := by unfold inBrP; simp only [must_alike h, listP_alike h hf]
theorem where_alike (c : Cm) (i : Nat) : whereP T c i = whereP U c i := by unfold whereP; simp only [may_alike h, expr_alike h]
theorem create_alike (i : Nat) : createP T i = createP U i := by unfold createP; simp only [oneOf_alike h, name_alike h, must_alike h, inBr_alike h (column_alike h)]
theorem drop_alike (i : Nat) : dropP T i = dropP U i := by unfold dropP; simp only [oneOf_alike h, name_alike h]
theorem rename_alike (c : Cm) (i : Nat) : renameP T c i = renameP U c i := by unfold renameP; simp only [may_alike h, name_alike h, must_alike h]
theorem alter_alike (i : Nat) : alterP T i = alterP U i := by unfold alterP; simp only [oneOf_alike h, name_alike h, must_alike h, column_alike h, value_alike h, rename_alike h]
theorem insert_alike (i : Nat) : insertP T i = insertP U i := by unfold insertP; simp only [name_alike h, must_alike h, inBr_alike h (value_alike h)]
theorem delete_alike (i : Nat) : deleteP T i = deleteP U i := by unfold deleteP; simp only [name_alike h, must_alike h, where_alike h]
theorem update_alike (i : Nat) : updateP T i = updateP U i := by unfold updateP; simp only [name_alike h, must_alike h, where_alike h, expr_alike h]
theorem fields_alike (i : Nat) : fieldsP T i = fieldsP U i := by unfold fieldsP; simp only [may_alike h, listP_alike h (name_alike h)]
theorem order_alike (c : Cm) (i : Nat) : orderP T c i = orderP U c i := by unfold orderP; simp only [may_alike h, name_alike h]
theorem limit_alike (c : Cm) (i : Nat) : limitP T c i = limitP U c i := by unfold limitP; simp only [may_alike h, number_alike h]
theorem choose_alike (i : Nat) : chooseP T i = chooseP U i := by unfold chooseP; simp only [fields_alike h, must_alike h, name_alike h, where_alike h, order_alike h, limit_alike h]
/-- texts and kinds of tokens alone say what is parsed -/
theorem whole_alike : wholeP T = wholeP U := by
  unfold wholeP commandP
  simp only [oneOf_alike h, create_alike h, drop_alike h, alter_alike h, insert_alike h, delete_alike h, update_alike h, choose_alike h, len_alike h]
end

theorem TL_same {L M : List Tk} (h : sameToks false L M) : TL L = TL M := by
  obtain ⟨hl, h⟩ := h
  apply List.ext_getElem?
  intro i
  simp only [TL, List.getElem?_map]
  cases e : L[i]? with
  | none =>
    have : M[i]? = none := by rw [List.getElem?_eq_none_iff] at e ⊢; omega
    rw [this]
  | some x =>
    have hi := (List.getElem?_eq_some_iff.1 e).1
    have : M[i]? = some (M[i]'(by omega)) := List.getElem?_eq_getElem _
    rw [this]
    obtain ⟨h1, h2, -⟩ := h i _ _ e this
    simp [h1, h2]

end Go.Proofs.YtkpeklealgicpabGreatDoor

namespace Go.Proofs.YtkpeklealgicpabGreatDoor
open Go.RowKit

theorem scanS_short (s : List UInt8) : ∀ x ∈ (scanS s).1, x.t.length ≤ 22 := by
  unfold scanS
  split
  · intro y hy; cases hy
  · exact scanGo_len _ _ _ _ (by intro y hy; cases hy)

/-- tokens that were scanned are joined -/
theorem join_own {w : World} {base : Nat} {v : Value} {T : List Tk} (h : w.ownsRow base 63 3 v T.length (cellsT T)) (hn : T.length ≤ 2000) (ht : ∀ y ∈ T, y.t.length ≤ 22) :
    Calls Tryz.prog 16 #[v] w fun e w' => e = .returned (.tuple #[.string ⟨(joinS T).1.toArray⟩, .int .i64 ((joinS T).2 : Nat)]) ∧ Below w.heap.size w w' := by
  by_cases hT : T = []
  · subst hT
    obtain ⟨ao, cap, hv⟩ := owns_slice h
    rw [hv]
    exact join_none ao cap w
  · obtain ⟨g, cap, hv, _, hg⟩ := owns_some h (by simpa using hT)
    rw [hv] at h ⊢
    exact join_some g 0 T.length cap T w (List.length_pos_iff.2 hT) (by omega) hg (owns_tokRow h) (fun x hx => Nat.le_trans (ht x hx) (by decide))

/-- joined tokens are parsed alike -/
theorem parseF_join (s : List UInt8) (S : List UInt8) (hF : (scanS s).2.2 = 0) (hj : joinS (scanS s).1 = (S, 0)) : S.length ≤ 2000 ∧ (parseF S).1 = (parseF s).1 ∧ (parseF S).2.2 = (parseF s).2.2 := by
  obtain ⟨hS, M, h1, h2⟩ := joinS_scan _ _ hj
  refine ⟨hS, ?_⟩
  have hw : wholeP M = wholeP (scanS s).1 := (whole_alike (TL_same h2)).symm
  unfold parseF
  rw [h1, if_pos rfl, if_pos hF]
  simp only
  rw [hw]
  cases wholeP (scanS s).1 with
  | bad j => exact ⟨rfl, rfl⟩
  | ok c j =>
    simp

theorem parseF_scan (s : List UInt8) (hF : (scanS s).2.2 ≠ 0) : (parseF s).1 = ((scanS s).2.2 : Nat) ∧ (parseF s).2.2 = cm0 := by
  unfold parseF
  rw [if_neg hF]
  exact ⟨rfl, rfl⟩

/-- what the law's call is told -/
structure Told (s : List UInt8) (c : Cm) (E : Int) : Prop where
  par : ∀ W, Laid W → Calls Tryz.prog 8 #[.string ⟨s.toArray⟩] W fun e w' => (∃ A cv vv fv ea wa, e = .returned (.tuple #[.agg (cmL c cv vv fv ea wa).toArray, .int .i64 A, .int .i64 E]) ∧ Hid (CmIn W.heap.size w' c cv vv fv ea wa)) ∧ Below W.heap.size W w'
  chk : E = 0 → ∀ (W : World) (cv vv fv ea wa : Value), CmIn 0 W c cv vv fv ea wa → Laid W → Calls Tryz.prog 12 #[.agg (cmL c cv vv fv ea wa).toArray] W fun e w' => e = .returned (.int .i64 0) ∧ Below W.heap.size W w'
  fit : CmFit c

theorem told_of (s : List UInt8) (hs : s.length ≤ 9223372036854775000) : Told s (parseF s).2.2 (parseF s).1 := by
  refine ⟨fun W hL => ?_, fun h0 W cv vv fv ea wa hi hL => ?_, parseF_fit s⟩
  · refine (parse_all s W hs hL).mono ?_
    rintro e w' ⟨⟨u, rfl, cv, vv, fv, ea, wa, rfl, hi⟩, hb⟩
    exact ⟨⟨_, cv, vv, fv, ea, wa, rfl, hi⟩, hb⟩
  · rw [← parseF_check s h0]
    exact check_cmd _ cv vv fv ea wa hi (parseF_fit s) hL

theorem kind_at {W : World} {b : Nat} {t : TypeId} {c : Cm} {cv vv fv ea wa : Value} (h : W.heap[b]? = some (.cells (cmL c cv vv fv ea wa).toArray t)) : W.cell? ⟨b, 0, none⟩ = some (.int .i64 c.kind) := (Lib.cell_of_heap h _).trans rfl

set_option maxRecDepth 100000 in
set_option maxHeartbeats 2000000 in
theorem tells_scan (s : List UInt8) (c : Cm) (E : Int) (hT : Told s c E) (hc : c.kind = 0) (hE : E ≠ 0) (hs : ∀ W, Calls Tryz.prog 15 #[.string ⟨s.toArray⟩] W fun e w' => (∃ v A, e = .returned (.tuple #[v, .int .i64 A, .int .i64 E])) ∧ Below W.heap.size W w') (w : World) (hl : Laid w) :
    Calls Tryz.prog 5 #[.string ⟨s.toArray⟩] w fun e w' => e = .returned (.bool true) ∧ Below w.heap.size w w' := by
  have HL := hide hl
  have hp := hT.par
  have hE' : (E == 0) = false := by simpa using hE
  have HC := hide hc
  clear hT hl hc
  go_enter Tryz.func5, Tryz.ntmps5
  go_wp2_with (first | (go_at_call 10; refine (cbegun_any _ HL.out).mono ?_; rintro e w1 ⟨rfl, b1⟩) | (go_at_call 14; refine (begun_any _).mono ?_; rintro e w2 ⟨rfl, b2⟩; have B2 := b1.trans (b2.mono b1.size)) | (go_at_call 8; refine (hp _ (HL.out.below B2)).mono ?_; rintro e w3 ⟨⟨A, cv, vv, fv, ea, wa, rfl, hi⟩, b3⟩; have B3 := B2.trans (b3.mono B2.size)) | (refine wpList_alloc_blk 3 31 cmZ rfl rfl rfl Tryz.alloc31 ?_; intro w4 cb hcb k4 b4) | (refine wpList_store_whole 31 _ _ rfl rfl cb cmZ (cmL c cv vv fv ea wa) 31 rfl rfl (by exact k4) rfl Tryz.size31 (by exact hi.out.one) ?_; intro w6 k6 p6; have b6 := below_put hcb b4 p6; have B6 := B3.trans (b6.mono B3.size); clear p6) | (go_at_call 15; refine (hs _).mono ?_; rintro e w7 ⟨⟨v7, A7, rfl⟩, b7⟩; have k7 := (b7.block cb (Array.getElem?_eq_some_iff.1 k6).1).trans k6; have m7 := kind_at k7; rw [HC.out] at m7; have B7 := B6.trans (b7.mono B6.size)))
  go_ret
  exact ⟨ret_bool (by simp), B7⟩

set_option maxRecDepth 100000 in
set_option maxHeartbeats 2000000 in
theorem tells_many (s : List UInt8) (c : Cm) (E : Int) (T : List Tk) (hT : Told s c E) (hs : ∀ W, Calls Tryz.prog 15 #[.string ⟨s.toArray⟩] W fun e w' => (∃ v A, e = .returned (.tuple #[v, .int .i64 A, .int .i64 0]) ∧ Hid (w'.ownsRow W.heap.size 63 3 v T.length (cellsT T))) ∧ Below W.heap.size W w')
    (hj : ∀ (W : World) (base : Nat) (v : Value), W.ownsRow base 63 3 v T.length (cellsT T) → Calls Tryz.prog 16 #[v] W fun e w' => e = .returned (.tuple #[.string ⟨#[]⟩, .int .i64 2]) ∧ Below W.heap.size W w') (w : World) (hl : Laid w) :
    Calls Tryz.prog 5 #[.string ⟨s.toArray⟩] w fun e w' => e = .returned (.bool true) ∧ Below w.heap.size w w' := by
  have HL := hide hl
  have hp := hT.par
  by_cases hE : E = 0
  · have hck := hT.chk hE
    subst hE
    clear hT hl
    go_enter Tryz.func5, Tryz.ntmps5
    go_wp2_with (first | (go_at_call 10; refine (cbegun_any _ HL.out).mono ?_; rintro e w1 ⟨rfl, b1⟩) | (go_at_call 14; refine (begun_any _).mono ?_; rintro e w2 ⟨rfl, b2⟩; have B2 := b1.trans (b2.mono b1.size)) | (go_at_call 8; refine (hp _ (HL.out.below B2)).mono ?_; rintro e w3 ⟨⟨A, cv, vv, fv, ea, wa, rfl, hi⟩, b3⟩; have B3 := B2.trans (b3.mono B2.size)) | (refine wpList_alloc_blk 3 31 cmZ rfl rfl rfl Tryz.alloc31 ?_; intro w4 cb hcb k4 b4) | (refine wpList_store_whole 31 _ _ rfl rfl cb cmZ (cmL c cv vv fv ea wa) 31 rfl rfl (by exact k4) rfl Tryz.size31 (by exact hi.out.one) ?_; intro w6 k6 p6; have b6 := below_put hcb b4 p6; have i6 := hide (hi.out.under b6); have B6 := B3.trans (b6.mono B3.size); clear p6) | (refine wpList_load_if 31 _ (by rfl) rfl _ (cmL c cv vv fv ea wa) 31 _ rfl (by exact k6) Tryz.underlying31 rfl Tryz.size31 ?_) | (go_at_call 12; refine (hck _ _ _ _ _ _ (i6.out.weak (Nat.zero_le _)) (HL.out.below B6)).mono ?_; rintro e w5 ⟨rfl, b5⟩; have k5 := (b5.block cb (Array.getElem?_eq_some_iff.1 k6).1).trans k6; have i5 := hide (i6.out.under b5); have B5 := B6.trans (b5.mono B6.size)) | (go_at_call 15; refine (hs _).mono ?_; rintro e w7 ⟨⟨v7, A7, rfl, t7⟩, b7⟩; have k7 := (b7.block cb (Array.getElem?_eq_some_iff.1 k5).1).trans k5; have i7 := hide (i5.out.under b7); have B7 := B5.trans (b7.mono B5.size)) | (go_at_call 16; refine (hj _ _ _ t7.out).mono ?_; rintro e w8 ⟨rfl, b8⟩; have k8 := (b8.block cb (Array.getElem?_eq_some_iff.1 k7).1).trans k7; have i8 := hide (i7.out.under b8); have B8 := B7.trans (b8.mono B7.size)))
    go_ret
    exact ⟨rfl, B8⟩
  · have hE' : (E == 0) = false := by simpa using hE
    clear hT hl
    go_enter Tryz.func5, Tryz.ntmps5
    go_wp2_with (first | (go_at_call 10; refine (cbegun_any _ HL.out).mono ?_; rintro e w1 ⟨rfl, b1⟩) | (go_at_call 14; refine (begun_any _).mono ?_; rintro e w2 ⟨rfl, b2⟩; have B2 := b1.trans (b2.mono b1.size)) | (go_at_call 8; refine (hp _ (HL.out.below B2)).mono ?_; rintro e w3 ⟨⟨A, cv, vv, fv, ea, wa, rfl, hi⟩, b3⟩; have B3 := B2.trans (b3.mono B2.size)) | (refine wpList_alloc_blk 3 31 cmZ rfl rfl rfl Tryz.alloc31 ?_; intro w4 cb hcb k4 b4) | (refine wpList_store_whole 31 _ _ rfl rfl cb cmZ (cmL c cv vv fv ea wa) 31 rfl rfl (by exact k4) rfl Tryz.size31 (by exact hi.out.one) ?_; intro w6 k6 p6; have b6 := below_put hcb b4 p6; have i6 := hide (hi.out.under b6); have B6 := B3.trans (b6.mono B3.size); clear p6) | (go_at_call 15; refine (hs _).mono ?_; rintro e w7 ⟨⟨v7, A7, rfl, t7⟩, b7⟩; have k7 := (b7.block cb (Array.getElem?_eq_some_iff.1 k6).1).trans k6; have i7 := hide (i6.out.under b7); have B7 := B6.trans (b7.mono B6.size)) | (go_at_call 16; refine (hj _ _ _ t7.out).mono ?_; rintro e w8 ⟨rfl, b8⟩; have k8 := (b8.block cb (Array.getElem?_eq_some_iff.1 k7).1).trans k7; have i8 := hide (i7.out.under b8); have B8 := B7.trans (b8.mono B7.size)))
    go_ret
    exact ⟨rfl, B8⟩

set_option maxRecDepth 100000 in
set_option maxHeartbeats 2000000 in
theorem tells_all (s : List UInt8) (c : Cm) (E : Int) (T : List Tk) (hT : Told s c E) (hs : ∀ W, Calls Tryz.prog 15 #[.string ⟨s.toArray⟩] W fun e w' => (∃ v A, e = .returned (.tuple #[v, .int .i64 A, .int .i64 0]) ∧ Hid (w'.ownsRow W.heap.size 63 3 v T.length (cellsT T))) ∧ Below W.heap.size W w') (S : List UInt8) (hS : Told S c E)
    (hj : ∀ (W : World) (base : Nat) (v : Value), W.ownsRow base 63 3 v T.length (cellsT T) → Calls Tryz.prog 16 #[v] W fun e w' => e = .returned (.tuple #[.string ⟨S.toArray⟩, .int .i64 0]) ∧ Below W.heap.size W w') (w : World) (hl : Laid w) :
    Calls Tryz.prog 5 #[.string ⟨s.toArray⟩] w fun e w' => e = .returned (.bool true) ∧ Below w.heap.size w w' := by
  have HL := hide hl
  have hp := hT.par
  have hr := hS.par
  have hsm : ∀ (W : World) (cv vv fv ea wa cv' vv' fv' ea' wa' : Value), CmIn 0 W c cv vv fv ea wa → CmIn 0 W c cv' vv' fv' ea' wa' → Calls Tryz.prog 11 #[.agg (cmL c cv vv fv ea wa).toArray, .agg (cmL c cv' vv' fv' ea' wa').toArray] W fun e w' => e = .returned (.bool true) ∧ Below W.heap.size W w' :=
    fun W cv vv fv ea wa cv' vv' fv' ea' wa' h h' => sameC_same c cv vv fv ea wa cv' vv' fv' ea' wa' W h h' hT.fit
  by_cases hE : E = 0
  · have hck := hT.chk hE
    subst hE
    clear hT hS hl
    go_enter Tryz.func5, Tryz.ntmps5
    go_wp2_with (first | (go_at_call 10; refine (cbegun_any _ HL.out).mono ?_; rintro e w1 ⟨rfl, b1⟩) | (go_at_call 14; refine (begun_any _).mono ?_; rintro e w2 ⟨rfl, b2⟩; have B2 := b1.trans (b2.mono b1.size)))
    refine (hp _ (HL.out.below B2)).mono ?_
    rintro e w3 ⟨⟨A, cv, vv, fv, ea, wa, rfl, hi⟩, b3⟩
    have B3 := B2.trans (b3.mono B2.size)
    go_wp2_with (first | (refine wpList_alloc_blk 3 31 cmZ rfl rfl rfl Tryz.alloc31 ?_; intro w4 cb hcb k4 b4) | (refine wpList_store_whole 31 _ _ rfl rfl cb cmZ (cmL c cv vv fv ea wa) 31 rfl rfl (by exact k4) rfl Tryz.size31 (by exact hi.out.one) ?_; intro w6 k6 p6; have b6 := below_put hcb b4 p6; have i6 := hide (hi.out.under b6); have B6 := B3.trans (b6.mono B3.size); clear p6) | (refine wpList_load_if 31 _ (by rfl) rfl _ (cmL c cv vv fv ea wa) 31 _ rfl (by exact k6) Tryz.underlying31 rfl Tryz.size31 ?_) | (go_at_call 12; refine (hck _ _ _ _ _ _ (i6.out.weak (Nat.zero_le _)) (HL.out.below B6)).mono ?_; rintro e w5 ⟨rfl, b5⟩; have k5 := (b5.block cb (Array.getElem?_eq_some_iff.1 k6).1).trans k6; have i5 := hide (i6.out.under b5); have B5 := B6.trans (b5.mono B6.size)) | (go_at_call 15; refine (hs _).mono ?_; rintro e w7 ⟨⟨v7, A7, rfl, t7⟩, b7⟩; have k7 := (b7.block cb (Array.getElem?_eq_some_iff.1 k5).1).trans k5; have i7 := hide (i5.out.under b7); have B7 := B5.trans (b7.mono B5.size)) | (go_at_call 16; refine (hj _ _ _ t7.out).mono ?_; rintro e w8 ⟨rfl, b8⟩; have k8 := (b8.block cb (Array.getElem?_eq_some_iff.1 k7).1).trans k7; have i8 := hide (i7.out.under b8); have B8 := B7.trans (b8.mono B7.size)))
    refine (hr _ (HL.out.below B8)).mono ?_
    rintro e w9 ⟨⟨A9, cx, vx, fx, ex, wx, rfl, i9⟩, b9⟩
    have k9 := (b9.block cb (Array.getElem?_eq_some_iff.1 k8).1).trans k8
    have j9 := hide (i8.out.under b9)
    have B9 := B8.trans (b9.mono B8.size)
    go_wp2_with (first | (refine wpList_alloc_blk 10 31 cmZ rfl rfl rfl Tryz.alloc31 ?_; intro y4 db hdb l4 c4) | (refine wpList_store_whole 31 _ _ rfl rfl db cmZ (cmL c cx vx fx ex wx) 31 rfl rfl (by exact l4) rfl Tryz.size31 (by exact i9.out.one) ?_; intro y6 l6 p6; have c6 := below_put hdb c4 p6; have k10 := (c6.block cb (Array.getElem?_eq_some_iff.1 k9).1).trans k9; have i10 := hide (j9.out.under c6); have j10 := hide (i9.out.under c6); have B10 := B9.trans (c6.mono B9.size); clear p6) | (refine wpList_load_if 31 _ (by rfl) rfl cb (cmL c cv vv fv ea wa) 31 _ rfl (by exact k10) Tryz.underlying31 rfl Tryz.size31 ?_) | (refine wpList_load_if 31 _ (by rfl) rfl db (cmL c cx vx fx ex wx) 31 _ rfl (by exact l6) Tryz.underlying31 rfl Tryz.size31 ?_))
    refine (hsm _ _ _ _ _ _ _ _ _ _ _ (i10.out.weak (Nat.zero_le _)) (j10.out.weak (Nat.zero_le _))).mono ?_
    rintro e w11 ⟨rfl, b11⟩
    go_wp2
    go_ret
    exact ⟨rfl, B10.trans (b11.mono B10.size)⟩
  · have hE' : (E == 0) = false := by simpa using hE
    clear hT hS hl
    go_enter Tryz.func5, Tryz.ntmps5
    go_wp2_with (first | (go_at_call 10; refine (cbegun_any _ HL.out).mono ?_; rintro e w1 ⟨rfl, b1⟩) | (go_at_call 14; refine (begun_any _).mono ?_; rintro e w2 ⟨rfl, b2⟩; have B2 := b1.trans (b2.mono b1.size)))
    refine (hp _ (HL.out.below B2)).mono ?_
    rintro e w3 ⟨⟨A, cv, vv, fv, ea, wa, rfl, hi⟩, b3⟩
    have B3 := B2.trans (b3.mono B2.size)
    go_wp2_with (first | (refine wpList_alloc_blk 3 31 cmZ rfl rfl rfl Tryz.alloc31 ?_; intro w4 cb hcb k4 b4) | (refine wpList_store_whole 31 _ _ rfl rfl cb cmZ (cmL c cv vv fv ea wa) 31 rfl rfl (by exact k4) rfl Tryz.size31 (by exact hi.out.one) ?_; intro w6 k6 p6; have b6 := below_put hcb b4 p6; have i6 := hide (hi.out.under b6); have B6 := B3.trans (b6.mono B3.size); clear p6) | (go_at_call 15; refine (hs _).mono ?_; rintro e w7 ⟨⟨v7, A7, rfl, t7⟩, b7⟩; have k7 := (b7.block cb (Array.getElem?_eq_some_iff.1 k6).1).trans k6; have i7 := hide (i6.out.under b7); have B7 := B6.trans (b7.mono B6.size)) | (go_at_call 16; refine (hj _ _ _ t7.out).mono ?_; rintro e w8 ⟨rfl, b8⟩; have k8 := (b8.block cb (Array.getElem?_eq_some_iff.1 k7).1).trans k7; have i8 := hide (i7.out.under b8); have B8 := B7.trans (b8.mono B7.size)))
    refine (hr _ (HL.out.below B8)).mono ?_
    rintro e w9 ⟨⟨A9, cx, vx, fx, ex, wx, rfl, i9⟩, b9⟩
    have k9 := (b9.block cb (Array.getElem?_eq_some_iff.1 k8).1).trans k8
    have j9 := hide (i8.out.under b9)
    have B9 := B8.trans (b9.mono B8.size)
    go_wp2_with (first | (refine wpList_alloc_blk 10 31 cmZ rfl rfl rfl Tryz.alloc31 ?_; intro y4 db hdb l4 c4) | (refine wpList_store_whole 31 _ _ rfl rfl db cmZ (cmL c cx vx fx ex wx) 31 rfl rfl (by exact l4) rfl Tryz.size31 (by exact i9.out.one) ?_; intro y6 l6 p6; have c6 := below_put hdb c4 p6; have k10 := (c6.block cb (Array.getElem?_eq_some_iff.1 k9).1).trans k9; have i10 := hide (j9.out.under c6); have j10 := hide (i9.out.under c6); have B10 := B9.trans (c6.mono B9.size); clear p6) | (refine wpList_load_if 31 _ (by rfl) rfl cb (cmL c cv vv fv ea wa) 31 _ rfl (by exact k10) Tryz.underlying31 rfl Tryz.size31 ?_) | (refine wpList_load_if 31 _ (by rfl) rfl db (cmL c cx vx fx ex wx) 31 _ rfl (by exact l6) Tryz.underlying31 rfl Tryz.size31 ?_))
    refine (hsm _ _ _ _ _ _ _ _ _ _ _ (i10.out.weak (Nat.zero_le _)) (j10.out.weak (Nat.zero_le _))).mono ?_
    rintro e w11 ⟨rfl, b11⟩
    go_wp2
    go_ret
    exact ⟨rfl, B10.trans (b11.mono B10.size)⟩

theorem tells_any (s : List UInt8) (hs : s.length ≤ 9223372036854775000) (w : World) (hl : Laid w) : Calls Tryz.prog 5 #[.string ⟨s.toArray⟩] w fun e w' => e = .returned (.bool true) ∧ Below w.heap.size w w' := by
  have hT := told_of s hs
  by_cases hF : (scanS s).2.2 = 0
  · have hsc : ∀ W, Calls Tryz.prog 15 #[.string ⟨s.toArray⟩] W fun e w' => (∃ v A, e = .returned (.tuple #[v, .int .i64 A, .int .i64 0]) ∧ Hid (w'.ownsRow W.heap.size 63 3 v (scanS s).1.length (cellsT (scanS s).1))) ∧ Below W.heap.size W w' := by
      intro W
      refine (scan_any ⟨s.toArray⟩ W (by rw [size_mk]; exact hs)).mono ?_
      rintro e w' ⟨v, rfl, ho, hb⟩
      refine ⟨⟨v, ((scanS s).2.1 : Nat), ?_, ho⟩, hb⟩
      show Ending.returned (.tuple #[v, .int .i64 ((scanS s).2.1 : Nat), .int .i64 ((scanS s).2.2 : Nat)]) = _
      rw [hF]; rfl
    have hjo := fun (W : World) (base : Nat) (v : Value) (h : W.ownsRow base 63 3 v (scanS s).1.length (cellsT (scanS s).1)) => join_own h (scanS_few s) (scanS_short s)
    rcases joinS_of_scan s with h0 | h2
    · obtain ⟨S, hS⟩ : ∃ S, joinS (scanS s).1 = (S, 0) := ⟨(joinS (scanS s).1).1, by rw [← h0]⟩
      obtain ⟨hl2, e1, e2⟩ := parseF_join s S hF hS
      have hTS := told_of S (by omega)
      rw [e1, e2] at hTS
      rw [hS] at hjo
      exact tells_all s _ _ _ hT hsc S hTS hjo w hl
    · obtain ⟨S, hS⟩ : ∃ S, joinS (scanS s).1 = (S, 2) := ⟨(joinS (scanS s).1).1, by rw [← h2]⟩
      have hS0 : S = [] := by
        have := hS
        unfold joinS at this
        split at this
        · split at this
          · simp at this; exact this
          · simp at this
        · simp at this
      rw [hS, hS0] at hjo
      exact tells_many s _ _ _ hT hsc hjo w hl
  · obtain ⟨e1, e2⟩ := parseF_scan s hF
    rw [e1, e2] at hT
    refine tells_scan s cm0 _ hT rfl (by omega) (fun W => ?_) w hl
    refine (scan_any ⟨s.toArray⟩ W (by rw [size_mk]; exact hs)).mono ?_
    rintro e w' ⟨v, rfl, ho, hb⟩
    exact ⟨⟨v, _, rfl⟩, hb⟩

end Go.Proofs.YtkpeklealgicpabGreatDoor
