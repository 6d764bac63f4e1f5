/-
  'Decode' of package row.
-/
import Derived.Test.YtkpeklealgicpacEcd
namespace Go.Proofs.Ytkpeklealgicpac
open Go.RowKit

theorem own_mono {w : World} {B B' : Nat} {e : TypeId} {size n : Nat} {v : Value} {xs : List Value} (h : w.ownsRow B e size v n xs) (hB : B' ≤ B) : w.ownsRow B' e size v n xs := by
  obtain ⟨h1, h2⟩ := h
  refine ⟨h1, ?_⟩
  rcases h2 with h2 | ⟨g, cap, cur, e1, e2, e3⟩
  · exact .inl h2
  · exact .inr ⟨g, cap, cur, e1, Nat.le_trans hB e2, e3⟩

theorem flat_get {α : Type} (cf : α → List Value) (sz : Nat) (hsz : ∀ x, (cf x).length = sz) : ∀ (l : List α) (k : Nat) (x : α), l[k]? = some x → ∀ q, q < sz → (l.flatMap cf)[k * sz + q]? = (cf x)[q]? := by
  intro l
  induction l with
  | nil => intro k x h; simp at h
  | cons y r ih =>
    intro k x h q hq
    rw [List.flatMap_cons]
    cases k with
    | zero =>
      simp only [List.getElem?_cons_zero, Option.some.injEq] at h
      subst h
      rw [Nat.zero_mul, Nat.zero_add, List.getElem?_append_left (by rw [hsz]; exact hq)]
    | succ k =>
      have e : (k + 1) * sz + q = (cf y).length + (k * sz + q) := by rw [hsz, Nat.succ_mul]; omega
      rw [e, List.getElem?_append_right (by omega), Nat.add_sub_cancel_left]
      exact ih k x (by simpa using h) q hq

theorem vs_of_own {w : World} {B : Nat} {v : Value} {xs : List Vl} (h : w.ownsRow B 36 3 v xs.length (xs.flatMap vlC)) (hn : xs.length ≤ 1000) (hs : ∀ x ∈ xs, x.s.length ≤ 140737488355328) : VsAt w v xs := by
  obtain ⟨ao, cap, e⟩ := owns_slice h
  refine ⟨ao, cap, e, by omega, hs, fun hne => ?_⟩
  obtain ⟨g, cap', e', -, hg⟩ := owns_some h (by intro e0; exact hne (List.eq_nil_of_length_eq_zero e0))
  rw [e] at e'
  cases e'
  refine ⟨g, 0, rfl, hg, fun i x hx => ?_⟩
  rw [e] at h
  have hlen := h.1
  have at' : ∀ q, q < 3 → w.cell? ⟨g, i * 3 + q, none⟩ = (vlC x)[q]? := by
    intro q hq
    have hi := (List.getElem?_eq_some_iff.1 hx).1
    have := h.cellAt (i * 3 + q) (by omega)
    rw [flat_get vlC 3 (fun _ => rfl) xs i x hx q hq] at this
    exact this
  rw [Nat.zero_add]
  exact ⟨at' 0 (by decide), at' 1 (by decide), at' 2 (by decide)⟩

theorem decP_vals (s : List UInt8) : decP s = match valsOf s with | some (xs, []) => some xs | _ => none := by
  cases s <;> rfl

theorem valP_size (l : List UInt8) (x : Vl) (r : List UInt8) (h : valP l = some (x, r)) : x.s.length ≤ 255 := by
  cases l with
  | nil => cases h
  | cons c t =>
    simp only [valP] at h
    by_cases h0 : c = 0
    · rw [if_pos h0] at h; cases h; simp
    rw [if_neg h0] at h
    by_cases h1 : c = 1
    · rw [if_pos h1] at h
      by_cases h4 : t.length < 4
      · rw [if_pos h4] at h; cases h
      · rw [if_neg h4] at h; cases h; simp
    rw [if_neg h1] at h
    by_cases h2 : c = 2
    · rw [if_pos h2] at h
      cases t with
      | nil => cases h
      | cons m t =>
        simp only at h
        by_cases h4 : t.length < m.toNat
        · rw [if_pos h4] at h; cases h
        · rw [if_neg h4] at h; cases h
          have := m.toNat_lt
          simp only [List.length_take]; omega
    rw [if_neg h2] at h
    by_cases h3 : c = 3
    · rw [if_pos h3] at h
      cases t with
      | nil => cases h
      | cons m t => cases h; simp
    rw [if_neg h3] at h
    cases h

theorem valsP_size (k : Nat) : ∀ (l : List UInt8) (xs : List Vl) (r : List UInt8), valsP k l = some (xs, r) → ∀ x ∈ xs, x.s.length ≤ 255 := by
  induction k with
  | zero => intro l xs r h x hx; simp only [valsP] at h; cases h; cases hx
  | succ k ih =>
    intro l xs r h x hx
    simp only [valsP] at h
    cases hv : valP l with
    | none => rw [hv] at h; cases h
    | some p =>
      obtain ⟨y, t⟩ := p
      rw [hv] at h
      simp only [Option.bind_some] at h
      cases hw : valsP k t with
      | none => rw [hw] at h; cases h
      | some q =>
        obtain ⟨ys, u⟩ := q
        rw [hw] at h
        simp only [Option.map_some] at h
        cases h
        cases hx with
        | head => exact valP_size l x t hv
        | tail _ hx => exact ih t ys _ hw x hx

theorem valsOf_size (l : List UInt8) (xs : List Vl) (r : List UInt8) (h : valsOf l = some (xs, r)) : ∀ x ∈ xs, x.s.length ≤ 255 := by
  cases l with
  | nil => cases h
  | cons c t => exact valsP_size _ _ _ _ h

theorem grown_to_below {w w' : World} {b : Nat} (hg : w.grownBy w' (some b)) {B : Nat} (hB : B ≤ b) (hB2 : B ≤ w.heap.size) : Below B w w' :=
  ⟨hg.os, hg.tape, hg.output, hg.size, fun k hk => hg.block k (by omega) (by simp; omega)⟩

/-- what Decode leaves -/
def DecPost (w : World) (s : List UInt8) (e : Ending) (w' : World) : Prop :=
  ∃ v, e = .returned (.tuple #[v, .int .i64 (decE s : Nat)]) ∧ w'.ownsRow w.heap.size 36 3 v (decR s).length ((decR s).flatMap vlC) ∧ Below w.heap.size w w' ∧ (decR s).length ≤ 255 ∧ ∀ x ∈ decR s, x.s.length ≤ 255

set_option maxRecDepth 100000 in
set_option maxHeartbeats 1600000 in
theorem decode_any (s : List UInt8) (w : World) : Calls Try.prog 6 #[.string ⟨s.toArray⟩] w fun e w' => DecPost w s e w' := by
  have r0 : RdAt (w.alloc (.cells #[.string ⟨s.toArray⟩, .bool false] 39)) w.heap.size s false := heap_alloc_new _ _
  have hv := values_any w.heap.size s _ r0
  have b0 := (Below.refl w.heap.size w).alloc (Nat.le_refl _) (.cells #[.string ⟨s.toArray⟩, .bool false] 39)
  clear r0
  go_enter Try.func6, Try.ntmps6
  go_wp2_with fail
  refine hv.mono ?_
  rintro e w1 ⟨v, xs, L', wr, rfl, hown, r1, g1, hlen, hval⟩
  have b1 : Below w.heap.size w w1 := b0.trans (grown_to_below g1 (Nat.le_refl _) (by simp))
  obtain ⟨⟨c0, c1⟩, -⟩ := two r1
  have hown := own_mono hown (B' := w.heap.size) (by simp)
  have hdp := decP_vals s
  clear hv b0 g1 r1
  cases wr with
  | true =>
    have e1 : decE s = 1 := by
      rw [hval] at hdp
      simp only [if_true] at hdp
      unfold decE; rw [hdp]
    have e2 : decR s = [] := decR_none s (by rw [e1]; decide)
    have E1 := hide e1
    have E2 := hide e2
    obtain ⟨ao, cap, ev⟩ := owns_slice hown
    subst ev
    clear hdp hval e1 e2 hown
    go_wp2
    go_ret2
    exact ⟨.slice none 0 0, by rw [E1.out]; rfl, by rw [E2.out]; exact World.ownsRow_nil _ _ _ _, b1, by rw [E2.out]; decide, by rw [E2.out]; intro x hx; cases hx⟩
  | false =>
    simp only [Bool.false_eq_true, if_false] at hval
    rw [hval] at hdp
    by_cases hL : L' = []
    · subst hL
      have hsz := valsOf_size s xs [] hval
      simp only at hdp
      have e1 : decE s = chkL xs := by unfold decE; rw [hdp]
      have e2 : decR s = if chkL xs = 0 then xs else [] := by unfold decR; rw [e1, hdp]; rfl
      have E1 := hide e1
      have E2 := hide e2
      have hf := fault_any' xs v w1 (vs_of_own hown (by omega) fun x hx => by have := hsz x hx; omega)
      have Hown := hide hown
      have Hsz := hide hsz
      obtain ⟨ao, cap, ev⟩ := owns_slice hown
      subst ev
      clear hdp hval e1 e2 hown hsz
      by_cases h0 : chkL xs = 0
      · have H0 := hide h0
        rw [h0] at hf
        clear h0
        go_wp2_with (go_at_call 12; refine hf.mono ?_; rintro e w2 ⟨rfl, b2⟩)
        go_ret2
        refine ⟨.slice ao xs.length cap, by rw [E1.out, H0.out]; rfl, ?_, b1.trans (b2.mono b1.size), ?_, ?_⟩
        · rw [E2.out, if_pos H0.out]; exact owns_below Hown.out b2
        · rw [E2.out, if_pos H0.out]; exact hlen
        · rw [E2.out, if_pos H0.out]; exact Hsz.out
      · have h0' : (((chkL xs : Nat) : Int) != 0) = true := by simpa using h0
        have H0 := hide h0
        clear h0
        generalize chkL xs = c at hf h0' E1 E2 H0
        go_wp2_with (go_at_call 12; refine hf.mono ?_; rintro e w2 ⟨rfl, b2⟩)
        go_ret2
        refine ⟨.slice none 0 0, by rw [E1.out]; rfl, ?_, b1.trans (b2.mono b1.size), ?_, ?_⟩
        · rw [E2.out, if_neg H0.out]; exact World.ownsRow_nil _ _ _ _
        · rw [E2.out, if_neg H0.out]; decide
        · rw [E2.out, if_neg H0.out]; intro x hx; cases hx
    · have hdp2 : decP s = none := by
        rw [hdp]
        cases L' with
        | nil => exact absurd rfl hL
        | cons a b => rfl
      have e1 : decE s = 1 := by unfold decE; rw [hdp2]
      have e2 : decR s = [] := decR_none s (by rw [e1]; decide)
      have hq : ((⟨L'.toArray⟩ : ByteArray).toList == []) = false := by
        rw [Lib.toList_data]; simpa using hL
      have E1 := hide e1
      have E2 := hide e2
      obtain ⟨ao, cap, ev⟩ := owns_slice hown
      subst ev
      have hL2 : L'.isEmpty = false := by simpa using hL
      clear hdp hdp2 hval e1 e2 hown hL
      go_wp2
      go_ret2
      exact ⟨.slice none 0 0, by rw [E1.out]; rfl, by rw [E2.out]; exact World.ownsRow_nil _ _ _ _, b1, by rw [E2.out]; decide, by rw [E2.out]; intro x hx; cases hx⟩

end Go.Proofs.Ytkpeklealgicpac
