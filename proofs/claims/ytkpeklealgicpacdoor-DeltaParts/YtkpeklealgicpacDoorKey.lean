/-
  'tenDigits' and 'Key' of package value.
-/
import Derived.Test.YtkpeklealgicpacDoorCheck
namespace Go.Proofs.YtkpeklealgicpacDoor
open Go.RowKit

theorem var_keep {P : Program} {W W' : World} {n : String} {cs : Array Value} (h : Below W.heap.size W W') (hv : W.var? P n = some cs) : W'.var? P n = some cs := by
  unfold World.var? at hv ⊢
  cases hg : P.globalNamed n with
  | none => rw [hg] at hv; cases hv
  | some g =>
    rw [hg] at hv
    simp only [Option.bind_some] at hv ⊢
    have hlt : g < W.heap.size := by
      rcases Nat.lt_or_ge g W.heap.size with h1 | h1
      · exact h1
      · rw [Array.getElem?_eq_none h1] at hv; cases hv
    rw [h.block g hlt]
    exact hv

/-- what the library's package-level variables hold, as far as this program reads them -/
def Laid (w : World) : Prop :=
  Lib.TabIs Tryd.prog w "internal/strconv.uint64pow10" .u64 Lib.pow10Tab ∧ (∃ tp p, w.var? Tryd.prog "strconv.ErrSyntax" = some #[.iface tp p]) ∧ (∃ tp p, w.var? Tryd.prog "strconv.ErrRange" = some #[.iface tp p])

theorem Laid.below {w w' : World} (h : Laid w) (hb : Below w.heap.size w w') : Laid w' := by
  obtain ⟨h1, ⟨tp, p, h2⟩, tq, q, h3⟩ := h
  exact ⟨var_keep hb h1, ⟨tp, p, var_keep hb h2⟩, tq, q, var_keep hb h3⟩

theorem Laid.of_below {B : Nat} {w w' : World} (h : Laid w) (hb : Below B w w') (hB : w.heap.size ≤ B) : Laid w' := h.below (hb.mono hB)

theorem below_grow (w : World) (q : Nat) (os : Array Obj) : Below w.heap.size w (Sort.grow (w.drewN q) os) := by
  refine ⟨rfl, rfl, rfl, ?_, ?_⟩
  · show w.heap.size ≤ (w.heap ++ os).size
    simp
  · intro k hk
    show (w.heap ++ os)[k]? = w.heap[k]?
    rw [Array.getElem?_append_left hk]

theorem itoa_any (n : Int) (w : World) (h0 : -9223372036854775808 ≤ n) (h1 : n ≤ 9223372036854775807) (hl : Laid w) :
    Calls Tryd.prog 35 #[.int .i64 n] w fun e w' => e = .returned (.string ⟨(Lib.itoa n).toArray⟩) ∧ Below w.heap.size w w' := by
  refine (Tryd.strconv_Itoa n h0 h1 w hl.1).mono ?_
  rintro e w' ⟨rfl, k, os, rfl⟩
  exact ⟨rfl, below_grow w k os⟩

theorem decDigits_len : ∀ (k u : Nat), u < 10 ^ (k + 1) → 1 ≤ (Lib.decDigits u).length ∧ (Lib.decDigits u).length ≤ k + 1 := by
  intro k
  induction k with
  | zero =>
    intro u h
    rw [Lib.decDigits, dif_pos (by simpa using h)]
    simp
  | succ k ih =>
    intro u h
    rw [Lib.decDigits]
    split
    · simp
    · have := ih (u / 10) (by rw [Nat.pow_succ] at h; omega)
      simp; omega

theorem chk_zero {K N : Int} {S : List UInt8} (h : chkV K N S = 0) :
    (K = 0 ∧ N = 0 ∧ S = []) ∨ (K = 1 ∧ (-999999999 ≤ N ∧ N ≤ 999999999) ∧ S = []) ∨ (K = 2 ∧ N = 0 ∧ S.length ≤ 20 ∧ S.all isQ = true) ∨ (K = 3 ∧ (N = 0 ∨ N = 1) ∧ S = []) := by
  unfold chkV at h
  by_cases h0 : K = 0
  · rw [if_pos h0] at h
    by_cases h1 : N = 0 ∧ S = []
    · exact Or.inl ⟨h0, h1⟩
    · rw [if_neg h1] at h; cases h
  rw [if_neg h0] at h
  by_cases h0 : K = 1
  · rw [if_pos h0] at h
    by_cases h1 : isInt N = true ∧ S = []
    · refine Or.inr (Or.inl ⟨h0, ?_, h1.2⟩)
      have := h1.1
      simp only [isInt, Bool.and_eq_true, decide_eq_true_eq] at this
      exact this
    · rw [if_neg h1] at h; cases h
  rw [if_neg h0] at h
  by_cases h0 : K = 2
  · rw [if_pos h0] at h
    by_cases h1 : N = 0 ∧ quotB S = true
    · refine Or.inr (Or.inr (Or.inl ⟨h0, h1.1, ?_⟩))
      have := h1.2
      simp only [quotB, Bool.and_eq_true, decide_eq_true_eq] at this
      exact this
    · rw [if_neg h1] at h; cases h
  rw [if_neg h0] at h
  by_cases h0 : K = 3
  · rw [if_pos h0] at h
    by_cases h1 : (N = 0 ∨ N = 1) ∧ S = []
    · exact Or.inr (Or.inr (Or.inr ⟨h0, h1⟩))
    · rw [if_neg h1] at h; cases h
  rw [if_neg h0] at h; cases h

theorem itoa_0 : Lib.itoa 0 = [48] := by simp [Lib.itoa, Lib.decDigits]
theorem itoa_1 : Lib.itoa 1 = [49] := by simp [Lib.itoa, Lib.decDigits]
theorem itoa_2 : Lib.itoa 2 = [50] := by simp [Lib.itoa, Lib.decDigits]
theorem itoa_3 : Lib.itoa 3 = [51] := by simp [Lib.itoa, Lib.decDigits]

end Go.Proofs.YtkpeklealgicpacDoor
