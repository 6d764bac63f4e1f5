/-
  Out of my texts Tells: what is wanted here.
-/
import Derived.Test.YtkpeklealgicpacGreatDoorCastV
namespace Go.Proofs.YtkpeklealgicpacGreatDoor
open Go.RowKit

/-- CastOf of a right value, to a kind of columns -/
theorem cov_any (K N tt : Int) (s : ByteArray) (w : World) (hs : s.size ≤ 140737488355328) (h : chkV K N s.data.toList = 0) (ht : tt = 1 ∨ tt = 2 ∨ tt = 3) :
    Calls Tryz.prog 27 #[.agg #[.int .i64 K, .int .i64 N, .string s], .int .i64 tt] w fun e w' => e = .returned (tvl (castV K N s.data.toList tt)) ∧ Below w.heap.size w w' := by
  have nil : ∀ s : ByteArray, s.data.toList = [] → s = ⟨#[]⟩ := by
    rintro ⟨⟨l⟩⟩ e
    obtain rfl : l = [] := e
    rfl
  rcases chk_zero h with ⟨rfl, rfl, hS⟩ | ⟨rfl, ⟨h1, h2⟩, hS⟩ | ⟨rfl, rfl, -⟩ | ⟨rfl, h1, hS⟩
  · obtain rfl := nil s hS
    rcases ht with rfl | rfl | rfl <;> exact co_0 0 _ _ w
  · obtain rfl := nil s hS
    rcases ht with rfl | rfl | rfl
    · exact co_same 1 N _ (by decide) w
    · exact co_12 N _ _ w fun W => digits_any N W (by omega) (by omega)
    · exact co_13 N _ _ w fun W => truth_any (N != 0) W
  · have ht' : (s.toList == [116, 114, 117, 101]) = decide (s.data.toList = tru) := by rw [Lib.toList_data, Bool.eq_iff_iff, beq_iff_eq, decide_eq_true_iff]; rfl
    have hf' : (s.toList == [102, 97, 108, 115, 101]) = decide (s.data.toList = fal) := by rw [Lib.toList_data, Bool.eq_iff_iff, beq_iff_eq, decide_eq_true_iff]; rfl
    rcases ht with rfl | rfl | rfl
    · have hi : ∀ W : World, Calls Tryz.prog 60 #[.string s] W fun e w' => e = .returned (.tuple #[.int .i64 ((intV s.data.toList).getD 0), .bool (intV s.data.toList).isSome]) ∧ Below W.heap.size W w' := fun W =>
        (riv_any s W hs).mono fun e W' ⟨a, b⟩ => ⟨a, by rw [b]; exact Below.refl _ _⟩
      cases hv : intV s.data.toList with
      | some n =>
        rw [hv] at hi
        rw [show castV 2 0 s.data.toList 1 = (1, n, []) by simp [castV, hv]]
        exact co_21y 0 n s w hi
      | none =>
        rw [hv] at hi
        rw [show castV 2 0 s.data.toList 1 = (0, 0, []) by simp [castV, hv]]
        exact co_21n 0 s w hi
    · exact co_same 2 0 s (by decide) w
    · by_cases t : s.data.toList = tru
      · rw [show castV 2 0 s.data.toList 3 = (3, 1, []) by simp [castV, t]]
        exact co_23t 0 1 s (by rw [ht']; simp [t]) w fun W => truth_any true W
      · by_cases f : s.data.toList = fal
        · rw [show castV 2 0 s.data.toList 3 = (3, 0, []) by simp only [castV, f]; simp [tru, fal]]
          exact co_23f 0 0 s (by rw [ht']; simp [t]) (by rw [hf']; simp [f]) w fun W => truth_any false W
        · rw [show castV 2 0 s.data.toList 3 = (0, 0, []) by simp [castV, t, f]]
          exact co_23o 0 s (by rw [ht']; simp [t]) (by rw [hf']; simp [f]) w
  · obtain rfl := nil s hS
    rcases ht with rfl | rfl | rfl
    · exact co_31 N _ w
    · exact co_32 N _ _ w fun W => text_3 N _ W
    · have e : castV 3 N [] 3 = (3, N, []) := by rcases h1 with rfl | rfl <;> decide
      show Calls Tryz.prog 27 #[.agg #[.int .i64 3, .int .i64 N, .string ⟨#[]⟩], .int .i64 3] w fun e w' => e = .returned (tvl (castV 3 N [] 3)) ∧ Below w.heap.size w w'
      rw [e]
      exact co_same 3 N _ (by decide) w

end Go.Proofs.YtkpeklealgicpacGreatDoor
