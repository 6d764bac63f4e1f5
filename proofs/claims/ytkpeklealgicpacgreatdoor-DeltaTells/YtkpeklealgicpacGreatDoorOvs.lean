/-
  Out of my texts Dpw: what is wanted here.
-/
import Derived.Test.YtkpeklealgicpacGreatDoorDlp
import Derived.Test.YtkpeklealgicpacGreatDoorSmo
namespace Go.Proofs.YtkpeklealgicpacGreatDoor
open Go.RowKit

theorem applied_ok {r : List Vl} {L : List Dl} (h : applyE r L = 0) : (applyL r L).length ≤ 5 ∧ badL (applyL r L) = 0 := by
  obtain ⟨h1, h2, h3, h4⟩ := apply_parts r L L.length h
  rw [List.take_length, List.drop_length] at h2
  unfold applyE at h2
  by_cases h5 : 5 < (applyL r L).length
  · rw [if_pos h5] at h2; cases h2
  rw [if_neg h5] at h2
  refine ⟨by omega, ?_⟩
  by_cases hq : (checkD ((applyL r L).length : Nat) []).2 ≠ 0
  · rw [if_pos hq] at h2; exact absurd h2 hq
  · rw [if_neg hq] at h2; exact h2

theorem Own.vs {w : World} {B : Nat} {x : Value} {r : List Vl} {L : List Dl} (h : Own w B x (applyL r L)) (hE : applyE r L = 0) : VsAt w x (applyL r L) := by
  obtain ⟨h5, hb⟩ := applied_ok hE
  exact vs_of_own h (by omega) fun y hy => by have := short_of ((badL_zero _).1 hb y hy); omega

end Go.Proofs.YtkpeklealgicpacGreatDoor
