/-
  The law DeltaParts, of any row, any deltas, any place.
-/
import Derived.Test.YtkpeklealgicpacDoorDpn
namespace Go.Proofs.YtkpeklealgicpacDoor
open Go.RowKit

theorem applied_ok {r : List Vl} {L : List Dl} (h : applyE r L = 0) : (applyL r L).length ≤ 5 ∧ badL (applyL r L) = 0 := by
  obtain ⟨h1, h2, h3, h4⟩ := apply_parts r L L.length h
  rw [List.take_length, List.drop_length] at h2
  unfold applyE at h2
  by_cases h5 : 5 < (applyL r L).length
  · rw [if_pos h5] at h2; cases h2
  rw [if_neg h5] at h2
  refine ⟨by omega, ?_⟩
  by_cases hq : (checkD ((applyL r L).length : Nat) []).2 ≠ 0
  · rw [if_pos hq] at h2; exact absurd h2 hq
  · rw [if_neg hq] at h2; exact h2

theorem Own.none {w : World} {B : Nat} {x : Value} {L : List Vl} (h : Own w B x L) : ∀ ao cap, x = .slice ao 0 cap → ao = none → cap = 0 := by
  intro ao cap e h0
  rcases h.2 with ⟨hv, _⟩ | ⟨g, cap', cur, hv, _⟩
  · rw [hv] at e; cases e; rfl
  · rw [hv] at e
    injection e with e1 _ _
    rw [h0] at e1; cases e1

theorem Own.vs {w : World} {B : Nat} {x : Value} {r : List Vl} {L : List Dl} (h : Own w B x (applyL r L)) (hE : applyE r L = 0) : VsAt w x (applyL r L) := by
  obtain ⟨h5, hb⟩ := applied_ok hE
  exact vs_of_own h (by omega) fun y hy => by have := short_of ((badL_zero _).1 hb y hy); omega

theorem partsD_any (r : List Vl) (L : List Dl) (u v : Value) (cut : Int) (w : World) (hu : VsAt w u r) (hz : ∀ ao cap, u = .slice ao 0 cap → ao = none → cap = 0) (hv : DsAt w v L) (laid : Laid w) :
    Calls Tryd.prog 3 #[u, v, .int .i64 cut] w fun e w' => e = .returned (.bool true) ∧ Below w.heap.size w w' := by
  have ha := apply_any r L u v w hu hz hv laid
  have hb := fun W (hW : Below w.heap.size w W) => begun_any W (laid.below hW)
  by_cases hE : applyE r L = 0
  · rw [hE] at ha
    have hck := fun W (hW : Below w.heap.size w W) => checkD_any L v (r.length : Nat) W (hv.below hW)
    have hap := fun c => apply_parts r L c hE
    obtain ⟨ra, rc, rfl, hu1⟩ := hu
    have hu : VsAt w (.slice ra r.length rc) r := ⟨ra, rc, rfl, hu1⟩
    obtain ⟨va, vc, rfl, hvc, hvm, hv3⟩ := hv
    have hv : DsAt w (.slice va L.length vc) L := ⟨va, vc, rfl, hvc, hvm, hv3⟩
    have h4 : ∀ W x y, Own W w.heap.size x (applyL r L) → Own W w.heap.size y (applyL r L) → Calls Tryd.prog 7 #[x, y] W fun e w' => e = .returned (.bool true) ∧ Below W.heap.size W w' :=
      fun W x y hx hy => same_vals _ x y W (hx.vs hE) (hy.vs hE)
    by_cases hcut : cut < 0 ∨ (¬ cut < 0 ∧ (L.length : Int) < cut)
    · exact parts_out _ va L.length vc _ cut hcut w ha hb
    obtain ⟨c, rfl⟩ : ∃ c : Nat, cut = (c : Int) := ⟨cut.toNat, by omega⟩
    have hcl : c ≤ L.length := by omega
    have h3 : ∀ W, Below w.heap.size w W → Calls Tryd.prog 6 #[.int .i64 (r.length : Nat), .slice va L.length vc] W fun e w' => e = .returned (.tuple #[.int .i64 ((applyL r L).length : Nat), .int .i64 0]) ∧ Below W.heap.size W w' := by
      intro W hW
      have := hck W hW
      rw [(hap 0).2.2.2] at this
      exact this
    rcases Classical.em (L = []) with h0 | h0
    · subst h0
      obtain rfl : c = 0 := by simpa using hcl
      have hS : applyL r [] = r := by rw [applyL, if_pos hE]; rfl
      refine parts_nil ra r.length rc va vc (applyL r []) w ?_ hb h3 h4
      intro W x xa xn xc a' c' hc' hx hW hor
      have hd := DsAt.empty W a' c' (by rw [hc']; exact hvm)
      have key : ∀ y, VsAt W y r → (∀ ao cap, y = .slice ao 0 cap → ao = none → cap = 0) → Calls Tryd.prog 4 #[y, .slice a' 0 c'] W fun e w' => ∃ x, e = .returned (.tuple #[x, .int .i64 0]) ∧ Own w' W.heap.size x (applyL r []) ∧ Below W.heap.size W w' := by
        intro y h1 h2
        have := apply_any r [] y _ W h1 h2 hd (laid.below hW)
        rw [hE] at this
        exact this
      rcases hor with rfl | ho
      · exact key _ (hu.below hW) hz
      · have hvs := ho.vs hE
        have hno := ho.none
        rw [hS] at hvs
        exact key _ hvs hno
    · obtain ⟨g, o, hva, -⟩ := hv3.2.2 h0
      subst hva
      obtain ⟨A2, hA2⟩ : ∃ A2, (if vc = c then (some ⟨g, o, none⟩ : Option Addr) else some ⟨g, o + c * 6, none⟩) = some A2 := by split <;> exact ⟨_, rfl⟩
      obtain ⟨e1, e2, e3, -⟩ := hap c
      refine parts_in ra r.length rc g o L.length vc (applyL r (L.take c)) (applyL r L) c hcl hvc A2 hA2 w ha hb ?_ ?_ h3 h4
      · intro W hW
        have := apply_any r (L.take c) _ _ W (hu.below hW) hz ((hv.take c hcl).below hW) (laid.below hW)
        rw [e1] at this
        exact this
      · intro W x hW hx
        have hd := (hv.drop c hcl).below hW
        rw [hA2] at hd
        have := apply_any _ (L.drop c) x _ W (hx.vs e1) hx.none hd (laid.below hW)
        rw [e2, e3] at this
        exact this
  · have hS : applyL r L = [] := by rw [applyL, if_neg hE]
    rw [hS] at ha
    exact parts_err u v cut _ (by simpa using hE) (by simpa using hE) w ha hb

end Go.Proofs.YtkpeklealgicpacDoor
