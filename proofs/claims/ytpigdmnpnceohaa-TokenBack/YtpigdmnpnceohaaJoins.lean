/-
  The law TokenJoins: its call.
-/
import Derived.Test.YtpigdmnpnceohaaOpen
namespace Go.Proofs.Ytpigdmnpnceohaa
open Go.RowKit

/-- a slice of tokens, wherever it lies -/
def IsToks (w : World) (v : Value) (L : List Tk) : Prop :=
  ∃ ao cap, v = .slice ao L.length cap ∧ L.length * 32 ≤ 140737488355328 ∧ (∀ y ∈ L, y.t.length ≤ 9223372036854775000) ∧ (L ≠ [] → ∃ g o, ao = some ⟨g, o, none⟩ ∧ g < w.heap.size ∧ TokRow w g o L.length L)

theorem IsToks.below {w w' : World} {v : Value} {L : List Tk} (h : IsToks w v L) (hb : Below w.heap.size w w') : IsToks w' v L := by
  obtain ⟨ao, cap, hv, h1, h2, h3⟩ := h
  refine ⟨ao, cap, hv, h1, h2, fun hL => ?_⟩
  obtain ⟨g, o, ha, hg, ht⟩ := h3 hL
  exact ⟨g, o, ha, Nat.lt_of_lt_of_le hg hb.size, tokRow_below ht hb hg⟩

theorem join_any (v : Value) (L : List Tk) (w : World) (h : IsToks w v L) :
    Calls Try.prog 11 #[v] w fun e w' => e = .returned (.tuple #[.string ⟨(joinS L).1.toArray⟩, .int .i64 ((joinS L).2 : Nat)]) ∧ Below w.heap.size w w' := by
  obtain ⟨ao, cap, rfl, h1, h2, h3⟩ := h
  by_cases hL : L = []
  · subst hL; exact join_none ao cap w
  · obtain ⟨g, o, rfl, hg, ht⟩ := h3 hL
    exact join_some g o L.length cap L w (List.length_pos_iff.2 hL) h1 hg ht h2

theorem joinOf_any (v : Value) (L : List Tk) (w : World) (h : IsToks w v L) :
    Calls Try.prog 12 #[v] w fun e w' => e = .returned (.tuple #[.string ⟨(joinS L).1.toArray⟩, .int .i64 ((joinS L).2 : Nat)]) ∧ Below w.heap.size w w' := by
  obtain ⟨ao, cap, rfl, h1, h2, h3⟩ := h
  by_cases hL : L = []
  · subst hL; exact joinOf_none ao cap w
  · obtain ⟨g, o, rfl, hg, ht⟩ := h3 hL
    exact joinOf_some g o L.length cap L w h1 hg ht h2

set_option maxHeartbeats 800000 in
theorem joins_any (v : Value) (L : List Tk) (w : World) (h : IsToks w v L) : Calls Try.prog 4 #[v] w fun e w' => e = .returned (.bool true) ∧ Below w.heap.size w w' := by
  obtain ⟨ao, cap, hv⟩ : ∃ ao cap, v = .slice ao L.length cap := by obtain ⟨ao, cap, hv, _⟩ := h; exact ⟨ao, cap, hv⟩
  subst hv
  obtain ⟨S, E, hr⟩ : ∃ S E, joinS L = (S, E) := ⟨_, _, rfl⟩
  have h1 := join_any _ L w h
  have h2 := fun W hW => joinOf_any _ L W (h.below (w' := W) hW)
  rw [hr] at h1 h2
  have H := hide h
  clear hr h
  go_enter Try.func4, Try.ntmps4
  go_wp2_with (first | (go_at_call 11; refine h1.mono ?_; rintro e w1 ⟨rfl, hb1⟩) | (go_at_call 12; refine (h2 _ hb1).mono ?_; rintro e w2 ⟨rfl, hb2⟩) | (go_at_call 9; refine (begun_any _).mono ?_; rintro e w3 ⟨rfl, hb3⟩))
  go_ret
  exact ⟨rfl, hb1.trans ((hb2.mono hb1.size).trans (hb3.mono (by have := hb1.size; have := hb2.size; omega)))⟩

end Go.Proofs.Ytpigdmnpnceohaa
