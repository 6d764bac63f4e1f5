/-
  The law DeltaParts: its call.
-/
import Derived.Test.YtkpeklealgicpacDoorDbg
namespace Go.Proofs.YtkpeklealgicpacDoor
open Go.RowKit

theorem DsAt.take {w : World} {ao : Option Addr} {n cap : Nat} {L : List Dl} (h : DsAt w (.slice ao n cap) L) (c : Nat) (hc : c ≤ n) : DsAt w (.slice ao c cap) (L.take c) := by
  obtain ⟨bo, cb, e, h1, h2, h3, h4, h5⟩ := h
  cases e
  have hl : (L.take c).length = c := by rw [List.length_take]; omega
  refine ⟨ao, cap, by rw [hl], by rw [hl]; omega, h2, by rw [hl]; omega, fun x hx => h4 x (List.mem_of_mem_take hx), fun hn => ?_⟩
  obtain ⟨g, o, e, hg, hcc⟩ := h5 (by intro e; rw [e] at hn; simp at hn)
  refine ⟨g, o, e, hg, fun i x hx => hcc i x ?_⟩
  rw [List.getElem?_take] at hx
  split at hx
  · exact hx
  · cases hx

/-- what lies behind a place -/
theorem DsAt.drop {w : World} {g o n cap : Nat} {L : List Dl} (h : DsAt w (.slice (some ⟨g, o, none⟩) n cap) L) (c : Nat) (hc : c ≤ n) : DsAt w (.slice (if cap = c then some ⟨g, o, none⟩ else some ⟨g, o + c * 6, none⟩) (n - c) (cap - c)) (L.drop c) := by
  obtain ⟨bo, cb, e, h1, h2, h3, h4, h5⟩ := h
  cases e
  have hl : (L.drop c).length = L.length - c := List.length_drop
  refine ⟨_, cap - c, by rw [hl], by rw [hl]; omega, by omega, by rw [hl]; omega, fun x hx => h4 x (List.mem_of_mem_drop hx), fun hn => ?_⟩
  have hne : L ≠ [] := by intro e; rw [e] at hn; simp at hn
  have hlt : c < L.length := by
    rcases Nat.lt_or_ge c L.length with h | h
    · exact h
    · exact absurd (List.drop_eq_nil_of_le h) hn
  obtain ⟨g', o', e, hg, hcc⟩ := h5 hne
  cases e
  refine ⟨g, o + c * 6, by rw [if_neg (by omega)], hg, fun i x hx => ?_⟩
  rw [List.getElem?_drop] at hx
  have := hcc (c + i) x hx
  rw [show o + c * 6 + i * 6 = o + (c + i) * 6 by omega]
  exact this

theorem DsAt.empty (w : World) (ao : Option Addr) (cap : Nat) (h : cap ≤ 9223372036854775807) : DsAt w (.slice ao 0 cap) [] :=
  ⟨ao, cap, rfl, Nat.zero_le _, h, by decide, (by intro x hx; cases hx), fun h => absurd rfl h⟩

set_option maxRecDepth 100000 in
set_option maxHeartbeats 1600000 in
theorem parts_err (u v : Value) (cut : Int) (E : Nat) (hE : ((E : Int) != 0) = true) (hE0 : ¬ (E : Int) = 0) (w : World)
    (ha : Calls Tryd.prog 4 #[u, v] w fun e w' => ∃ x, e = .returned (.tuple #[x, .int .i64 (E : Nat)]) ∧ Own w' w.heap.size x [] ∧ Below w.heap.size w w')
    (hb : ∀ W, Below w.heap.size w W → Calls Tryd.prog 5 #[] W fun e w' => e = .returned (.bool true) ∧ Below W.heap.size W w') :
    Calls Tryd.prog 3 #[u, v, .int .i64 cut] w fun e w' => e = .returned (.bool true) ∧ Below w.heap.size w w' := by
  go_enter Tryd.func3, Tryd.ntmps3
  go_wp2_with fail
  refine ha.mono ?_
  rintro e w1 ⟨x, rfl, ox, b1⟩
  obtain ⟨xa, xc, hx⟩ := owns_slice ox
  subst hx
  clear ha ox
  go_wp2_with fail
  refine (hb _ b1).mono ?_
  rintro e w2 ⟨rfl, b2⟩
  have q2 := b1.trans (b2.mono b1.size)
  clear hb b1 b2
  go_wp2
  go_ret
  exact ⟨rfl, q2⟩

set_option maxRecDepth 100000 in
set_option maxHeartbeats 1600000 in
theorem parts_out (u : Value) (ao : Option Addr) (n cap : Nat) (S : List Vl) (cut : Int) (hc : cut < 0 ∨ (¬ cut < 0 ∧ (n : Int) < cut)) (w : World)
    (ha : Calls Tryd.prog 4 #[u, .slice ao n cap] w fun e w' => ∃ x, e = .returned (.tuple #[x, .int .i64 0]) ∧ Own w' w.heap.size x S ∧ Below w.heap.size w w')
    (hb : ∀ W, Below w.heap.size w W → Calls Tryd.prog 5 #[] W fun e w' => e = .returned (.bool true) ∧ Below W.heap.size W w') :
    Calls Tryd.prog 3 #[u, .slice ao n cap, .int .i64 cut] w fun e w' => e = .returned (.bool true) ∧ Below w.heap.size w w' := by
  rcases hc with hc | ⟨hc, hc'⟩
  all_goals
    go_enter Tryd.func3, Tryd.ntmps3
    go_wp2_with fail
    refine ha.mono ?_
    rintro e w1 ⟨x, rfl, ox, b1⟩
    obtain ⟨xa, xc, hx⟩ := owns_slice ox
    subst hx
    clear ha ox
    go_wp2_with fail
    refine (hb _ b1).mono ?_
    rintro e w2 ⟨rfl, b2⟩
    have q2 := b1.trans (b2.mono b1.size)
    clear hb b1 b2
    go_wp2
    go_ret
    exact ⟨rfl, q2⟩

end Go.Proofs.YtkpeklealgicpacDoor
