/-
  The law DeltaParts: where the deltas are cut.
-/
import Derived.Test.YtkpeklealgicpacDoorDpl
namespace Go.Proofs.YtkpeklealgicpacDoor
open Go.RowKit

set_option maxRecDepth 100000 in
set_option maxHeartbeats 3200000 in
theorem parts_in (ra : Option Addr) (rn rc : Nat) (g o n cap : Nat) (A S : List Vl) (c : Nat) (hc : c ≤ n) (hn : n ≤ cap) (A2 : Addr) (hA2 : (if cap = c then (some ⟨g, o, none⟩ : Option Addr) else some ⟨g, o + c * 6, none⟩) = some A2) (w : World)
    (ha : Calls Tryd.prog 4 #[.slice ra rn rc, .slice (some ⟨g, o, none⟩) n cap] w fun e w' => ∃ x, e = .returned (.tuple #[x, .int .i64 0]) ∧ Own w' w.heap.size x S ∧ Below w.heap.size w w')
    (hb : ∀ W, Below w.heap.size w W → Calls Tryd.prog 5 #[] W fun e w' => e = .returned (.bool true) ∧ Below W.heap.size W w')
    (h1 : ∀ W, Below w.heap.size w W → Calls Tryd.prog 4 #[.slice ra rn rc, .slice (some ⟨g, o, none⟩) c cap] W fun e w' => ∃ x, e = .returned (.tuple #[x, .int .i64 0]) ∧ Own w' W.heap.size x A ∧ Below W.heap.size W w')
    (h2 : ∀ W x, Below w.heap.size w W → Own W w.heap.size x A → Calls Tryd.prog 4 #[x, .slice (some A2) (n - c) (cap - c)] W fun e w' => ∃ x, e = .returned (.tuple #[x, .int .i64 0]) ∧ Own w' W.heap.size x S ∧ Below W.heap.size W w')
    (h3 : ∀ W, Below w.heap.size w W → Calls Tryd.prog 6 #[.int .i64 (rn : Nat), .slice (some ⟨g, o, none⟩) n cap] W fun e w' => e = .returned (.tuple #[.int .i64 (S.length : Nat), .int .i64 0]) ∧ Below W.heap.size W w')
    (h4 : ∀ W x y, Own W w.heap.size x S → Own W w.heap.size y S → Calls Tryd.prog 7 #[x, y] W fun e w' => e = .returned (.bool true) ∧ Below W.heap.size W w') :
    Calls Tryd.prog 3 #[.slice ra rn rc, .slice (some ⟨g, o, none⟩) n cap, .int .i64 (c : Nat)] w fun e w' => e = .returned (.bool true) ∧ Below w.heap.size w w' := by
  have hc' : ¬ (n : Int) < (c : Int) := by omega
  have hcc : c ≤ cap := by omega
  have H2 := hide h2
  have H4 := hide h4
  clear h2 h4
  go_enter Tryd.func3, Tryd.ntmps3
  go_wp2_with fail
  refine ha.mono ?_
  rintro e w1 ⟨x, rfl, ox, b1⟩
  obtain ⟨xa, xc, hx⟩ := owns_slice ox
  subst hx
  have OX1 := hide ox
  clear ha ox
  go_wp2_with fail
  refine (hb _ b1).mono ?_
  rintro e w2 ⟨rfl, b2⟩
  have OX2 := hide (OX1.out.kept_below b2)
  have q2 := b1.trans (b2.mono b1.size)
  clear hb b1 b2 OX1
  go_wp2_with fail
  refine (h1 _ q2).mono ?_
  rintro e w3 ⟨a, rfl, oa, b3⟩
  have OX3 := hide (OX2.out.kept_below b3)
  have OA := hide (Own.mono oa q2.size)
  obtain ⟨aa, ac, hav⟩ := owns_slice oa
  subst hav
  have q3 := q2.trans (b3.mono q2.size)
  clear h1 b3 q2 oa OX2
  go_wp2_with fail
  refine (H2.out _ _ q3 OA.out).mono ?_
  rintro e w4 ⟨b, rfl, ob, b4⟩
  have OX4 := hide (OX3.out.kept_below b4)
  have OB4 := hide (Own.mono ob q3.size)
  obtain ⟨ba, bc, hbv⟩ := owns_slice ob
  subst hbv
  have q4 := q3.trans (b4.mono q3.size)
  clear H2 b4 q3 ob OX3 OA
  go_wp2_with fail
  refine (h3 _ q4).mono ?_
  rintro e w5 ⟨rfl, b5⟩
  have OX5 := hide (OX4.out.kept_below b5)
  have OB5 := hide (OB4.out.kept_below b5)
  have q5 := q4.trans (b5.mono q4.size)
  clear h3 b5 q4 OX4 OB4
  go_wp2_with fail
  refine (H4.out _ _ _ OB5.out OX5.out).mono ?_
  rintro e w6 ⟨rfl, b6⟩
  have q6 := q5.trans (b6.mono q5.size)
  clear H4 b6 q5 OX5 OB5
  go_wp2
  go_ret
  exact ⟨rfl, q6⟩

end Go.Proofs.YtkpeklealgicpacDoor
