/-
  The law DeltaParts, whole.
-/
import Derived.Test.YtkpeklealgicpacDoorDpi
namespace Go.Proofs.YtkpeklealgicpacDoor
open Go.RowKit

set_option maxRecDepth 100000 in
set_option maxHeartbeats 3200000 in
theorem parts_nil (ra : Option Addr) (rn rc : Nat) (ao : Option Addr) (cap : Nat) (S : List Vl) (w : World)
    (h1 : ∀ W x xa xn xc a' c', c' = cap → x = .slice xa xn xc → Below w.heap.size w W → (x = .slice ra rn rc ∨ Own W w.heap.size x S) → Calls Tryd.prog 4 #[x, .slice a' 0 c'] W fun e w' => ∃ x, e = .returned (.tuple #[x, .int .i64 0]) ∧ Own w' W.heap.size x S ∧ Below W.heap.size W w')
    (hb : ∀ W, Below w.heap.size w W → Calls Tryd.prog 5 #[] W fun e w' => e = .returned (.bool true) ∧ Below W.heap.size W w')
    (h3 : ∀ W, Below w.heap.size w W → Calls Tryd.prog 6 #[.int .i64 (rn : Nat), .slice ao 0 cap] W fun e w' => e = .returned (.tuple #[.int .i64 (S.length : Nat), .int .i64 0]) ∧ Below W.heap.size W w')
    (h4 : ∀ W x y, Own W w.heap.size x S → Own W w.heap.size y S → Calls Tryd.prog 7 #[x, y] W fun e w' => e = .returned (.bool true) ∧ Below W.heap.size W w') :
    Calls Tryd.prog 3 #[.slice ra rn rc, .slice ao 0 cap, .int .i64 0] w fun e w' => e = .returned (.bool true) ∧ Below w.heap.size w w' := by
  have H1 := hide h1
  have H4 := hide h4
  clear h1 h4
  go_enter Tryd.func3, Tryd.ntmps3
  go_wp2_with fail
  refine (H1.out _ _ ra rn rc _ _ rfl rfl (Below.refl _ _) (.inl rfl)).mono ?_
  rintro e w1 ⟨x, rfl, ox, b1⟩
  obtain ⟨xa, xc, hx⟩ := owns_slice ox
  subst hx
  have OX1 := hide ox
  clear ox
  go_wp2_with fail
  refine (hb _ b1).mono ?_
  rintro e w2 ⟨rfl, b2⟩
  have OX2 := hide (OX1.out.kept_below b2)
  have q2 := b1.trans (b2.mono b1.size)
  clear hb b1 b2 OX1
  cases ao with
  | none =>
    go_wp2_with fail
    refine (H1.out _ _ ra rn rc _ _ (by simp) rfl q2 (.inl rfl)).mono ?_
    rintro e w3 ⟨a, rfl, oa, b3⟩
    have OX3 := hide (OX2.out.kept_below b3)
    have OA := hide (Own.mono oa q2.size)
    obtain ⟨aa, ac, hav⟩ := owns_slice oa
    subst hav
    have q3 := q2.trans (b3.mono q2.size)
    clear b3 q2 oa OX2
    go_wp2_with fail
    refine (H1.out _ _ aa _ ac _ _ (by simp) rfl q3 (.inr OA.out)).mono ?_
    rintro e w4 ⟨b, rfl, ob, b4⟩
    have OX4 := hide (OX3.out.kept_below b4)
    have OB4 := hide (Own.mono ob q3.size)
    obtain ⟨ba, bc, hbv⟩ := owns_slice ob
    subst hbv
    have q4 := q3.trans (b4.mono q3.size)
    clear b4 q3 ob OX3 OA
    go_wp2_with fail
    refine (h3 _ q4).mono ?_
    rintro e w5 ⟨rfl, b5⟩
    have OX5 := hide (OX4.out.kept_below b5)
    have OB5 := hide (OB4.out.kept_below b5)
    have q5 := q4.trans (b5.mono q4.size)
    clear h3 b5 q4 OX4 OB4
    go_wp2_with fail
    refine (H4.out _ _ _ OB5.out OX5.out).mono ?_
    rintro e w6 ⟨rfl, b6⟩
    have q6 := q5.trans (b6.mono q5.size)
    clear H4 b6 q5 OX5 OB5
    go_wp2
    go_ret
    exact ⟨rfl, q6⟩
  | some ad =>
    go_wp2_with fail
    refine (H1.out _ _ ra rn rc _ _ (by simp) rfl q2 (.inl rfl)).mono ?_
    rintro e w3 ⟨a, rfl, oa, b3⟩
    have OX3 := hide (OX2.out.kept_below b3)
    have OA := hide (Own.mono oa q2.size)
    obtain ⟨aa, ac, hav⟩ := owns_slice oa
    subst hav
    have q3 := q2.trans (b3.mono q2.size)
    clear b3 q2 oa OX2
    go_wp2_with fail
    refine (H1.out _ _ aa _ ac _ _ (by simp) rfl q3 (.inr OA.out)).mono ?_
    rintro e w4 ⟨b, rfl, ob, b4⟩
    have OX4 := hide (OX3.out.kept_below b4)
    have OB4 := hide (Own.mono ob q3.size)
    obtain ⟨ba, bc, hbv⟩ := owns_slice ob
    subst hbv
    have q4 := q3.trans (b4.mono q3.size)
    clear b4 q3 ob OX3 OA
    go_wp2_with fail
    refine (h3 _ q4).mono ?_
    rintro e w5 ⟨rfl, b5⟩
    have OX5 := hide (OX4.out.kept_below b5)
    have OB5 := hide (OB4.out.kept_below b5)
    have q5 := q4.trans (b5.mono q4.size)
    clear h3 b5 q4 OX4 OB4
    go_wp2_with fail
    refine (H4.out _ _ _ OB5.out OX5.out).mono ?_
    rintro e w6 ⟨rfl, b6⟩
    have q6 := q5.trans (b6.mono q5.size)
    clear H4 b6 q5 OX5 OB5
    go_wp2
    go_ret
    exact ⟨rfl, q6⟩

end Go.Proofs.YtkpeklealgicpacDoor
