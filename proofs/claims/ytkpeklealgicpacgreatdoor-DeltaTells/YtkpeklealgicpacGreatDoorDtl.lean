/-
  The law DeltaTells: its call.
-/
import Derived.Test.YtkpeklealgicpacGreatDoorRap
import Derived.Test.YtkpeklealgicpacGreatDoorRfa
import Derived.Test.YtkpeklealgicpacGreatDoorDbg
import Derived.Test.YtkpeklealgicpacGreatDoorOvs
namespace Go.Proofs.YtkpeklealgicpacGreatDoor
open Go.RowKit

set_option maxRecDepth 100000 in
set_option maxHeartbeats 3200000 in
theorem tellsD_0 (wd X : Int) (E1 : Nat) (ra va : Option Addr) (rn rc vn vc : Nat) (S : List Vl) (w : World)
    (h1 : Calls Tryz.prog 5 #[.int .i64 wd, .slice va vn vc] w fun e w' => e = .returned (.tuple #[.int .i64 X, .int .i64 (E1 : Nat)]) ∧ Below w.heap.size w w')
    (h2 : ∀ W, Below w.heap.size w W → Calls Tryz.prog 6 #[.slice ra rn rc, .slice va vn vc] W fun e w' => ∃ x, e = .returned (.tuple #[x, .int .i64 0]) ∧ Own w' W.heap.size x S ∧ Below W.heap.size W w')
    (h3 : ∀ W, Below w.heap.size w W → Calls Tryz.prog 7 #[.int .i64 wd, .slice va vn vc] W fun e w' => e = .returned (.tuple #[.int .i64 X, .int .i64 (E1 : Nat)]) ∧ Below W.heap.size W w')
    (h4 : ∀ W, Below w.heap.size w W → Calls Tryz.prog 8 #[.slice ra rn rc, .slice va vn vc] W fun e w' => e = .returned (.int .i64 0) ∧ Below W.heap.size W w')
    (h6 : ∀ W, Below w.heap.size w W → Calls Tryz.prog 9 #[.slice ra rn rc, .slice va vn vc] W fun e w' => ∃ x, e = .returned x ∧ Own w' W.heap.size x S ∧ Below W.heap.size W w')
    (hb : ∀ W, Below w.heap.size w W → Calls Tryz.prog 10 #[] W fun e w' => e = .returned (.bool true) ∧ Below W.heap.size W w')
    (hs : ∀ W x y, Own W w.heap.size x S → Own W w.heap.size y S → Calls Tryz.prog 11 #[x, y] W fun e w' => e = .returned (.bool true) ∧ Below W.heap.size W w') :
    Calls Tryz.prog 3 #[.int .i64 wd, .slice ra rn rc, .slice va vn vc] w fun e w' => e = .returned (.bool true) ∧ Below w.heap.size w w' := by
  have HS := hide hs
  clear hs
  go_enter Tryz.func3, Tryz.ntmps3
  go_wp2_with fail
  refine h1.mono ?_
  rintro e w1 ⟨rfl, b1⟩
  clear h1
  go_wp2_with fail
  refine (h2 _ b1).mono ?_
  rintro e w2 ⟨x, rfl, ox, b2⟩
  have OX := hide (Own.mono ox b1.size)
  obtain ⟨xa, xc, hx⟩ := owns_slice ox
  subst hx
  have q2 := b1.trans (b2.mono b1.size)
  clear h2 ox b1 b2
  go_wp2_with fail
  refine (h3 _ q2).mono ?_
  rintro e w3 ⟨rfl, b3⟩
  have OX3 := hide (OX.out.kept_below b3)
  have q3 := q2.trans (b3.mono q2.size)
  clear h3 q2 b3 OX
  go_wp2_with fail
  refine (h4 _ q3).mono ?_
  rintro e w4 ⟨rfl, b4⟩
  have OX4 := hide (OX3.out.kept_below b4)
  have q4 := q3.trans (b4.mono q3.size)
  clear h4 q3 b4 OX3
  go_wp2_with fail
  refine (h6 _ q4).mono ?_
  rintro e w5 ⟨y, rfl, oy, b5⟩
  have OX5 := hide (OX4.out.kept_below b5)
  have OY5 := hide (Own.mono oy q4.size)
  obtain ⟨ya, yc, hy⟩ := owns_slice oy
  subst hy
  have q5 := q4.trans (b5.mono q4.size)
  clear h6 q4 b5 OX4 oy
  go_wp2_with fail
  refine (hb _ q5).mono ?_
  rintro e w6 ⟨rfl, b6⟩
  have OX6 := hide (OX5.out.kept_below b6)
  have OY6 := hide (OY5.out.kept_below b6)
  have q6 := q5.trans (b6.mono q5.size)
  clear hb q5 b6 OX5 OY5
  go_wp2_with fail
  refine (HS.out _ _ _ OX6.out OY6.out).mono ?_
  rintro e w7 ⟨rfl, b7⟩
  have q7 := q6.trans (b7.mono q6.size)
  clear HS q6 b7 OX6 OY6
  go_wp2
  go_ret
  exact ⟨rfl, q7⟩

set_option maxRecDepth 100000 in
set_option maxHeartbeats 3200000 in
theorem tellsD_e (wd X : Int) (E1 E : Nat) (hE : ¬ (E : Int) = 0) (ra va : Option Addr) (rn rc vn vc : Nat) (w : World)
    (h1 : Calls Tryz.prog 5 #[.int .i64 wd, .slice va vn vc] w fun e w' => e = .returned (.tuple #[.int .i64 X, .int .i64 (E1 : Nat)]) ∧ Below w.heap.size w w')
    (h2 : ∀ W, Below w.heap.size w W → Calls Tryz.prog 6 #[.slice ra rn rc, .slice va vn vc] W fun e w' => ∃ x, e = .returned (.tuple #[x, .int .i64 (E : Nat)]) ∧ Own w' W.heap.size x [] ∧ Below W.heap.size W w')
    (h3 : ∀ W, Below w.heap.size w W → Calls Tryz.prog 7 #[.int .i64 wd, .slice va vn vc] W fun e w' => e = .returned (.tuple #[.int .i64 X, .int .i64 (E1 : Nat)]) ∧ Below W.heap.size W w')
    (h4 : ∀ W, Below w.heap.size w W → Calls Tryz.prog 8 #[.slice ra rn rc, .slice va vn vc] W fun e w' => e = .returned (.int .i64 (E : Nat)) ∧ Below W.heap.size W w')
    (hb : ∀ W, Below w.heap.size w W → Calls Tryz.prog 10 #[] W fun e w' => e = .returned (.bool true) ∧ Below W.heap.size W w')
    (hs : ∀ W x y, Own W w.heap.size x [] → Own W w.heap.size y [] → Calls Tryz.prog 11 #[x, y] W fun e w' => e = .returned (.bool true) ∧ Below W.heap.size W w') :
    Calls Tryz.prog 3 #[.int .i64 wd, .slice ra rn rc, .slice va vn vc] w fun e w' => e = .returned (.bool true) ∧ Below w.heap.size w w' := by
  have HS := hide hs
  clear hs
  go_enter Tryz.func3, Tryz.ntmps3
  go_wp2_with fail
  refine h1.mono ?_
  rintro e w1 ⟨rfl, b1⟩
  clear h1
  go_wp2_with fail
  refine (h2 _ b1).mono ?_
  rintro e w2 ⟨x, rfl, ox, b2⟩
  have OX := hide (Own.mono ox b1.size)
  obtain ⟨xa, xc, hx⟩ := owns_slice ox
  subst hx
  have q2 := b1.trans (b2.mono b1.size)
  clear h2 ox b1 b2
  go_wp2_with fail
  refine (h3 _ q2).mono ?_
  rintro e w3 ⟨rfl, b3⟩
  have OX3 := hide (OX.out.kept_below b3)
  have q3 := q2.trans (b3.mono q2.size)
  clear h3 q2 b3 OX
  go_wp2_with fail
  refine (h4 _ q3).mono ?_
  rintro e w4 ⟨rfl, b4⟩
  have OX4 := hide (OX3.out.kept_below b4)
  have q4 := q3.trans (b4.mono q3.size)
  clear h4 q3 b4 OX3
  go_wp2_with fail
  refine (hb _ q4).mono ?_
  rintro e w6 ⟨rfl, b6⟩
  have OX6 := hide (OX4.out.kept_below b6)
  have OY6 : Hid (Own w6 w.heap.size (.slice none 0 0) []) := World.ownsRow_nil _ _ _ _
  have q6 := q4.trans (b6.mono q4.size)
  clear hb q4 b6 OX4
  go_wp2_with fail
  refine (HS.out _ _ _ OX6.out OY6.out).mono ?_
  rintro e w7 ⟨rfl, b7⟩
  have q7 := q6.trans (b7.mono q6.size)
  clear HS q6 b7 OX6 OY6
  go_wp2
  go_ret
  exact ⟨rfl, q7⟩

theorem ownE_vs {w : World} {B : Nat} {x : Value} (h : Own w B x []) : VsAt w x [] := vs_of_own h (by decide) (by intro y hy; cases hy)

theorem tellsD_any (wd : Int) (r : List Vl) (L : List Dl) (u v : Value) (w : World) (hu : VsAt w u r) (hz : ∀ ao cap, u = .slice ao 0 cap → ao = none → cap = 0) (hv : DsAt w v L) (laid : Laid w) :
    Calls Tryz.prog 3 #[.int .i64 wd, u, v] w fun e w' => e = .returned (.bool true) ∧ Below w.heap.size w w' := by
  have h1 := checkD_any L v wd w hv
  have h2 := fun W (hW : Below w.heap.size w W) => apply_any r L u v W (hu.below hW) hz (hv.below hW) (laid.below hW)
  have h3 := fun W (hW : Below w.heap.size w W) => rckd_any L v wd W (hv.below hW)
  have h4 := fun W (hW : Below w.heap.size w W) => rca_any r L u v W (hu.below hW) (hv.below hW)
  have hb := fun W (hW : Below w.heap.size w W) => begun_any W (laid.below hW)
  by_cases hE : applyE r L = 0
  · have h6 := fun W (hW : Below w.heap.size w W) => rap_any r L u v W (hu.below hW) hz (hv.below hW) hE
    have eL : applyL r L = L.foldl rowB r := by rw [applyL, if_pos hE]
    simp only [hE, eL] at h2 h4
    obtain ⟨ra, rc, rfl, -⟩ := hu
    obtain ⟨va, vc, rfl, -⟩ := hv
    refine tellsD_0 wd _ _ ra va _ rc _ vc _ w h1 h2 h3 h4 h6 hb ?_
    intro W x y hx hy
    rw [← eL] at hx hy
    exact same_vals _ x y W (hx.vs hE) (hy.vs hE)
  · have eL : applyL r L = [] := by rw [applyL, if_neg hE]
    simp only [eL] at h2
    obtain ⟨ra, rc, rfl, -⟩ := hu
    obtain ⟨va, vc, rfl, -⟩ := hv
    refine tellsD_e wd _ _ _ (by simpa using hE) ra va _ rc _ vc w h1 h2 h3 h4 hb ?_
    intro W x y hx hy
    exact same_vals [] x y W (ownE_vs hx) (ownE_vs hy)

end Go.Proofs.YtkpeklealgicpacGreatDoor
