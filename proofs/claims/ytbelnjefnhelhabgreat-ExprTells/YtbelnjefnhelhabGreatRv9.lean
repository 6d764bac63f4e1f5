/-
  The document's ValueOf: its region with all the truths.
-/
import Derived.Test.YtbelnjefnhelhabGreatPrl
namespace Go.Proofs.YtbelnjefnhelhabGreat
open Go.RowKit

theorem fv0 (W : World) (b : Nat) : (Instr.fieldAt 25 (.pointer (some ⟨b, 0, none⟩)) 0).run Tryz.prog W = .ok (.pointer (some ⟨b, 0, none⟩)) W := by go_simp
theorem fv1 (W : World) (b : Nat) : (Instr.fieldAt 25 (.pointer (some ⟨b, 0, none⟩)) 1).run Tryz.prog W = .ok (.pointer (some ⟨b, 1, none⟩)) W := by go_simp

def rv9_b53 (a _b : Vl) : Bool := ((decide (a.k = 3)) && (decide (a.n = 0)))
def rv9_b63 (a b : Vl) : Bool := ((rv9_b53 a b) || ((decide (b.k = 3)) && (decide (b.n = 0))))
def rv9_b71 (a _b : Vl) : Bool := ((decide (a.k = 3)) && (decide (a.n = 1)))
def rv9_b81 (a b : Vl) : Bool := ((rv9_b71 a b) || ((decide (b.k = 3)) && (decide (b.n = 1))))
noncomputable def rv9_R : Array Oper := ((Tryz.f11.body).bind (regionOf 9)).getD #[]
def rv9_V (a b : Vl) (ba bb : Nat) (j : Nat) : Value := ([.pointer (some ⟨ba, 0, none⟩), .int .i64 a.k, .bool (decide (a.k = 3)), .bool (decide (a.k = 3)), gw ((decide (a.k = 3)) == true) (.pointer (some ⟨ba, 1, none⟩)), gw ((decide (a.k = 3)) == true) (.int .i64 a.n), gw ((decide (a.k = 3)) == true) (.bool (decide (a.n = 0))), .bool (rv9_b53 a b), .bool (rv9_b53 a b), gw ((rv9_b53 a b) == false) (.pointer (some ⟨bb, 0, none⟩)), gw ((rv9_b53 a b) == false) (.int .i64 b.k), gw ((rv9_b53 a b) == false) (.bool (decide (b.k = 3))), gw ((rv9_b53 a b) == false) (.bool (decide (b.k = 3))), gw (((rv9_b53 a b) == false) && ((decide (b.k = 3)) == true)) (.pointer (some ⟨bb, 1, none⟩)), gw (((rv9_b53 a b) == false) && ((decide (b.k = 3)) == true)) (.int .i64 b.n), gw (((rv9_b53 a b) == false) && ((decide (b.k = 3)) == true)) (.bool (decide (b.n = 0))), gw ((rv9_b53 a b) == false) (.bool ((decide (b.k = 3)) && (decide (b.n = 0)))), .bool (rv9_b63 a b), .pointer (some ⟨ba, 0, none⟩), .int .i64 a.k, .bool (decide (a.k = 3)), .bool (decide (a.k = 3)), gw ((decide (a.k = 3)) == true) (.pointer (some ⟨ba, 1, none⟩)), gw ((decide (a.k = 3)) == true) (.int .i64 a.n), gw ((decide (a.k = 3)) == true) (.bool (decide (a.n = 1))), .bool (rv9_b71 a b), .bool (rv9_b71 a b), gw ((rv9_b71 a b) == false) (.pointer (some ⟨bb, 0, none⟩)), gw ((rv9_b71 a b) == false) (.int .i64 b.k), gw ((rv9_b71 a b) == false) (.bool (decide (b.k = 3))), gw ((rv9_b71 a b) == false) (.bool (decide (b.k = 3))), gw (((rv9_b71 a b) == false) && ((decide (b.k = 3)) == true)) (.pointer (some ⟨bb, 1, none⟩)), gw (((rv9_b71 a b) == false) && ((decide (b.k = 3)) == true)) (.int .i64 b.n), gw (((rv9_b71 a b) == false) && ((decide (b.k = 3)) == true)) (.bool (decide (b.n = 1))), gw ((rv9_b71 a b) == false) (.bool ((decide (b.k = 3)) && (decide (b.n = 1)))), .bool (rv9_b81 a b), .bool (rv9_b63 a b), .bool (rv9_b81 a b)] : List Value).getD j undef
def rv9_d : List (Option Tmp) := [some 46, some 47, some 48, some 49, some 50, some 51, some 52, some 53, some 54, some 55, some 56, some 57, some 58, some 59, some 60, some 61, some 62, some 63, some 64, some 65, some 66, some 67, some 68, some 69, some 70, some 71, some 72, some 73, some 74, some 75, some 76, some 77, some 78, some 79, some 80, some 81, some 9, some 10]
set_option maxRecDepth 100000 in
theorem rv9_nodup : rv9_d.Nodup := by unfold rv9_d; decide

set_option maxRecDepth 100000 in
theorem rv9_wp {a b : Vl} {ba bb : Nat} {S : World → Prop} {a0 : Act} {Q : Exit → Act → World → Prop} {w : World} (h7 : a0.tmps[7]? = some (.pointer (some ⟨ba, 0, none⟩))) (h8 : a0.tmps[8]? = some (.pointer (some ⟨bb, 0, none⟩))) (hca : ∀ W, S W → W.cell? ⟨ba, 0, none⟩ = some (.int .i64 a.k) ∧ W.cell? ⟨ba, 1, none⟩ = some (.int .i64 a.n)) (hcb : ∀ W, S W → W.cell? ⟨bb, 0, none⟩ = some (.int .i64 b.k) ∧ W.cell? ⟨bb, 1, none⟩ = some (.int .i64 b.n)) (ha : a0.tmps.size = 180) (hS : S w.drew)
    (hq : ∀ w', S w' → Q .normal { tmps := (putL a0.tmps.toList (rv9_d.zip ((List.range 38).map (rv9_V a b ba bb)))).toArray, defers := a0.defers } w') : (Code.region 9 rv9_R true).wp Tryz.prog Q a0 w := by
  have hz : rv9_R.size = 38 := by kernel_rfl
  refine wp_run (m := 180) (by kernel_rfl) hz (by kernel_rfl) (by kernel_rfl) rv9_nodup ha ?_ hS hq
  refine us ?_ (obRU hz (by decide) (by kernel_rfl) fun _ _ s _ => ex_assign (x := .tmp 81) (by kernel_rfl) (s.u 35 81 (by kernel_rfl)))
  refine us ?_ (obRU hz (by decide) (by kernel_rfl) fun _ _ s _ => ex_assign (x := .tmp 63) (by kernel_rfl) (s.u 17 63 (by kernel_rfl)))
  refine us ?_ (obRU hz (by decide) (by kernel_rfl) fun _ _ s _ => ex_pickO (G := true) (by kernel_rfl) (s.u 26 72 (by kernel_rfl)) (s.u 34 80 (by kernel_rfl)) rfl rfl)
  refine us ?_ (obRG true 26 72 false hz (by decide) (by kernel_rfl) rfl rfl fun hG _ _ s _ => ex_pickA (by kernel_rfl) (s.g 30 76 (by kernel_rfl) hG rfl) (s.u 33 79 (by kernel_rfl)) rfl hG)
  refine us ?_ (obRG _ 30 76 true hz (by decide) (by kernel_rfl) rfl rfl fun hG _ W s _ => ex_bin (u := 3) (x := .tmp 78) (y := .const (.int .i64 1)) (by kernel_rfl) (s.g 32 78 (by kernel_rfl) hG rfl) (rfl) (eq3c W _ _ _ _))
  refine us ?_ (obRG _ 30 76 true hz (by decide) (by kernel_rfl) rfl rfl fun hG _ W s hS => ex_load (x := .tmp 77) (t := 3) (by kernel_rfl) (s.g 31 77 (by kernel_rfl) hG rfl) (ld3 W _ 1 _ ((hcb W hS).2)))
  refine us ?_ (obRG _ 30 76 true hz (by decide) (by kernel_rfl) rfl rfl fun _ _ W s _ => ex_field (x := .tmp 8) (t := 25) (f := 1) (by kernel_rfl) (s.b 8 (by kernel_rfl) h8) (fv1 W _))
  refine us ?_ (obRG true 26 72 false hz (by decide) (by kernel_rfl) rfl rfl fun hG _ _ s _ => ex_move (x := .tmp 75) (by kernel_rfl) (s.g 29 75 (by kernel_rfl) hG rfl))
  refine us ?_ (obRG true 26 72 false hz (by decide) (by kernel_rfl) rfl rfl fun hG _ W s _ => ex_bin (u := 3) (x := .tmp 74) (y := .const (.int .i64 3)) (by kernel_rfl) (s.g 28 74 (by kernel_rfl) hG rfl) (rfl) (eq3c W _ _ _ _))
  refine us ?_ (obRG true 26 72 false hz (by decide) (by kernel_rfl) rfl rfl fun hG _ W s hS => ex_load (x := .tmp 73) (t := 3) (by kernel_rfl) (s.g 27 73 (by kernel_rfl) hG rfl) (ld3 W _ 0 _ ((hcb W hS).1)))
  refine us ?_ (obRG true 26 72 false hz (by decide) (by kernel_rfl) rfl rfl fun _ _ W s _ => ex_field (x := .tmp 8) (t := 25) (f := 0) (by kernel_rfl) (s.b 8 (by kernel_rfl) h8) (fv0 W _))
  refine us ?_ (obRU hz (by decide) (by kernel_rfl) fun _ _ s _ => ex_move (x := .tmp 71) (by kernel_rfl) (s.u 25 71 (by kernel_rfl)))
  refine us ?_ (obRU hz (by decide) (by kernel_rfl) fun _ _ s _ => ex_pickA (G := true) (by kernel_rfl) (s.u 21 67 (by kernel_rfl)) (s.u 24 70 (by kernel_rfl)) rfl rfl)
  refine us ?_ (obRG true 21 67 true hz (by decide) (by kernel_rfl) rfl rfl fun hG _ W s _ => ex_bin (u := 3) (x := .tmp 69) (y := .const (.int .i64 1)) (by kernel_rfl) (s.g 23 69 (by kernel_rfl) hG rfl) (rfl) (eq3c W _ _ _ _))
  refine us ?_ (obRG true 21 67 true hz (by decide) (by kernel_rfl) rfl rfl fun hG _ W s hS => ex_load (x := .tmp 68) (t := 3) (by kernel_rfl) (s.g 22 68 (by kernel_rfl) hG rfl) (ld3 W _ 1 _ ((hca W hS).2)))
  refine us ?_ (obRG true 21 67 true hz (by decide) (by kernel_rfl) rfl rfl fun _ _ W s _ => ex_field (x := .tmp 7) (t := 25) (f := 1) (by kernel_rfl) (s.b 7 (by kernel_rfl) h7) (fv1 W _))
  refine us ?_ (obRU hz (by decide) (by kernel_rfl) fun _ _ s _ => ex_move (x := .tmp 66) (by kernel_rfl) (s.u 20 66 (by kernel_rfl)))
  refine us ?_ (obRU hz (by decide) (by kernel_rfl) fun _ W s _ => ex_bin (u := 3) (x := .tmp 65) (y := .const (.int .i64 3)) (by kernel_rfl) (s.u 19 65 (by kernel_rfl)) (rfl) (eq3c W _ _ _ _))
  refine us ?_ (obRU hz (by decide) (by kernel_rfl) fun _ W s hS => ex_load (x := .tmp 64) (t := 3) (by kernel_rfl) (s.u 18 64 (by kernel_rfl)) (ld3 W _ 0 _ ((hca W hS).1)))
  refine us ?_ (obRU hz (by decide) (by kernel_rfl) fun _ W s _ => ex_field (x := .tmp 7) (t := 25) (f := 0) (by kernel_rfl) (s.b 7 (by kernel_rfl) h7) (fv0 W _))
  refine us ?_ (obRU hz (by decide) (by kernel_rfl) fun _ _ s _ => ex_pickO (G := true) (by kernel_rfl) (s.u 8 54 (by kernel_rfl)) (s.u 16 62 (by kernel_rfl)) rfl rfl)
  refine us ?_ (obRG true 8 54 false hz (by decide) (by kernel_rfl) rfl rfl fun hG _ _ s _ => ex_pickA (by kernel_rfl) (s.g 12 58 (by kernel_rfl) hG rfl) (s.u 15 61 (by kernel_rfl)) rfl hG)
  refine us ?_ (obRG _ 12 58 true hz (by decide) (by kernel_rfl) rfl rfl fun hG _ W s _ => ex_bin (u := 3) (x := .tmp 60) (y := .const (.int .i64 0)) (by kernel_rfl) (s.g 14 60 (by kernel_rfl) hG rfl) (rfl) (eq3c W _ _ _ _))
  refine us ?_ (obRG _ 12 58 true hz (by decide) (by kernel_rfl) rfl rfl fun hG _ W s hS => ex_load (x := .tmp 59) (t := 3) (by kernel_rfl) (s.g 13 59 (by kernel_rfl) hG rfl) (ld3 W _ 1 _ ((hcb W hS).2)))
  refine us ?_ (obRG _ 12 58 true hz (by decide) (by kernel_rfl) rfl rfl fun _ _ W s _ => ex_field (x := .tmp 8) (t := 25) (f := 1) (by kernel_rfl) (s.b 8 (by kernel_rfl) h8) (fv1 W _))
  refine us ?_ (obRG true 8 54 false hz (by decide) (by kernel_rfl) rfl rfl fun hG _ _ s _ => ex_move (x := .tmp 57) (by kernel_rfl) (s.g 11 57 (by kernel_rfl) hG rfl))
  refine us ?_ (obRG true 8 54 false hz (by decide) (by kernel_rfl) rfl rfl fun hG _ W s _ => ex_bin (u := 3) (x := .tmp 56) (y := .const (.int .i64 3)) (by kernel_rfl) (s.g 10 56 (by kernel_rfl) hG rfl) (rfl) (eq3c W _ _ _ _))
  refine us ?_ (obRG true 8 54 false hz (by decide) (by kernel_rfl) rfl rfl fun hG _ W s hS => ex_load (x := .tmp 55) (t := 3) (by kernel_rfl) (s.g 9 55 (by kernel_rfl) hG rfl) (ld3 W _ 0 _ ((hcb W hS).1)))
  refine us ?_ (obRG true 8 54 false hz (by decide) (by kernel_rfl) rfl rfl fun _ _ W s _ => ex_field (x := .tmp 8) (t := 25) (f := 0) (by kernel_rfl) (s.b 8 (by kernel_rfl) h8) (fv0 W _))
  refine us ?_ (obRU hz (by decide) (by kernel_rfl) fun _ _ s _ => ex_move (x := .tmp 53) (by kernel_rfl) (s.u 7 53 (by kernel_rfl)))
  refine us ?_ (obRU hz (by decide) (by kernel_rfl) fun _ _ s _ => ex_pickA (G := true) (by kernel_rfl) (s.u 3 49 (by kernel_rfl)) (s.u 6 52 (by kernel_rfl)) rfl rfl)
  refine us ?_ (obRG true 3 49 true hz (by decide) (by kernel_rfl) rfl rfl fun hG _ W s _ => ex_bin (u := 3) (x := .tmp 51) (y := .const (.int .i64 0)) (by kernel_rfl) (s.g 5 51 (by kernel_rfl) hG rfl) (rfl) (eq3c W _ _ _ _))
  refine us ?_ (obRG true 3 49 true hz (by decide) (by kernel_rfl) rfl rfl fun hG _ W s hS => ex_load (x := .tmp 50) (t := 3) (by kernel_rfl) (s.g 4 50 (by kernel_rfl) hG rfl) (ld3 W _ 1 _ ((hca W hS).2)))
  refine us ?_ (obRG true 3 49 true hz (by decide) (by kernel_rfl) rfl rfl fun _ _ W s _ => ex_field (x := .tmp 7) (t := 25) (f := 1) (by kernel_rfl) (s.b 7 (by kernel_rfl) h7) (fv1 W _))
  refine us ?_ (obRU hz (by decide) (by kernel_rfl) fun _ _ s _ => ex_move (x := .tmp 48) (by kernel_rfl) (s.u 2 48 (by kernel_rfl)))
  refine us ?_ (obRU hz (by decide) (by kernel_rfl) fun _ W s _ => ex_bin (u := 3) (x := .tmp 47) (y := .const (.int .i64 3)) (by kernel_rfl) (s.u 1 47 (by kernel_rfl)) (rfl) (eq3c W _ _ _ _))
  refine us ?_ (obRU hz (by decide) (by kernel_rfl) fun _ W s hS => ex_load (x := .tmp 46) (t := 3) (by kernel_rfl) (s.u 0 46 (by kernel_rfl)) (ld3 W _ 0 _ ((hca W hS).1)))
  refine us ?_ (obRU hz (by decide) (by kernel_rfl) fun _ W s _ => ex_field (x := .tmp 7) (t := 25) (f := 0) (by kernel_rfl) (s.b 7 (by kernel_rfl) h7) (fv0 W _))
  exact fun j hj => absurd hj (Nat.not_lt_zero j)

end Go.Proofs.YtbelnjefnhelhabGreat
