/-
  CheckCmd of the document: how many of each.
  CheckCmd of the document: columns.
  CheckCmd of the document: values.
  CheckCmd of the document: fields.
  CheckCmd of the document: Limit, Order, Expr.
  CheckCmd of the document: Where.
  CheckCmd of the document: the region that draws.
  CheckCmd of the document, statement by statement, on any frame.
  PlainExpr of the document: its region.
-/
import Derived.Test.YtkpeklealgicpabGreatDoorKc

namespace Go.Proofs.YtkpeklealgicpabGreatDoor
open Go.RowKit

noncomputable def k9_R : Array Oper := ((Tryz.f13.body).bind (regionOf 9)).getD #[]
noncomputable def k9_o (j : Nat) : Oper := (k9_R[j]?).getD ⟨none, .move (.const undef), 0, "", #[], none⟩
def k9_V (c : Cm) (a1 a2 a3 : Option Addr) (c1 c2 c3 : Nat) (b : Nat) (ok : Bool) (j : Nat) : Value := ([.bool ok, .bool ok, gw (ok == true) (.int .i64 c.kind), gw (ok == true) (.bool (decide (c.kind = 1))), gw (ok == true) (.pointer (some ⟨b, 4, none⟩)), gw (ok == true) (.slice a1 c.cols.length c1), gw (ok == true) (.int .i64 ((c.cols.length : Nat) : Int)), gw (ok == true) (.bool (decide (0 < ((c.cols.length : Nat) : Int)))), gw (ok == true) (.bool ((decide (c.kind = 1)) == (decide (0 < ((c.cols.length : Nat) : Int))))), .bool (ok && ((decide (c.kind = 1)) == (decide (0 < ((c.cols.length : Nat) : Int))))), .bool (ok && ((decide (c.kind = 1)) == (decide (0 < ((c.cols.length : Nat) : Int))))), gw ((ok && ((decide (c.kind = 1)) == (decide (0 < ((c.cols.length : Nat) : Int))))) == true) (.int .i64 c.kind), gw ((ok && ((decide (c.kind = 1)) == (decide (0 < ((c.cols.length : Nat) : Int))))) == true) (.bool (decide (c.kind = 10))), gw ((ok && ((decide (c.kind = 1)) == (decide (0 < ((c.cols.length : Nat) : Int))))) == true) (.pointer (some ⟨b, 9, none⟩)), gw ((ok && ((decide (c.kind = 1)) == (decide (0 < ((c.cols.length : Nat) : Int))))) == true) (.slice a2 c.vals.length c2), gw ((ok && ((decide (c.kind = 1)) == (decide (0 < ((c.cols.length : Nat) : Int))))) == true) (.int .i64 ((c.vals.length : Nat) : Int)), gw ((ok && ((decide (c.kind = 1)) == (decide (0 < ((c.cols.length : Nat) : Int))))) == true) (.bool (decide (0 < ((c.vals.length : Nat) : Int)))), gw ((ok && ((decide (c.kind = 1)) == (decide (0 < ((c.cols.length : Nat) : Int))))) == true) (.bool ((decide (c.kind = 10)) == (decide (0 < ((c.vals.length : Nat) : Int))))), .bool ((ok && ((decide (c.kind = 1)) == (decide (0 < ((c.cols.length : Nat) : Int))))) && ((decide (c.kind = 10)) == (decide (0 < ((c.vals.length : Nat) : Int))))), .bool ((ok && ((decide (c.kind = 1)) == (decide (0 < ((c.cols.length : Nat) : Int))))) && ((decide (c.kind = 10)) == (decide (0 < ((c.vals.length : Nat) : Int))))), gw (((ok && ((decide (c.kind = 1)) == (decide (0 < ((c.cols.length : Nat) : Int))))) && ((decide (c.kind = 10)) == (decide (0 < ((c.vals.length : Nat) : Int))))) == true) (.int .i64 c.kind), gw (((ok && ((decide (c.kind = 1)) == (decide (0 < ((c.cols.length : Nat) : Int))))) && ((decide (c.kind = 10)) == (decide (0 < ((c.vals.length : Nat) : Int))))) == true) (.bool (decide (c.kind = 13))), gw (((ok && ((decide (c.kind = 1)) == (decide (0 < ((c.cols.length : Nat) : Int))))) && ((decide (c.kind = 10)) == (decide (0 < ((c.vals.length : Nat) : Int))))) == true) (.bool (decide (c.kind = 13))), gw ((((ok && ((decide (c.kind = 1)) == (decide (0 < ((c.cols.length : Nat) : Int))))) && ((decide (c.kind = 10)) == (decide (0 < ((c.vals.length : Nat) : Int))))) == true) && ((decide (c.kind = 13)) == false)) (.pointer (some ⟨b, 10, none⟩)), gw ((((ok && ((decide (c.kind = 1)) == (decide (0 < ((c.cols.length : Nat) : Int))))) && ((decide (c.kind = 10)) == (decide (0 < ((c.vals.length : Nat) : Int))))) == true) && ((decide (c.kind = 13)) == false)) (.slice a3 c.fields.length c3), gw ((((ok && ((decide (c.kind = 1)) == (decide (0 < ((c.cols.length : Nat) : Int))))) && ((decide (c.kind = 10)) == (decide (0 < ((c.vals.length : Nat) : Int))))) == true) && ((decide (c.kind = 13)) == false)) (.int .i64 ((c.fields.length : Nat) : Int)), gw ((((ok && ((decide (c.kind = 1)) == (decide (0 < ((c.cols.length : Nat) : Int))))) && ((decide (c.kind = 10)) == (decide (0 < ((c.vals.length : Nat) : Int))))) == true) && ((decide (c.kind = 13)) == false)) (.bool (decide (((c.fields.length : Nat) : Int) = 0))), gw ((((ok && ((decide (c.kind = 1)) == (decide (0 < ((c.cols.length : Nat) : Int))))) && ((decide (c.kind = 10)) == (decide (0 < ((c.vals.length : Nat) : Int))))) == true) && ((decide (c.kind = 13)) == false)) (.bool (decide (((c.fields.length : Nat) : Int) = 0))), gw (((((ok && ((decide (c.kind = 1)) == (decide (0 < ((c.cols.length : Nat) : Int))))) && ((decide (c.kind = 10)) == (decide (0 < ((c.vals.length : Nat) : Int))))) == true) && ((decide (c.kind = 13)) == false)) && ((decide (((c.fields.length : Nat) : Int) = 0)) == true)) (.pointer (some ⟨b, 24, none⟩)), gw (((((ok && ((decide (c.kind = 1)) == (decide (0 < ((c.cols.length : Nat) : Int))))) && ((decide (c.kind = 10)) == (decide (0 < ((c.vals.length : Nat) : Int))))) == true) && ((decide (c.kind = 13)) == false)) && ((decide (((c.fields.length : Nat) : Int) = 0)) == true)) (.string ⟨c.order.toArray⟩), gw (((((ok && ((decide (c.kind = 1)) == (decide (0 < ((c.cols.length : Nat) : Int))))) && ((decide (c.kind = 10)) == (decide (0 < ((c.vals.length : Nat) : Int))))) == true) && ((decide (c.kind = 13)) == false)) && ((decide (((c.fields.length : Nat) : Int) = 0)) == true)) (.bool (decide (c.order = []))), gw ((((ok && ((decide (c.kind = 1)) == (decide (0 < ((c.cols.length : Nat) : Int))))) && ((decide (c.kind = 10)) == (decide (0 < ((c.vals.length : Nat) : Int))))) == true) && ((decide (c.kind = 13)) == false)) (.bool ((decide (((c.fields.length : Nat) : Int) = 0)) && (decide (c.order = [])))), gw ((((ok && ((decide (c.kind = 1)) == (decide (0 < ((c.cols.length : Nat) : Int))))) && ((decide (c.kind = 10)) == (decide (0 < ((c.vals.length : Nat) : Int))))) == true) && ((decide (c.kind = 13)) == false)) (.bool ((decide (((c.fields.length : Nat) : Int) = 0)) && (decide (c.order = [])))), gw (((((ok && ((decide (c.kind = 1)) == (decide (0 < ((c.cols.length : Nat) : Int))))) && ((decide (c.kind = 10)) == (decide (0 < ((c.vals.length : Nat) : Int))))) == true) && ((decide (c.kind = 13)) == false)) && (((decide (((c.fields.length : Nat) : Int) = 0)) && (decide (c.order = []))) == true)) (.pointer (some ⟨b, 25, none⟩)), gw (((((ok && ((decide (c.kind = 1)) == (decide (0 < ((c.cols.length : Nat) : Int))))) && ((decide (c.kind = 10)) == (decide (0 < ((c.vals.length : Nat) : Int))))) == true) && ((decide (c.kind = 13)) == false)) && (((decide (((c.fields.length : Nat) : Int) = 0)) && (decide (c.order = []))) == true)) (.int .i64 c.limit), gw (((((ok && ((decide (c.kind = 1)) == (decide (0 < ((c.cols.length : Nat) : Int))))) && ((decide (c.kind = 10)) == (decide (0 < ((c.vals.length : Nat) : Int))))) == true) && ((decide (c.kind = 13)) == false)) && (((decide (((c.fields.length : Nat) : Int) = 0)) && (decide (c.order = []))) == true)) (.bool (decide (c.limit = 0))), gw ((((ok && ((decide (c.kind = 1)) == (decide (0 < ((c.cols.length : Nat) : Int))))) && ((decide (c.kind = 10)) == (decide (0 < ((c.vals.length : Nat) : Int))))) == true) && ((decide (c.kind = 13)) == false)) (.bool (((decide (((c.fields.length : Nat) : Int) = 0)) && (decide (c.order = []))) && (decide (c.limit = 0)))), gw (((ok && ((decide (c.kind = 1)) == (decide (0 < ((c.cols.length : Nat) : Int))))) && ((decide (c.kind = 10)) == (decide (0 < ((c.vals.length : Nat) : Int))))) == true) (.bool ((decide (c.kind = 13)) || (((decide (((c.fields.length : Nat) : Int) = 0)) && (decide (c.order = []))) && (decide (c.limit = 0))))), .bool (((ok && ((decide (c.kind = 1)) == (decide (0 < ((c.cols.length : Nat) : Int))))) && ((decide (c.kind = 10)) == (decide (0 < ((c.vals.length : Nat) : Int))))) && ((decide (c.kind = 13)) || (((decide (((c.fields.length : Nat) : Int) = 0)) && (decide (c.order = []))) && (decide (c.limit = 0))))), .bool (((ok && ((decide (c.kind = 1)) == (decide (0 < ((c.cols.length : Nat) : Int))))) && ((decide (c.kind = 10)) == (decide (0 < ((c.vals.length : Nat) : Int))))) && ((decide (c.kind = 13)) || (((decide (((c.fields.length : Nat) : Int) = 0)) && (decide (c.order = []))) && (decide (c.limit = 0)))))] : List Value).getD j undef
def k9_d : List (Option Tmp) := [some 112, some 113, some 114, some 115, some 116, some 117, some 118, some 119, some 120, some 121, some 122, some 123, some 124, some 125, some 126, some 127, some 128, some 129, some 130, some 131, some 132, some 133, some 134, some 135, some 136, some 137, some 138, some 139, some 140, some 141, some 142, some 143, some 144, some 145, some 146, some 147, some 148, some 149, some 150, some 4]
set_option maxRecDepth 100000 in
theorem k9_nodup : k9_d.Nodup := by unfold k9_d; decide

set_option maxRecDepth 100000 in
theorem k9_wp {c : Cm} {a1 a2 a3 a4 a5 : Option Addr} {c1 c2 c3 c4 c5 : Nat} {b : Nat} {ok : Bool} {S : World → Prop} {a0 : Act} {Q : Exit → Act → World → Prop} {w : World} (h1 : a0.tmps[1]? = some (.pointer (some ⟨b, 0, none⟩))) (h3 : a0.tmps[3]? = some (.int .i64 c.kind)) (h4 : a0.tmps[4]? = some (.bool ok)) (hcell : ∀ W, S W → ∀ o x, (cmL c (.slice a1 c.cols.length c1) (.slice a2 c.vals.length c2) (.slice a3 c.fields.length c3) (.slice a4 c.expr.args.length c4) (.slice a5 c.wh.args.length c5))[o]? = some x → W.cell? ⟨b, o, none⟩ = some x) (ha : a0.tmps.size = 272) (hS : S w)
    (hq : ∀ a' w', S w' → a'.defers = a0.defers → a'.tmps.size = 272 → (∀ j d, k9_d[j]? = some (some d) → a'.tmps[d]? = some (k9_V c a1 a2 a3 c1 c2 c3 b ok j)) → (∀ d, some d ∉ k9_d → a'.tmps[d]? = a0.tmps[d]?) → Q .normal a' w') : (Code.region 9 k9_R false).wp Tryz.prog Q a0 w := by
  refine wp_plain (n := 40) (m := 272) (by kernel_rfl) (by kernel_rfl) k9_nodup (by kernel_rfl) ha ?_ hS hq
  refine upto_succ ?_ (obPU (o := k9_o 39) (by kernel_rfl) (by decide) (by kernel_rfl) fun _ _ s _ => ex_assign (x := .tmp 150) (by kernel_rfl) (s.u 38 150 (by kernel_rfl) (by kernel_rfl)))
  refine upto_succ ?_ (obPU (o := k9_o 38) (by kernel_rfl) (by decide) (by kernel_rfl) fun _ _ s _ => ex_pickA (G := true) (by kernel_rfl) (s.u 19 131 (by kernel_rfl) (by kernel_rfl)) (s.u 37 149 (by kernel_rfl) (by kernel_rfl)) rfl rfl)
  refine upto_succ ?_ (obPG true 19 131 true (o := k9_o 37) (by kernel_rfl) (by decide) (by kernel_rfl) (by kernel_rfl) (by kernel_rfl) rfl rfl fun hG _ _ s _ => ex_pickO (by kernel_rfl) (s.g 22 134 (by kernel_rfl) (by kernel_rfl) hG rfl) (s.u 36 148 (by kernel_rfl) (by kernel_rfl)) rfl hG)
  refine upto_succ ?_ (obPG _ 22 134 false (o := k9_o 36) (by kernel_rfl) (by decide) (by kernel_rfl) (by kernel_rfl) (by kernel_rfl) rfl rfl fun hG _ _ s _ => ex_pickA (by kernel_rfl) (s.g 32 144 (by kernel_rfl) (by kernel_rfl) hG rfl) (s.u 35 147 (by kernel_rfl) (by kernel_rfl)) rfl hG)
  refine upto_succ ?_ (obPG _ 32 144 true (o := k9_o 35) (by kernel_rfl) (by decide) (by kernel_rfl) (by kernel_rfl) (by kernel_rfl) rfl rfl fun hG _ W s _ => ex_bin (u := 3) (x := .tmp 146) (y := .const (.int .i64 0)) (by kernel_rfl) (s.g 34 146 (by kernel_rfl) (by kernel_rfl) hG rfl) (rfl) (eq3c W _ _ _ _))
  refine upto_succ ?_ (obPG _ 32 144 true (o := k9_o 34) (by kernel_rfl) (by decide) (by kernel_rfl) (by kernel_rfl) (by kernel_rfl) rfl rfl fun hG _ W s hS => ex_load (x := .tmp 145) (t := 3) (by kernel_rfl) (s.g 33 145 (by kernel_rfl) (by kernel_rfl) hG rfl) (ld3 W _ 25 _ (hcell W hS 25 _ rfl)))
  refine upto_succ ?_ (obPG _ 32 144 true (o := k9_o 33) (by kernel_rfl) (by decide) (by kernel_rfl) (by kernel_rfl) (by kernel_rfl) rfl rfl fun _ _ W s _ => ex_field (x := .tmp 1) (t := 31) (f := 13) (by kernel_rfl) (s.b 1 (by kernel_rfl) h1) (fa13 W _))
  refine upto_succ ?_ (obPG _ 22 134 false (o := k9_o 32) (by kernel_rfl) (by decide) (by kernel_rfl) (by kernel_rfl) (by kernel_rfl) rfl rfl fun hG _ _ s _ => ex_move (x := .tmp 143) (by kernel_rfl) (s.g 31 143 (by kernel_rfl) (by kernel_rfl) hG rfl))
  refine upto_succ ?_ (obPG _ 22 134 false (o := k9_o 31) (by kernel_rfl) (by decide) (by kernel_rfl) (by kernel_rfl) (by kernel_rfl) rfl rfl fun hG _ _ s _ => ex_pickA (by kernel_rfl) (s.g 27 139 (by kernel_rfl) (by kernel_rfl) hG rfl) (s.u 30 142 (by kernel_rfl) (by kernel_rfl)) rfl hG)
  refine upto_succ ?_ (obPG _ 27 139 true (o := k9_o 30) (by kernel_rfl) (by decide) (by kernel_rfl) (by kernel_rfl) (by kernel_rfl) rfl rfl fun hG _ W s _ => ex_bin (u := 9) (x := .tmp 141) (y := .const (.string ⟨#[]⟩)) (by kernel_rfl) (s.g 29 141 (by kernel_rfl) (by kernel_rfl) hG rfl) (rfl) (eq9 W _ _ _))
  refine upto_succ ?_ (obPG _ 27 139 true (o := k9_o 29) (by kernel_rfl) (by decide) (by kernel_rfl) (by kernel_rfl) (by kernel_rfl) rfl rfl fun hG _ W s hS => ex_load (x := .tmp 140) (t := 9) (by kernel_rfl) (s.g 28 140 (by kernel_rfl) (by kernel_rfl) hG rfl) (ld9 W _ 24 _ (hcell W hS 24 _ rfl)))
  refine upto_succ ?_ (obPG _ 27 139 true (o := k9_o 28) (by kernel_rfl) (by decide) (by kernel_rfl) (by kernel_rfl) (by kernel_rfl) rfl rfl fun _ _ W s _ => ex_field (x := .tmp 1) (t := 31) (f := 12) (by kernel_rfl) (s.b 1 (by kernel_rfl) h1) (fa12 W _))
  refine upto_succ ?_ (obPG _ 22 134 false (o := k9_o 27) (by kernel_rfl) (by decide) (by kernel_rfl) (by kernel_rfl) (by kernel_rfl) rfl rfl fun hG _ _ s _ => ex_move (x := .tmp 138) (by kernel_rfl) (s.g 26 138 (by kernel_rfl) (by kernel_rfl) hG rfl))
  refine upto_succ ?_ (obPG _ 22 134 false (o := k9_o 26) (by kernel_rfl) (by decide) (by kernel_rfl) (by kernel_rfl) (by kernel_rfl) rfl rfl fun hG _ W s _ => ex_bin (u := 3) (x := .tmp 137) (y := .const (.int .i64 0)) (by kernel_rfl) (s.g 25 137 (by kernel_rfl) (by kernel_rfl) hG rfl) (rfl) (eq3c W _ _ _ _))
  refine upto_succ ?_ (obPG _ 22 134 false (o := k9_o 25) (by kernel_rfl) (by decide) (by kernel_rfl) (by kernel_rfl) (by kernel_rfl) rfl rfl fun hG _ W s _ => ex_len (ts := #[26]) (x := .tmp 136) (by kernel_rfl) (fun ty => len26 W a3 c.fields.length c3 ty) (s.g 24 136 (by kernel_rfl) (by kernel_rfl) hG rfl))
  refine upto_succ ?_ (obPG _ 22 134 false (o := k9_o 24) (by kernel_rfl) (by decide) (by kernel_rfl) (by kernel_rfl) (by kernel_rfl) rfl rfl fun hG _ W s hS => ex_load (x := .tmp 135) (t := 26) (by kernel_rfl) (s.g 23 135 (by kernel_rfl) (by kernel_rfl) hG rfl) (ld26 W _ 10 _ (hcell W hS 10 _ rfl)))
  refine upto_succ ?_ (obPG _ 22 134 false (o := k9_o 23) (by kernel_rfl) (by decide) (by kernel_rfl) (by kernel_rfl) (by kernel_rfl) rfl rfl fun _ _ W s _ => ex_field (x := .tmp 1) (t := 31) (f := 8) (by kernel_rfl) (s.b 1 (by kernel_rfl) h1) (fa8 W _))
  refine upto_succ ?_ (obPG true 19 131 true (o := k9_o 22) (by kernel_rfl) (by decide) (by kernel_rfl) (by kernel_rfl) (by kernel_rfl) rfl rfl fun hG _ _ s _ => ex_move (x := .tmp 133) (by kernel_rfl) (s.g 21 133 (by kernel_rfl) (by kernel_rfl) hG rfl))
  refine upto_succ ?_ (obPG true 19 131 true (o := k9_o 21) (by kernel_rfl) (by decide) (by kernel_rfl) (by kernel_rfl) (by kernel_rfl) rfl rfl fun hG _ W s _ => ex_bin (u := 3) (x := .tmp 132) (y := .const (.int .i64 13)) (by kernel_rfl) (s.g 20 132 (by kernel_rfl) (by kernel_rfl) hG rfl) (rfl) (eq3c W _ _ _ _))
  refine upto_succ ?_ (obPG true 19 131 true (o := k9_o 20) (by kernel_rfl) (by decide) (by kernel_rfl) (by kernel_rfl) (by kernel_rfl) rfl rfl fun _ _ _ s _ => ex_move (x := .tmp 3) (by kernel_rfl) (s.b 3 (by kernel_rfl) h3))
  refine upto_succ ?_ (obPU (o := k9_o 19) (by kernel_rfl) (by decide) (by kernel_rfl) fun _ _ s _ => ex_move (x := .tmp 130) (by kernel_rfl) (s.u 18 130 (by kernel_rfl) (by kernel_rfl)))
  refine upto_succ ?_ (obPU (o := k9_o 18) (by kernel_rfl) (by decide) (by kernel_rfl) fun _ _ s _ => ex_pickA (G := true) (by kernel_rfl) (s.u 10 122 (by kernel_rfl) (by kernel_rfl)) (s.u 17 129 (by kernel_rfl) (by kernel_rfl)) rfl rfl)
  refine upto_succ ?_ (obPG true 10 122 true (o := k9_o 17) (by kernel_rfl) (by decide) (by kernel_rfl) (by kernel_rfl) (by kernel_rfl) rfl rfl fun hG _ W s _ => ex_bin (u := 4) (x := .tmp 124) (y := .tmp 128) (by kernel_rfl) (s.g 12 124 (by kernel_rfl) (by kernel_rfl) hG rfl) (s.g 16 128 (by kernel_rfl) (by kernel_rfl) hG rfl) (eq4c W _ _ _ _))
  refine upto_succ ?_ (obPG true 10 122 true (o := k9_o 16) (by kernel_rfl) (by decide) (by kernel_rfl) (by kernel_rfl) (by kernel_rfl) rfl rfl fun hG _ W s _ => ex_bin (u := 3) (x := .tmp 127) (y := .const (.int .i64 0)) (by kernel_rfl) (s.g 15 127 (by kernel_rfl) (by kernel_rfl) hG rfl) (rfl) (gtr3c W _ _ _ _))
  refine upto_succ ?_ (obPG true 10 122 true (o := k9_o 15) (by kernel_rfl) (by decide) (by kernel_rfl) (by kernel_rfl) (by kernel_rfl) rfl rfl fun hG _ W s _ => ex_len (ts := #[25]) (x := .tmp 126) (by kernel_rfl) (fun ty => len25 W a2 c.vals.length c2 ty) (s.g 14 126 (by kernel_rfl) (by kernel_rfl) hG rfl))
  refine upto_succ ?_ (obPG true 10 122 true (o := k9_o 14) (by kernel_rfl) (by decide) (by kernel_rfl) (by kernel_rfl) (by kernel_rfl) rfl rfl fun hG _ W s hS => ex_load (x := .tmp 125) (t := 25) (by kernel_rfl) (s.g 13 125 (by kernel_rfl) (by kernel_rfl) hG rfl) (ld25 W _ 9 _ (hcell W hS 9 _ rfl)))
  refine upto_succ ?_ (obPG true 10 122 true (o := k9_o 13) (by kernel_rfl) (by decide) (by kernel_rfl) (by kernel_rfl) (by kernel_rfl) rfl rfl fun _ _ W s _ => ex_field (x := .tmp 1) (t := 31) (f := 7) (by kernel_rfl) (s.b 1 (by kernel_rfl) h1) (fa7 W _))
  refine upto_succ ?_ (obPG true 10 122 true (o := k9_o 12) (by kernel_rfl) (by decide) (by kernel_rfl) (by kernel_rfl) (by kernel_rfl) rfl rfl fun hG _ W s _ => ex_bin (u := 3) (x := .tmp 123) (y := .const (.int .i64 10)) (by kernel_rfl) (s.g 11 123 (by kernel_rfl) (by kernel_rfl) hG rfl) (rfl) (eq3c W _ _ _ _))
  refine upto_succ ?_ (obPG true 10 122 true (o := k9_o 11) (by kernel_rfl) (by decide) (by kernel_rfl) (by kernel_rfl) (by kernel_rfl) rfl rfl fun _ _ _ s _ => ex_move (x := .tmp 3) (by kernel_rfl) (s.b 3 (by kernel_rfl) h3))
  refine upto_succ ?_ (obPU (o := k9_o 10) (by kernel_rfl) (by decide) (by kernel_rfl) fun _ _ s _ => ex_move (x := .tmp 121) (by kernel_rfl) (s.u 9 121 (by kernel_rfl) (by kernel_rfl)))
  refine upto_succ ?_ (obPU (o := k9_o 9) (by kernel_rfl) (by decide) (by kernel_rfl) fun _ _ s _ => ex_pickA (G := true) (by kernel_rfl) (s.u 1 113 (by kernel_rfl) (by kernel_rfl)) (s.u 8 120 (by kernel_rfl) (by kernel_rfl)) rfl rfl)
  refine upto_succ ?_ (obPG true 1 113 true (o := k9_o 8) (by kernel_rfl) (by decide) (by kernel_rfl) (by kernel_rfl) (by kernel_rfl) rfl rfl fun hG _ W s _ => ex_bin (u := 4) (x := .tmp 115) (y := .tmp 119) (by kernel_rfl) (s.g 3 115 (by kernel_rfl) (by kernel_rfl) hG rfl) (s.g 7 119 (by kernel_rfl) (by kernel_rfl) hG rfl) (eq4c W _ _ _ _))
  refine upto_succ ?_ (obPG true 1 113 true (o := k9_o 7) (by kernel_rfl) (by decide) (by kernel_rfl) (by kernel_rfl) (by kernel_rfl) rfl rfl fun hG _ W s _ => ex_bin (u := 3) (x := .tmp 118) (y := .const (.int .i64 0)) (by kernel_rfl) (s.g 6 118 (by kernel_rfl) (by kernel_rfl) hG rfl) (rfl) (gtr3c W _ _ _ _))
  refine upto_succ ?_ (obPG true 1 113 true (o := k9_o 6) (by kernel_rfl) (by decide) (by kernel_rfl) (by kernel_rfl) (by kernel_rfl) rfl rfl fun hG _ W s _ => ex_len (ts := #[22]) (x := .tmp 117) (by kernel_rfl) (fun ty => len22 W a1 c.cols.length c1 ty) (s.g 5 117 (by kernel_rfl) (by kernel_rfl) hG rfl))
  refine upto_succ ?_ (obPG true 1 113 true (o := k9_o 5) (by kernel_rfl) (by decide) (by kernel_rfl) (by kernel_rfl) (by kernel_rfl) rfl rfl fun hG _ W s hS => ex_load (x := .tmp 116) (t := 22) (by kernel_rfl) (s.g 4 116 (by kernel_rfl) (by kernel_rfl) hG rfl) (ld22 W _ 4 _ (hcell W hS 4 _ rfl)))
  refine upto_succ ?_ (obPG true 1 113 true (o := k9_o 4) (by kernel_rfl) (by decide) (by kernel_rfl) (by kernel_rfl) (by kernel_rfl) rfl rfl fun _ _ W s _ => ex_field (x := .tmp 1) (t := 31) (f := 4) (by kernel_rfl) (s.b 1 (by kernel_rfl) h1) (fa4 W _))
  refine upto_succ ?_ (obPG true 1 113 true (o := k9_o 3) (by kernel_rfl) (by decide) (by kernel_rfl) (by kernel_rfl) (by kernel_rfl) rfl rfl fun hG _ W s _ => ex_bin (u := 3) (x := .tmp 114) (y := .const (.int .i64 1)) (by kernel_rfl) (s.g 2 114 (by kernel_rfl) (by kernel_rfl) hG rfl) (rfl) (eq3c W _ _ _ _))
  refine upto_succ ?_ (obPG true 1 113 true (o := k9_o 2) (by kernel_rfl) (by decide) (by kernel_rfl) (by kernel_rfl) (by kernel_rfl) rfl rfl fun _ _ _ s _ => ex_move (x := .tmp 3) (by kernel_rfl) (s.b 3 (by kernel_rfl) h3))
  refine upto_succ ?_ (obPU (o := k9_o 1) (by kernel_rfl) (by decide) (by kernel_rfl) fun _ _ s _ => ex_move (x := .tmp 112) (by kernel_rfl) (s.u 0 112 (by kernel_rfl) (by kernel_rfl)))
  refine upto_succ ?_ (obPU (o := k9_o 0) (by kernel_rfl) (by decide) (by kernel_rfl) fun _ _ s _ => ex_move (x := .tmp 4) (by kernel_rfl) (s.b 4 (by kernel_rfl) h4))
  exact fun j hj => absurd hj (Nat.not_lt_zero j)

end Go.Proofs.YtkpeklealgicpabGreatDoor

namespace Go.Proofs.YtkpeklealgicpabGreatDoor
open Go.RowKit

noncomputable def k11_R : Array Oper := ((Tryz.f13.body).bind (regionOf 11)).getD #[]
noncomputable def k11_o (j : Nat) : Oper := (k11_R[j]?).getD ⟨none, .move (.const undef), 0, "", #[], none⟩
def k11_V (c : Cm) (a1 : Option Addr) (c1 : Nat) (b : Nat) (i : Nat) (j : Nat) : Value := ([.int .i64 (i : Int), .pointer (some ⟨b, 4, none⟩), .slice a1 c.cols.length c1, .int .i64 ((c.cols.length : Nat) : Int), .bool (decide ((i : Int) < ((c.cols.length : Nat) : Int)))] : List Value).getD j undef
def k11_d : List (Option Tmp) := [some 151, some 152, some 153, some 154, some 155]
set_option maxRecDepth 100000 in
theorem k11_nodup : k11_d.Nodup := by unfold k11_d; decide

set_option maxRecDepth 100000 in
theorem k11_wp {c : Cm} {a1 a2 a3 a4 a5 : Option Addr} {c1 c2 c3 c4 c5 : Nat} {b : Nat} {i : Nat} {S : World → Prop} {a0 : Act} {Q : Exit → Act → World → Prop} {w : World} (h1 : a0.tmps[1]? = some (.pointer (some ⟨b, 0, none⟩))) (h5 : a0.tmps[5]? = some (.int .i64 (i : Int))) (hcell : ∀ W, S W → ∀ o x, (cmL c (.slice a1 c.cols.length c1) (.slice a2 c.vals.length c2) (.slice a3 c.fields.length c3) (.slice a4 c.expr.args.length c4) (.slice a5 c.wh.args.length c5))[o]? = some x → W.cell? ⟨b, o, none⟩ = some x) (ha : a0.tmps.size = 272) (hS : S w)
    (hq : ∀ a' w', S w' → a'.defers = a0.defers → a'.tmps.size = 272 → (∀ j d, k11_d[j]? = some (some d) → a'.tmps[d]? = some (k11_V c a1 c1 b i j)) → (∀ d, some d ∉ k11_d → a'.tmps[d]? = a0.tmps[d]?) → Q .normal a' w') : (Code.region 11 k11_R false).wp Tryz.prog Q a0 w := by
  refine wp_plain (n := 5) (m := 272) (by kernel_rfl) (by kernel_rfl) k11_nodup (by kernel_rfl) ha ?_ hS hq
  refine upto_succ ?_ (obPU (o := k11_o 4) (by kernel_rfl) (by decide) (by kernel_rfl) fun _ W s _ => ex_bin (u := 3) (x := .tmp 151) (y := .tmp 154) (by kernel_rfl) (s.u 0 151 (by kernel_rfl) (by kernel_rfl)) (s.u 3 154 (by kernel_rfl) (by kernel_rfl)) (lss3c W _ _ _ _))
  refine upto_succ ?_ (obPU (o := k11_o 3) (by kernel_rfl) (by decide) (by kernel_rfl) fun _ W s _ => ex_len (ts := #[22]) (x := .tmp 153) (by kernel_rfl) (fun ty => len22 W a1 c.cols.length c1 ty) (s.u 2 153 (by kernel_rfl) (by kernel_rfl)))
  refine upto_succ ?_ (obPU (o := k11_o 2) (by kernel_rfl) (by decide) (by kernel_rfl) fun _ W s hS => ex_load (x := .tmp 152) (t := 22) (by kernel_rfl) (s.u 1 152 (by kernel_rfl) (by kernel_rfl)) (ld22 W _ 4 _ (hcell W hS 4 _ rfl)))
  refine upto_succ ?_ (obPU (o := k11_o 1) (by kernel_rfl) (by decide) (by kernel_rfl) fun _ W s _ => ex_field (x := .tmp 1) (t := 31) (f := 4) (by kernel_rfl) (s.b 1 (by kernel_rfl) h1) (fa4 W _))
  refine upto_succ ?_ (obPU (o := k11_o 0) (by kernel_rfl) (by decide) (by kernel_rfl) fun _ _ s _ => ex_move (x := .tmp 5) (by kernel_rfl) (s.b 5 (by kernel_rfl) h5))
  exact fun j hj => absurd hj (Nat.not_lt_zero j)

noncomputable def k13_R : Array Oper := ((Tryz.f13.body).bind (regionOf 13)).getD #[]
noncomputable def k13_o (j : Nat) : Oper := (k13_R[j]?).getD ⟨none, .move (.const undef), 0, "", #[], none⟩
def k13_V (c : Cm) (c1 : Nat) (b g o i : Nat) (ok : Bool) (x : Cl) (j : Nat) : Value := ([.bool ok, .bool ok, gw (ok == true) (.pointer (some ⟨b, 4, none⟩)), gw (ok == true) (.slice (some ⟨g, o, none⟩) c.cols.length c1), gw (ok == true) (.int .i64 (i : Int)), gw (ok == true) (.pointer (some ⟨g, o + i * 2, none⟩)), gw (ok == true) (.pointer (some ⟨g, o + i * 2, none⟩)), gw (ok == true) (.string ⟨x.name.toArray⟩), gw (ok == true) (.bool (nameW x.name)), .bool (ok && (nameW x.name)), .bool (ok && (nameW x.name)), gw ((ok && (nameW x.name)) == true) (.pointer (some ⟨b, 4, none⟩)), gw ((ok && (nameW x.name)) == true) (.slice (some ⟨g, o, none⟩) c.cols.length c1), gw ((ok && (nameW x.name)) == true) (.int .i64 (i : Int)), gw ((ok && (nameW x.name)) == true) (.pointer (some ⟨g, o + i * 2, none⟩)), gw ((ok && (nameW x.name)) == true) (.pointer (some ⟨g, o + i * 2 + 1, none⟩)), gw ((ok && (nameW x.name)) == true) (.int .i64 x.ty), gw ((ok && (nameW x.name)) == true) (.bool (betw x.ty 1 3)), .bool ((ok && (nameW x.name)) && (betw x.ty 1 3)), .bool ((ok && (nameW x.name)) && (betw x.ty 1 3))] : List Value).getD j undef
def k13_d : List (Option Tmp) := [some 158, some 159, some 160, some 161, some 162, some 163, some 164, some 165, some 166, some 167, some 168, some 169, some 170, some 171, some 172, some 173, some 174, some 175, some 176, some 4]
set_option maxRecDepth 100000 in
theorem k13_nodup : k13_d.Nodup := by unfold k13_d; decide

set_option maxRecDepth 100000 in
theorem k13_wp {c : Cm} {a2 a3 a4 a5 : Option Addr} {c1 c2 c3 c4 c5 : Nat} {b g o i : Nat} {ok : Bool} {x : Cl} {S : World → Prop} {a0 : Act} {Q : Exit → Act → World → Prop} {w : World} (h1 : a0.tmps[1]? = some (.pointer (some ⟨b, 0, none⟩))) (h4 : a0.tmps[4]? = some (.bool ok)) (h5 : a0.tmps[5]? = some (.int .i64 (i : Int))) (hcell : ∀ W, S W → ∀ p y, (cmL c (.slice (some ⟨g, o, none⟩) c.cols.length c1) (.slice a2 c.vals.length c2) (.slice a3 c.fields.length c3) (.slice a4 c.expr.args.length c4) (.slice a5 c.wh.args.length c5))[p]? = some y → W.cell? ⟨b, p, none⟩ = some y) (hix : i < c.cols.length) (e0 : ∀ W, S W → W.cell? ⟨g, o + i * 2, none⟩ = some (.string ⟨x.name.toArray⟩)) (e1 : ∀ W, S W → W.cell? ⟨g, o + i * 2 + 1, none⟩ = some (.int .i64 x.ty)) (q166 : ∀ W, S W → Calls Tryz.prog 34 #[.string ⟨x.name.toArray⟩] W fun e w' => e = .returned (.bool (nameW x.name)) ∧ S w') (q175 : ∀ W, S W → Calls Tryz.prog 31 #[.int .i64 x.ty, .int .i64 1, .int .i64 3] W fun e w' => e = .returned (.bool (betw x.ty 1 3)) ∧ S w') (ha : a0.tmps.size = 272) (hS : S w)
    (hq : ∀ a' w', S w' → a'.defers = a0.defers → a'.tmps.size = 272 → (∀ j d, k13_d[j]? = some (some d) → a'.tmps[d]? = some (k13_V c c1 b g o i ok x j)) → (∀ d, some d ∉ k13_d → a'.tmps[d]? = a0.tmps[d]?) → Q .normal a' w') : (Code.region 13 k13_R false).wp Tryz.prog Q a0 w := by
  refine wp_plain (n := 20) (m := 272) (by kernel_rfl) (by kernel_rfl) k13_nodup (by kernel_rfl) ha ?_ hS hq
  refine upto_succ ?_ (obPU (o := k13_o 19) (by kernel_rfl) (by decide) (by kernel_rfl) fun _ _ s _ => ex_assign (x := .tmp 176) (by kernel_rfl) (s.u 18 176 (by kernel_rfl) (by kernel_rfl)))
  refine upto_succ ?_ (obPU (o := k13_o 18) (by kernel_rfl) (by decide) (by kernel_rfl) fun _ _ s _ => ex_pickA (G := true) (by kernel_rfl) (s.u 10 168 (by kernel_rfl) (by kernel_rfl)) (s.u 17 175 (by kernel_rfl) (by kernel_rfl)) rfl rfl)
  refine upto_succ ?_ (obPH true 10 168 true (o := k13_o 17) (by kernel_rfl) (by decide) (by kernel_rfl) (by kernel_rfl) (by kernel_rfl) rfl rfl (fun hG _ _ s => ex_call3 (ts := #[3, 3, 3]) (x := .tmp 174) (y := .const (.int .i64 1)) (z := .const (.int .i64 3)) (f := 31) cf31 (by kernel_rfl) rfl (s.g 16 174 (by kernel_rfl) (by kernel_rfl) hG rfl) (rfl) (rfl)) q175)
  refine upto_succ ?_ (obPG true 10 168 true (o := k13_o 16) (by kernel_rfl) (by decide) (by kernel_rfl) (by kernel_rfl) (by kernel_rfl) rfl rfl fun hG _ W s hS => ex_load (x := .tmp 173) (t := 3) (by kernel_rfl) (s.g 15 173 (by kernel_rfl) (by kernel_rfl) hG rfl) (ld3 W _ (o + i * 2 + 1) _ (e1 W hS)))
  refine upto_succ ?_ (obPG true 10 168 true (o := k13_o 15) (by kernel_rfl) (by decide) (by kernel_rfl) (by kernel_rfl) (by kernel_rfl) rfl rfl fun hG _ W s _ => ex_field (x := .tmp 172) (t := 56) (f := 1) (by kernel_rfl) (s.g 14 172 (by kernel_rfl) (by kernel_rfl) hG rfl) (fc1 W _ _))
  refine upto_succ ?_ (obPG true 10 168 true (o := k13_o 14) (by kernel_rfl) (by decide) (by kernel_rfl) (by kernel_rfl) (by kernel_rfl) rfl rfl fun hG _ W s _ => ex_index (t := 22) (x := .tmp 170) (y := .tmp 171) (by kernel_rfl) (s.g 12 170 (by kernel_rfl) (by kernel_rfl) hG rfl) (s.g 13 171 (by kernel_rfl) (by kernel_rfl) hG rfl) (ix22 W _ _ _ _ _ hix))
  refine upto_succ ?_ (obPG true 10 168 true (o := k13_o 13) (by kernel_rfl) (by decide) (by kernel_rfl) (by kernel_rfl) (by kernel_rfl) rfl rfl fun _ _ _ s _ => ex_move (x := .tmp 5) (by kernel_rfl) (s.b 5 (by kernel_rfl) h5))
  refine upto_succ ?_ (obPG true 10 168 true (o := k13_o 12) (by kernel_rfl) (by decide) (by kernel_rfl) (by kernel_rfl) (by kernel_rfl) rfl rfl fun hG _ W s hS => ex_load (x := .tmp 169) (t := 22) (by kernel_rfl) (s.g 11 169 (by kernel_rfl) (by kernel_rfl) hG rfl) (ld22 W _ 4 _ (hcell W hS 4 _ rfl)))
  refine upto_succ ?_ (obPG true 10 168 true (o := k13_o 11) (by kernel_rfl) (by decide) (by kernel_rfl) (by kernel_rfl) (by kernel_rfl) rfl rfl fun _ _ W s _ => ex_field (x := .tmp 1) (t := 31) (f := 4) (by kernel_rfl) (s.b 1 (by kernel_rfl) h1) (fa4 W _))
  refine upto_succ ?_ (obPU (o := k13_o 10) (by kernel_rfl) (by decide) (by kernel_rfl) fun _ _ s _ => ex_move (x := .tmp 167) (by kernel_rfl) (s.u 9 167 (by kernel_rfl) (by kernel_rfl)))
  refine upto_succ ?_ (obPU (o := k13_o 9) (by kernel_rfl) (by decide) (by kernel_rfl) fun _ _ s _ => ex_pickA (G := true) (by kernel_rfl) (s.u 1 159 (by kernel_rfl) (by kernel_rfl)) (s.u 8 166 (by kernel_rfl) (by kernel_rfl)) rfl rfl)
  refine upto_succ ?_ (obPH true 1 159 true (o := k13_o 8) (by kernel_rfl) (by decide) (by kernel_rfl) (by kernel_rfl) (by kernel_rfl) rfl rfl (fun hG _ _ s => ex_call1 (ts := #[9]) (x := .tmp 165) (f := 34) cf34 (by kernel_rfl) rfl (s.g 7 165 (by kernel_rfl) (by kernel_rfl) hG rfl)) q166)
  refine upto_succ ?_ (obPG true 1 159 true (o := k13_o 7) (by kernel_rfl) (by decide) (by kernel_rfl) (by kernel_rfl) (by kernel_rfl) rfl rfl fun hG _ W s hS => ex_load (x := .tmp 164) (t := 9) (by kernel_rfl) (s.g 6 164 (by kernel_rfl) (by kernel_rfl) hG rfl) (ld9 W _ (o + i * 2) _ (e0 W hS)))
  refine upto_succ ?_ (obPG true 1 159 true (o := k13_o 6) (by kernel_rfl) (by decide) (by kernel_rfl) (by kernel_rfl) (by kernel_rfl) rfl rfl fun hG _ W s _ => ex_field (x := .tmp 163) (t := 56) (f := 0) (by kernel_rfl) (s.g 5 163 (by kernel_rfl) (by kernel_rfl) hG rfl) (fc0 W _ _))
  refine upto_succ ?_ (obPG true 1 159 true (o := k13_o 5) (by kernel_rfl) (by decide) (by kernel_rfl) (by kernel_rfl) (by kernel_rfl) rfl rfl fun hG _ W s _ => ex_index (t := 22) (x := .tmp 161) (y := .tmp 162) (by kernel_rfl) (s.g 3 161 (by kernel_rfl) (by kernel_rfl) hG rfl) (s.g 4 162 (by kernel_rfl) (by kernel_rfl) hG rfl) (ix22 W _ _ _ _ _ hix))
  refine upto_succ ?_ (obPG true 1 159 true (o := k13_o 4) (by kernel_rfl) (by decide) (by kernel_rfl) (by kernel_rfl) (by kernel_rfl) rfl rfl fun _ _ _ s _ => ex_move (x := .tmp 5) (by kernel_rfl) (s.b 5 (by kernel_rfl) h5))
  refine upto_succ ?_ (obPG true 1 159 true (o := k13_o 3) (by kernel_rfl) (by decide) (by kernel_rfl) (by kernel_rfl) (by kernel_rfl) rfl rfl fun hG _ W s hS => ex_load (x := .tmp 160) (t := 22) (by kernel_rfl) (s.g 2 160 (by kernel_rfl) (by kernel_rfl) hG rfl) (ld22 W _ 4 _ (hcell W hS 4 _ rfl)))
  refine upto_succ ?_ (obPG true 1 159 true (o := k13_o 2) (by kernel_rfl) (by decide) (by kernel_rfl) (by kernel_rfl) (by kernel_rfl) rfl rfl fun _ _ W s _ => ex_field (x := .tmp 1) (t := 31) (f := 4) (by kernel_rfl) (s.b 1 (by kernel_rfl) h1) (fa4 W _))
  refine upto_succ ?_ (obPU (o := k13_o 1) (by kernel_rfl) (by decide) (by kernel_rfl) fun _ _ s _ => ex_move (x := .tmp 158) (by kernel_rfl) (s.u 0 158 (by kernel_rfl) (by kernel_rfl)))
  refine upto_succ ?_ (obPU (o := k13_o 0) (by kernel_rfl) (by decide) (by kernel_rfl) fun _ _ s _ => ex_move (x := .tmp 4) (by kernel_rfl) (s.b 4 (by kernel_rfl) h4))
  exact fun j hj => absurd hj (Nat.not_lt_zero j)

noncomputable def k12_R : Array Oper := ((Tryz.f13.body).bind (regionOf 12)).getD #[]
noncomputable def k12_o (j : Nat) : Oper := (k12_R[j]?).getD ⟨none, .move (.const undef), 0, "", #[], none⟩
def k12_V (i : Nat) (j : Nat) : Value := ([.int .i64 (i : Int), .int .i64 ((i + 1 : Nat) : Int), .int .i64 ((i + 1 : Nat) : Int)] : List Value).getD j undef
def k12_d : List (Option Tmp) := [some 156, some 157, some 5]
set_option maxRecDepth 100000 in
theorem k12_nodup : k12_d.Nodup := by unfold k12_d; decide

set_option maxRecDepth 100000 in
theorem k12_wp {i : Nat} {S : World → Prop} {a0 : Act} {Q : Exit → Act → World → Prop} {w : World} (h5 : a0.tmps[5]? = some (.int .i64 (i : Int))) (hadd : i < 1000000000000001) (ha : a0.tmps.size = 272) (hS : S w)
    (hq : ∀ a' w', S w' → a'.defers = a0.defers → a'.tmps.size = 272 → (∀ j d, k12_d[j]? = some (some d) → a'.tmps[d]? = some (k12_V i j)) → (∀ d, some d ∉ k12_d → a'.tmps[d]? = a0.tmps[d]?) → Q .normal a' w') : (Code.region 12 k12_R false).wp Tryz.prog Q a0 w := by
  refine wp_plain (n := 3) (m := 272) (by kernel_rfl) (by kernel_rfl) k12_nodup (by kernel_rfl) ha ?_ hS hq
  refine upto_succ ?_ (obPU (o := k12_o 2) (by kernel_rfl) (by decide) (by kernel_rfl) fun _ _ s _ => ex_assign (x := .tmp 157) (by kernel_rfl) (s.u 1 157 (by kernel_rfl) (by kernel_rfl)))
  refine upto_succ ?_ (obPU (o := k12_o 1) (by kernel_rfl) (by decide) (by kernel_rfl) fun _ W s _ => ex_bin (u := 3) (x := .tmp 156) (y := .const (.int .i64 1)) (by kernel_rfl) (s.u 0 156 (by kernel_rfl) (by kernel_rfl)) (rfl) (add3c W _ _ _ hadd))
  refine upto_succ ?_ (obPU (o := k12_o 0) (by kernel_rfl) (by decide) (by kernel_rfl) fun _ _ s _ => ex_move (x := .tmp 5) (by kernel_rfl) (s.b 5 (by kernel_rfl) h5))
  exact fun j hj => absurd hj (Nat.not_lt_zero j)

end Go.Proofs.YtkpeklealgicpabGreatDoor

namespace Go.Proofs.YtkpeklealgicpabGreatDoor
open Go.RowKit

noncomputable def k15_R : Array Oper := ((Tryz.f13.body).bind (regionOf 15)).getD #[]
noncomputable def k15_o (j : Nat) : Oper := (k15_R[j]?).getD ⟨none, .move (.const undef), 0, "", #[], none⟩
def k15_V (c : Cm) (a2 : Option Addr) (c2 : Nat) (b : Nat) (i : Nat) (j : Nat) : Value := ([.int .i64 (i : Int), .pointer (some ⟨b, 9, none⟩), .slice a2 c.vals.length c2, .int .i64 ((c.vals.length : Nat) : Int), .bool (decide ((i : Int) < ((c.vals.length : Nat) : Int)))] : List Value).getD j undef
def k15_d : List (Option Tmp) := [some 177, some 178, some 179, some 180, some 181]
set_option maxRecDepth 100000 in
theorem k15_nodup : k15_d.Nodup := by unfold k15_d; decide

set_option maxRecDepth 100000 in
theorem k15_wp {c : Cm} {a1 a2 a3 a4 a5 : Option Addr} {c1 c2 c3 c4 c5 : Nat} {b : Nat} {i : Nat} {S : World → Prop} {a0 : Act} {Q : Exit → Act → World → Prop} {w : World} (h1 : a0.tmps[1]? = some (.pointer (some ⟨b, 0, none⟩))) (h6 : a0.tmps[6]? = some (.int .i64 (i : Int))) (hcell : ∀ W, S W → ∀ o x, (cmL c (.slice a1 c.cols.length c1) (.slice a2 c.vals.length c2) (.slice a3 c.fields.length c3) (.slice a4 c.expr.args.length c4) (.slice a5 c.wh.args.length c5))[o]? = some x → W.cell? ⟨b, o, none⟩ = some x) (ha : a0.tmps.size = 272) (hS : S w)
    (hq : ∀ a' w', S w' → a'.defers = a0.defers → a'.tmps.size = 272 → (∀ j d, k15_d[j]? = some (some d) → a'.tmps[d]? = some (k15_V c a2 c2 b i j)) → (∀ d, some d ∉ k15_d → a'.tmps[d]? = a0.tmps[d]?) → Q .normal a' w') : (Code.region 15 k15_R false).wp Tryz.prog Q a0 w := by
  refine wp_plain (n := 5) (m := 272) (by kernel_rfl) (by kernel_rfl) k15_nodup (by kernel_rfl) ha ?_ hS hq
  refine upto_succ ?_ (obPU (o := k15_o 4) (by kernel_rfl) (by decide) (by kernel_rfl) fun _ W s _ => ex_bin (u := 3) (x := .tmp 177) (y := .tmp 180) (by kernel_rfl) (s.u 0 177 (by kernel_rfl) (by kernel_rfl)) (s.u 3 180 (by kernel_rfl) (by kernel_rfl)) (lss3c W _ _ _ _))
  refine upto_succ ?_ (obPU (o := k15_o 3) (by kernel_rfl) (by decide) (by kernel_rfl) fun _ W s _ => ex_len (ts := #[25]) (x := .tmp 179) (by kernel_rfl) (fun ty => len25 W a2 c.vals.length c2 ty) (s.u 2 179 (by kernel_rfl) (by kernel_rfl)))
  refine upto_succ ?_ (obPU (o := k15_o 2) (by kernel_rfl) (by decide) (by kernel_rfl) fun _ W s hS => ex_load (x := .tmp 178) (t := 25) (by kernel_rfl) (s.u 1 178 (by kernel_rfl) (by kernel_rfl)) (ld25 W _ 9 _ (hcell W hS 9 _ rfl)))
  refine upto_succ ?_ (obPU (o := k15_o 1) (by kernel_rfl) (by decide) (by kernel_rfl) fun _ W s _ => ex_field (x := .tmp 1) (t := 31) (f := 7) (by kernel_rfl) (s.b 1 (by kernel_rfl) h1) (fa7 W _))
  refine upto_succ ?_ (obPU (o := k15_o 0) (by kernel_rfl) (by decide) (by kernel_rfl) fun _ _ s _ => ex_move (x := .tmp 6) (by kernel_rfl) (s.b 6 (by kernel_rfl) h6))
  exact fun j hj => absurd hj (Nat.not_lt_zero j)

noncomputable def k17_R : Array Oper := ((Tryz.f13.body).bind (regionOf 17)).getD #[]
noncomputable def k17_o (j : Nat) : Oper := (k17_R[j]?).getD ⟨none, .move (.const undef), 0, "", #[], none⟩
def k17_V (c : Cm) (c2 : Nat) (b g o i : Nat) (ok : Bool) (x : Vl) (j : Nat) : Value := ([.bool ok, .bool ok, gw (ok == true) (.pointer (some ⟨b, 9, none⟩)), gw (ok == true) (.slice (some ⟨g, o, none⟩) c.vals.length c2), gw (ok == true) (.int .i64 (i : Int)), gw (ok == true) (.pointer (some ⟨g, o + i * 3, none⟩)), gw (ok == true) (.agg #[.int .i64 x.k, .int .i64 x.n, .string ⟨x.s.toArray⟩]), gw (ok == true) (.int .i64 ((chkV x.k x.n x.s : Nat) : Int)), gw (ok == true) (.bool (decide (((chkV x.k x.n x.s : Nat) : Int) = 0))), .bool (ok && (decide (((chkV x.k x.n x.s : Nat) : Int) = 0))), .bool (ok && (decide (((chkV x.k x.n x.s : Nat) : Int) = 0)))] : List Value).getD j undef
def k17_d : List (Option Tmp) := [some 184, some 185, some 186, some 187, some 188, some 189, some 190, some 191, some 192, some 193, some 4]
set_option maxRecDepth 100000 in
theorem k17_nodup : k17_d.Nodup := by unfold k17_d; decide

set_option maxRecDepth 100000 in
theorem k17_wp {c : Cm} {a1 a3 a4 a5 : Option Addr} {c1 c2 c3 c4 c5 : Nat} {b g o i : Nat} {ok : Bool} {x : Vl} {S : World → Prop} {a0 : Act} {Q : Exit → Act → World → Prop} {w : World} (h1 : a0.tmps[1]? = some (.pointer (some ⟨b, 0, none⟩))) (h4 : a0.tmps[4]? = some (.bool ok)) (h6 : a0.tmps[6]? = some (.int .i64 (i : Int))) (hcell : ∀ W, S W → ∀ p y, (cmL c (.slice a1 c.cols.length c1) (.slice (some ⟨g, o, none⟩) c.vals.length c2) (.slice a3 c.fields.length c3) (.slice a4 c.expr.args.length c4) (.slice a5 c.wh.args.length c5))[p]? = some y → W.cell? ⟨b, p, none⟩ = some y) (hix : i < c.vals.length) (e0 : ∀ W, S W → W.cell? ⟨g, o + i * 3, none⟩ = some (.int .i64 x.k)) (e1 : ∀ W, S W → W.cell? ⟨g, o + i * 3 + 1, none⟩ = some (.int .i64 x.n)) (e2 : ∀ W, S W → W.cell? ⟨g, o + i * 3 + 2, none⟩ = some (.string ⟨x.s.toArray⟩)) (q191 : ∀ W, S W → Calls Tryz.prog 33 #[.agg #[.int .i64 x.k, .int .i64 x.n, .string ⟨x.s.toArray⟩]] W fun e w' => e = .returned (.int .i64 ((chkV x.k x.n x.s : Nat) : Int)) ∧ S w') (ha : a0.tmps.size = 272) (hS : S w)
    (hq : ∀ a' w', S w' → a'.defers = a0.defers → a'.tmps.size = 272 → (∀ j d, k17_d[j]? = some (some d) → a'.tmps[d]? = some (k17_V c c2 b g o i ok x j)) → (∀ d, some d ∉ k17_d → a'.tmps[d]? = a0.tmps[d]?) → Q .normal a' w') : (Code.region 17 k17_R false).wp Tryz.prog Q a0 w := by
  refine wp_plain (n := 11) (m := 272) (by kernel_rfl) (by kernel_rfl) k17_nodup (by kernel_rfl) ha ?_ hS hq
  refine upto_succ ?_ (obPU (o := k17_o 10) (by kernel_rfl) (by decide) (by kernel_rfl) fun _ _ s _ => ex_assign (x := .tmp 193) (by kernel_rfl) (s.u 9 193 (by kernel_rfl) (by kernel_rfl)))
  refine upto_succ ?_ (obPU (o := k17_o 9) (by kernel_rfl) (by decide) (by kernel_rfl) fun _ _ s _ => ex_pickA (G := true) (by kernel_rfl) (s.u 1 185 (by kernel_rfl) (by kernel_rfl)) (s.u 8 192 (by kernel_rfl) (by kernel_rfl)) rfl rfl)
  refine upto_succ ?_ (obPG true 1 185 true (o := k17_o 8) (by kernel_rfl) (by decide) (by kernel_rfl) (by kernel_rfl) (by kernel_rfl) rfl rfl fun hG _ W s _ => ex_bin (u := 32) (x := .tmp 191) (y := .const (.int .i64 0)) (by kernel_rfl) (s.g 7 191 (by kernel_rfl) (by kernel_rfl) hG rfl) (rfl) (eq32c W _ _ _ _))
  refine upto_succ ?_ (obPH true 1 185 true (o := k17_o 7) (by kernel_rfl) (by decide) (by kernel_rfl) (by kernel_rfl) (by kernel_rfl) rfl rfl (fun hG _ _ s => ex_call1 (ts := #[24]) (x := .tmp 190) (f := 33) cf33 (by kernel_rfl) rfl (s.g 6 190 (by kernel_rfl) (by kernel_rfl) hG rfl)) q191)
  refine upto_succ ?_ (obPG true 1 185 true (o := k17_o 6) (by kernel_rfl) (by decide) (by kernel_rfl) (by kernel_rfl) (by kernel_rfl) rfl rfl fun hG _ W s hS => ex_load (x := .tmp 189) (t := 24) (by kernel_rfl) (s.g 5 189 (by kernel_rfl) (by kernel_rfl) hG rfl) (ld24 W _ (o + i * 3) _ _ _ (e0 W hS) (e1 W hS) (e2 W hS)))
  refine upto_succ ?_ (obPG true 1 185 true (o := k17_o 5) (by kernel_rfl) (by decide) (by kernel_rfl) (by kernel_rfl) (by kernel_rfl) rfl rfl fun hG _ W s _ => ex_index (t := 25) (x := .tmp 187) (y := .tmp 188) (by kernel_rfl) (s.g 3 187 (by kernel_rfl) (by kernel_rfl) hG rfl) (s.g 4 188 (by kernel_rfl) (by kernel_rfl) hG rfl) (ix25 W _ _ _ _ _ hix))
  refine upto_succ ?_ (obPG true 1 185 true (o := k17_o 4) (by kernel_rfl) (by decide) (by kernel_rfl) (by kernel_rfl) (by kernel_rfl) rfl rfl fun _ _ _ s _ => ex_move (x := .tmp 6) (by kernel_rfl) (s.b 6 (by kernel_rfl) h6))
  refine upto_succ ?_ (obPG true 1 185 true (o := k17_o 3) (by kernel_rfl) (by decide) (by kernel_rfl) (by kernel_rfl) (by kernel_rfl) rfl rfl fun hG _ W s hS => ex_load (x := .tmp 186) (t := 25) (by kernel_rfl) (s.g 2 186 (by kernel_rfl) (by kernel_rfl) hG rfl) (ld25 W _ 9 _ (hcell W hS 9 _ rfl)))
  refine upto_succ ?_ (obPG true 1 185 true (o := k17_o 2) (by kernel_rfl) (by decide) (by kernel_rfl) (by kernel_rfl) (by kernel_rfl) rfl rfl fun _ _ W s _ => ex_field (x := .tmp 1) (t := 31) (f := 7) (by kernel_rfl) (s.b 1 (by kernel_rfl) h1) (fa7 W _))
  refine upto_succ ?_ (obPU (o := k17_o 1) (by kernel_rfl) (by decide) (by kernel_rfl) fun _ _ s _ => ex_move (x := .tmp 184) (by kernel_rfl) (s.u 0 184 (by kernel_rfl) (by kernel_rfl)))
  refine upto_succ ?_ (obPU (o := k17_o 0) (by kernel_rfl) (by decide) (by kernel_rfl) fun _ _ s _ => ex_move (x := .tmp 4) (by kernel_rfl) (s.b 4 (by kernel_rfl) h4))
  exact fun j hj => absurd hj (Nat.not_lt_zero j)

noncomputable def k16_R : Array Oper := ((Tryz.f13.body).bind (regionOf 16)).getD #[]
noncomputable def k16_o (j : Nat) : Oper := (k16_R[j]?).getD ⟨none, .move (.const undef), 0, "", #[], none⟩
def k16_V (i : Nat) (j : Nat) : Value := ([.int .i64 (i : Int), .int .i64 ((i + 1 : Nat) : Int), .int .i64 ((i + 1 : Nat) : Int)] : List Value).getD j undef
def k16_d : List (Option Tmp) := [some 182, some 183, some 6]
set_option maxRecDepth 100000 in
theorem k16_nodup : k16_d.Nodup := by unfold k16_d; decide

set_option maxRecDepth 100000 in
theorem k16_wp {i : Nat} {S : World → Prop} {a0 : Act} {Q : Exit → Act → World → Prop} {w : World} (h6 : a0.tmps[6]? = some (.int .i64 (i : Int))) (hadd : i < 1000000000000001) (ha : a0.tmps.size = 272) (hS : S w)
    (hq : ∀ a' w', S w' → a'.defers = a0.defers → a'.tmps.size = 272 → (∀ j d, k16_d[j]? = some (some d) → a'.tmps[d]? = some (k16_V i j)) → (∀ d, some d ∉ k16_d → a'.tmps[d]? = a0.tmps[d]?) → Q .normal a' w') : (Code.region 16 k16_R false).wp Tryz.prog Q a0 w := by
  refine wp_plain (n := 3) (m := 272) (by kernel_rfl) (by kernel_rfl) k16_nodup (by kernel_rfl) ha ?_ hS hq
  refine upto_succ ?_ (obPU (o := k16_o 2) (by kernel_rfl) (by decide) (by kernel_rfl) fun _ _ s _ => ex_assign (x := .tmp 183) (by kernel_rfl) (s.u 1 183 (by kernel_rfl) (by kernel_rfl)))
  refine upto_succ ?_ (obPU (o := k16_o 1) (by kernel_rfl) (by decide) (by kernel_rfl) fun _ W s _ => ex_bin (u := 3) (x := .tmp 182) (y := .const (.int .i64 1)) (by kernel_rfl) (s.u 0 182 (by kernel_rfl) (by kernel_rfl)) (rfl) (add3c W _ _ _ hadd))
  refine upto_succ ?_ (obPU (o := k16_o 0) (by kernel_rfl) (by decide) (by kernel_rfl) fun _ _ s _ => ex_move (x := .tmp 6) (by kernel_rfl) (s.b 6 (by kernel_rfl) h6))
  exact fun j hj => absurd hj (Nat.not_lt_zero j)

end Go.Proofs.YtkpeklealgicpabGreatDoor

namespace Go.Proofs.YtkpeklealgicpabGreatDoor
open Go.RowKit

noncomputable def k19_R : Array Oper := ((Tryz.f13.body).bind (regionOf 19)).getD #[]
noncomputable def k19_o (j : Nat) : Oper := (k19_R[j]?).getD ⟨none, .move (.const undef), 0, "", #[], none⟩
def k19_V (c : Cm) (a3 : Option Addr) (c3 : Nat) (b : Nat) (i : Nat) (j : Nat) : Value := ([.int .i64 (i : Int), .pointer (some ⟨b, 10, none⟩), .slice a3 c.fields.length c3, .int .i64 ((c.fields.length : Nat) : Int), .bool (decide ((i : Int) < ((c.fields.length : Nat) : Int)))] : List Value).getD j undef
def k19_d : List (Option Tmp) := [some 194, some 195, some 196, some 197, some 198]
set_option maxRecDepth 100000 in
theorem k19_nodup : k19_d.Nodup := by unfold k19_d; decide

set_option maxRecDepth 100000 in
theorem k19_wp {c : Cm} {a1 a2 a3 a4 a5 : Option Addr} {c1 c2 c3 c4 c5 : Nat} {b : Nat} {i : Nat} {S : World → Prop} {a0 : Act} {Q : Exit → Act → World → Prop} {w : World} (h1 : a0.tmps[1]? = some (.pointer (some ⟨b, 0, none⟩))) (h7 : a0.tmps[7]? = some (.int .i64 (i : Int))) (hcell : ∀ W, S W → ∀ o x, (cmL c (.slice a1 c.cols.length c1) (.slice a2 c.vals.length c2) (.slice a3 c.fields.length c3) (.slice a4 c.expr.args.length c4) (.slice a5 c.wh.args.length c5))[o]? = some x → W.cell? ⟨b, o, none⟩ = some x) (ha : a0.tmps.size = 272) (hS : S w)
    (hq : ∀ a' w', S w' → a'.defers = a0.defers → a'.tmps.size = 272 → (∀ j d, k19_d[j]? = some (some d) → a'.tmps[d]? = some (k19_V c a3 c3 b i j)) → (∀ d, some d ∉ k19_d → a'.tmps[d]? = a0.tmps[d]?) → Q .normal a' w') : (Code.region 19 k19_R false).wp Tryz.prog Q a0 w := by
  refine wp_plain (n := 5) (m := 272) (by kernel_rfl) (by kernel_rfl) k19_nodup (by kernel_rfl) ha ?_ hS hq
  refine upto_succ ?_ (obPU (o := k19_o 4) (by kernel_rfl) (by decide) (by kernel_rfl) fun _ W s _ => ex_bin (u := 3) (x := .tmp 194) (y := .tmp 197) (by kernel_rfl) (s.u 0 194 (by kernel_rfl) (by kernel_rfl)) (s.u 3 197 (by kernel_rfl) (by kernel_rfl)) (lss3c W _ _ _ _))
  refine upto_succ ?_ (obPU (o := k19_o 3) (by kernel_rfl) (by decide) (by kernel_rfl) fun _ W s _ => ex_len (ts := #[26]) (x := .tmp 196) (by kernel_rfl) (fun ty => len26 W a3 c.fields.length c3 ty) (s.u 2 196 (by kernel_rfl) (by kernel_rfl)))
  refine upto_succ ?_ (obPU (o := k19_o 2) (by kernel_rfl) (by decide) (by kernel_rfl) fun _ W s hS => ex_load (x := .tmp 195) (t := 26) (by kernel_rfl) (s.u 1 195 (by kernel_rfl) (by kernel_rfl)) (ld26 W _ 10 _ (hcell W hS 10 _ rfl)))
  refine upto_succ ?_ (obPU (o := k19_o 1) (by kernel_rfl) (by decide) (by kernel_rfl) fun _ W s _ => ex_field (x := .tmp 1) (t := 31) (f := 8) (by kernel_rfl) (s.b 1 (by kernel_rfl) h1) (fa8 W _))
  refine upto_succ ?_ (obPU (o := k19_o 0) (by kernel_rfl) (by decide) (by kernel_rfl) fun _ _ s _ => ex_move (x := .tmp 7) (by kernel_rfl) (s.b 7 (by kernel_rfl) h7))
  exact fun j hj => absurd hj (Nat.not_lt_zero j)

noncomputable def k21_R : Array Oper := ((Tryz.f13.body).bind (regionOf 21)).getD #[]
noncomputable def k21_o (j : Nat) : Oper := (k21_R[j]?).getD ⟨none, .move (.const undef), 0, "", #[], none⟩
def k21_V (c : Cm) (c3 : Nat) (b g o i : Nat) (ok : Bool) (x : List UInt8) (j : Nat) : Value := ([.bool ok, .bool ok, gw (ok == true) (.pointer (some ⟨b, 10, none⟩)), gw (ok == true) (.slice (some ⟨g, o, none⟩) c.fields.length c3), gw (ok == true) (.int .i64 (i : Int)), gw (ok == true) (.pointer (some ⟨g, o + i, none⟩)), gw (ok == true) (.string ⟨x.toArray⟩), gw (ok == true) (.bool (nameW x)), .bool (ok && (nameW x)), .bool (ok && (nameW x))] : List Value).getD j undef
def k21_d : List (Option Tmp) := [some 201, some 202, some 203, some 204, some 205, some 206, some 207, some 208, some 209, some 4]
set_option maxRecDepth 100000 in
theorem k21_nodup : k21_d.Nodup := by unfold k21_d; decide

set_option maxRecDepth 100000 in
theorem k21_wp {c : Cm} {a1 a2 a4 a5 : Option Addr} {c1 c2 c3 c4 c5 : Nat} {b g o i : Nat} {ok : Bool} {x : List UInt8} {S : World → Prop} {a0 : Act} {Q : Exit → Act → World → Prop} {w : World} (h1 : a0.tmps[1]? = some (.pointer (some ⟨b, 0, none⟩))) (h4 : a0.tmps[4]? = some (.bool ok)) (h7 : a0.tmps[7]? = some (.int .i64 (i : Int))) (hcell : ∀ W, S W → ∀ p y, (cmL c (.slice a1 c.cols.length c1) (.slice a2 c.vals.length c2) (.slice (some ⟨g, o, none⟩) c.fields.length c3) (.slice a4 c.expr.args.length c4) (.slice a5 c.wh.args.length c5))[p]? = some y → W.cell? ⟨b, p, none⟩ = some y) (hix : i < c.fields.length) (e0 : ∀ W, S W → W.cell? ⟨g, o + i, none⟩ = some (.string ⟨x.toArray⟩)) (q208 : ∀ W, S W → Calls Tryz.prog 34 #[.string ⟨x.toArray⟩] W fun e w' => e = .returned (.bool (nameW x)) ∧ S w') (ha : a0.tmps.size = 272) (hS : S w)
    (hq : ∀ a' w', S w' → a'.defers = a0.defers → a'.tmps.size = 272 → (∀ j d, k21_d[j]? = some (some d) → a'.tmps[d]? = some (k21_V c c3 b g o i ok x j)) → (∀ d, some d ∉ k21_d → a'.tmps[d]? = a0.tmps[d]?) → Q .normal a' w') : (Code.region 21 k21_R false).wp Tryz.prog Q a0 w := by
  refine wp_plain (n := 10) (m := 272) (by kernel_rfl) (by kernel_rfl) k21_nodup (by kernel_rfl) ha ?_ hS hq
  refine upto_succ ?_ (obPU (o := k21_o 9) (by kernel_rfl) (by decide) (by kernel_rfl) fun _ _ s _ => ex_assign (x := .tmp 209) (by kernel_rfl) (s.u 8 209 (by kernel_rfl) (by kernel_rfl)))
  refine upto_succ ?_ (obPU (o := k21_o 8) (by kernel_rfl) (by decide) (by kernel_rfl) fun _ _ s _ => ex_pickA (G := true) (by kernel_rfl) (s.u 1 202 (by kernel_rfl) (by kernel_rfl)) (s.u 7 208 (by kernel_rfl) (by kernel_rfl)) rfl rfl)
  refine upto_succ ?_ (obPH true 1 202 true (o := k21_o 7) (by kernel_rfl) (by decide) (by kernel_rfl) (by kernel_rfl) (by kernel_rfl) rfl rfl (fun hG _ _ s => ex_call1 (ts := #[9]) (x := .tmp 207) (f := 34) cf34 (by kernel_rfl) rfl (s.g 6 207 (by kernel_rfl) (by kernel_rfl) hG rfl)) q208)
  refine upto_succ ?_ (obPG true 1 202 true (o := k21_o 6) (by kernel_rfl) (by decide) (by kernel_rfl) (by kernel_rfl) (by kernel_rfl) rfl rfl fun hG _ W s hS => ex_load (x := .tmp 206) (t := 9) (by kernel_rfl) (s.g 5 206 (by kernel_rfl) (by kernel_rfl) hG rfl) (ld9 W _ (o + i) _ (e0 W hS)))
  refine upto_succ ?_ (obPG true 1 202 true (o := k21_o 5) (by kernel_rfl) (by decide) (by kernel_rfl) (by kernel_rfl) (by kernel_rfl) rfl rfl fun hG _ W s _ => ex_index (t := 26) (x := .tmp 204) (y := .tmp 205) (by kernel_rfl) (s.g 3 204 (by kernel_rfl) (by kernel_rfl) hG rfl) (s.g 4 205 (by kernel_rfl) (by kernel_rfl) hG rfl) (ix26 W _ _ _ _ _ hix))
  refine upto_succ ?_ (obPG true 1 202 true (o := k21_o 4) (by kernel_rfl) (by decide) (by kernel_rfl) (by kernel_rfl) (by kernel_rfl) rfl rfl fun _ _ _ s _ => ex_move (x := .tmp 7) (by kernel_rfl) (s.b 7 (by kernel_rfl) h7))
  refine upto_succ ?_ (obPG true 1 202 true (o := k21_o 3) (by kernel_rfl) (by decide) (by kernel_rfl) (by kernel_rfl) (by kernel_rfl) rfl rfl fun hG _ W s hS => ex_load (x := .tmp 203) (t := 26) (by kernel_rfl) (s.g 2 203 (by kernel_rfl) (by kernel_rfl) hG rfl) (ld26 W _ 10 _ (hcell W hS 10 _ rfl)))
  refine upto_succ ?_ (obPG true 1 202 true (o := k21_o 2) (by kernel_rfl) (by decide) (by kernel_rfl) (by kernel_rfl) (by kernel_rfl) rfl rfl fun _ _ W s _ => ex_field (x := .tmp 1) (t := 31) (f := 8) (by kernel_rfl) (s.b 1 (by kernel_rfl) h1) (fa8 W _))
  refine upto_succ ?_ (obPU (o := k21_o 1) (by kernel_rfl) (by decide) (by kernel_rfl) fun _ _ s _ => ex_move (x := .tmp 201) (by kernel_rfl) (s.u 0 201 (by kernel_rfl) (by kernel_rfl)))
  refine upto_succ ?_ (obPU (o := k21_o 0) (by kernel_rfl) (by decide) (by kernel_rfl) fun _ _ s _ => ex_move (x := .tmp 4) (by kernel_rfl) (s.b 4 (by kernel_rfl) h4))
  exact fun j hj => absurd hj (Nat.not_lt_zero j)

noncomputable def k20_R : Array Oper := ((Tryz.f13.body).bind (regionOf 20)).getD #[]
noncomputable def k20_o (j : Nat) : Oper := (k20_R[j]?).getD ⟨none, .move (.const undef), 0, "", #[], none⟩
def k20_V (i : Nat) (j : Nat) : Value := ([.int .i64 (i : Int), .int .i64 ((i + 1 : Nat) : Int), .int .i64 ((i + 1 : Nat) : Int)] : List Value).getD j undef
def k20_d : List (Option Tmp) := [some 199, some 200, some 7]
set_option maxRecDepth 100000 in
theorem k20_nodup : k20_d.Nodup := by unfold k20_d; decide

set_option maxRecDepth 100000 in
theorem k20_wp {i : Nat} {S : World → Prop} {a0 : Act} {Q : Exit → Act → World → Prop} {w : World} (h7 : a0.tmps[7]? = some (.int .i64 (i : Int))) (hadd : i < 1000000000000001) (ha : a0.tmps.size = 272) (hS : S w)
    (hq : ∀ a' w', S w' → a'.defers = a0.defers → a'.tmps.size = 272 → (∀ j d, k20_d[j]? = some (some d) → a'.tmps[d]? = some (k20_V i j)) → (∀ d, some d ∉ k20_d → a'.tmps[d]? = a0.tmps[d]?) → Q .normal a' w') : (Code.region 20 k20_R false).wp Tryz.prog Q a0 w := by
  refine wp_plain (n := 3) (m := 272) (by kernel_rfl) (by kernel_rfl) k20_nodup (by kernel_rfl) ha ?_ hS hq
  refine upto_succ ?_ (obPU (o := k20_o 2) (by kernel_rfl) (by decide) (by kernel_rfl) fun _ _ s _ => ex_assign (x := .tmp 200) (by kernel_rfl) (s.u 1 200 (by kernel_rfl) (by kernel_rfl)))
  refine upto_succ ?_ (obPU (o := k20_o 1) (by kernel_rfl) (by decide) (by kernel_rfl) fun _ W s _ => ex_bin (u := 3) (x := .tmp 199) (y := .const (.int .i64 1)) (by kernel_rfl) (s.u 0 199 (by kernel_rfl) (by kernel_rfl)) (rfl) (add3c W _ _ _ hadd))
  refine upto_succ ?_ (obPU (o := k20_o 0) (by kernel_rfl) (by decide) (by kernel_rfl) fun _ _ s _ => ex_move (x := .tmp 7) (by kernel_rfl) (s.b 7 (by kernel_rfl) h7))
  exact fun j hj => absurd hj (Nat.not_lt_zero j)

end Go.Proofs.YtkpeklealgicpabGreatDoor

namespace Go.Proofs.YtkpeklealgicpabGreatDoor
open Go.RowKit

noncomputable def k22_R : Array Oper := ((Tryz.f13.body).bind (regionOf 22)).getD #[]
noncomputable def k22_o (j : Nat) : Oper := (k22_R[j]?).getD ⟨none, .move (.const undef), 0, "", #[], none⟩
def k22_V (c : Cm) (j : Nat) : Value := ([.int .i64 c.kind, .bool (decide (c.kind = 13))] : List Value).getD j undef
def k22_d : List (Option Tmp) := [some 210, some 211]
set_option maxRecDepth 100000 in
theorem k22_nodup : k22_d.Nodup := by unfold k22_d; decide

set_option maxRecDepth 100000 in
theorem k22_wp {c : Cm} {S : World → Prop} {a0 : Act} {Q : Exit → Act → World → Prop} {w : World} (h3 : a0.tmps[3]? = some (.int .i64 c.kind)) (ha : a0.tmps.size = 272) (hS : S w)
    (hq : ∀ a' w', S w' → a'.defers = a0.defers → a'.tmps.size = 272 → (∀ j d, k22_d[j]? = some (some d) → a'.tmps[d]? = some (k22_V c j)) → (∀ d, some d ∉ k22_d → a'.tmps[d]? = a0.tmps[d]?) → Q .normal a' w') : (Code.region 22 k22_R false).wp Tryz.prog Q a0 w := by
  refine wp_plain (n := 2) (m := 272) (by kernel_rfl) (by kernel_rfl) k22_nodup (by kernel_rfl) ha ?_ hS hq
  refine upto_succ ?_ (obPU (o := k22_o 1) (by kernel_rfl) (by decide) (by kernel_rfl) fun _ W s _ => ex_bin (u := 3) (x := .tmp 210) (y := .const (.int .i64 13)) (by kernel_rfl) (s.u 0 210 (by kernel_rfl) (by kernel_rfl)) (rfl) (eq3c W _ _ _ _))
  refine upto_succ ?_ (obPU (o := k22_o 0) (by kernel_rfl) (by decide) (by kernel_rfl) fun _ _ s _ => ex_move (x := .tmp 3) (by kernel_rfl) (s.b 3 (by kernel_rfl) h3))
  exact fun j hj => absurd hj (Nat.not_lt_zero j)

noncomputable def k23_R : Array Oper := ((Tryz.f13.body).bind (regionOf 23)).getD #[]
noncomputable def k23_o (j : Nat) : Oper := (k23_R[j]?).getD ⟨none, .move (.const undef), 0, "", #[], none⟩
def k23_V (c : Cm) (b : Nat) (ok : Bool) (j : Nat) : Value := ([.bool ok, .bool ok, gw (ok == true) (.pointer (some ⟨b, 25, none⟩)), gw (ok == true) (.int .i64 c.limit), gw (ok == true) (.bool (betw c.limit (-1) 999999999)), .bool (ok && (betw c.limit (-1) 999999999)), .bool (ok && (betw c.limit (-1) 999999999)), gw ((ok && (betw c.limit (-1) 999999999)) == true) (.pointer (some ⟨b, 24, none⟩)), gw ((ok && (betw c.limit (-1) 999999999)) == true) (.string ⟨c.order.toArray⟩), gw ((ok && (betw c.limit (-1) 999999999)) == true) (.bool (decide (c.order = []))), gw ((ok && (betw c.limit (-1) 999999999)) == true) (.bool (decide (c.order = []))), gw (((ok && (betw c.limit (-1) 999999999)) == true) && ((decide (c.order = [])) == false)) (.pointer (some ⟨b, 24, none⟩)), gw (((ok && (betw c.limit (-1) 999999999)) == true) && ((decide (c.order = [])) == false)) (.string ⟨c.order.toArray⟩), gw (((ok && (betw c.limit (-1) 999999999)) == true) && ((decide (c.order = [])) == false)) (.bool (nameW c.order)), gw ((ok && (betw c.limit (-1) 999999999)) == true) (.bool ((decide (c.order = [])) || (nameW c.order))), .bool ((ok && (betw c.limit (-1) 999999999)) && ((decide (c.order = [])) || (nameW c.order))), .bool ((ok && (betw c.limit (-1) 999999999)) && ((decide (c.order = [])) || (nameW c.order)))] : List Value).getD j undef
def k23_d : List (Option Tmp) := [some 212, some 213, some 214, some 215, some 216, some 217, some 218, some 219, some 220, some 221, some 222, some 223, some 224, some 225, some 226, some 227, some 4]
set_option maxRecDepth 100000 in
theorem k23_nodup : k23_d.Nodup := by unfold k23_d; decide

set_option maxRecDepth 100000 in
theorem k23_wp {c : Cm} {a1 a2 a3 a4 a5 : Option Addr} {c1 c2 c3 c4 c5 : Nat} {b : Nat} {ok : Bool} {S : World → Prop} {a0 : Act} {Q : Exit → Act → World → Prop} {w : World} (h1 : a0.tmps[1]? = some (.pointer (some ⟨b, 0, none⟩))) (h4 : a0.tmps[4]? = some (.bool ok)) (hcell : ∀ W, S W → ∀ o x, (cmL c (.slice a1 c.cols.length c1) (.slice a2 c.vals.length c2) (.slice a3 c.fields.length c3) (.slice a4 c.expr.args.length c4) (.slice a5 c.wh.args.length c5))[o]? = some x → W.cell? ⟨b, o, none⟩ = some x) (q216 : ∀ W, S W → Calls Tryz.prog 31 #[.int .i64 c.limit, .int .i64 (-1), .int .i64 999999999] W fun e w' => e = .returned (.bool (betw c.limit (-1) 999999999)) ∧ S w') (q225 : ∀ W, S W → Calls Tryz.prog 34 #[.string ⟨c.order.toArray⟩] W fun e w' => e = .returned (.bool (nameW c.order)) ∧ S w') (ha : a0.tmps.size = 272) (hS : S w)
    (hq : ∀ a' w', S w' → a'.defers = a0.defers → a'.tmps.size = 272 → (∀ j d, k23_d[j]? = some (some d) → a'.tmps[d]? = some (k23_V c b ok j)) → (∀ d, some d ∉ k23_d → a'.tmps[d]? = a0.tmps[d]?) → Q .normal a' w') : (Code.region 23 k23_R false).wp Tryz.prog Q a0 w := by
  refine wp_plain (n := 17) (m := 272) (by kernel_rfl) (by kernel_rfl) k23_nodup (by kernel_rfl) ha ?_ hS hq
  refine upto_succ ?_ (obPU (o := k23_o 16) (by kernel_rfl) (by decide) (by kernel_rfl) fun _ _ s _ => ex_assign (x := .tmp 227) (by kernel_rfl) (s.u 15 227 (by kernel_rfl) (by kernel_rfl)))
  refine upto_succ ?_ (obPU (o := k23_o 15) (by kernel_rfl) (by decide) (by kernel_rfl) fun _ _ s _ => ex_pickA (G := true) (by kernel_rfl) (s.u 6 218 (by kernel_rfl) (by kernel_rfl)) (s.u 14 226 (by kernel_rfl) (by kernel_rfl)) rfl rfl)
  refine upto_succ ?_ (obPG true 6 218 true (o := k23_o 14) (by kernel_rfl) (by decide) (by kernel_rfl) (by kernel_rfl) (by kernel_rfl) rfl rfl fun hG _ _ s _ => ex_pickO (by kernel_rfl) (s.g 10 222 (by kernel_rfl) (by kernel_rfl) hG rfl) (s.u 13 225 (by kernel_rfl) (by kernel_rfl)) rfl hG)
  refine upto_succ ?_ (obPH _ 10 222 false (o := k23_o 13) (by kernel_rfl) (by decide) (by kernel_rfl) (by kernel_rfl) (by kernel_rfl) rfl rfl (fun hG _ _ s => ex_call1 (ts := #[9]) (x := .tmp 224) (f := 34) cf34 (by kernel_rfl) rfl (s.g 12 224 (by kernel_rfl) (by kernel_rfl) hG rfl)) q225)
  refine upto_succ ?_ (obPG _ 10 222 false (o := k23_o 12) (by kernel_rfl) (by decide) (by kernel_rfl) (by kernel_rfl) (by kernel_rfl) rfl rfl fun hG _ W s hS => ex_load (x := .tmp 223) (t := 9) (by kernel_rfl) (s.g 11 223 (by kernel_rfl) (by kernel_rfl) hG rfl) (ld9 W _ 24 _ (hcell W hS 24 _ rfl)))
  refine upto_succ ?_ (obPG _ 10 222 false (o := k23_o 11) (by kernel_rfl) (by decide) (by kernel_rfl) (by kernel_rfl) (by kernel_rfl) rfl rfl fun _ _ W s _ => ex_field (x := .tmp 1) (t := 31) (f := 12) (by kernel_rfl) (s.b 1 (by kernel_rfl) h1) (fa12 W _))
  refine upto_succ ?_ (obPG true 6 218 true (o := k23_o 10) (by kernel_rfl) (by decide) (by kernel_rfl) (by kernel_rfl) (by kernel_rfl) rfl rfl fun hG _ _ s _ => ex_move (x := .tmp 221) (by kernel_rfl) (s.g 9 221 (by kernel_rfl) (by kernel_rfl) hG rfl))
  refine upto_succ ?_ (obPG true 6 218 true (o := k23_o 9) (by kernel_rfl) (by decide) (by kernel_rfl) (by kernel_rfl) (by kernel_rfl) rfl rfl fun hG _ W s _ => ex_bin (u := 9) (x := .tmp 220) (y := .const (.string ⟨#[]⟩)) (by kernel_rfl) (s.g 8 220 (by kernel_rfl) (by kernel_rfl) hG rfl) (rfl) (eq9 W _ _ _))
  refine upto_succ ?_ (obPG true 6 218 true (o := k23_o 8) (by kernel_rfl) (by decide) (by kernel_rfl) (by kernel_rfl) (by kernel_rfl) rfl rfl fun hG _ W s hS => ex_load (x := .tmp 219) (t := 9) (by kernel_rfl) (s.g 7 219 (by kernel_rfl) (by kernel_rfl) hG rfl) (ld9 W _ 24 _ (hcell W hS 24 _ rfl)))
  refine upto_succ ?_ (obPG true 6 218 true (o := k23_o 7) (by kernel_rfl) (by decide) (by kernel_rfl) (by kernel_rfl) (by kernel_rfl) rfl rfl fun _ _ W s _ => ex_field (x := .tmp 1) (t := 31) (f := 12) (by kernel_rfl) (s.b 1 (by kernel_rfl) h1) (fa12 W _))
  refine upto_succ ?_ (obPU (o := k23_o 6) (by kernel_rfl) (by decide) (by kernel_rfl) fun _ _ s _ => ex_move (x := .tmp 217) (by kernel_rfl) (s.u 5 217 (by kernel_rfl) (by kernel_rfl)))
  refine upto_succ ?_ (obPU (o := k23_o 5) (by kernel_rfl) (by decide) (by kernel_rfl) fun _ _ s _ => ex_pickA (G := true) (by kernel_rfl) (s.u 1 213 (by kernel_rfl) (by kernel_rfl)) (s.u 4 216 (by kernel_rfl) (by kernel_rfl)) rfl rfl)
  refine upto_succ ?_ (obPH true 1 213 true (o := k23_o 4) (by kernel_rfl) (by decide) (by kernel_rfl) (by kernel_rfl) (by kernel_rfl) rfl rfl (fun hG _ _ s => ex_call3 (ts := #[3, 3, 3]) (x := .tmp 215) (y := .const (.int .i64 (-1))) (z := .const (.int .i64 999999999)) (f := 31) cf31 (by kernel_rfl) rfl (s.g 3 215 (by kernel_rfl) (by kernel_rfl) hG rfl) (rfl) (rfl)) q216)
  refine upto_succ ?_ (obPG true 1 213 true (o := k23_o 3) (by kernel_rfl) (by decide) (by kernel_rfl) (by kernel_rfl) (by kernel_rfl) rfl rfl fun hG _ W s hS => ex_load (x := .tmp 214) (t := 3) (by kernel_rfl) (s.g 2 214 (by kernel_rfl) (by kernel_rfl) hG rfl) (ld3 W _ 25 _ (hcell W hS 25 _ rfl)))
  refine upto_succ ?_ (obPG true 1 213 true (o := k23_o 2) (by kernel_rfl) (by decide) (by kernel_rfl) (by kernel_rfl) (by kernel_rfl) rfl rfl fun _ _ W s _ => ex_field (x := .tmp 1) (t := 31) (f := 13) (by kernel_rfl) (s.b 1 (by kernel_rfl) h1) (fa13 W _))
  refine upto_succ ?_ (obPU (o := k23_o 1) (by kernel_rfl) (by decide) (by kernel_rfl) fun _ _ s _ => ex_move (x := .tmp 212) (by kernel_rfl) (s.u 0 212 (by kernel_rfl) (by kernel_rfl)))
  refine upto_succ ?_ (obPU (o := k23_o 0) (by kernel_rfl) (by decide) (by kernel_rfl) fun _ _ s _ => ex_move (x := .tmp 4) (by kernel_rfl) (s.b 4 (by kernel_rfl) h4))
  exact fun j hj => absurd hj (Nat.not_lt_zero j)

noncomputable def k24_R : Array Oper := ((Tryz.f13.body).bind (regionOf 24)).getD #[]
noncomputable def k24_o (j : Nat) : Oper := (k24_R[j]?).getD ⟨none, .move (.const undef), 0, "", #[], none⟩
def k24_V (c : Cm) (j : Nat) : Value := ([.int .i64 c.kind, .bool (decide (c.kind = 12))] : List Value).getD j undef
def k24_d : List (Option Tmp) := [some 228, some 229]
set_option maxRecDepth 100000 in
theorem k24_nodup : k24_d.Nodup := by unfold k24_d; decide

set_option maxRecDepth 100000 in
theorem k24_wp {c : Cm} {S : World → Prop} {a0 : Act} {Q : Exit → Act → World → Prop} {w : World} (h3 : a0.tmps[3]? = some (.int .i64 c.kind)) (ha : a0.tmps.size = 272) (hS : S w)
    (hq : ∀ a' w', S w' → a'.defers = a0.defers → a'.tmps.size = 272 → (∀ j d, k24_d[j]? = some (some d) → a'.tmps[d]? = some (k24_V c j)) → (∀ d, some d ∉ k24_d → a'.tmps[d]? = a0.tmps[d]?) → Q .normal a' w') : (Code.region 24 k24_R false).wp Tryz.prog Q a0 w := by
  refine wp_plain (n := 2) (m := 272) (by kernel_rfl) (by kernel_rfl) k24_nodup (by kernel_rfl) ha ?_ hS hq
  refine upto_succ ?_ (obPU (o := k24_o 1) (by kernel_rfl) (by decide) (by kernel_rfl) fun _ W s _ => ex_bin (u := 3) (x := .tmp 228) (y := .const (.int .i64 12)) (by kernel_rfl) (s.u 0 228 (by kernel_rfl) (by kernel_rfl)) (rfl) (eq3c W _ _ _ _))
  refine upto_succ ?_ (obPU (o := k24_o 0) (by kernel_rfl) (by decide) (by kernel_rfl) fun _ _ s _ => ex_move (x := .tmp 3) (by kernel_rfl) (s.b 3 (by kernel_rfl) h3))
  exact fun j hj => absurd hj (Nat.not_lt_zero j)

noncomputable def k25_R : Array Oper := ((Tryz.f13.body).bind (regionOf 25)).getD #[]
noncomputable def k25_o (j : Nat) : Oper := (k25_R[j]?).getD ⟨none, .move (.const undef), 0, "", #[], none⟩
def k25_V (c : Cm) (a4 : Option Addr) (c4 : Nat) (b : Nat) (ok : Bool) (j : Nat) : Value := ([.bool ok, .bool ok, gw (ok == true) (.pointer (some ⟨b, 11, none⟩)), gw (ok == true) (.agg #[.int .i64 c.expr.k, .int .i64 c.expr.v.k, .int .i64 c.expr.v.n, .string ⟨c.expr.v.s.toArray⟩, .string ⟨c.expr.nm.toArray⟩, .slice a4 c.expr.args.length c4]), gw (ok == true) (.bool (exR c.expr)), .bool (ok && (exR c.expr)), .bool (ok && (exR c.expr))] : List Value).getD j undef
def k25_d : List (Option Tmp) := [some 230, some 231, some 232, some 233, some 234, some 235, some 4]
set_option maxRecDepth 100000 in
theorem k25_nodup : k25_d.Nodup := by unfold k25_d; decide

set_option maxRecDepth 100000 in
theorem k25_wp {c : Cm} {a1 a2 a3 a4 a5 : Option Addr} {c1 c2 c3 c4 c5 : Nat} {b : Nat} {ok : Bool} {S : World → Prop} {a0 : Act} {Q : Exit → Act → World → Prop} {w : World} (h1 : a0.tmps[1]? = some (.pointer (some ⟨b, 0, none⟩))) (h4 : a0.tmps[4]? = some (.bool ok)) (hcell : ∀ W, S W → ∀ o x, (cmL c (.slice a1 c.cols.length c1) (.slice a2 c.vals.length c2) (.slice a3 c.fields.length c3) (.slice a4 c.expr.args.length c4) (.slice a5 c.wh.args.length c5))[o]? = some x → W.cell? ⟨b, o, none⟩ = some x) (q234 : ∀ W, S W → Calls Tryz.prog 35 #[.agg #[.int .i64 c.expr.k, .int .i64 c.expr.v.k, .int .i64 c.expr.v.n, .string ⟨c.expr.v.s.toArray⟩, .string ⟨c.expr.nm.toArray⟩, .slice a4 c.expr.args.length c4]] W fun e w' => e = .returned (.bool (exR c.expr)) ∧ S w') (ha : a0.tmps.size = 272) (hS : S w)
    (hq : ∀ a' w', S w' → a'.defers = a0.defers → a'.tmps.size = 272 → (∀ j d, k25_d[j]? = some (some d) → a'.tmps[d]? = some (k25_V c a4 c4 b ok j)) → (∀ d, some d ∉ k25_d → a'.tmps[d]? = a0.tmps[d]?) → Q .normal a' w') : (Code.region 25 k25_R false).wp Tryz.prog Q a0 w := by
  refine wp_plain (n := 7) (m := 272) (by kernel_rfl) (by kernel_rfl) k25_nodup (by kernel_rfl) ha ?_ hS hq
  refine upto_succ ?_ (obPU (o := k25_o 6) (by kernel_rfl) (by decide) (by kernel_rfl) fun _ _ s _ => ex_assign (x := .tmp 235) (by kernel_rfl) (s.u 5 235 (by kernel_rfl) (by kernel_rfl)))
  refine upto_succ ?_ (obPU (o := k25_o 5) (by kernel_rfl) (by decide) (by kernel_rfl) fun _ _ s _ => ex_pickA (G := true) (by kernel_rfl) (s.u 1 231 (by kernel_rfl) (by kernel_rfl)) (s.u 4 234 (by kernel_rfl) (by kernel_rfl)) rfl rfl)
  refine upto_succ ?_ (obPH true 1 231 true (o := k25_o 4) (by kernel_rfl) (by decide) (by kernel_rfl) (by kernel_rfl) (by kernel_rfl) rfl rfl (fun hG _ _ s => ex_call1 (ts := #[29]) (x := .tmp 233) (f := 35) cf35 (by kernel_rfl) rfl (s.g 3 233 (by kernel_rfl) (by kernel_rfl) hG rfl)) q234)
  refine upto_succ ?_ (obPG true 1 231 true (o := k25_o 3) (by kernel_rfl) (by decide) (by kernel_rfl) (by kernel_rfl) (by kernel_rfl) rfl rfl fun hG _ W s hS => ex_load (x := .tmp 232) (t := 29) (by kernel_rfl) (s.g 2 232 (by kernel_rfl) (by kernel_rfl) hG rfl) (ld29 W _ 11 _ _ _ _ _ _ (hcell W hS 11 _ rfl) (hcell W hS 12 _ rfl) (hcell W hS 13 _ rfl) (hcell W hS 14 _ rfl) (hcell W hS 15 _ rfl) (hcell W hS 16 _ rfl)))
  refine upto_succ ?_ (obPG true 1 231 true (o := k25_o 2) (by kernel_rfl) (by decide) (by kernel_rfl) (by kernel_rfl) (by kernel_rfl) rfl rfl fun _ _ W s _ => ex_field (x := .tmp 1) (t := 31) (f := 9) (by kernel_rfl) (s.b 1 (by kernel_rfl) h1) (fa9 W _))
  refine upto_succ ?_ (obPU (o := k25_o 1) (by kernel_rfl) (by decide) (by kernel_rfl) fun _ _ s _ => ex_move (x := .tmp 230) (by kernel_rfl) (s.u 0 230 (by kernel_rfl) (by kernel_rfl)))
  refine upto_succ ?_ (obPU (o := k25_o 0) (by kernel_rfl) (by decide) (by kernel_rfl) fun _ _ s _ => ex_move (x := .tmp 4) (by kernel_rfl) (s.b 4 (by kernel_rfl) h4))
  exact fun j hj => absurd hj (Nat.not_lt_zero j)

noncomputable def k26_R : Array Oper := ((Tryz.f13.body).bind (regionOf 26)).getD #[]
noncomputable def k26_o (j : Nat) : Oper := (k26_R[j]?).getD ⟨none, .move (.const undef), 0, "", #[], none⟩
def k26_V (c : Cm) (a4 : Option Addr) (c4 : Nat) (b : Nat) (ok : Bool) (j : Nat) : Value := ([.bool ok, .bool ok, gw (ok == true) (.pointer (some ⟨b, 11, none⟩)), gw (ok == true) (.agg #[.int .i64 c.expr.k, .int .i64 c.expr.v.k, .int .i64 c.expr.v.n, .string ⟨c.expr.v.s.toArray⟩, .string ⟨c.expr.nm.toArray⟩, .slice a4 c.expr.args.length c4]), gw (ok == true) (.bool (noneE c.expr)), .bool (ok && (noneE c.expr)), .bool (ok && (noneE c.expr))] : List Value).getD j undef
def k26_d : List (Option Tmp) := [some 236, some 237, some 238, some 239, some 240, some 241, some 4]
set_option maxRecDepth 100000 in
theorem k26_nodup : k26_d.Nodup := by unfold k26_d; decide

set_option maxRecDepth 100000 in
theorem k26_wp {c : Cm} {a1 a2 a3 a4 a5 : Option Addr} {c1 c2 c3 c4 c5 : Nat} {b : Nat} {ok : Bool} {S : World → Prop} {a0 : Act} {Q : Exit → Act → World → Prop} {w : World} (h1 : a0.tmps[1]? = some (.pointer (some ⟨b, 0, none⟩))) (h4 : a0.tmps[4]? = some (.bool ok)) (hcell : ∀ W, S W → ∀ o x, (cmL c (.slice a1 c.cols.length c1) (.slice a2 c.vals.length c2) (.slice a3 c.fields.length c3) (.slice a4 c.expr.args.length c4) (.slice a5 c.wh.args.length c5))[o]? = some x → W.cell? ⟨b, o, none⟩ = some x) (q240 : ∀ W, S W → Calls Tryz.prog 36 #[.agg #[.int .i64 c.expr.k, .int .i64 c.expr.v.k, .int .i64 c.expr.v.n, .string ⟨c.expr.v.s.toArray⟩, .string ⟨c.expr.nm.toArray⟩, .slice a4 c.expr.args.length c4]] W fun e w' => e = .returned (.bool (noneE c.expr)) ∧ S w') (ha : a0.tmps.size = 272) (hS : S w)
    (hq : ∀ a' w', S w' → a'.defers = a0.defers → a'.tmps.size = 272 → (∀ j d, k26_d[j]? = some (some d) → a'.tmps[d]? = some (k26_V c a4 c4 b ok j)) → (∀ d, some d ∉ k26_d → a'.tmps[d]? = a0.tmps[d]?) → Q .normal a' w') : (Code.region 26 k26_R false).wp Tryz.prog Q a0 w := by
  refine wp_plain (n := 7) (m := 272) (by kernel_rfl) (by kernel_rfl) k26_nodup (by kernel_rfl) ha ?_ hS hq
  refine upto_succ ?_ (obPU (o := k26_o 6) (by kernel_rfl) (by decide) (by kernel_rfl) fun _ _ s _ => ex_assign (x := .tmp 241) (by kernel_rfl) (s.u 5 241 (by kernel_rfl) (by kernel_rfl)))
  refine upto_succ ?_ (obPU (o := k26_o 5) (by kernel_rfl) (by decide) (by kernel_rfl) fun _ _ s _ => ex_pickA (G := true) (by kernel_rfl) (s.u 1 237 (by kernel_rfl) (by kernel_rfl)) (s.u 4 240 (by kernel_rfl) (by kernel_rfl)) rfl rfl)
  refine upto_succ ?_ (obPH true 1 237 true (o := k26_o 4) (by kernel_rfl) (by decide) (by kernel_rfl) (by kernel_rfl) (by kernel_rfl) rfl rfl (fun hG _ _ s => ex_call1 (ts := #[29]) (x := .tmp 239) (f := 36) cf36 (by kernel_rfl) rfl (s.g 3 239 (by kernel_rfl) (by kernel_rfl) hG rfl)) q240)
  refine upto_succ ?_ (obPG true 1 237 true (o := k26_o 3) (by kernel_rfl) (by decide) (by kernel_rfl) (by kernel_rfl) (by kernel_rfl) rfl rfl fun hG _ W s hS => ex_load (x := .tmp 238) (t := 29) (by kernel_rfl) (s.g 2 238 (by kernel_rfl) (by kernel_rfl) hG rfl) (ld29 W _ 11 _ _ _ _ _ _ (hcell W hS 11 _ rfl) (hcell W hS 12 _ rfl) (hcell W hS 13 _ rfl) (hcell W hS 14 _ rfl) (hcell W hS 15 _ rfl) (hcell W hS 16 _ rfl)))
  refine upto_succ ?_ (obPG true 1 237 true (o := k26_o 2) (by kernel_rfl) (by decide) (by kernel_rfl) (by kernel_rfl) (by kernel_rfl) rfl rfl fun _ _ W s _ => ex_field (x := .tmp 1) (t := 31) (f := 9) (by kernel_rfl) (s.b 1 (by kernel_rfl) h1) (fa9 W _))
  refine upto_succ ?_ (obPU (o := k26_o 1) (by kernel_rfl) (by decide) (by kernel_rfl) fun _ _ s _ => ex_move (x := .tmp 236) (by kernel_rfl) (s.u 0 236 (by kernel_rfl) (by kernel_rfl)))
  refine upto_succ ?_ (obPU (o := k26_o 0) (by kernel_rfl) (by decide) (by kernel_rfl) fun _ _ s _ => ex_move (x := .tmp 4) (by kernel_rfl) (s.b 4 (by kernel_rfl) h4))
  exact fun j hj => absurd hj (Nat.not_lt_zero j)

end Go.Proofs.YtkpeklealgicpabGreatDoor

namespace Go.Proofs.YtkpeklealgicpabGreatDoor
open Go.RowKit

noncomputable def k27_R : Array Oper := ((Tryz.f13.body).bind (regionOf 27)).getD #[]
noncomputable def k27_o (j : Nat) : Oper := (k27_R[j]?).getD ⟨none, .move (.const undef), 0, "", #[], none⟩
def k27_V (c : Cm) (b : Nat) (j : Nat) : Value := ([.int .i64 c.kind, .bool (betw c.kind 11 13), .bool (betw c.kind 11 13), gw ((betw c.kind 11 13) == true) (.pointer (some ⟨b, 17, none⟩)), gw ((betw c.kind 11 13) == true) (.bool c.all), gw ((betw c.kind 11 13) == true) (.bool (!c.all)), .bool ((betw c.kind 11 13) && (!c.all))] : List Value).getD j undef
def k27_d : List (Option Tmp) := [some 242, some 243, some 244, some 245, some 246, some 247, some 248]
set_option maxRecDepth 100000 in
theorem k27_nodup : k27_d.Nodup := by unfold k27_d; decide

set_option maxRecDepth 100000 in
theorem k27_wp {c : Cm} {a1 a2 a3 a4 a5 : Option Addr} {c1 c2 c3 c4 c5 : Nat} {b : Nat} {S : World → Prop} {a0 : Act} {Q : Exit → Act → World → Prop} {w : World} (h1 : a0.tmps[1]? = some (.pointer (some ⟨b, 0, none⟩))) (h3 : a0.tmps[3]? = some (.int .i64 c.kind)) (hcell : ∀ W, S W → ∀ o x, (cmL c (.slice a1 c.cols.length c1) (.slice a2 c.vals.length c2) (.slice a3 c.fields.length c3) (.slice a4 c.expr.args.length c4) (.slice a5 c.wh.args.length c5))[o]? = some x → W.cell? ⟨b, o, none⟩ = some x) (q243 : ∀ W, S W → Calls Tryz.prog 31 #[.int .i64 c.kind, .int .i64 11, .int .i64 13] W fun e w' => e = .returned (.bool (betw c.kind 11 13)) ∧ S w') (ha : a0.tmps.size = 272) (hS : S w)
    (hq : ∀ a' w', S w' → a'.defers = a0.defers → a'.tmps.size = 272 → (∀ j d, k27_d[j]? = some (some d) → a'.tmps[d]? = some (k27_V c b j)) → (∀ d, some d ∉ k27_d → a'.tmps[d]? = a0.tmps[d]?) → Q .normal a' w') : (Code.region 27 k27_R false).wp Tryz.prog Q a0 w := by
  refine wp_plain (n := 7) (m := 272) (by kernel_rfl) (by kernel_rfl) k27_nodup (by kernel_rfl) ha ?_ hS hq
  refine upto_succ ?_ (obPU (o := k27_o 6) (by kernel_rfl) (by decide) (by kernel_rfl) fun _ _ s _ => ex_pickA (G := true) (by kernel_rfl) (s.u 2 244 (by kernel_rfl) (by kernel_rfl)) (s.u 5 247 (by kernel_rfl) (by kernel_rfl)) rfl rfl)
  refine upto_succ ?_ (obPG true 2 244 true (o := k27_o 5) (by kernel_rfl) (by decide) (by kernel_rfl) (by kernel_rfl) (by kernel_rfl) rfl rfl fun hG _ W s _ => ex_un (x := .tmp 246) (t := 4) (op := .not) (by kernel_rfl) (s.g 4 246 (by kernel_rfl) (by kernel_rfl) hG rfl) (not4 W _))
  refine upto_succ ?_ (obPG true 2 244 true (o := k27_o 4) (by kernel_rfl) (by decide) (by kernel_rfl) (by kernel_rfl) (by kernel_rfl) rfl rfl fun hG _ W s hS => ex_load (x := .tmp 245) (t := 4) (by kernel_rfl) (s.g 3 245 (by kernel_rfl) (by kernel_rfl) hG rfl) (ld4 W _ 17 _ (hcell W hS 17 _ rfl)))
  refine upto_succ ?_ (obPG true 2 244 true (o := k27_o 3) (by kernel_rfl) (by decide) (by kernel_rfl) (by kernel_rfl) (by kernel_rfl) rfl rfl fun _ _ W s _ => ex_field (x := .tmp 1) (t := 31) (f := 10) (by kernel_rfl) (s.b 1 (by kernel_rfl) h1) (fa10 W _))
  refine upto_succ ?_ (obPU (o := k27_o 2) (by kernel_rfl) (by decide) (by kernel_rfl) fun _ _ s _ => ex_move (x := .tmp 243) (by kernel_rfl) (s.u 1 243 (by kernel_rfl) (by kernel_rfl)))
  refine upto_succ ?_ (obPC (o := k27_o 1) (by kernel_rfl) (by decide) (by kernel_rfl) (fun _ _ s => ex_call3 (ts := #[3, 3, 3]) (x := .tmp 242) (y := .const (.int .i64 11)) (z := .const (.int .i64 13)) (f := 31) cf31 (by kernel_rfl) rfl (s.u 0 242 (by kernel_rfl) (by kernel_rfl)) (rfl) (rfl)) q243)
  refine upto_succ ?_ (obPU (o := k27_o 0) (by kernel_rfl) (by decide) (by kernel_rfl) fun _ _ s _ => ex_move (x := .tmp 3) (by kernel_rfl) (s.b 3 (by kernel_rfl) h3))
  exact fun j hj => absurd hj (Nat.not_lt_zero j)

noncomputable def k28_R : Array Oper := ((Tryz.f13.body).bind (regionOf 28)).getD #[]
noncomputable def k28_o (j : Nat) : Oper := (k28_R[j]?).getD ⟨none, .move (.const undef), 0, "", #[], none⟩
def k28_V (c : Cm) (a5 : Option Addr) (c5 : Nat) (b : Nat) (ok : Bool) (j : Nat) : Value := ([.bool ok, .bool ok, gw (ok == true) (.pointer (some ⟨b, 18, none⟩)), gw (ok == true) (.agg #[.int .i64 c.wh.k, .int .i64 c.wh.v.k, .int .i64 c.wh.v.n, .string ⟨c.wh.v.s.toArray⟩, .string ⟨c.wh.nm.toArray⟩, .slice a5 c.wh.args.length c5]), gw (ok == true) (.bool (exR c.wh)), .bool (ok && (exR c.wh)), .bool (ok && (exR c.wh))] : List Value).getD j undef
def k28_d : List (Option Tmp) := [some 249, some 250, some 251, some 252, some 253, some 254, some 4]
set_option maxRecDepth 100000 in
theorem k28_nodup : k28_d.Nodup := by unfold k28_d; decide

set_option maxRecDepth 100000 in
theorem k28_wp {c : Cm} {a1 a2 a3 a4 a5 : Option Addr} {c1 c2 c3 c4 c5 : Nat} {b : Nat} {ok : Bool} {S : World → Prop} {a0 : Act} {Q : Exit → Act → World → Prop} {w : World} (h1 : a0.tmps[1]? = some (.pointer (some ⟨b, 0, none⟩))) (h4 : a0.tmps[4]? = some (.bool ok)) (hcell : ∀ W, S W → ∀ o x, (cmL c (.slice a1 c.cols.length c1) (.slice a2 c.vals.length c2) (.slice a3 c.fields.length c3) (.slice a4 c.expr.args.length c4) (.slice a5 c.wh.args.length c5))[o]? = some x → W.cell? ⟨b, o, none⟩ = some x) (q253 : ∀ W, S W → Calls Tryz.prog 35 #[.agg #[.int .i64 c.wh.k, .int .i64 c.wh.v.k, .int .i64 c.wh.v.n, .string ⟨c.wh.v.s.toArray⟩, .string ⟨c.wh.nm.toArray⟩, .slice a5 c.wh.args.length c5]] W fun e w' => e = .returned (.bool (exR c.wh)) ∧ S w') (ha : a0.tmps.size = 272) (hS : S w)
    (hq : ∀ a' w', S w' → a'.defers = a0.defers → a'.tmps.size = 272 → (∀ j d, k28_d[j]? = some (some d) → a'.tmps[d]? = some (k28_V c a5 c5 b ok j)) → (∀ d, some d ∉ k28_d → a'.tmps[d]? = a0.tmps[d]?) → Q .normal a' w') : (Code.region 28 k28_R false).wp Tryz.prog Q a0 w := by
  refine wp_plain (n := 7) (m := 272) (by kernel_rfl) (by kernel_rfl) k28_nodup (by kernel_rfl) ha ?_ hS hq
  refine upto_succ ?_ (obPU (o := k28_o 6) (by kernel_rfl) (by decide) (by kernel_rfl) fun _ _ s _ => ex_assign (x := .tmp 254) (by kernel_rfl) (s.u 5 254 (by kernel_rfl) (by kernel_rfl)))
  refine upto_succ ?_ (obPU (o := k28_o 5) (by kernel_rfl) (by decide) (by kernel_rfl) fun _ _ s _ => ex_pickA (G := true) (by kernel_rfl) (s.u 1 250 (by kernel_rfl) (by kernel_rfl)) (s.u 4 253 (by kernel_rfl) (by kernel_rfl)) rfl rfl)
  refine upto_succ ?_ (obPH true 1 250 true (o := k28_o 4) (by kernel_rfl) (by decide) (by kernel_rfl) (by kernel_rfl) (by kernel_rfl) rfl rfl (fun hG _ _ s => ex_call1 (ts := #[29]) (x := .tmp 252) (f := 35) cf35 (by kernel_rfl) rfl (s.g 3 252 (by kernel_rfl) (by kernel_rfl) hG rfl)) q253)
  refine upto_succ ?_ (obPG true 1 250 true (o := k28_o 3) (by kernel_rfl) (by decide) (by kernel_rfl) (by kernel_rfl) (by kernel_rfl) rfl rfl fun hG _ W s hS => ex_load (x := .tmp 251) (t := 29) (by kernel_rfl) (s.g 2 251 (by kernel_rfl) (by kernel_rfl) hG rfl) (ld29 W _ 18 _ _ _ _ _ _ (hcell W hS 18 _ rfl) (hcell W hS 19 _ rfl) (hcell W hS 20 _ rfl) (hcell W hS 21 _ rfl) (hcell W hS 22 _ rfl) (hcell W hS 23 _ rfl)))
  refine upto_succ ?_ (obPG true 1 250 true (o := k28_o 2) (by kernel_rfl) (by decide) (by kernel_rfl) (by kernel_rfl) (by kernel_rfl) rfl rfl fun _ _ W s _ => ex_field (x := .tmp 1) (t := 31) (f := 11) (by kernel_rfl) (s.b 1 (by kernel_rfl) h1) (fa11 W _))
  refine upto_succ ?_ (obPU (o := k28_o 1) (by kernel_rfl) (by decide) (by kernel_rfl) fun _ _ s _ => ex_move (x := .tmp 249) (by kernel_rfl) (s.u 0 249 (by kernel_rfl) (by kernel_rfl)))
  refine upto_succ ?_ (obPU (o := k28_o 0) (by kernel_rfl) (by decide) (by kernel_rfl) fun _ _ s _ => ex_move (x := .tmp 4) (by kernel_rfl) (s.b 4 (by kernel_rfl) h4))
  exact fun j hj => absurd hj (Nat.not_lt_zero j)

noncomputable def k29_R : Array Oper := ((Tryz.f13.body).bind (regionOf 29)).getD #[]
noncomputable def k29_o (j : Nat) : Oper := (k29_R[j]?).getD ⟨none, .move (.const undef), 0, "", #[], none⟩
def k29_V (c : Cm) (a5 : Option Addr) (c5 : Nat) (b : Nat) (ok : Bool) (j : Nat) : Value := ([.bool ok, .bool ok, gw (ok == true) (.pointer (some ⟨b, 18, none⟩)), gw (ok == true) (.agg #[.int .i64 c.wh.k, .int .i64 c.wh.v.k, .int .i64 c.wh.v.n, .string ⟨c.wh.v.s.toArray⟩, .string ⟨c.wh.nm.toArray⟩, .slice a5 c.wh.args.length c5]), gw (ok == true) (.bool (noneE c.wh)), .bool (ok && (noneE c.wh)), .bool (ok && (noneE c.wh)), gw ((ok && (noneE c.wh)) == true) (.int .i64 c.kind), gw ((ok && (noneE c.wh)) == true) (.bool (betw c.kind 11 13)), gw ((ok && (noneE c.wh)) == true) (.bool (betw c.kind 11 13)), gw (((ok && (noneE c.wh)) == true) && ((betw c.kind 11 13) == false)) (.pointer (some ⟨b, 17, none⟩)), gw (((ok && (noneE c.wh)) == true) && ((betw c.kind 11 13) == false)) (.bool c.all), gw (((ok && (noneE c.wh)) == true) && ((betw c.kind 11 13) == false)) (.bool (!c.all)), gw ((ok && (noneE c.wh)) == true) (.bool ((betw c.kind 11 13) || (!c.all))), .bool ((ok && (noneE c.wh)) && ((betw c.kind 11 13) || (!c.all))), .bool ((ok && (noneE c.wh)) && ((betw c.kind 11 13) || (!c.all)))] : List Value).getD j undef
def k29_d : List (Option Tmp) := [some 255, some 256, some 257, some 258, some 259, some 260, some 261, some 262, some 263, some 264, some 265, some 266, some 267, some 268, some 269, some 4]
set_option maxRecDepth 100000 in
theorem k29_nodup : k29_d.Nodup := by unfold k29_d; decide

set_option maxRecDepth 100000 in
theorem k29_wp {c : Cm} {a1 a2 a3 a4 a5 : Option Addr} {c1 c2 c3 c4 c5 : Nat} {b : Nat} {ok : Bool} {S : World → Prop} {a0 : Act} {Q : Exit → Act → World → Prop} {w : World} (h1 : a0.tmps[1]? = some (.pointer (some ⟨b, 0, none⟩))) (h3 : a0.tmps[3]? = some (.int .i64 c.kind)) (h4 : a0.tmps[4]? = some (.bool ok)) (hcell : ∀ W, S W → ∀ o x, (cmL c (.slice a1 c.cols.length c1) (.slice a2 c.vals.length c2) (.slice a3 c.fields.length c3) (.slice a4 c.expr.args.length c4) (.slice a5 c.wh.args.length c5))[o]? = some x → W.cell? ⟨b, o, none⟩ = some x) (q259 : ∀ W, S W → Calls Tryz.prog 36 #[.agg #[.int .i64 c.wh.k, .int .i64 c.wh.v.k, .int .i64 c.wh.v.n, .string ⟨c.wh.v.s.toArray⟩, .string ⟨c.wh.nm.toArray⟩, .slice a5 c.wh.args.length c5]] W fun e w' => e = .returned (.bool (noneE c.wh)) ∧ S w') (q263 : ∀ W, S W → Calls Tryz.prog 31 #[.int .i64 c.kind, .int .i64 11, .int .i64 13] W fun e w' => e = .returned (.bool (betw c.kind 11 13)) ∧ S w') (ha : a0.tmps.size = 272) (hS : S w)
    (hq : ∀ a' w', S w' → a'.defers = a0.defers → a'.tmps.size = 272 → (∀ j d, k29_d[j]? = some (some d) → a'.tmps[d]? = some (k29_V c a5 c5 b ok j)) → (∀ d, some d ∉ k29_d → a'.tmps[d]? = a0.tmps[d]?) → Q .normal a' w') : (Code.region 29 k29_R false).wp Tryz.prog Q a0 w := by
  refine wp_plain (n := 16) (m := 272) (by kernel_rfl) (by kernel_rfl) k29_nodup (by kernel_rfl) ha ?_ hS hq
  refine upto_succ ?_ (obPU (o := k29_o 15) (by kernel_rfl) (by decide) (by kernel_rfl) fun _ _ s _ => ex_assign (x := .tmp 269) (by kernel_rfl) (s.u 14 269 (by kernel_rfl) (by kernel_rfl)))
  refine upto_succ ?_ (obPU (o := k29_o 14) (by kernel_rfl) (by decide) (by kernel_rfl) fun _ _ s _ => ex_pickA (G := true) (by kernel_rfl) (s.u 6 261 (by kernel_rfl) (by kernel_rfl)) (s.u 13 268 (by kernel_rfl) (by kernel_rfl)) rfl rfl)
  refine upto_succ ?_ (obPG true 6 261 true (o := k29_o 13) (by kernel_rfl) (by decide) (by kernel_rfl) (by kernel_rfl) (by kernel_rfl) rfl rfl fun hG _ _ s _ => ex_pickO (by kernel_rfl) (s.g 9 264 (by kernel_rfl) (by kernel_rfl) hG rfl) (s.u 12 267 (by kernel_rfl) (by kernel_rfl)) rfl hG)
  refine upto_succ ?_ (obPG _ 9 264 false (o := k29_o 12) (by kernel_rfl) (by decide) (by kernel_rfl) (by kernel_rfl) (by kernel_rfl) rfl rfl fun hG _ W s _ => ex_un (x := .tmp 266) (t := 4) (op := .not) (by kernel_rfl) (s.g 11 266 (by kernel_rfl) (by kernel_rfl) hG rfl) (not4 W _))
  refine upto_succ ?_ (obPG _ 9 264 false (o := k29_o 11) (by kernel_rfl) (by decide) (by kernel_rfl) (by kernel_rfl) (by kernel_rfl) rfl rfl fun hG _ W s hS => ex_load (x := .tmp 265) (t := 4) (by kernel_rfl) (s.g 10 265 (by kernel_rfl) (by kernel_rfl) hG rfl) (ld4 W _ 17 _ (hcell W hS 17 _ rfl)))
  refine upto_succ ?_ (obPG _ 9 264 false (o := k29_o 10) (by kernel_rfl) (by decide) (by kernel_rfl) (by kernel_rfl) (by kernel_rfl) rfl rfl fun _ _ W s _ => ex_field (x := .tmp 1) (t := 31) (f := 10) (by kernel_rfl) (s.b 1 (by kernel_rfl) h1) (fa10 W _))
  refine upto_succ ?_ (obPG true 6 261 true (o := k29_o 9) (by kernel_rfl) (by decide) (by kernel_rfl) (by kernel_rfl) (by kernel_rfl) rfl rfl fun hG _ _ s _ => ex_move (x := .tmp 263) (by kernel_rfl) (s.g 8 263 (by kernel_rfl) (by kernel_rfl) hG rfl))
  refine upto_succ ?_ (obPH true 6 261 true (o := k29_o 8) (by kernel_rfl) (by decide) (by kernel_rfl) (by kernel_rfl) (by kernel_rfl) rfl rfl (fun hG _ _ s => ex_call3 (ts := #[3, 3, 3]) (x := .tmp 262) (y := .const (.int .i64 11)) (z := .const (.int .i64 13)) (f := 31) cf31 (by kernel_rfl) rfl (s.g 7 262 (by kernel_rfl) (by kernel_rfl) hG rfl) (rfl) (rfl)) q263)
  refine upto_succ ?_ (obPG true 6 261 true (o := k29_o 7) (by kernel_rfl) (by decide) (by kernel_rfl) (by kernel_rfl) (by kernel_rfl) rfl rfl fun _ _ _ s _ => ex_move (x := .tmp 3) (by kernel_rfl) (s.b 3 (by kernel_rfl) h3))
  refine upto_succ ?_ (obPU (o := k29_o 6) (by kernel_rfl) (by decide) (by kernel_rfl) fun _ _ s _ => ex_move (x := .tmp 260) (by kernel_rfl) (s.u 5 260 (by kernel_rfl) (by kernel_rfl)))
  refine upto_succ ?_ (obPU (o := k29_o 5) (by kernel_rfl) (by decide) (by kernel_rfl) fun _ _ s _ => ex_pickA (G := true) (by kernel_rfl) (s.u 1 256 (by kernel_rfl) (by kernel_rfl)) (s.u 4 259 (by kernel_rfl) (by kernel_rfl)) rfl rfl)
  refine upto_succ ?_ (obPH true 1 256 true (o := k29_o 4) (by kernel_rfl) (by decide) (by kernel_rfl) (by kernel_rfl) (by kernel_rfl) rfl rfl (fun hG _ _ s => ex_call1 (ts := #[29]) (x := .tmp 258) (f := 36) cf36 (by kernel_rfl) rfl (s.g 3 258 (by kernel_rfl) (by kernel_rfl) hG rfl)) q259)
  refine upto_succ ?_ (obPG true 1 256 true (o := k29_o 3) (by kernel_rfl) (by decide) (by kernel_rfl) (by kernel_rfl) (by kernel_rfl) rfl rfl fun hG _ W s hS => ex_load (x := .tmp 257) (t := 29) (by kernel_rfl) (s.g 2 257 (by kernel_rfl) (by kernel_rfl) hG rfl) (ld29 W _ 18 _ _ _ _ _ _ (hcell W hS 18 _ rfl) (hcell W hS 19 _ rfl) (hcell W hS 20 _ rfl) (hcell W hS 21 _ rfl) (hcell W hS 22 _ rfl) (hcell W hS 23 _ rfl)))
  refine upto_succ ?_ (obPG true 1 256 true (o := k29_o 2) (by kernel_rfl) (by decide) (by kernel_rfl) (by kernel_rfl) (by kernel_rfl) rfl rfl fun _ _ W s _ => ex_field (x := .tmp 1) (t := 31) (f := 11) (by kernel_rfl) (s.b 1 (by kernel_rfl) h1) (fa11 W _))
  refine upto_succ ?_ (obPU (o := k29_o 1) (by kernel_rfl) (by decide) (by kernel_rfl) fun _ _ s _ => ex_move (x := .tmp 255) (by kernel_rfl) (s.u 0 255 (by kernel_rfl) (by kernel_rfl)))
  refine upto_succ ?_ (obPU (o := k29_o 0) (by kernel_rfl) (by decide) (by kernel_rfl) fun _ _ s _ => ex_move (x := .tmp 4) (by kernel_rfl) (s.b 4 (by kernel_rfl) h4))
  exact fun j hj => absurd hj (Nat.not_lt_zero j)

noncomputable def k30_R : Array Oper := ((Tryz.f13.body).bind (regionOf 30)).getD #[]
noncomputable def k30_o (j : Nat) : Oper := (k30_R[j]?).getD ⟨none, .move (.const undef), 0, "", #[], none⟩
def k30_V (ok : Bool) (j : Nat) : Value := ([.bool ok, .bool (!ok)] : List Value).getD j undef
def k30_d : List (Option Tmp) := [some 270, some 271]
set_option maxRecDepth 100000 in
theorem k30_nodup : k30_d.Nodup := by unfold k30_d; decide

set_option maxRecDepth 100000 in
theorem k30_wp {ok : Bool} {S : World → Prop} {a0 : Act} {Q : Exit → Act → World → Prop} {w : World} (h4 : a0.tmps[4]? = some (.bool ok)) (ha : a0.tmps.size = 272) (hS : S w)
    (hq : ∀ a' w', S w' → a'.defers = a0.defers → a'.tmps.size = 272 → (∀ j d, k30_d[j]? = some (some d) → a'.tmps[d]? = some (k30_V ok j)) → (∀ d, some d ∉ k30_d → a'.tmps[d]? = a0.tmps[d]?) → Q .normal a' w') : (Code.region 30 k30_R false).wp Tryz.prog Q a0 w := by
  refine wp_plain (n := 2) (m := 272) (by kernel_rfl) (by kernel_rfl) k30_nodup (by kernel_rfl) ha ?_ hS hq
  refine upto_succ ?_ (obPU (o := k30_o 1) (by kernel_rfl) (by decide) (by kernel_rfl) fun _ W s _ => ex_un (x := .tmp 270) (t := 4) (op := .not) (by kernel_rfl) (s.u 0 270 (by kernel_rfl) (by kernel_rfl)) (not4 W _))
  refine upto_succ ?_ (obPU (o := k30_o 0) (by kernel_rfl) (by decide) (by kernel_rfl) fun _ _ s _ => ex_move (x := .tmp 4) (by kernel_rfl) (s.b 4 (by kernel_rfl) h4))
  exact fun j hj => absurd hj (Nat.not_lt_zero j)

end Go.Proofs.YtkpeklealgicpabGreatDoor

namespace Go.Proofs.YtkpeklealgicpabGreatDoor
open Go.RowKit

noncomputable def ckr_R : Array Oper := ((Tryz.f13.body).bind (regionOf 4)).getD #[]
noncomputable def ckr_o (j : Nat) : Oper := (ckr_R[j]?).getD ⟨none, .move (.const undef), 0, "", #[], none⟩
def ckr_V (c : Cm) (b : Nat) (j : Nat) : Value := ([.int .i64 c.kind, .bool (betw c.kind 1 16), .bool (betw c.kind 1 16), gw ((betw c.kind 1 16) == true) (.pointer (some ⟨b, 1, none⟩)), gw ((betw c.kind 1 16) == true) (.string ⟨c.name.toArray⟩), gw ((betw c.kind 1 16) == true) (.int .i64 c.kind), gw ((betw c.kind 1 16) == true) (.bool (decide (c.kind ≤ 13))), gw ((betw c.kind 1 16) == true) (.bool (nameIs c.name (decide (c.kind ≤ 13)))), .bool ((betw c.kind 1 16) && (nameIs c.name (decide (c.kind ≤ 13)))), .bool ((betw c.kind 1 16) && (nameIs c.name (decide (c.kind ≤ 13)))), gw (((betw c.kind 1 16) && (nameIs c.name (decide (c.kind ≤ 13)))) == true) (.pointer (some ⟨b, 2, none⟩)), gw (((betw c.kind 1 16) && (nameIs c.name (decide (c.kind ≤ 13)))) == true) (.string ⟨c.other.toArray⟩), gw (((betw c.kind 1 16) && (nameIs c.name (decide (c.kind ≤ 13)))) == true) (.int .i64 c.kind), gw (((betw c.kind 1 16) && (nameIs c.name (decide (c.kind ≤ 13)))) == true) (.bool (decide (c.kind = 5))), gw (((betw c.kind 1 16) && (nameIs c.name (decide (c.kind ≤ 13)))) == true) (.bool (decide (c.kind = 5))), gw ((((betw c.kind 1 16) && (nameIs c.name (decide (c.kind ≤ 13)))) == true) && ((decide (c.kind = 5)) == false)) (.int .i64 c.kind), gw ((((betw c.kind 1 16) && (nameIs c.name (decide (c.kind ≤ 13)))) == true) && ((decide (c.kind = 5)) == false)) (.bool (decide (c.kind = 7))), gw (((betw c.kind 1 16) && (nameIs c.name (decide (c.kind ≤ 13)))) == true) (.bool ((decide (c.kind = 5)) || (decide (c.kind = 7)))), gw (((betw c.kind 1 16) && (nameIs c.name (decide (c.kind ≤ 13)))) == true) (.bool ((decide (c.kind = 5)) || (decide (c.kind = 7)))), gw ((((betw c.kind 1 16) && (nameIs c.name (decide (c.kind ≤ 13)))) == true) && (((decide (c.kind = 5)) || (decide (c.kind = 7))) == false)) (.int .i64 c.kind), gw ((((betw c.kind 1 16) && (nameIs c.name (decide (c.kind ≤ 13)))) == true) && (((decide (c.kind = 5)) || (decide (c.kind = 7))) == false)) (.bool (decide (c.kind = 8))), gw (((betw c.kind 1 16) && (nameIs c.name (decide (c.kind ≤ 13)))) == true) (.bool (((decide (c.kind = 5)) || (decide (c.kind = 7))) || (decide (c.kind = 8)))), gw (((betw c.kind 1 16) && (nameIs c.name (decide (c.kind ≤ 13)))) == true) (.bool (nameIs c.other (((decide (c.kind = 5)) || (decide (c.kind = 7))) || (decide (c.kind = 8))))), .bool (((betw c.kind 1 16) && (nameIs c.name (decide (c.kind ≤ 13)))) && (nameIs c.other (((decide (c.kind = 5)) || (decide (c.kind = 7))) || (decide (c.kind = 8))))), .bool (((betw c.kind 1 16) && (nameIs c.name (decide (c.kind ≤ 13)))) && (nameIs c.other (((decide (c.kind = 5)) || (decide (c.kind = 7))) || (decide (c.kind = 8))))), gw ((((betw c.kind 1 16) && (nameIs c.name (decide (c.kind ≤ 13)))) && (nameIs c.other (((decide (c.kind = 5)) || (decide (c.kind = 7))) || (decide (c.kind = 8))))) == true) (.pointer (some ⟨b, 3, none⟩)), gw ((((betw c.kind 1 16) && (nameIs c.name (decide (c.kind ≤ 13)))) && (nameIs c.other (((decide (c.kind = 5)) || (decide (c.kind = 7))) || (decide (c.kind = 8))))) == true) (.string ⟨c.column.toArray⟩), gw ((((betw c.kind 1 16) && (nameIs c.name (decide (c.kind ≤ 13)))) && (nameIs c.other (((decide (c.kind = 5)) || (decide (c.kind = 7))) || (decide (c.kind = 8))))) == true) (.int .i64 c.kind), gw ((((betw c.kind 1 16) && (nameIs c.name (decide (c.kind ≤ 13)))) && (nameIs c.other (((decide (c.kind = 5)) || (decide (c.kind = 7))) || (decide (c.kind = 8))))) == true) (.bool (betw c.kind 3 6)), gw ((((betw c.kind 1 16) && (nameIs c.name (decide (c.kind ≤ 13)))) && (nameIs c.other (((decide (c.kind = 5)) || (decide (c.kind = 7))) || (decide (c.kind = 8))))) == true) (.bool (betw c.kind 3 6)), gw (((((betw c.kind 1 16) && (nameIs c.name (decide (c.kind ≤ 13)))) && (nameIs c.other (((decide (c.kind = 5)) || (decide (c.kind = 7))) || (decide (c.kind = 8))))) == true) && ((betw c.kind 3 6) == false)) (.int .i64 c.kind), gw (((((betw c.kind 1 16) && (nameIs c.name (decide (c.kind ≤ 13)))) && (nameIs c.other (((decide (c.kind = 5)) || (decide (c.kind = 7))) || (decide (c.kind = 8))))) == true) && ((betw c.kind 3 6) == false)) (.bool (decide (c.kind = 8))), gw ((((betw c.kind 1 16) && (nameIs c.name (decide (c.kind ≤ 13)))) && (nameIs c.other (((decide (c.kind = 5)) || (decide (c.kind = 7))) || (decide (c.kind = 8))))) == true) (.bool ((betw c.kind 3 6) || (decide (c.kind = 8)))), gw ((((betw c.kind 1 16) && (nameIs c.name (decide (c.kind ≤ 13)))) && (nameIs c.other (((decide (c.kind = 5)) || (decide (c.kind = 7))) || (decide (c.kind = 8))))) == true) (.bool ((betw c.kind 3 6) || (decide (c.kind = 8)))), gw (((((betw c.kind 1 16) && (nameIs c.name (decide (c.kind ≤ 13)))) && (nameIs c.other (((decide (c.kind = 5)) || (decide (c.kind = 7))) || (decide (c.kind = 8))))) == true) && (((betw c.kind 3 6) || (decide (c.kind = 8))) == false)) (.int .i64 c.kind), gw (((((betw c.kind 1 16) && (nameIs c.name (decide (c.kind ≤ 13)))) && (nameIs c.other (((decide (c.kind = 5)) || (decide (c.kind = 7))) || (decide (c.kind = 8))))) == true) && (((betw c.kind 3 6) || (decide (c.kind = 8))) == false)) (.bool (decide (c.kind = 12))), gw ((((betw c.kind 1 16) && (nameIs c.name (decide (c.kind ≤ 13)))) && (nameIs c.other (((decide (c.kind = 5)) || (decide (c.kind = 7))) || (decide (c.kind = 8))))) == true) (.bool (((betw c.kind 3 6) || (decide (c.kind = 8))) || (decide (c.kind = 12)))), gw ((((betw c.kind 1 16) && (nameIs c.name (decide (c.kind ≤ 13)))) && (nameIs c.other (((decide (c.kind = 5)) || (decide (c.kind = 7))) || (decide (c.kind = 8))))) == true) (.bool (nameIs c.column (((betw c.kind 3 6) || (decide (c.kind = 8))) || (decide (c.kind = 12))))), .bool ((((betw c.kind 1 16) && (nameIs c.name (decide (c.kind ≤ 13)))) && (nameIs c.other (((decide (c.kind = 5)) || (decide (c.kind = 7))) || (decide (c.kind = 8))))) && (nameIs c.column (((betw c.kind 3 6) || (decide (c.kind = 8))) || (decide (c.kind = 12))))), .bool ((((betw c.kind 1 16) && (nameIs c.name (decide (c.kind ≤ 13)))) && (nameIs c.other (((decide (c.kind = 5)) || (decide (c.kind = 7))) || (decide (c.kind = 8))))) && (nameIs c.column (((betw c.kind 3 6) || (decide (c.kind = 8))) || (decide (c.kind = 12)))))] : List Value).getD j undef
def ckr_d : List (Option Tmp) := [some 38, some 39, some 40, some 41, some 42, some 43, some 44, some 45, some 46, some 47, some 48, some 49, some 50, some 51, some 52, some 53, some 54, some 55, some 56, some 57, some 58, some 59, some 60, some 61, some 62, some 63, some 64, some 65, some 66, some 67, some 68, some 69, some 70, some 71, some 72, some 73, some 74, some 75, some 76, some 4]
set_option maxRecDepth 100000 in
theorem ckr_nodup : ckr_d.Nodup := by unfold ckr_d; decide

set_option maxRecDepth 100000 in
theorem ckr_wp {c : Cm} {cv vv fv ea wa : Value} {b : Nat} {S : World → Prop} {a0 : Act} {Q : Exit → Act → World → Prop} {w : World} (h1 : a0.tmps[1]? = some (.pointer (some ⟨b, 0, none⟩))) (h3 : a0.tmps[3]? = some (.int .i64 c.kind)) (hcell : ∀ W, S W → ∀ o x, (cmL c cv vv fv ea wa)[o]? = some x → W.cell? ⟨b, o, none⟩ = some x) (q39 : ∀ W, S W → Calls Tryz.prog 31 #[.int .i64 c.kind, .int .i64 1, .int .i64 16] W fun e w' => e = .returned (.bool (betw c.kind 1 16)) ∧ S w') (q45 : ∀ W, S W → Calls Tryz.prog 32 #[.string ⟨c.name.toArray⟩, .bool (decide (c.kind ≤ 13))] W fun e w' => e = .returned (.bool (nameIs c.name (decide (c.kind ≤ 13)))) ∧ S w') (q60 : ∀ W, S W → Calls Tryz.prog 32 #[.string ⟨c.other.toArray⟩, .bool (((decide (c.kind = 5)) || (decide (c.kind = 7))) || (decide (c.kind = 8)))] W fun e w' => e = .returned (.bool (nameIs c.other (((decide (c.kind = 5)) || (decide (c.kind = 7))) || (decide (c.kind = 8))))) ∧ S w') (q66 : ∀ W, S W → Calls Tryz.prog 31 #[.int .i64 c.kind, .int .i64 3, .int .i64 6] W fun e w' => e = .returned (.bool (betw c.kind 3 6)) ∧ S w') (q75 : ∀ W, S W → Calls Tryz.prog 32 #[.string ⟨c.column.toArray⟩, .bool (((betw c.kind 3 6) || (decide (c.kind = 8))) || (decide (c.kind = 12)))] W fun e w' => e = .returned (.bool (nameIs c.column (((betw c.kind 3 6) || (decide (c.kind = 8))) || (decide (c.kind = 12))))) ∧ S w') (ha : a0.tmps.size = 272) (hS : S w.drew)
    (hq : ∀ w', S w' → Q .normal { tmps := (putL a0.tmps.toList (ckr_d.zip ((List.range 40).map (ckr_V c b)))).toArray, defers := a0.defers } w') : (Code.region 4 ckr_R true).wp Tryz.prog Q a0 w := by
  refine wp_run (m := 272) (by kernel_rfl) (by kernel_rfl) (by kernel_rfl) (by kernel_rfl) ckr_nodup ha ?_ hS hq
  refine upto_succ ?_ (obRU (o := ckr_o 39) (by kernel_rfl) (by kernel_rfl) fun _ _ s _ => ex_assign (x := .tmp 76) (by kernel_rfl) (s.u 38 76 (by kernel_rfl) (by kernel_rfl)))
  refine upto_succ ?_ (obRU (o := ckr_o 38) (by kernel_rfl) (by kernel_rfl) fun _ _ s _ => ex_pickA (G := true) (by kernel_rfl) (s.u 24 62 (by kernel_rfl) (by kernel_rfl)) (s.u 37 75 (by kernel_rfl) (by kernel_rfl)) rfl rfl)
  refine upto_succ ?_ (obRH true 24 62 true (o := ckr_o 37) (by kernel_rfl) (by kernel_rfl) (by kernel_rfl) (by kernel_rfl) rfl rfl (fun hG _ _ s => ex_call2 (ts := #[9, 4]) (x := .tmp 64) (y := .tmp 74) (f := 32) cf32 (by kernel_rfl) rfl (s.g 26 64 (by kernel_rfl) (by kernel_rfl) hG rfl) (s.g 36 74 (by kernel_rfl) (by kernel_rfl) hG rfl)) q75)
  refine upto_succ ?_ (obRG true 24 62 true (o := ckr_o 36) (by kernel_rfl) (by kernel_rfl) (by kernel_rfl) (by kernel_rfl) rfl rfl fun hG _ _ s _ => ex_pickO (by kernel_rfl) (s.g 33 71 (by kernel_rfl) (by kernel_rfl) hG rfl) (s.u 35 73 (by kernel_rfl) (by kernel_rfl)) rfl hG)
  refine upto_succ ?_ (obRG _ 33 71 false (o := ckr_o 35) (by kernel_rfl) (by kernel_rfl) (by kernel_rfl) (by kernel_rfl) rfl rfl fun hG _ W s _ => ex_bin (u := 3) (x := .tmp 72) (y := .const (.int .i64 12)) (by kernel_rfl) (s.g 34 72 (by kernel_rfl) (by kernel_rfl) hG rfl) (rfl) (eq3c W _ _ _ _))
  refine upto_succ ?_ (obRG _ 33 71 false (o := ckr_o 34) (by kernel_rfl) (by kernel_rfl) (by kernel_rfl) (by kernel_rfl) rfl rfl fun _ _ _ s _ => ex_move (x := .tmp 3) (by kernel_rfl) (s.b 3 (by kernel_rfl) h3))
  refine upto_succ ?_ (obRG true 24 62 true (o := ckr_o 33) (by kernel_rfl) (by kernel_rfl) (by kernel_rfl) (by kernel_rfl) rfl rfl fun hG _ _ s _ => ex_move (x := .tmp 70) (by kernel_rfl) (s.g 32 70 (by kernel_rfl) (by kernel_rfl) hG rfl))
  refine upto_succ ?_ (obRG true 24 62 true (o := ckr_o 32) (by kernel_rfl) (by kernel_rfl) (by kernel_rfl) (by kernel_rfl) rfl rfl fun hG _ _ s _ => ex_pickO (by kernel_rfl) (s.g 29 67 (by kernel_rfl) (by kernel_rfl) hG rfl) (s.u 31 69 (by kernel_rfl) (by kernel_rfl)) rfl hG)
  refine upto_succ ?_ (obRG _ 29 67 false (o := ckr_o 31) (by kernel_rfl) (by kernel_rfl) (by kernel_rfl) (by kernel_rfl) rfl rfl fun hG _ W s _ => ex_bin (u := 3) (x := .tmp 68) (y := .const (.int .i64 8)) (by kernel_rfl) (s.g 30 68 (by kernel_rfl) (by kernel_rfl) hG rfl) (rfl) (eq3c W _ _ _ _))
  refine upto_succ ?_ (obRG _ 29 67 false (o := ckr_o 30) (by kernel_rfl) (by kernel_rfl) (by kernel_rfl) (by kernel_rfl) rfl rfl fun _ _ _ s _ => ex_move (x := .tmp 3) (by kernel_rfl) (s.b 3 (by kernel_rfl) h3))
  refine upto_succ ?_ (obRG true 24 62 true (o := ckr_o 29) (by kernel_rfl) (by kernel_rfl) (by kernel_rfl) (by kernel_rfl) rfl rfl fun hG _ _ s _ => ex_move (x := .tmp 66) (by kernel_rfl) (s.g 28 66 (by kernel_rfl) (by kernel_rfl) hG rfl))
  refine upto_succ ?_ (obRH true 24 62 true (o := ckr_o 28) (by kernel_rfl) (by kernel_rfl) (by kernel_rfl) (by kernel_rfl) rfl rfl (fun hG _ _ s => ex_call3 (ts := #[3, 3, 3]) (x := .tmp 65) (y := .const (.int .i64 3)) (z := .const (.int .i64 6)) (f := 31) cf31 (by kernel_rfl) rfl (s.g 27 65 (by kernel_rfl) (by kernel_rfl) hG rfl) (rfl) (rfl)) q66)
  refine upto_succ ?_ (obRG true 24 62 true (o := ckr_o 27) (by kernel_rfl) (by kernel_rfl) (by kernel_rfl) (by kernel_rfl) rfl rfl fun _ _ _ s _ => ex_move (x := .tmp 3) (by kernel_rfl) (s.b 3 (by kernel_rfl) h3))
  refine upto_succ ?_ (obRG true 24 62 true (o := ckr_o 26) (by kernel_rfl) (by kernel_rfl) (by kernel_rfl) (by kernel_rfl) rfl rfl fun hG _ W s hS => ex_load (x := .tmp 63) (t := 9) (by kernel_rfl) (s.g 25 63 (by kernel_rfl) (by kernel_rfl) hG rfl) (ld9 W _ 3 _ (hcell W hS 3 _ rfl)))
  refine upto_succ ?_ (obRG true 24 62 true (o := ckr_o 25) (by kernel_rfl) (by kernel_rfl) (by kernel_rfl) (by kernel_rfl) rfl rfl fun _ _ W s _ => ex_field (x := .tmp 1) (t := 31) (f := 3) (by kernel_rfl) (s.b 1 (by kernel_rfl) h1) (fa3 W _))
  refine upto_succ ?_ (obRU (o := ckr_o 24) (by kernel_rfl) (by kernel_rfl) fun _ _ s _ => ex_move (x := .tmp 61) (by kernel_rfl) (s.u 23 61 (by kernel_rfl) (by kernel_rfl)))
  refine upto_succ ?_ (obRU (o := ckr_o 23) (by kernel_rfl) (by kernel_rfl) fun _ _ s _ => ex_pickA (G := true) (by kernel_rfl) (s.u 9 47 (by kernel_rfl) (by kernel_rfl)) (s.u 22 60 (by kernel_rfl) (by kernel_rfl)) rfl rfl)
  refine upto_succ ?_ (obRH true 9 47 true (o := ckr_o 22) (by kernel_rfl) (by kernel_rfl) (by kernel_rfl) (by kernel_rfl) rfl rfl (fun hG _ _ s => ex_call2 (ts := #[9, 4]) (x := .tmp 49) (y := .tmp 59) (f := 32) cf32 (by kernel_rfl) rfl (s.g 11 49 (by kernel_rfl) (by kernel_rfl) hG rfl) (s.g 21 59 (by kernel_rfl) (by kernel_rfl) hG rfl)) q60)
  refine upto_succ ?_ (obRG true 9 47 true (o := ckr_o 21) (by kernel_rfl) (by kernel_rfl) (by kernel_rfl) (by kernel_rfl) rfl rfl fun hG _ _ s _ => ex_pickO (by kernel_rfl) (s.g 18 56 (by kernel_rfl) (by kernel_rfl) hG rfl) (s.u 20 58 (by kernel_rfl) (by kernel_rfl)) rfl hG)
  refine upto_succ ?_ (obRG _ 18 56 false (o := ckr_o 20) (by kernel_rfl) (by kernel_rfl) (by kernel_rfl) (by kernel_rfl) rfl rfl fun hG _ W s _ => ex_bin (u := 3) (x := .tmp 57) (y := .const (.int .i64 8)) (by kernel_rfl) (s.g 19 57 (by kernel_rfl) (by kernel_rfl) hG rfl) (rfl) (eq3c W _ _ _ _))
  refine upto_succ ?_ (obRG _ 18 56 false (o := ckr_o 19) (by kernel_rfl) (by kernel_rfl) (by kernel_rfl) (by kernel_rfl) rfl rfl fun _ _ _ s _ => ex_move (x := .tmp 3) (by kernel_rfl) (s.b 3 (by kernel_rfl) h3))
  refine upto_succ ?_ (obRG true 9 47 true (o := ckr_o 18) (by kernel_rfl) (by kernel_rfl) (by kernel_rfl) (by kernel_rfl) rfl rfl fun hG _ _ s _ => ex_move (x := .tmp 55) (by kernel_rfl) (s.g 17 55 (by kernel_rfl) (by kernel_rfl) hG rfl))
  refine upto_succ ?_ (obRG true 9 47 true (o := ckr_o 17) (by kernel_rfl) (by kernel_rfl) (by kernel_rfl) (by kernel_rfl) rfl rfl fun hG _ _ s _ => ex_pickO (by kernel_rfl) (s.g 14 52 (by kernel_rfl) (by kernel_rfl) hG rfl) (s.u 16 54 (by kernel_rfl) (by kernel_rfl)) rfl hG)
  refine upto_succ ?_ (obRG _ 14 52 false (o := ckr_o 16) (by kernel_rfl) (by kernel_rfl) (by kernel_rfl) (by kernel_rfl) rfl rfl fun hG _ W s _ => ex_bin (u := 3) (x := .tmp 53) (y := .const (.int .i64 7)) (by kernel_rfl) (s.g 15 53 (by kernel_rfl) (by kernel_rfl) hG rfl) (rfl) (eq3c W _ _ _ _))
  refine upto_succ ?_ (obRG _ 14 52 false (o := ckr_o 15) (by kernel_rfl) (by kernel_rfl) (by kernel_rfl) (by kernel_rfl) rfl rfl fun _ _ _ s _ => ex_move (x := .tmp 3) (by kernel_rfl) (s.b 3 (by kernel_rfl) h3))
  refine upto_succ ?_ (obRG true 9 47 true (o := ckr_o 14) (by kernel_rfl) (by kernel_rfl) (by kernel_rfl) (by kernel_rfl) rfl rfl fun hG _ _ s _ => ex_move (x := .tmp 51) (by kernel_rfl) (s.g 13 51 (by kernel_rfl) (by kernel_rfl) hG rfl))
  refine upto_succ ?_ (obRG true 9 47 true (o := ckr_o 13) (by kernel_rfl) (by kernel_rfl) (by kernel_rfl) (by kernel_rfl) rfl rfl fun hG _ W s _ => ex_bin (u := 3) (x := .tmp 50) (y := .const (.int .i64 5)) (by kernel_rfl) (s.g 12 50 (by kernel_rfl) (by kernel_rfl) hG rfl) (rfl) (eq3c W _ _ _ _))
  refine upto_succ ?_ (obRG true 9 47 true (o := ckr_o 12) (by kernel_rfl) (by kernel_rfl) (by kernel_rfl) (by kernel_rfl) rfl rfl fun _ _ _ s _ => ex_move (x := .tmp 3) (by kernel_rfl) (s.b 3 (by kernel_rfl) h3))
  refine upto_succ ?_ (obRG true 9 47 true (o := ckr_o 11) (by kernel_rfl) (by kernel_rfl) (by kernel_rfl) (by kernel_rfl) rfl rfl fun hG _ W s hS => ex_load (x := .tmp 48) (t := 9) (by kernel_rfl) (s.g 10 48 (by kernel_rfl) (by kernel_rfl) hG rfl) (ld9 W _ 2 _ (hcell W hS 2 _ rfl)))
  refine upto_succ ?_ (obRG true 9 47 true (o := ckr_o 10) (by kernel_rfl) (by kernel_rfl) (by kernel_rfl) (by kernel_rfl) rfl rfl fun _ _ W s _ => ex_field (x := .tmp 1) (t := 31) (f := 2) (by kernel_rfl) (s.b 1 (by kernel_rfl) h1) (fa2 W _))
  refine upto_succ ?_ (obRU (o := ckr_o 9) (by kernel_rfl) (by kernel_rfl) fun _ _ s _ => ex_move (x := .tmp 46) (by kernel_rfl) (s.u 8 46 (by kernel_rfl) (by kernel_rfl)))
  refine upto_succ ?_ (obRU (o := ckr_o 8) (by kernel_rfl) (by kernel_rfl) fun _ _ s _ => ex_pickA (G := true) (by kernel_rfl) (s.u 2 40 (by kernel_rfl) (by kernel_rfl)) (s.u 7 45 (by kernel_rfl) (by kernel_rfl)) rfl rfl)
  refine upto_succ ?_ (obRH true 2 40 true (o := ckr_o 7) (by kernel_rfl) (by kernel_rfl) (by kernel_rfl) (by kernel_rfl) rfl rfl (fun hG _ _ s => ex_call2 (ts := #[9, 4]) (x := .tmp 42) (y := .tmp 44) (f := 32) cf32 (by kernel_rfl) rfl (s.g 4 42 (by kernel_rfl) (by kernel_rfl) hG rfl) (s.g 6 44 (by kernel_rfl) (by kernel_rfl) hG rfl)) q45)
  refine upto_succ ?_ (obRG true 2 40 true (o := ckr_o 6) (by kernel_rfl) (by kernel_rfl) (by kernel_rfl) (by kernel_rfl) rfl rfl fun hG _ W s _ => ex_bin (u := 3) (x := .tmp 43) (y := .const (.int .i64 13)) (by kernel_rfl) (s.g 5 43 (by kernel_rfl) (by kernel_rfl) hG rfl) (rfl) (leq3c W _ _ _ _))
  refine upto_succ ?_ (obRG true 2 40 true (o := ckr_o 5) (by kernel_rfl) (by kernel_rfl) (by kernel_rfl) (by kernel_rfl) rfl rfl fun _ _ _ s _ => ex_move (x := .tmp 3) (by kernel_rfl) (s.b 3 (by kernel_rfl) h3))
  refine upto_succ ?_ (obRG true 2 40 true (o := ckr_o 4) (by kernel_rfl) (by kernel_rfl) (by kernel_rfl) (by kernel_rfl) rfl rfl fun hG _ W s hS => ex_load (x := .tmp 41) (t := 9) (by kernel_rfl) (s.g 3 41 (by kernel_rfl) (by kernel_rfl) hG rfl) (ld9 W _ 1 _ (hcell W hS 1 _ rfl)))
  refine upto_succ ?_ (obRG true 2 40 true (o := ckr_o 3) (by kernel_rfl) (by kernel_rfl) (by kernel_rfl) (by kernel_rfl) rfl rfl fun _ _ W s _ => ex_field (x := .tmp 1) (t := 31) (f := 1) (by kernel_rfl) (s.b 1 (by kernel_rfl) h1) (fa1 W _))
  refine upto_succ ?_ (obRU (o := ckr_o 2) (by kernel_rfl) (by kernel_rfl) fun _ _ s _ => ex_move (x := .tmp 39) (by kernel_rfl) (s.u 1 39 (by kernel_rfl) (by kernel_rfl)))
  refine upto_succ ?_ (obRC (o := ckr_o 1) (by kernel_rfl) (by kernel_rfl) (fun _ _ s => ex_call3 (ts := #[3, 3, 3]) (x := .tmp 38) (y := .const (.int .i64 1)) (z := .const (.int .i64 16)) (f := 31) cf31 (by kernel_rfl) rfl (s.u 0 38 (by kernel_rfl) (by kernel_rfl)) (rfl) (rfl)) q39)
  refine upto_succ ?_ (obRU (o := ckr_o 0) (by kernel_rfl) (by kernel_rfl) fun _ _ s _ => ex_move (x := .tmp 3) (by kernel_rfl) (s.b 3 (by kernel_rfl) h3))
  exact fun j hj => absurd hj (Nat.not_lt_zero j)

end Go.Proofs.YtkpeklealgicpabGreatDoor

namespace Go.Proofs.YtkpeklealgicpabGreatDoor
open Go.RowKit

/-- the frame of CheckCmd: the command, its kind, whether all was right till now -/
structure Fr (a : Act) (b : Nat) (k : Int) (ok : Bool) : Prop where
  size : a.tmps.size = 272
  defers : a.defers = []
  t1 : a.tmps[1]? = some (.pointer (some ⟨b, 0, none⟩))
  t3 : a.tmps[3]? = some (.int .i64 k)
  t4 : a.tmps[4]? = some (.bool ok)
theorem Fr.next {a a' : Act} {b : Nat} {k : Int} {ok ok' : Bool} (h : Fr a b k ok) (hd : a'.defers = a.defers) (hz : a'.tmps.size = 272) (h1 : a'.tmps[1]? = a.tmps[1]?) (h3 : a'.tmps[3]? = a.tmps[3]?) (h4 : a'.tmps[4]? = some (.bool ok')) : Fr a' b k ok' :=
  ⟨hz, hd.trans h.defers, h1.trans h.t1, h3.trans h.t3, h4⟩
theorem Fr.stay {a a' : Act} {b : Nat} {k : Int} {ok : Bool} (h : Fr a b k ok) (hd : a'.defers = a.defers) (hz : a'.tmps.size = 272) (h1 : a'.tmps[1]? = a.tmps[1]?) (h3 : a'.tmps[3]? = a.tmps[3]?) (h4 : a'.tmps[4]? = a.tmps[4]?) : Fr a' b k ok :=
  h.next hd hz h1 h3 (h4.trans h.t4)

/-- what a world must let CheckCmd do -/
structure CkS (c : Cm) (b : Nat) (a1 a2 a3 a4 a5 : Option Addr) (c1 c2 c3 c4 c5 : Nat) (S : World → Prop) : Prop where
  cell : ∀ W, S W → ∀ o x, (cmL c (.slice a1 c.cols.length c1) (.slice a2 c.vals.length c2) (.slice a3 c.fields.length c3) (.slice a4 c.expr.args.length c4) (.slice a5 c.wh.args.length c5))[o]? = some x → W.cell? ⟨b, o, none⟩ = some x
  drew : ∀ W, S W → S W.drew
  btw : ∀ (n x y : Int) W, S W → Calls Tryz.prog 31 #[.int .i64 n, .int .i64 x, .int .i64 y] W fun e w' => e = .returned (.bool (betw n x y)) ∧ S w'
  nmi : ∀ (s : List UInt8) (p : Bool), s.length ≤ 140737488355328 → ∀ W, S W → Calls Tryz.prog 32 #[.string ⟨s.toArray⟩, .bool p] W fun e w' => e = .returned (.bool (nameIs s p)) ∧ S w'
  nam : ∀ s : List UInt8, s.length ≤ 140737488355328 → ∀ W, S W → Calls Tryz.prog 34 #[.string ⟨s.toArray⟩] W fun e w' => e = .returned (.bool (nameW s)) ∧ S w'
  ckv : ∀ v : Vl, v.s.length ≤ 140737488355328 → ∀ W, S W → Calls Tryz.prog 33 #[.agg #[.int .i64 v.k, .int .i64 v.n, .string ⟨v.s.toArray⟩]] W fun e w' => e = .returned (.int .i64 ((chkV v.k v.n v.s : Nat) : Int)) ∧ S w'
  smv : ∀ v : Vl, ∀ W, S W → Calls Tryz.prog 25 #[.agg #[.int .i64 v.k, .int .i64 v.n, .string ⟨v.s.toArray⟩], .agg #[.int .i64 0, .int .i64 0, .string ⟨#[]⟩]] W fun e w' => e = .returned (.bool (noneV v)) ∧ S w'
  ixe : ∀ W, S W → Calls Tryz.prog 35 #[.agg #[.int .i64 c.expr.k, .int .i64 c.expr.v.k, .int .i64 c.expr.v.n, .string ⟨c.expr.v.s.toArray⟩, .string ⟨c.expr.nm.toArray⟩, .slice a4 c.expr.args.length c4]] W fun e w' => e = .returned (.bool (exR c.expr)) ∧ S w'
  ixw : ∀ W, S W → Calls Tryz.prog 35 #[.agg #[.int .i64 c.wh.k, .int .i64 c.wh.v.k, .int .i64 c.wh.v.n, .string ⟨c.wh.v.s.toArray⟩, .string ⟨c.wh.nm.toArray⟩, .slice a5 c.wh.args.length c5]] W fun e w' => e = .returned (.bool (exR c.wh)) ∧ S w'
  noe : ∀ W, S W → Calls Tryz.prog 36 #[.agg #[.int .i64 c.expr.k, .int .i64 c.expr.v.k, .int .i64 c.expr.v.n, .string ⟨c.expr.v.s.toArray⟩, .string ⟨c.expr.nm.toArray⟩, .slice a4 c.expr.args.length c4]] W fun e w' => e = .returned (.bool (noneE c.expr)) ∧ S w'
  now : ∀ W, S W → Calls Tryz.prog 36 #[.agg #[.int .i64 c.wh.k, .int .i64 c.wh.v.k, .int .i64 c.wh.v.n, .string ⟨c.wh.v.s.toArray⟩, .string ⟨c.wh.nm.toArray⟩, .slice a5 c.wh.args.length c5]] W fun e w' => e = .returned (.bool (noneE c.wh)) ∧ S w'

theorem post_slot {P : Program} {fn : Func} {R : Ending → World → Prop} {a : Act} {w : World} {s : Nat} {v : Value} (hres : fn.results = #[.tmp s]) (hd : a.defers = []) (hv : a.tmps[s]? = some v) (h : R (.returned v) w) : bodyPost P fn R .ret a w := by
  refine bodyPost_ret (results_tmp hres _ _ _) hd ?_
  have e : a.tmps.getD s undef = v := by rw [Array.getD_eq_getD_getElem?, hv]; rfl
  rw [e]; exact h
theorem wp_as {P : Program} {Q : Exit → Act → World → Prop} {a : Act} {w : World} {x y : Code} (e : x = y) (h : y.wp P Q a w) : x.wp P Q a w := by rw [e]; exact h
noncomputable def cT8 : Code := .seq (.seq (.region 30 k30_R false) (.cond (.tmp 271) (.seq (.region 31 k31_R false) .ret) .skip)) (.seq (.region 32 k32_R false) .ret)
noncomputable def cT7 : Code := .seq (.seq (.region 27 k27_R false) (.cond (.tmp 248) (.region 28 k28_R false) (.region 29 k29_R false))) cT8
noncomputable def cT6 : Code := .seq (.seq (.region 24 k24_R false) (.cond (.tmp 229) (.region 25 k25_R false) (.region 26 k26_R false))) cT7
noncomputable def cT5 : Code := .seq (.seq (.region 22 k22_R false) (.cond (.tmp 211) (.region 23 k23_R false) .skip)) cT6
noncomputable def cB3 : Code := .block 4 (.loop (.seq (.seq (.region 19 k19_R false) (.cond (.tmp 198) .skip (.exit 4))) (.seq (.block 5 (.region 21 k21_R false)) (.region 20 k20_R false))))
noncomputable def cL3 : Code := .seq (.seq (.region 18 k18_R false) cB3) cT5
noncomputable def cB2 : Code := .block 2 (.loop (.seq (.seq (.region 15 k15_R false) (.cond (.tmp 181) .skip (.exit 2))) (.seq (.block 3 (.region 17 k17_R false)) (.region 16 k16_R false))))
noncomputable def cL2 : Code := .seq (.seq (.region 14 k14_R false) cB2) cL3
noncomputable def cB1 : Code := .block 0 (.loop (.seq (.seq (.region 11 k11_R false) (.cond (.tmp 155) .skip (.exit 0))) (.seq (.block 1 (.region 13 k13_R false)) (.region 12 k12_R false))))
noncomputable def cL1 : Code := .seq (.seq (.region 10 k10_R false) cB1) cL2
noncomputable def cT4 : Code := .seq (.region 9 k9_R false) cL1
noncomputable def cT3 : Code := .seq (.region 8 k8_R false) cT4
noncomputable def cT2 : Code := .seq (.seq (.region 5 k5_R false) (.cond (.tmp 82) (.region 6 k6_R false) (.region 7 k7_R false))) cT3
noncomputable def cT1 : Code := .seq (.region 4 ckr_R true) cT2
noncomputable def cT0 : Code := .seq (.region 3 k3_R false) cT1

def ansC (ok : Bool) : Value := .int .i64 (if ok = true then 0 else 1)

def idxA (a : Act) (s : Nat) : Nat := match a.tmps[s]? with | some x => (intOf x).toNat | none => 0
theorem ckr_not (d : Nat) (h : some d ∉ ckr_d) {n : Nat} {V : Nat → Value} : ∀ p ∈ ckr_d.zip ((List.range n).map V), p.1 ≠ some d := by
  intro p hp e
  have := (List.of_mem_zip (a := p.1) (b := p.2) hp).1
  rw [e] at this
  exact h this
section
variable {c : Cm} {b : Nat} {a1 a2 a3 a4 a5 : Option Addr} {c1 c2 c3 c4 c5 : Nat} {S : World → Prop} {R : Ending → World → Prop} {a : Act} {w : World} {ok : Bool}

set_option maxRecDepth 100000 in
theorem st8 (h : Fr a b c.kind ok) (hS : S w) (hR : ∀ w', S w' → R (.returned (ansC ok)) w') : cT8.wp Tryz.prog (bodyPost Tryz.prog Tryz.f13 R) a w := by
  unfold cT8
  refine wp_seq (wp_seq ?_)
  refine k30_wp (S := S) h.t4 h.size hS ?_
  intro x w1 hS1 hd hz hn ho
  have g : Fr x b c.kind ok := h.stay hd hz (ho 1 (by decide)) (ho 3 (by decide)) (ho 4 (by decide))
  refine wp_cond_split (t := !ok) (eval_tmp (hn 1 271 rfl)) (fun ht => ?_) (fun ht => ?_)
  · refine wp_seq ?_
    refine k31_wp (S := S) g.size hS1 ?_
    intro y w2 hS2 hd2 _ hn2 _
    refine wp_ret ?_
    refine post_slot (v := .int .i64 1) rfl (hd2.trans g.defers) (hn2 0 2 rfl) ?_
    have := hR w2 hS2
    have e : ok = false := by simpa using ht
    rw [e] at this
    exact this
  · refine wp_skip ?_
    refine wp_seq ?_
    refine k32_wp (S := S) g.size hS1 ?_
    intro y w2 hS2 hd2 _ hn2 _
    refine wp_ret ?_
    refine post_slot (v := .int .i64 0) rfl (hd2.trans g.defers) (hn2 0 2 rfl) ?_
    have := hR w2 hS2
    have e : ok = true := by simpa using ht
    rw [e] at this
    exact this

def f7 (c : Cm) (ok : Bool) : Bool := if (betw c.kind 11 13 && !c.all) = true then ok && exR c.wh else (ok && noneE c.wh) && (betw c.kind 11 13 || !c.all)
set_option maxRecDepth 100000 in
theorem st7 (k : CkS c b a1 a2 a3 a4 a5 c1 c2 c3 c4 c5 S) (h : Fr a b c.kind ok) (hS : S w) (hR : ∀ w', S w' → R (.returned (ansC (f7 c ok))) w') : cT7.wp Tryz.prog (bodyPost Tryz.prog Tryz.f13 R) a w := by
  unfold cT7
  refine wp_seq (wp_seq ?_)
  refine k27_wp (S := S) h.t1 h.t3 k.cell (k.btw _ _ _) h.size hS ?_
  intro x w1 hS1 hd hz hn ho
  have g : Fr x b c.kind ok := h.stay hd hz (ho 1 (by decide)) (ho 3 (by decide)) (ho 4 (by decide))
  refine wp_cond_split (t := betw c.kind 11 13 && !c.all) (eval_tmp (hn 6 248 rfl)) (fun ht => ?_) (fun ht => ?_)
  · refine k28_wp (S := S) g.t1 g.t4 k.cell k.ixw g.size hS1 ?_
    intro y w2 hS2 hd2 hz2 hn2 ho2
    exact st8 (g.next hd2 hz2 (ho2 1 (by decide)) (ho2 3 (by decide)) (hn2 6 4 rfl)) hS2 (by simpa only [f7, if_pos ht] using hR)
  · refine k29_wp (S := S) g.t1 g.t3 g.t4 k.cell k.now (k.btw _ _ _) g.size hS1 ?_
    intro y w2 hS2 hd2 hz2 hn2 ho2
    exact st8 (g.next hd2 hz2 (ho2 1 (by decide)) (ho2 3 (by decide)) (hn2 15 4 rfl)) hS2 (by simpa only [f7, if_neg (show ¬ (betw c.kind 11 13 && !c.all) = true by rw [ht]; decide)] using hR)

def f6 (c : Cm) (ok : Bool) : Bool := f7 c (if c.kind = 12 then ok && exR c.expr else ok && noneE c.expr)
set_option maxRecDepth 100000 in
theorem st6 (k : CkS c b a1 a2 a3 a4 a5 c1 c2 c3 c4 c5 S) (h : Fr a b c.kind ok) (hS : S w) (hR : ∀ w', S w' → R (.returned (ansC (f6 c ok))) w') : cT6.wp Tryz.prog (bodyPost Tryz.prog Tryz.f13 R) a w := by
  unfold cT6
  refine wp_seq (wp_seq ?_)
  refine k24_wp (S := S) h.t3 h.size hS ?_
  intro x w1 hS1 hd hz hn ho
  have g : Fr x b c.kind ok := h.stay hd hz (ho 1 (by decide)) (ho 3 (by decide)) (ho 4 (by decide))
  refine wp_cond_split (t := decide (c.kind = 12)) (eval_tmp (hn 1 229 rfl)) (fun ht => ?_) (fun ht => ?_)
  · refine k25_wp (S := S) g.t1 g.t4 k.cell k.ixe g.size hS1 ?_
    intro y w2 hS2 hd2 hz2 hn2 ho2
    exact st7 k (g.next hd2 hz2 (ho2 1 (by decide)) (ho2 3 (by decide)) (hn2 6 4 rfl)) hS2 (by simpa only [f6, if_pos (of_decide_eq_true ht)] using hR)
  · refine k26_wp (S := S) g.t1 g.t4 k.cell k.noe g.size hS1 ?_
    intro y w2 hS2 hd2 hz2 hn2 ho2
    exact st7 k (g.next hd2 hz2 (ho2 1 (by decide)) (ho2 3 (by decide)) (hn2 6 4 rfl)) hS2 (by simpa only [f6, if_neg (of_decide_eq_false ht)] using hR)

def f5 (c : Cm) (ok : Bool) : Bool := f6 c (if c.kind = 13 then (ok && betw c.limit (-1) 999999999) && (decide (c.order = []) || nameW c.order) else ok)
set_option maxRecDepth 100000 in
theorem st5 (k : CkS c b a1 a2 a3 a4 a5 c1 c2 c3 c4 c5 S) (hf : CmFit c) (h : Fr a b c.kind ok) (hS : S w) (hR : ∀ w', S w' → R (.returned (ansC (f5 c ok))) w') : cT5.wp Tryz.prog (bodyPost Tryz.prog Tryz.f13 R) a w := by
  unfold cT5
  refine wp_seq (wp_seq ?_)
  refine k22_wp (S := S) h.t3 h.size hS ?_
  intro x w1 hS1 hd hz hn ho
  have g : Fr x b c.kind ok := h.stay hd hz (ho 1 (by decide)) (ho 3 (by decide)) (ho 4 (by decide))
  refine wp_cond_split (t := decide (c.kind = 13)) (eval_tmp (hn 1 211 rfl)) (fun ht => ?_) (fun ht => ?_)
  · refine k23_wp (S := S) g.t1 g.t4 k.cell (k.btw _ _ _) (k.nam _ hf.order) g.size hS1 ?_
    intro y w2 hS2 hd2 hz2 hn2 ho2
    exact st6 k (g.next hd2 hz2 (ho2 1 (by decide)) (ho2 3 (by decide)) (hn2 16 4 rfl)) hS2 (by simpa only [f5, if_pos (of_decide_eq_true ht)] using hR)
  · refine wp_skip ?_
    exact st6 k g hS1 (by simpa only [f5, if_neg (of_decide_eq_false ht)] using hR)

def fL3 (c : Cm) (ok : Bool) : Bool := f5 c (ok && c.fields.all nameW)
set_option maxRecDepth 100000 in
theorem lp3 {Q : Exit → Act → World → Prop} (k : CkS c b a1 a2 a3 a4 a5 c1 c2 c3 c4 c5 S) (hf : CmFit c)
    (hrows : 0 < c.fields.length → ∃ g o, a3 = some ⟨g, o, none⟩ ∧ ∀ W, S W → ∀ i x, c.fields[i]? = some x → W.cell? ⟨g, o + i, none⟩ = some (.string ⟨x.toArray⟩))
    (h : Fr a b c.kind ok) (h5 : a.tmps[7]? = some (.int .i64 0)) (hS : S w)
    (hq : ∀ a' w', Fr a' b c.kind (ok && c.fields.all nameW) → S w' → Q .normal a' w') : cB3.wp Tryz.prog Q a w := by
  unfold cB3
  refine wp_block ?_
  refine wp_loop (fun a w => ∃ i : Nat, i ≤ c.fields.length ∧ Fr a b c.kind (ok && (c.fields.take i).all nameW) ∧ a.tmps[7]? = some (.int .i64 (i : Int)) ∧ S w) (fun a _ => c.fields.length - idxA a 7) ⟨0, Nat.zero_le _, by simpa using h, h5, hS⟩ ?_
  rintro a w ⟨i, hi, h, h5, hS⟩
  refine wp_seq (wp_seq ?_)
  refine k19_wp (S := S) h.t1 h5 k.cell h.size hS ?_
  intro y w1 hS1 hd hz hn ho
  have g1 := h.stay hd hz (ho 1 (by decide)) (ho 3 (by decide)) (ho 4 (by decide))
  have g5 : y.tmps[7]? = some (.int .i64 (i : Int)) := (ho 7 (by decide)).trans h5
  refine wp_cond_split (t := decide ((i : Int) < ((c.fields.length : Nat) : Int))) (eval_tmp (hn 4 198 rfl)) (fun ht => ?_) (fun ht => ?_)
  · have hlt : i < c.fields.length := by have := of_decide_eq_true ht; omega
    refine wp_skip ?_
    refine wp_seq ?_
    refine wp_block ?_
    obtain ⟨x, hx⟩ : ∃ x, c.fields[i]? = some x := ⟨c.fields[i]'hlt, List.getElem?_eq_getElem hlt⟩
    obtain ⟨g, o, rfl, hrow⟩ := hrows (by omega)
    refine k21_wp (S := S) (g := g) (o := o) (x := x) g1.t1 g1.t4 g5 k.cell hlt (fun W hW => hrow W hW i x hx) (k.nam _ (hf.fieldsN x (List.mem_of_getElem? hx))) g1.size hS1 ?_
    intro z w2 hS2 hd2 hz2 hn2 ho2
    have g2 : Fr z b c.kind ((ok && (c.fields.take i).all nameW) && nameW x) := g1.next hd2 hz2 (ho2 1 (by decide)) (ho2 3 (by decide)) (hn2 9 4 rfl)
    have g6 : z.tmps[7]? = some (.int .i64 (i : Int)) := (ho2 7 (by decide)).trans g5
    have hfew := hf.fields
    refine k20_wp (S := S) g6 (by omega) g2.size hS2 ?_
    intro v w3 hS3 hd3 hz3 hn3 ho3
    have g7 : v.tmps[7]? = some (.int .i64 ((i + 1 : Nat) : Int)) := hn3 2 7 rfl
    refine ⟨⟨i + 1, by omega, ?_, g7, hS3⟩, ?_⟩
    · have g3 := g2.stay hd3 hz3 (ho3 1 (by decide)) (ho3 3 (by decide)) (ho3 4 (by decide))
      have e : (ok && (c.fields.take (i + 1)).all nameW) = ((ok && (c.fields.take i).all nameW) && nameW x) := by
        rw [List.take_add_one, hx]
        simp [List.all_append, Bool.and_assoc]
      rw [e]; exact g3
    · simp only [idxA, g7, h5, intOf, Int.toNat_natCast]; omega
  · have hlt : ¬ i < c.fields.length := by have := of_decide_eq_false ht; omega
    refine wp_exit ?_
    show Q .normal y w1
    refine hq y w1 ?_ hS1
    rw [List.take_of_length_le (by omega)] at g1
    exact g1
set_option maxRecDepth 100000 in
theorem sl3 (k : CkS c b a1 a2 a3 a4 a5 c1 c2 c3 c4 c5 S) (hf : CmFit c)
    (h3 : 0 < c.fields.length → ∃ g o, a3 = some ⟨g, o, none⟩ ∧ ∀ W, S W → ∀ i x, c.fields[i]? = some x → W.cell? ⟨g, o + i, none⟩ = some (.string ⟨x.toArray⟩))
    (h : Fr a b c.kind ok) (hS : S w) (hR : ∀ w', S w' → R (.returned (ansC (fL3 c ok))) w') : cL3.wp Tryz.prog (bodyPost Tryz.prog Tryz.f13 R) a w := by
  unfold cL3
  refine wp_seq (wp_seq ?_)
  refine k18_wp (S := S) h.size hS ?_
  intro y w1 hS1 hd hz hn ho
  have g := h.stay hd hz (ho 1 (by decide)) (ho 3 (by decide)) (ho 4 (by decide))
  refine lp3 k hf h3 g (hn 0 7 rfl) hS1 ?_
  intro a' w' g' hS'
  exact st5 k hf g' hS' (by simpa only [fL3] using hR)

def fL2 (c : Cm) (ok : Bool) : Bool := fL3 c (ok && c.vals.all valB)
set_option maxRecDepth 100000 in
theorem lp2 {Q : Exit → Act → World → Prop} (k : CkS c b a1 a2 a3 a4 a5 c1 c2 c3 c4 c5 S) (hf : CmFit c)
    (hrows : 0 < c.vals.length → ∃ g o, a2 = some ⟨g, o, none⟩ ∧ ∀ W, S W → ∀ i x, c.vals[i]? = some x → W.cell? ⟨g, o + i * 3, none⟩ = some (.int .i64 x.k) ∧ W.cell? ⟨g, o + i * 3 + 1, none⟩ = some (.int .i64 x.n) ∧ W.cell? ⟨g, o + i * 3 + 2, none⟩ = some (.string ⟨x.s.toArray⟩))
    (h : Fr a b c.kind ok) (h5 : a.tmps[6]? = some (.int .i64 0)) (hS : S w)
    (hq : ∀ a' w', Fr a' b c.kind (ok && c.vals.all valB) → S w' → Q .normal a' w') : cB2.wp Tryz.prog Q a w := by
  unfold cB2
  refine wp_block ?_
  refine wp_loop (fun a w => ∃ i : Nat, i ≤ c.vals.length ∧ Fr a b c.kind (ok && (c.vals.take i).all valB) ∧ a.tmps[6]? = some (.int .i64 (i : Int)) ∧ S w) (fun a _ => c.vals.length - idxA a 6) ⟨0, Nat.zero_le _, by simpa using h, h5, hS⟩ ?_
  rintro a w ⟨i, hi, h, h5, hS⟩
  refine wp_seq (wp_seq ?_)
  refine k15_wp (S := S) h.t1 h5 k.cell h.size hS ?_
  intro y w1 hS1 hd hz hn ho
  have g1 := h.stay hd hz (ho 1 (by decide)) (ho 3 (by decide)) (ho 4 (by decide))
  have g5 : y.tmps[6]? = some (.int .i64 (i : Int)) := (ho 6 (by decide)).trans h5
  refine wp_cond_split (t := decide ((i : Int) < ((c.vals.length : Nat) : Int))) (eval_tmp (hn 4 181 rfl)) (fun ht => ?_) (fun ht => ?_)
  · have hlt : i < c.vals.length := by have := of_decide_eq_true ht; omega
    refine wp_skip ?_
    refine wp_seq ?_
    refine wp_block ?_
    obtain ⟨x, hx⟩ : ∃ x, c.vals[i]? = some x := ⟨c.vals[i]'hlt, List.getElem?_eq_getElem hlt⟩
    obtain ⟨g, o, rfl, hrow⟩ := hrows (by omega)
    refine k17_wp (S := S) (g := g) (o := o) (x := x) g1.t1 g1.t4 g5 k.cell hlt (fun W hW => (hrow W hW i x hx).1) (fun W hW => (hrow W hW i x hx).2.1) (fun W hW => (hrow W hW i x hx).2.2) (k.ckv _ (hf.valsN x (List.mem_of_getElem? hx))) g1.size hS1 ?_
    intro z w2 hS2 hd2 hz2 hn2 ho2
    have g2 : Fr z b c.kind ((ok && (c.vals.take i).all valB) && decide (((chkV x.k x.n x.s : Nat) : Int) = 0)) := g1.next hd2 hz2 (ho2 1 (by decide)) (ho2 3 (by decide)) (hn2 10 4 rfl)
    have g6 : z.tmps[6]? = some (.int .i64 (i : Int)) := (ho2 6 (by decide)).trans g5
    have hfew := hf.vals
    refine k16_wp (S := S) g6 (by omega) g2.size hS2 ?_
    intro v w3 hS3 hd3 hz3 hn3 ho3
    have g7 : v.tmps[6]? = some (.int .i64 ((i + 1 : Nat) : Int)) := hn3 2 6 rfl
    refine ⟨⟨i + 1, by omega, ?_, g7, hS3⟩, ?_⟩
    · have g3 := g2.stay hd3 hz3 (ho3 1 (by decide)) (ho3 3 (by decide)) (ho3 4 (by decide))
      have e : (ok && (c.vals.take (i + 1)).all valB) = ((ok && (c.vals.take i).all valB) && decide (((chkV x.k x.n x.s : Nat) : Int) = 0)) := by
        rw [List.take_add_one, hx]
        simp [List.all_append, Bool.and_assoc, valB]
      rw [e]; exact g3
    · simp only [idxA, g7, h5, intOf, Int.toNat_natCast]; omega
  · have hlt : ¬ i < c.vals.length := by have := of_decide_eq_false ht; omega
    refine wp_exit ?_
    show Q .normal y w1
    refine hq y w1 ?_ hS1
    rw [List.take_of_length_le (by omega)] at g1
    exact g1
set_option maxRecDepth 100000 in
theorem sl2 (k : CkS c b a1 a2 a3 a4 a5 c1 c2 c3 c4 c5 S) (hf : CmFit c)
    (h2 : 0 < c.vals.length → ∃ g o, a2 = some ⟨g, o, none⟩ ∧ ∀ W, S W → ∀ i x, c.vals[i]? = some x → W.cell? ⟨g, o + i * 3, none⟩ = some (.int .i64 x.k) ∧ W.cell? ⟨g, o + i * 3 + 1, none⟩ = some (.int .i64 x.n) ∧ W.cell? ⟨g, o + i * 3 + 2, none⟩ = some (.string ⟨x.s.toArray⟩))
    (h3 : 0 < c.fields.length → ∃ g o, a3 = some ⟨g, o, none⟩ ∧ ∀ W, S W → ∀ i x, c.fields[i]? = some x → W.cell? ⟨g, o + i, none⟩ = some (.string ⟨x.toArray⟩))
    (h : Fr a b c.kind ok) (hS : S w) (hR : ∀ w', S w' → R (.returned (ansC (fL2 c ok))) w') : cL2.wp Tryz.prog (bodyPost Tryz.prog Tryz.f13 R) a w := by
  unfold cL2
  refine wp_seq (wp_seq ?_)
  refine k14_wp (S := S) h.size hS ?_
  intro y w1 hS1 hd hz hn ho
  have g := h.stay hd hz (ho 1 (by decide)) (ho 3 (by decide)) (ho 4 (by decide))
  refine lp2 k hf h2 g (hn 0 6 rfl) hS1 ?_
  intro a' w' g' hS'
  exact sl3 k hf h3 g' hS' (by simpa only [fL2] using hR)

def fL1 (c : Cm) (ok : Bool) : Bool := fL2 c (ok && c.cols.all (fun x => nameW x.name && betw x.ty 1 3))
set_option maxRecDepth 100000 in
theorem lp1 {Q : Exit → Act → World → Prop} (k : CkS c b a1 a2 a3 a4 a5 c1 c2 c3 c4 c5 S) (hf : CmFit c)
    (hrows : 0 < c.cols.length → ∃ g o, a1 = some ⟨g, o, none⟩ ∧ ∀ W, S W → ∀ i x, c.cols[i]? = some x → W.cell? ⟨g, o + i * 2, none⟩ = some (.string ⟨x.name.toArray⟩) ∧ W.cell? ⟨g, o + i * 2 + 1, none⟩ = some (.int .i64 x.ty))
    (h : Fr a b c.kind ok) (h5 : a.tmps[5]? = some (.int .i64 0)) (hS : S w)
    (hq : ∀ a' w', Fr a' b c.kind (ok && c.cols.all (fun x => nameW x.name && betw x.ty 1 3)) → S w' → Q .normal a' w') : cB1.wp Tryz.prog Q a w := by
  unfold cB1
  refine wp_block ?_
  refine wp_loop (fun a w => ∃ i : Nat, i ≤ c.cols.length ∧ Fr a b c.kind (ok && (c.cols.take i).all (fun x => nameW x.name && betw x.ty 1 3)) ∧ a.tmps[5]? = some (.int .i64 (i : Int)) ∧ S w) (fun a _ => c.cols.length - idxA a 5) ⟨0, Nat.zero_le _, by simpa using h, h5, hS⟩ ?_
  rintro a w ⟨i, hi, h, h5, hS⟩
  refine wp_seq (wp_seq ?_)
  refine k11_wp (S := S) h.t1 h5 k.cell h.size hS ?_
  intro y w1 hS1 hd hz hn ho
  have g1 := h.stay hd hz (ho 1 (by decide)) (ho 3 (by decide)) (ho 4 (by decide))
  have g5 : y.tmps[5]? = some (.int .i64 (i : Int)) := (ho 5 (by decide)).trans h5
  refine wp_cond_split (t := decide ((i : Int) < ((c.cols.length : Nat) : Int))) (eval_tmp (hn 4 155 rfl)) (fun ht => ?_) (fun ht => ?_)
  · have hlt : i < c.cols.length := by have := of_decide_eq_true ht; omega
    refine wp_skip ?_
    refine wp_seq ?_
    refine wp_block ?_
    obtain ⟨x, hx⟩ : ∃ x, c.cols[i]? = some x := ⟨c.cols[i]'hlt, List.getElem?_eq_getElem hlt⟩
    obtain ⟨g, o, rfl, hrow⟩ := hrows (by omega)
    refine k13_wp (S := S) (g := g) (o := o) (x := x) g1.t1 g1.t4 g5 k.cell hlt (fun W hW => by have := hrow W hW i x hx; exact this.1) (fun W hW => (hrow W hW i x hx).2) (k.nam _ (hf.colsN x (List.mem_of_getElem? hx))) (k.btw _ _ _) g1.size hS1 ?_
    intro z w2 hS2 hd2 hz2 hn2 ho2
    have g2 : Fr z b c.kind (((ok && (c.cols.take i).all (fun x => nameW x.name && betw x.ty 1 3)) && nameW x.name) && betw x.ty 1 3) := g1.next hd2 hz2 (ho2 1 (by decide)) (ho2 3 (by decide)) (hn2 19 4 rfl)
    have g6 : z.tmps[5]? = some (.int .i64 (i : Int)) := (ho2 5 (by decide)).trans g5
    have hfew := hf.cols
    refine k12_wp (S := S) g6 (by omega) g2.size hS2 ?_
    intro v w3 hS3 hd3 hz3 hn3 ho3
    have g7 : v.tmps[5]? = some (.int .i64 ((i + 1 : Nat) : Int)) := hn3 2 5 rfl
    refine ⟨⟨i + 1, by omega, ?_, g7, hS3⟩, ?_⟩
    · have g3 := g2.stay hd3 hz3 (ho3 1 (by decide)) (ho3 3 (by decide)) (ho3 4 (by decide))
      have e : (ok && (c.cols.take (i + 1)).all (fun x => nameW x.name && betw x.ty 1 3)) = (((ok && (c.cols.take i).all (fun x => nameW x.name && betw x.ty 1 3)) && nameW x.name) && betw x.ty 1 3) := by
        rw [List.take_add_one, hx]
        simp [List.all_append, Bool.and_assoc]
      rw [e]; exact g3
    · simp only [idxA, g7, h5, intOf, Int.toNat_natCast]; omega
  · have hlt : ¬ i < c.cols.length := by have := of_decide_eq_false ht; omega
    refine wp_exit ?_
    show Q .normal y w1
    refine hq y w1 ?_ hS1
    rw [List.take_of_length_le (by omega)] at g1
    exact g1
set_option maxRecDepth 100000 in
theorem sl1 (k : CkS c b a1 a2 a3 a4 a5 c1 c2 c3 c4 c5 S) (hf : CmFit c)
    (h1 : 0 < c.cols.length → ∃ g o, a1 = some ⟨g, o, none⟩ ∧ ∀ W, S W → ∀ i x, c.cols[i]? = some x → W.cell? ⟨g, o + i * 2, none⟩ = some (.string ⟨x.name.toArray⟩) ∧ W.cell? ⟨g, o + i * 2 + 1, none⟩ = some (.int .i64 x.ty))
    (h2 : 0 < c.vals.length → ∃ g o, a2 = some ⟨g, o, none⟩ ∧ ∀ W, S W → ∀ i x, c.vals[i]? = some x → W.cell? ⟨g, o + i * 3, none⟩ = some (.int .i64 x.k) ∧ W.cell? ⟨g, o + i * 3 + 1, none⟩ = some (.int .i64 x.n) ∧ W.cell? ⟨g, o + i * 3 + 2, none⟩ = some (.string ⟨x.s.toArray⟩))
    (h3 : 0 < c.fields.length → ∃ g o, a3 = some ⟨g, o, none⟩ ∧ ∀ W, S W → ∀ i x, c.fields[i]? = some x → W.cell? ⟨g, o + i, none⟩ = some (.string ⟨x.toArray⟩))
    (h : Fr a b c.kind ok) (hS : S w) (hR : ∀ w', S w' → R (.returned (ansC (fL1 c ok))) w') : cL1.wp Tryz.prog (bodyPost Tryz.prog Tryz.f13 R) a w := by
  unfold cL1
  refine wp_seq (wp_seq ?_)
  refine k10_wp (S := S) h.size hS ?_
  intro y w1 hS1 hd hz hn ho
  have g := h.stay hd hz (ho 1 (by decide)) (ho 3 (by decide)) (ho 4 (by decide))
  refine lp1 k hf h1 g (hn 0 5 rfl) hS1 ?_
  intro a' w' g' hS'
  exact sl2 k hf h2 h3 g' hS' (by simpa only [fL1] using hR)

def f4 (c : Cm) (ok : Bool) : Bool := fL1 c (((ok && (decide (c.kind = 1) == decide (0 < ((c.cols.length : Nat) : Int)))) && (decide (c.kind = 10) == decide (0 < ((c.vals.length : Nat) : Int)))) && (decide (c.kind = 13) || ((decide (((c.fields.length : Nat) : Int) = 0) && decide (c.order = [])) && decide (c.limit = 0))))
set_option maxRecDepth 100000 in
theorem st4 (k : CkS c b a1 a2 a3 a4 a5 c1 c2 c3 c4 c5 S) (hf : CmFit c)
    (h1 : 0 < c.cols.length → ∃ g o, a1 = some ⟨g, o, none⟩ ∧ ∀ W, S W → ∀ i x, c.cols[i]? = some x → W.cell? ⟨g, o + i * 2, none⟩ = some (.string ⟨x.name.toArray⟩) ∧ W.cell? ⟨g, o + i * 2 + 1, none⟩ = some (.int .i64 x.ty))
    (h2 : 0 < c.vals.length → ∃ g o, a2 = some ⟨g, o, none⟩ ∧ ∀ W, S W → ∀ i x, c.vals[i]? = some x → W.cell? ⟨g, o + i * 3, none⟩ = some (.int .i64 x.k) ∧ W.cell? ⟨g, o + i * 3 + 1, none⟩ = some (.int .i64 x.n) ∧ W.cell? ⟨g, o + i * 3 + 2, none⟩ = some (.string ⟨x.s.toArray⟩))
    (h3 : 0 < c.fields.length → ∃ g o, a3 = some ⟨g, o, none⟩ ∧ ∀ W, S W → ∀ i x, c.fields[i]? = some x → W.cell? ⟨g, o + i, none⟩ = some (.string ⟨x.toArray⟩))
    (h : Fr a b c.kind ok) (hS : S w) (hR : ∀ w', S w' → R (.returned (ansC (f4 c ok))) w') : cT4.wp Tryz.prog (bodyPost Tryz.prog Tryz.f13 R) a w := by
  unfold cT4
  refine wp_seq ?_
  refine k9_wp (S := S) h.t1 h.t3 h.t4 k.cell h.size hS ?_
  intro y w1 hS1 hd hz hn ho
  exact sl1 k hf h1 h2 h3 (h.next hd hz (ho 1 (by decide)) (ho 3 (by decide)) (hn 39 4 rfl)) hS1 (by simpa only [f4] using hR)

def f3 (c : Cm) (ok : Bool) : Bool := f4 c ((ok && decide (((chkV c.val.k c.val.n c.val.s : Nat) : Int) = 0)) && (decide (c.kind = 3) || noneV c.val))
set_option maxRecDepth 100000 in
theorem st3 (k : CkS c b a1 a2 a3 a4 a5 c1 c2 c3 c4 c5 S) (hf : CmFit c)
    (h1 : 0 < c.cols.length → ∃ g o, a1 = some ⟨g, o, none⟩ ∧ ∀ W, S W → ∀ i x, c.cols[i]? = some x → W.cell? ⟨g, o + i * 2, none⟩ = some (.string ⟨x.name.toArray⟩) ∧ W.cell? ⟨g, o + i * 2 + 1, none⟩ = some (.int .i64 x.ty))
    (h2 : 0 < c.vals.length → ∃ g o, a2 = some ⟨g, o, none⟩ ∧ ∀ W, S W → ∀ i x, c.vals[i]? = some x → W.cell? ⟨g, o + i * 3, none⟩ = some (.int .i64 x.k) ∧ W.cell? ⟨g, o + i * 3 + 1, none⟩ = some (.int .i64 x.n) ∧ W.cell? ⟨g, o + i * 3 + 2, none⟩ = some (.string ⟨x.s.toArray⟩))
    (h3 : 0 < c.fields.length → ∃ g o, a3 = some ⟨g, o, none⟩ ∧ ∀ W, S W → ∀ i x, c.fields[i]? = some x → W.cell? ⟨g, o + i, none⟩ = some (.string ⟨x.toArray⟩))
    (h : Fr a b c.kind ok) (hS : S w) (hR : ∀ w', S w' → R (.returned (ansC (f3 c ok))) w') : cT3.wp Tryz.prog (bodyPost Tryz.prog Tryz.f13 R) a w := by
  unfold cT3
  refine wp_seq ?_
  refine k8_wp (S := S) h.t1 h.t3 h.t4 k.cell (k.ckv _ hf.val) (k.smv _) h.size hS ?_
  intro y w1 hS1 hd hz hn ho
  exact st4 k hf h1 h2 h3 (h.next hd hz (ho 1 (by decide)) (ho 3 (by decide)) (hn 17 4 rfl)) hS1 (by simpa only [f3] using hR)

def f2 (c : Cm) (ok : Bool) : Bool := f3 c (if (decide (c.kind = 3) || decide (c.kind = 6)) = true then ok && betw c.ty 1 3 else ok && decide (c.ty = 0))
set_option maxRecDepth 100000 in
theorem st2 (k : CkS c b a1 a2 a3 a4 a5 c1 c2 c3 c4 c5 S) (hf : CmFit c)
    (h1 : 0 < c.cols.length → ∃ g o, a1 = some ⟨g, o, none⟩ ∧ ∀ W, S W → ∀ i x, c.cols[i]? = some x → W.cell? ⟨g, o + i * 2, none⟩ = some (.string ⟨x.name.toArray⟩) ∧ W.cell? ⟨g, o + i * 2 + 1, none⟩ = some (.int .i64 x.ty))
    (h2 : 0 < c.vals.length → ∃ g o, a2 = some ⟨g, o, none⟩ ∧ ∀ W, S W → ∀ i x, c.vals[i]? = some x → W.cell? ⟨g, o + i * 3, none⟩ = some (.int .i64 x.k) ∧ W.cell? ⟨g, o + i * 3 + 1, none⟩ = some (.int .i64 x.n) ∧ W.cell? ⟨g, o + i * 3 + 2, none⟩ = some (.string ⟨x.s.toArray⟩))
    (h3 : 0 < c.fields.length → ∃ g o, a3 = some ⟨g, o, none⟩ ∧ ∀ W, S W → ∀ i x, c.fields[i]? = some x → W.cell? ⟨g, o + i, none⟩ = some (.string ⟨x.toArray⟩))
    (h : Fr a b c.kind ok) (hS : S w) (hR : ∀ w', S w' → R (.returned (ansC (f2 c ok))) w') : cT2.wp Tryz.prog (bodyPost Tryz.prog Tryz.f13 R) a w := by
  unfold cT2
  refine wp_seq (wp_seq ?_)
  refine k5_wp (S := S) h.t3 h.size hS ?_
  intro x w1 hS1 hd hz hn ho
  have g : Fr x b c.kind ok := h.stay hd hz (ho 1 (by decide)) (ho 3 (by decide)) (ho 4 (by decide))
  refine wp_cond_split (t := decide (c.kind = 3) || decide (c.kind = 6)) (eval_tmp (hn 5 82 rfl)) (fun ht => ?_) (fun ht => ?_)
  · refine k6_wp (S := S) g.t1 g.t4 k.cell (k.btw _ _ _) g.size hS1 ?_
    intro y w2 hS2 hd2 hz2 hn2 ho2
    exact st3 k hf h1 h2 h3 (g.next hd2 hz2 (ho2 1 (by decide)) (ho2 3 (by decide)) (hn2 6 4 rfl)) hS2 (by simpa only [f2, if_pos ht] using hR)
  · refine k7_wp (S := S) g.t1 g.t4 k.cell g.size hS1 ?_
    intro y w2 hS2 hd2 hz2 hn2 ho2
    exact st3 k hf h1 h2 h3 (g.next hd2 hz2 (ho2 1 (by decide)) (ho2 3 (by decide)) (hn2 6 4 rfl)) hS2 (by simpa only [f2, if_neg (show ¬ (decide (c.kind = 3) || decide (c.kind = 6)) = true by rw [ht]; decide)] using hR)

def k1B (c : Cm) : Bool := (((betw c.kind 1 16 && nameIs c.name (decide (c.kind ≤ 13))) && nameIs c.other ((decide (c.kind = 5) || decide (c.kind = 7)) || decide (c.kind = 8))) && nameIs c.column ((betw c.kind 3 6 || decide (c.kind = 8)) || decide (c.kind = 12)))
set_option maxRecDepth 100000 in
theorem st1 (k : CkS c b a1 a2 a3 a4 a5 c1 c2 c3 c4 c5 S) (hf : CmFit c)
    (h1 : 0 < c.cols.length → ∃ g o, a1 = some ⟨g, o, none⟩ ∧ ∀ W, S W → ∀ i x, c.cols[i]? = some x → W.cell? ⟨g, o + i * 2, none⟩ = some (.string ⟨x.name.toArray⟩) ∧ W.cell? ⟨g, o + i * 2 + 1, none⟩ = some (.int .i64 x.ty))
    (h2 : 0 < c.vals.length → ∃ g o, a2 = some ⟨g, o, none⟩ ∧ ∀ W, S W → ∀ i x, c.vals[i]? = some x → W.cell? ⟨g, o + i * 3, none⟩ = some (.int .i64 x.k) ∧ W.cell? ⟨g, o + i * 3 + 1, none⟩ = some (.int .i64 x.n) ∧ W.cell? ⟨g, o + i * 3 + 2, none⟩ = some (.string ⟨x.s.toArray⟩))
    (h3 : 0 < c.fields.length → ∃ g o, a3 = some ⟨g, o, none⟩ ∧ ∀ W, S W → ∀ i x, c.fields[i]? = some x → W.cell? ⟨g, o + i, none⟩ = some (.string ⟨x.toArray⟩))
    (hz : a.tmps.size = 272) (hd : a.defers = []) (t1 : a.tmps[1]? = some (.pointer (some ⟨b, 0, none⟩))) (t3 : a.tmps[3]? = some (.int .i64 c.kind)) (hS : S w) (hR : ∀ w', S w' → R (.returned (ansC (f2 c (k1B c)))) w') : cT1.wp Tryz.prog (bodyPost Tryz.prog Tryz.f13 R) a w := by
  unfold cT1
  refine wp_seq ?_
  refine ckr_wp (S := S) t1 t3 k.cell (k.btw _ _ _) (k.nmi _ _ hf.name) (k.nmi _ _ hf.other) (k.btw _ _ _) (k.nmi _ _ hf.column) hz (k.drew _ hS) ?_
  intro w1 hS1
  refine st2 k hf h1 h2 h3 (ok := k1B c) ⟨?_, hd, ?_, ?_, ?_⟩ hS1 hR
  · rw [List.size_toArray, putL_length]; simpa using hz
  · rw [List.getElem?_toArray, putL_old _ _ 1 (ckr_not 1 (by decide))]; simpa using t1
  · rw [List.getElem?_toArray, putL_old _ _ 3 (ckr_not 3 (by decide))]; simpa using t3
  · rw [List.getElem?_toArray, frame_at (n := 40) ckr_nodup rfl 39 4 rfl (by simp [hz])]; rfl
set_option maxRecDepth 100000 in
theorem st0 (k : CkS c b a1 a2 a3 a4 a5 c1 c2 c3 c4 c5 S) (hf : CmFit c)
    (h1 : 0 < c.cols.length → ∃ g o, a1 = some ⟨g, o, none⟩ ∧ ∀ W, S W → ∀ i x, c.cols[i]? = some x → W.cell? ⟨g, o + i * 2, none⟩ = some (.string ⟨x.name.toArray⟩) ∧ W.cell? ⟨g, o + i * 2 + 1, none⟩ = some (.int .i64 x.ty))
    (h2 : 0 < c.vals.length → ∃ g o, a2 = some ⟨g, o, none⟩ ∧ ∀ W, S W → ∀ i x, c.vals[i]? = some x → W.cell? ⟨g, o + i * 3, none⟩ = some (.int .i64 x.k) ∧ W.cell? ⟨g, o + i * 3 + 1, none⟩ = some (.int .i64 x.n) ∧ W.cell? ⟨g, o + i * 3 + 2, none⟩ = some (.string ⟨x.s.toArray⟩))
    (h3 : 0 < c.fields.length → ∃ g o, a3 = some ⟨g, o, none⟩ ∧ ∀ W, S W → ∀ i x, c.fields[i]? = some x → W.cell? ⟨g, o + i, none⟩ = some (.string ⟨x.toArray⟩))
    (hz : a.tmps.size = 272) (hd : a.defers = []) (t1 : a.tmps[1]? = some (.pointer (some ⟨b, 0, none⟩))) (hS : S w) (hR : ∀ w', S w' → R (.returned (ansC (f2 c (k1B c)))) w') : cT0.wp Tryz.prog (bodyPost Tryz.prog Tryz.f13 R) a w := by
  unfold cT0
  refine wp_seq ?_
  refine k3_wp (S := S) t1 k.cell hz hS ?_
  intro y w1 hS1 hd1 hz1 hn ho
  exact st1 k hf h1 h2 h3 hz1 (hd1.trans hd) ((ho 1 (by decide)).trans t1) (hn 2 3 rfl) hS1 hR
end

theorem fin_pure (P1 P2 P3 P4 : Prop) [Decidable P1] [Decidable P2] [Decidable P3] [Decidable P4] (K T1 T2 V1 V2 L1 L2 L3 A1 A2 A3 S1 S2 X1 X2 X3 X4 Y : Bool) :
    (if P4 then (if P3 then (if P2 then ((((((((((if P1 then K && T1 else K && T2) && V1) && V2) && L1) && L2) && L3) && A1) && A2) && A3) && S1) && S2 else (((((((((if P1 then K && T1 else K && T2) && V1) && V2) && L1) && L2) && L3) && A1) && A2) && A3)) && X1 else (if P2 then ((((((((((if P1 then K && T1 else K && T2) && V1) && V2) && L1) && L2) && L3) && A1) && A2) && A3) && S1) && S2 else (((((((((if P1 then K && T1 else K && T2) && V1) && V2) && L1) && L2) && L3) && A1) && A2) && A3)) && X3) && X2 else ((if P3 then (if P2 then ((((((((((if P1 then K && T1 else K && T2) && V1) && V2) && L1) && L2) && L3) && A1) && A2) && A3) && S1) && S2 else (((((((((if P1 then K && T1 else K && T2) && V1) && V2) && L1) && L2) && L3) && A1) && A2) && A3)) && X1 else (if P2 then ((((((((((if P1 then K && T1 else K && T2) && V1) && V2) && L1) && L2) && L3) && A1) && A2) && A3) && S1) && S2 else (((((((((if P1 then K && T1 else K && T2) && V1) && V2) && L1) && L2) && L3) && A1) && A2) && A3)) && X3) && X4) && Y) = (K && (if P1 then T1 else T2) && (V1 && V2) && (L1 && L2 && L3) && A1 && A2 && A3 && (if P2 then S1 && S2 else true) && (if P3 then X1 else X3) && (if P4 then X2 else X4 && Y)) := by
  by_cases g1 : P1 <;> by_cases g2 : P2 <;> by_cases g3 : P3 <;> by_cases g4 : P4 <;> simp [g1, g2, g3, g4, Bool.and_assoc]

theorem fin_ref (c : Cm) : f2 c (k1B c) = refC c := by
  have e1 : decide (0 < ((c.cols.length : Nat) : Int)) = decide (0 < c.cols.length) := by rw [decide_eq_decide]; omega
  have e2 : decide (0 < ((c.vals.length : Nat) : Int)) = decide (0 < c.vals.length) := by rw [decide_eq_decide]; omega
  have e3 : decide (((c.fields.length : Nat) : Int) = 0) = decide (c.fields.length = 0) := by rw [decide_eq_decide]; omega
  have e4 : ∀ v : Vl, decide (((chkV v.k v.n v.s : Nat) : Int) = 0) = valB v := by intro v; unfold valB; rw [decide_eq_decide]; omega
  have e5 : (decide (c.kind = 3) || decide (c.kind = 6)) = decide (c.kind = 3 ∨ c.kind = 6) := by rw [Bool.decide_or]
  unfold f2 f3 f4 fL1 fL2 fL3 f5 f6 f7 k1B refC
  rw [e1, e2, e3, e4, e5]
  simp only [decide_eq_true_eq]
  exact fin_pure _ _ _ _ _ _ _ _ _ _ _ _ _ _ _ _ _ _ _ _ _ _

end Go.Proofs.YtkpeklealgicpabGreatDoor

namespace Go.Proofs.YtkpeklealgicpabGreatDoor
open Go.RowKit

noncomputable def pln_R : Array Oper := ((Tryz.f85.body).bind (regionOf 1)).getD #[]
noncomputable def pln_o (j : Nat) : Oper := (pln_R[j]?).getD ⟨none, .move (.const undef), 0, "", #[], none⟩
def pln_V (k : Int) (v : Vl) (nm : List UInt8) (ao : Option Addr) (n ca : Nat) (b : Nat) (j : Nat) : Value := ([.pointer (some ⟨b, 5, none⟩), .slice ao n ca, .int .i64 ((n : Nat) : Int), .pointer (some ⟨b, 0, none⟩), .int .i64 k, .int .i64 (argsR k), .bool (decide (((n : Nat) : Int) = (argsR k))), .bool (decide (((n : Nat) : Int) = (argsR k))), gw ((decide (((n : Nat) : Int) = (argsR k))) == true) (.pointer (some ⟨b, 0, none⟩)), gw ((decide (((n : Nat) : Int) = (argsR k))) == true) (.int .i64 k), gw ((decide (((n : Nat) : Int) = (argsR k))) == true) (.bool (decide (k = 2))), gw ((decide (((n : Nat) : Int) = (argsR k))) == true) (.bool (decide (k = 2))), gw (((decide (((n : Nat) : Int) = (argsR k))) == true) && ((decide (k = 2)) == false)) (.pointer (some ⟨b, 4, none⟩)), gw (((decide (((n : Nat) : Int) = (argsR k))) == true) && ((decide (k = 2)) == false)) (.string ⟨nm.toArray⟩), gw (((decide (((n : Nat) : Int) = (argsR k))) == true) && ((decide (k = 2)) == false)) (.bool (decide (nm = []))), gw ((decide (((n : Nat) : Int) = (argsR k))) == true) (.bool ((decide (k = 2)) || (decide (nm = [])))), .bool ((decide (((n : Nat) : Int) = (argsR k))) && ((decide (k = 2)) || (decide (nm = [])))), .bool ((decide (((n : Nat) : Int) = (argsR k))) && ((decide (k = 2)) || (decide (nm = [])))), gw (((decide (((n : Nat) : Int) = (argsR k))) && ((decide (k = 2)) || (decide (nm = [])))) == true) (.pointer (some ⟨b, 0, none⟩)), gw (((decide (((n : Nat) : Int) = (argsR k))) && ((decide (k = 2)) || (decide (nm = [])))) == true) (.int .i64 k), gw (((decide (((n : Nat) : Int) = (argsR k))) && ((decide (k = 2)) || (decide (nm = [])))) == true) (.bool (decide (k = 1))), gw (((decide (((n : Nat) : Int) = (argsR k))) && ((decide (k = 2)) || (decide (nm = [])))) == true) (.bool (decide (k = 1))), gw ((((decide (((n : Nat) : Int) = (argsR k))) && ((decide (k = 2)) || (decide (nm = [])))) == true) && ((decide (k = 1)) == false)) (.pointer (some ⟨b, 1, none⟩)), gw ((((decide (((n : Nat) : Int) = (argsR k))) && ((decide (k = 2)) || (decide (nm = [])))) == true) && ((decide (k = 1)) == false)) (.agg #[.int .i64 v.k, .int .i64 v.n, .string ⟨v.s.toArray⟩]), gw ((((decide (((n : Nat) : Int) = (argsR k))) && ((decide (k = 2)) || (decide (nm = [])))) == true) && ((decide (k = 1)) == false)) (.agg #[.int .i64 0, .int .i64 0, .string ⟨#[]⟩]), gw ((((decide (((n : Nat) : Int) = (argsR k))) && ((decide (k = 2)) || (decide (nm = [])))) == true) && ((decide (k = 1)) == false)) (.bool (noneV v)), gw (((decide (((n : Nat) : Int) = (argsR k))) && ((decide (k = 2)) || (decide (nm = [])))) == true) (.bool ((decide (k = 1)) || (noneV v))), .bool (((decide (((n : Nat) : Int) = (argsR k))) && ((decide (k = 2)) || (decide (nm = [])))) && ((decide (k = 1)) || (noneV v))), .bool (((decide (((n : Nat) : Int) = (argsR k))) && ((decide (k = 2)) || (decide (nm = [])))) && ((decide (k = 1)) || (noneV v)))] : List Value).getD j undef
def pln_d : List (Option Tmp) := [some 3, some 4, some 5, some 6, some 7, some 8, some 9, some 10, some 11, some 12, some 13, some 14, some 15, some 16, some 17, some 18, some 19, some 20, some 21, some 22, some 23, some 24, some 25, some 26, some 27, some 28, some 29, some 30, some 2]
set_option maxRecDepth 100000 in
theorem pln_nodup : pln_d.Nodup := by unfold pln_d; decide

set_option maxRecDepth 100000 in
theorem pln_wp {k : Int} {v : Vl} {nm : List UInt8} {ao : Option Addr} {n ca : Nat} {b : Nat} {S : World → Prop} {a0 : Act} {Q : Exit → Act → World → Prop} {w : World} (h1 : a0.tmps[1]? = some (.pointer (some ⟨b, 0, none⟩))) (hcell : ∀ W, S W → ∀ o x, ([.int .i64 k, .int .i64 v.k, .int .i64 v.n, .string ⟨v.s.toArray⟩, .string ⟨nm.toArray⟩, .slice ao n ca] : List Value)[o]? = some x → W.cell? ⟨b, o, none⟩ = some x) (q8 : ∀ W, S W → Calls Tryz.prog 130 #[.int .i64 k] W fun e w' => e = .returned (.int .i64 (argsR k)) ∧ S w') (q28 : ∀ W, S W → Calls Tryz.prog 25 #[.agg #[.int .i64 v.k, .int .i64 v.n, .string ⟨v.s.toArray⟩], .agg #[.int .i64 0, .int .i64 0, .string ⟨#[]⟩]] W fun e w' => e = .returned (.bool (noneV v)) ∧ S w') (ha : a0.tmps.size = 31) (hS : S w.drew)
    (hq : ∀ w', S w' → Q .normal { tmps := (putL a0.tmps.toList (pln_d.zip ((List.range 29).map (pln_V k v nm ao n ca b)))).toArray, defers := a0.defers } w') : (Code.region 1 pln_R true).wp Tryz.prog Q a0 w := by
  refine wp_run (m := 31) (by kernel_rfl) (by kernel_rfl) (by kernel_rfl) (by kernel_rfl) pln_nodup ha ?_ hS hq
  refine upto_succ ?_ (obRU (o := pln_o 28) (by kernel_rfl) (by kernel_rfl) fun _ _ s _ => ex_assign (x := .tmp 30) (by kernel_rfl) (s.u 27 30 (by kernel_rfl) (by kernel_rfl)))
  refine upto_succ ?_ (obRU (o := pln_o 27) (by kernel_rfl) (by kernel_rfl) fun _ _ s _ => ex_pickA (G := true) (by kernel_rfl) (s.u 17 20 (by kernel_rfl) (by kernel_rfl)) (s.u 26 29 (by kernel_rfl) (by kernel_rfl)) rfl rfl)
  refine upto_succ ?_ (obRG true 17 20 true (o := pln_o 26) (by kernel_rfl) (by kernel_rfl) (by kernel_rfl) (by kernel_rfl) rfl rfl fun hG _ _ s _ => ex_pickO (by kernel_rfl) (s.g 21 24 (by kernel_rfl) (by kernel_rfl) hG rfl) (s.u 25 28 (by kernel_rfl) (by kernel_rfl)) rfl hG)
  refine upto_succ ?_ (obRH _ 21 24 false (o := pln_o 25) (by kernel_rfl) (by kernel_rfl) (by kernel_rfl) (by kernel_rfl) rfl rfl (fun hG _ _ s => ex_call2 (ts := #[24, 24]) (x := .tmp 26) (y := .tmp 27) (f := 25) cf25 (by kernel_rfl) rfl (s.g 23 26 (by kernel_rfl) (by kernel_rfl) hG rfl) (s.g 24 27 (by kernel_rfl) (by kernel_rfl) hG rfl)) q28)
  refine upto_succ ?_ (obRG _ 21 24 false (o := pln_o 24) (by kernel_rfl) (by kernel_rfl) (by kernel_rfl) (by kernel_rfl) rfl rfl fun _ _ _ _ _ => ex_build24 (by kernel_rfl))
  refine upto_succ ?_ (obRG _ 21 24 false (o := pln_o 23) (by kernel_rfl) (by kernel_rfl) (by kernel_rfl) (by kernel_rfl) rfl rfl fun hG _ W s hS => ex_load (x := .tmp 25) (t := 24) (by kernel_rfl) (s.g 22 25 (by kernel_rfl) (by kernel_rfl) hG rfl) (ld24 W _ 1 _ _ _ (hcell W hS 1 _ rfl) (hcell W hS 2 _ rfl) (hcell W hS 3 _ rfl)))
  refine upto_succ ?_ (obRG _ 21 24 false (o := pln_o 22) (by kernel_rfl) (by kernel_rfl) (by kernel_rfl) (by kernel_rfl) rfl rfl fun _ _ W s _ => ex_field (x := .tmp 1) (t := 29) (f := 1) (by kernel_rfl) (s.b 1 (by kernel_rfl) h1) (fx1 W _))
  refine upto_succ ?_ (obRG true 17 20 true (o := pln_o 21) (by kernel_rfl) (by kernel_rfl) (by kernel_rfl) (by kernel_rfl) rfl rfl fun hG _ _ s _ => ex_move (x := .tmp 23) (by kernel_rfl) (s.g 20 23 (by kernel_rfl) (by kernel_rfl) hG rfl))
  refine upto_succ ?_ (obRG true 17 20 true (o := pln_o 20) (by kernel_rfl) (by kernel_rfl) (by kernel_rfl) (by kernel_rfl) rfl rfl fun hG _ W s _ => ex_bin (u := 3) (x := .tmp 22) (y := .const (.int .i64 1)) (by kernel_rfl) (s.g 19 22 (by kernel_rfl) (by kernel_rfl) hG rfl) (rfl) (eq3c W _ _ _ _))
  refine upto_succ ?_ (obRG true 17 20 true (o := pln_o 19) (by kernel_rfl) (by kernel_rfl) (by kernel_rfl) (by kernel_rfl) rfl rfl fun hG _ W s hS => ex_load (x := .tmp 21) (t := 3) (by kernel_rfl) (s.g 18 21 (by kernel_rfl) (by kernel_rfl) hG rfl) (ld3 W _ 0 _ (hcell W hS 0 _ rfl)))
  refine upto_succ ?_ (obRG true 17 20 true (o := pln_o 18) (by kernel_rfl) (by kernel_rfl) (by kernel_rfl) (by kernel_rfl) rfl rfl fun _ _ W s _ => ex_field (x := .tmp 1) (t := 29) (f := 0) (by kernel_rfl) (s.b 1 (by kernel_rfl) h1) (fx0 W _))
  refine upto_succ ?_ (obRU (o := pln_o 17) (by kernel_rfl) (by kernel_rfl) fun _ _ s _ => ex_move (x := .tmp 19) (by kernel_rfl) (s.u 16 19 (by kernel_rfl) (by kernel_rfl)))
  refine upto_succ ?_ (obRU (o := pln_o 16) (by kernel_rfl) (by kernel_rfl) fun _ _ s _ => ex_pickA (G := true) (by kernel_rfl) (s.u 7 10 (by kernel_rfl) (by kernel_rfl)) (s.u 15 18 (by kernel_rfl) (by kernel_rfl)) rfl rfl)
  refine upto_succ ?_ (obRG true 7 10 true (o := pln_o 15) (by kernel_rfl) (by kernel_rfl) (by kernel_rfl) (by kernel_rfl) rfl rfl fun hG _ _ s _ => ex_pickO (by kernel_rfl) (s.g 11 14 (by kernel_rfl) (by kernel_rfl) hG rfl) (s.u 14 17 (by kernel_rfl) (by kernel_rfl)) rfl hG)
  refine upto_succ ?_ (obRG _ 11 14 false (o := pln_o 14) (by kernel_rfl) (by kernel_rfl) (by kernel_rfl) (by kernel_rfl) rfl rfl fun hG _ W s _ => ex_bin (u := 9) (x := .tmp 16) (y := .const (.string ⟨#[]⟩)) (by kernel_rfl) (s.g 13 16 (by kernel_rfl) (by kernel_rfl) hG rfl) (rfl) (eq9 W _ _ _))
  refine upto_succ ?_ (obRG _ 11 14 false (o := pln_o 13) (by kernel_rfl) (by kernel_rfl) (by kernel_rfl) (by kernel_rfl) rfl rfl fun hG _ W s hS => ex_load (x := .tmp 15) (t := 9) (by kernel_rfl) (s.g 12 15 (by kernel_rfl) (by kernel_rfl) hG rfl) (ld9 W _ 4 _ (hcell W hS 4 _ rfl)))
  refine upto_succ ?_ (obRG _ 11 14 false (o := pln_o 12) (by kernel_rfl) (by kernel_rfl) (by kernel_rfl) (by kernel_rfl) rfl rfl fun _ _ W s _ => ex_field (x := .tmp 1) (t := 29) (f := 2) (by kernel_rfl) (s.b 1 (by kernel_rfl) h1) (fx2 W _))
  refine upto_succ ?_ (obRG true 7 10 true (o := pln_o 11) (by kernel_rfl) (by kernel_rfl) (by kernel_rfl) (by kernel_rfl) rfl rfl fun hG _ _ s _ => ex_move (x := .tmp 13) (by kernel_rfl) (s.g 10 13 (by kernel_rfl) (by kernel_rfl) hG rfl))
  refine upto_succ ?_ (obRG true 7 10 true (o := pln_o 10) (by kernel_rfl) (by kernel_rfl) (by kernel_rfl) (by kernel_rfl) rfl rfl fun hG _ W s _ => ex_bin (u := 3) (x := .tmp 12) (y := .const (.int .i64 2)) (by kernel_rfl) (s.g 9 12 (by kernel_rfl) (by kernel_rfl) hG rfl) (rfl) (eq3c W _ _ _ _))
  refine upto_succ ?_ (obRG true 7 10 true (o := pln_o 9) (by kernel_rfl) (by kernel_rfl) (by kernel_rfl) (by kernel_rfl) rfl rfl fun hG _ W s hS => ex_load (x := .tmp 11) (t := 3) (by kernel_rfl) (s.g 8 11 (by kernel_rfl) (by kernel_rfl) hG rfl) (ld3 W _ 0 _ (hcell W hS 0 _ rfl)))
  refine upto_succ ?_ (obRG true 7 10 true (o := pln_o 8) (by kernel_rfl) (by kernel_rfl) (by kernel_rfl) (by kernel_rfl) rfl rfl fun _ _ W s _ => ex_field (x := .tmp 1) (t := 29) (f := 0) (by kernel_rfl) (s.b 1 (by kernel_rfl) h1) (fx0 W _))
  refine upto_succ ?_ (obRU (o := pln_o 7) (by kernel_rfl) (by kernel_rfl) fun _ _ s _ => ex_move (x := .tmp 9) (by kernel_rfl) (s.u 6 9 (by kernel_rfl) (by kernel_rfl)))
  refine upto_succ ?_ (obRU (o := pln_o 6) (by kernel_rfl) (by kernel_rfl) fun _ W s _ => ex_bin (u := 3) (x := .tmp 5) (y := .tmp 8) (by kernel_rfl) (s.u 2 5 (by kernel_rfl) (by kernel_rfl)) (s.u 5 8 (by kernel_rfl) (by kernel_rfl)) (eq3c W _ _ _ _))
  refine upto_succ ?_ (obRC (o := pln_o 5) (by kernel_rfl) (by kernel_rfl) (fun _ _ s => ex_call1 (ts := #[3]) (x := .tmp 7) (f := 130) cf130 (by kernel_rfl) rfl (s.u 4 7 (by kernel_rfl) (by kernel_rfl))) q8)
  refine upto_succ ?_ (obRU (o := pln_o 4) (by kernel_rfl) (by kernel_rfl) fun _ W s hS => ex_load (x := .tmp 6) (t := 3) (by kernel_rfl) (s.u 3 6 (by kernel_rfl) (by kernel_rfl)) (ld3 W _ 0 _ (hcell W hS 0 _ rfl)))
  refine upto_succ ?_ (obRU (o := pln_o 3) (by kernel_rfl) (by kernel_rfl) fun _ W s _ => ex_field (x := .tmp 1) (t := 29) (f := 0) (by kernel_rfl) (s.b 1 (by kernel_rfl) h1) (fx0 W _))
  refine upto_succ ?_ (obRU (o := pln_o 2) (by kernel_rfl) (by kernel_rfl) fun _ W s _ => ex_len (ts := #[27]) (x := .tmp 4) (by kernel_rfl) (fun ty => len27 W ao n ca ty) (s.u 1 4 (by kernel_rfl) (by kernel_rfl)))
  refine upto_succ ?_ (obRU (o := pln_o 1) (by kernel_rfl) (by kernel_rfl) fun _ W s hS => ex_load (x := .tmp 3) (t := 27) (by kernel_rfl) (s.u 0 3 (by kernel_rfl) (by kernel_rfl)) (ld27 W _ 5 _ (hcell W hS 5 _ rfl)))
  refine upto_succ ?_ (obRU (o := pln_o 0) (by kernel_rfl) (by kernel_rfl) fun _ W s _ => ex_field (x := .tmp 1) (t := 29) (f := 3) (by kernel_rfl) (s.b 1 (by kernel_rfl) h1) (fx3 W _))
  exact fun j hj => absurd hj (Nat.not_lt_zero j)

end Go.Proofs.YtkpeklealgicpabGreatDoor
