/-
  isRight's region: what each operation leaves.
  isRight, of a kind that is one.
  Check, whole: 2 where a count is past its limit, 0 where the command is right, else 1.
  What is true of every token that is scanned.
  The document's own small functions (package overhaulref), as the laws call them: they answer the same plain functions.
  The document's 'TokenWrong' and 'ScanOf' (package overhaulref): they answer the same plain functions as the program's.
  The document's 'IsToken' (package overhaulref): it is what 'alone' asks.
  What is parsed is never long.
  Parse: where the scan fails.
  Parse: where a command is read; Check decides.
-/
import Derived.Test.YtkpeklealgicpabGreatDoorKd

namespace Go.Proofs.YtkpeklealgicpabGreatDoor
open Go.RowKit

def gv (p : Bool) (v : Value) : Value := if p = true then v else undef
def bitC : Nat → Int
  | 1 => 1 | 2 => 2 | 3 => 4 | 4 => 8 | 5 => 16 | 6 => 32 | 7 => 64 | 8 => 128 | 9 => 256 | 10 => 512 | 11 => 1024 | _ => 2048
def rC (c : Cm) : Nat → Bool
  | 1 => nameW c.name | 2 => nameW c.other | 3 => nameW c.column | 4 => areCols c.cols | 5 => typeB c.ty | 6 => valB c.val | 7 => areVals c.vals | 8 => c.fields.all nameW | 9 => rightE c.expr | 10 => whereB c.all c.wh
  | 11 => decide (c.order = []) || nameW c.order | _ => decide (-1 ≤ c.limit) && decide (c.limit ≤ 999999999)
def eC (c : Cm) : Nat → Bool
  | 1 => decide (c.name = []) | 2 => decide (c.other = []) | 3 => decide (c.column = []) | 4 => decide ((c.cols.length : Int) = 0) | 5 => decide (c.ty = 0) | 6 => noneV c.val | 7 => decide ((c.vals.length : Int) = 0) | 8 => decide ((c.fields.length : Int) = 0) | 9 => noneE c.expr | 10 => !c.all && noneE c.wh
  | 11 => decide (c.order = []) | _ => decide (c.limit = 0)
def Xc (m : Int) (c : Cm) (i : Nat) : Bool := if hasB m (bitC i) = true then rC c i else eC c i
def Pr (X : Nat → Bool) : Nat → Bool
  | 0 => true
  | i + 1 => Pr X i && X (i + 1)

def VV (w : World) (c : Cm) (cv vv fv ea wa : Value) (m : Int) (j : Nat) : Value := ([.bool true, .bool (Pr (Xc m c) 0), gv (Pr (Xc m c) 0) (.func (.func 71) #[] #[.pointer (some ⟨w.heap.size + 1, 0, none⟩)]), gv (Pr (Xc m c) 0) (.pointer (some ⟨w.heap.size, 1, none⟩)), gv (Pr (Xc m c) 0) (.string ⟨c.name.toArray⟩), gv (Pr (Xc m c) 0) (.bool (nameW c.name)), gv (Pr (Xc m c) 0) (.pointer (some ⟨w.heap.size, 1, none⟩)), gv (Pr (Xc m c) 0) (.string ⟨c.name.toArray⟩), gv (Pr (Xc m c) 0) (.bool (decide (c.name = []))), gv (Pr (Xc m c) 0) (.bool ((Xc m c) 1)), .bool (Pr (Xc m c) 1), .bool (Pr (Xc m c) 1), gv (Pr (Xc m c) 1) (.func (.func 71) #[] #[.pointer (some ⟨w.heap.size + 1, 0, none⟩)]), gv (Pr (Xc m c) 1) (.pointer (some ⟨w.heap.size, 2, none⟩)), gv (Pr (Xc m c) 1) (.string ⟨c.other.toArray⟩), gv (Pr (Xc m c) 1) (.bool (nameW c.other)), gv (Pr (Xc m c) 1) (.pointer (some ⟨w.heap.size, 2, none⟩)), gv (Pr (Xc m c) 1) (.string ⟨c.other.toArray⟩), gv (Pr (Xc m c) 1) (.bool (decide (c.other = []))), gv (Pr (Xc m c) 1) (.bool ((Xc m c) 2)), .bool (Pr (Xc m c) 2), .bool (Pr (Xc m c) 2), gv (Pr (Xc m c) 2) (.func (.func 71) #[] #[.pointer (some ⟨w.heap.size + 1, 0, none⟩)]), gv (Pr (Xc m c) 2) (.pointer (some ⟨w.heap.size, 3, none⟩)), gv (Pr (Xc m c) 2) (.string ⟨c.column.toArray⟩), gv (Pr (Xc m c) 2) (.bool (nameW c.column)), gv (Pr (Xc m c) 2) (.pointer (some ⟨w.heap.size, 3, none⟩)), gv (Pr (Xc m c) 2) (.string ⟨c.column.toArray⟩), gv (Pr (Xc m c) 2) (.bool (decide (c.column = []))), gv (Pr (Xc m c) 2) (.bool ((Xc m c) 3)), .bool (Pr (Xc m c) 3), .bool (Pr (Xc m c) 3), gv (Pr (Xc m c) 3) (.func (.func 71) #[] #[.pointer (some ⟨w.heap.size + 1, 0, none⟩)]), gv (Pr (Xc m c) 3) (.pointer (some ⟨w.heap.size, 4, none⟩)), gv (Pr (Xc m c) 3) (cv), gv (Pr (Xc m c) 3) (.bool (areCols c.cols)), gv (Pr (Xc m c) 3) (.pointer (some ⟨w.heap.size, 4, none⟩)), gv (Pr (Xc m c) 3) (cv), gv (Pr (Xc m c) 3) (.int .i64 (c.cols.length : Nat)), gv (Pr (Xc m c) 3) (.bool (decide ((c.cols.length : Int) = 0))), gv (Pr (Xc m c) 3) (.bool ((Xc m c) 4)), .bool (Pr (Xc m c) 4), .bool (Pr (Xc m c) 4), gv (Pr (Xc m c) 4) (.func (.func 71) #[] #[.pointer (some ⟨w.heap.size + 1, 0, none⟩)]), gv (Pr (Xc m c) 4) (.pointer (some ⟨w.heap.size, 5, none⟩)), gv (Pr (Xc m c) 4) (.int .i64 c.ty), gv (Pr (Xc m c) 4) (.bool (typeB c.ty)), gv (Pr (Xc m c) 4) (.pointer (some ⟨w.heap.size, 5, none⟩)), gv (Pr (Xc m c) 4) (.int .i64 c.ty), gv (Pr (Xc m c) 4) (.bool (decide (c.ty = 0))), gv (Pr (Xc m c) 4) (.bool ((Xc m c) 5)), .bool (Pr (Xc m c) 5), .bool (Pr (Xc m c) 5), gv (Pr (Xc m c) 5) (.func (.func 71) #[] #[.pointer (some ⟨w.heap.size + 1, 0, none⟩)]), gv (Pr (Xc m c) 5) (.pointer (some ⟨w.heap.size, 6, none⟩)), gv (Pr (Xc m c) 5) (.agg #[.int .i64 c.val.k, .int .i64 c.val.n, .string ⟨c.val.s.toArray⟩]), gv (Pr (Xc m c) 5) (.bool (valB c.val)), gv (Pr (Xc m c) 5) (.pointer (some ⟨w.heap.size, 6, none⟩)), gv (Pr (Xc m c) 5) (.agg #[.int .i64 c.val.k, .int .i64 c.val.n, .string ⟨c.val.s.toArray⟩]), gv (Pr (Xc m c) 5) (.agg #[.int .i64 0, .int .i64 0, .string ⟨#[]⟩]), gv (Pr (Xc m c) 5) (.bool (noneV c.val)), gv (Pr (Xc m c) 5) (.bool ((Xc m c) 6)), .bool (Pr (Xc m c) 6), .bool (Pr (Xc m c) 6), gv (Pr (Xc m c) 6) (.func (.func 71) #[] #[.pointer (some ⟨w.heap.size + 1, 0, none⟩)]), gv (Pr (Xc m c) 6) (.pointer (some ⟨w.heap.size, 9, none⟩)), gv (Pr (Xc m c) 6) (vv), gv (Pr (Xc m c) 6) (.bool (areVals c.vals)), gv (Pr (Xc m c) 6) (.pointer (some ⟨w.heap.size, 9, none⟩)), gv (Pr (Xc m c) 6) (vv), gv (Pr (Xc m c) 6) (.int .i64 (c.vals.length : Nat)), gv (Pr (Xc m c) 6) (.bool (decide ((c.vals.length : Int) = 0))), gv (Pr (Xc m c) 6) (.bool ((Xc m c) 7)), .bool (Pr (Xc m c) 7), .bool (Pr (Xc m c) 7), gv (Pr (Xc m c) 7) (.func (.func 71) #[] #[.pointer (some ⟨w.heap.size + 1, 0, none⟩)]), gv (Pr (Xc m c) 7) (.pointer (some ⟨w.heap.size, 10, none⟩)), gv (Pr (Xc m c) 7) (fv), gv (Pr (Xc m c) 7) (.bool (c.fields.all nameW)), gv (Pr (Xc m c) 7) (.pointer (some ⟨w.heap.size, 10, none⟩)), gv (Pr (Xc m c) 7) (fv), gv (Pr (Xc m c) 7) (.int .i64 (c.fields.length : Nat)), gv (Pr (Xc m c) 7) (.bool (decide ((c.fields.length : Int) = 0))), gv (Pr (Xc m c) 7) (.bool ((Xc m c) 8)), .bool (Pr (Xc m c) 8), .bool (Pr (Xc m c) 8), gv (Pr (Xc m c) 8) (.func (.func 71) #[] #[.pointer (some ⟨w.heap.size + 1, 0, none⟩)]), gv (Pr (Xc m c) 8) (.pointer (some ⟨w.heap.size, 11, none⟩)), gv (Pr (Xc m c) 8) (.agg #[.int .i64 c.expr.k, .int .i64 c.expr.v.k, .int .i64 c.expr.v.n, .string ⟨c.expr.v.s.toArray⟩, .string ⟨c.expr.nm.toArray⟩, ea]), gv (Pr (Xc m c) 8) (.bool (rightE c.expr)), gv (Pr (Xc m c) 8) (.pointer (some ⟨w.heap.size, 11, none⟩)), gv (Pr (Xc m c) 8) (.agg #[.int .i64 c.expr.k, .int .i64 c.expr.v.k, .int .i64 c.expr.v.n, .string ⟨c.expr.v.s.toArray⟩, .string ⟨c.expr.nm.toArray⟩, ea]), gv (Pr (Xc m c) 8) (.bool (noneE c.expr)), gv (Pr (Xc m c) 8) (.bool ((Xc m c) 9)), .bool (Pr (Xc m c) 9), .bool (Pr (Xc m c) 9), gv (Pr (Xc m c) 9) (.func (.func 71) #[] #[.pointer (some ⟨w.heap.size + 1, 0, none⟩)]), gv (Pr (Xc m c) 9) (.pointer (some ⟨w.heap.size, 17, none⟩)), gv (Pr (Xc m c) 9) (.bool c.all), gv (Pr (Xc m c) 9) (.pointer (some ⟨w.heap.size, 18, none⟩)), gv (Pr (Xc m c) 9) (.agg #[.int .i64 c.wh.k, .int .i64 c.wh.v.k, .int .i64 c.wh.v.n, .string ⟨c.wh.v.s.toArray⟩, .string ⟨c.wh.nm.toArray⟩, wa]), gv (Pr (Xc m c) 9) (.bool (whereB c.all c.wh)), gv (Pr (Xc m c) 9) (.pointer (some ⟨w.heap.size, 17, none⟩)), gv (Pr (Xc m c) 9) (.bool c.all), gv (Pr (Xc m c) 9) (.bool (!c.all)), gv (Pr (Xc m c) 9) (.bool (!c.all)), gv ((Pr (Xc m c) 9) && (!c.all)) (.pointer (some ⟨w.heap.size, 18, none⟩)), gv ((Pr (Xc m c) 9) && (!c.all)) (.agg #[.int .i64 c.wh.k, .int .i64 c.wh.v.k, .int .i64 c.wh.v.n, .string ⟨c.wh.v.s.toArray⟩, .string ⟨c.wh.nm.toArray⟩, wa]), gv ((Pr (Xc m c) 9) && (!c.all)) (.bool (noneE c.wh)), gv (Pr (Xc m c) 9) (.bool (!c.all && noneE c.wh)), gv (Pr (Xc m c) 9) (.bool ((Xc m c) 10)), .bool (Pr (Xc m c) 10), .bool (Pr (Xc m c) 10), gv (Pr (Xc m c) 10) (.func (.func 71) #[] #[.pointer (some ⟨w.heap.size + 1, 0, none⟩)]), gv (Pr (Xc m c) 10) (.pointer (some ⟨w.heap.size, 24, none⟩)), gv (Pr (Xc m c) 10) (.string ⟨c.order.toArray⟩), gv (Pr (Xc m c) 10) (.bool (decide (c.order = []))), gv (Pr (Xc m c) 10) (.bool (decide (c.order = []))), gv ((Pr (Xc m c) 10) && (!(decide (c.order = [])))) (.pointer (some ⟨w.heap.size, 24, none⟩)), gv ((Pr (Xc m c) 10) && (!(decide (c.order = [])))) (.string ⟨c.order.toArray⟩), gv ((Pr (Xc m c) 10) && (!(decide (c.order = [])))) (.bool (nameW c.order)), gv (Pr (Xc m c) 10) (.bool (decide (c.order = []) || nameW c.order)), gv (Pr (Xc m c) 10) (.pointer (some ⟨w.heap.size, 24, none⟩)), gv (Pr (Xc m c) 10) (.string ⟨c.order.toArray⟩), gv (Pr (Xc m c) 10) (.bool (decide (c.order = []))), gv (Pr (Xc m c) 10) (.bool ((Xc m c) 11)), .bool (Pr (Xc m c) 11), .bool (Pr (Xc m c) 11), gv (Pr (Xc m c) 11) (.func (.func 71) #[] #[.pointer (some ⟨w.heap.size + 1, 0, none⟩)]), gv (Pr (Xc m c) 11) (.pointer (some ⟨w.heap.size, 25, none⟩)), gv (Pr (Xc m c) 11) (.int .i64 c.limit), gv (Pr (Xc m c) 11) (.bool (decide (-1 ≤ c.limit))), gv (Pr (Xc m c) 11) (.bool (decide (-1 ≤ c.limit))), gv ((Pr (Xc m c) 11) && (decide (-1 ≤ c.limit))) (.pointer (some ⟨w.heap.size, 25, none⟩)), gv ((Pr (Xc m c) 11) && (decide (-1 ≤ c.limit))) (.int .i64 c.limit), gv ((Pr (Xc m c) 11) && (decide (-1 ≤ c.limit))) (.bool (decide (c.limit ≤ 999999999))), gv (Pr (Xc m c) 11) (.bool (decide (-1 ≤ c.limit) && decide (c.limit ≤ 999999999))), gv (Pr (Xc m c) 11) (.pointer (some ⟨w.heap.size, 25, none⟩)), gv (Pr (Xc m c) 11) (.int .i64 c.limit), gv (Pr (Xc m c) 11) (.bool (decide (c.limit = 0))), gv (Pr (Xc m c) 11) (.bool ((Xc m c) 12)), .bool (Pr (Xc m c) 12), .bool (Pr (Xc m c) 12)] : List Value).getD j undef

structure Cals (w : World) (c : Cm) (cv vv fv ea wa : Value) (m : Int) : Prop where
  q1 : ∀ W, Held w c cv vv fv ea wa m W → Calls Tryz.prog 72 #[.string ⟨c.name.toArray⟩] W fun e w' => e = .returned (.bool (nameW c.name)) ∧ Below W.heap.size W w'
  q2 : ∀ W, Held w c cv vv fv ea wa m W → Calls Tryz.prog 72 #[.string ⟨c.other.toArray⟩] W fun e w' => e = .returned (.bool (nameW c.other)) ∧ Below W.heap.size W w'
  q3 : ∀ W, Held w c cv vv fv ea wa m W → Calls Tryz.prog 72 #[.string ⟨c.column.toArray⟩] W fun e w' => e = .returned (.bool (nameW c.column)) ∧ Below W.heap.size W w'
  q4 : ∀ W, Held w c cv vv fv ea wa m W → Calls Tryz.prog 73 #[cv] W fun e w' => e = .returned (.bool (areCols c.cols)) ∧ Below W.heap.size W w'
  q5 : ∀ W, Held w c cv vv fv ea wa m W → Calls Tryz.prog 74 #[.int .i64 c.ty] W fun e w' => e = .returned (.bool (typeB c.ty)) ∧ Below W.heap.size W w'
  q6 : ∀ W, Held w c cv vv fv ea wa m W → Calls Tryz.prog 75 #[.agg #[.int .i64 c.val.k, .int .i64 c.val.n, .string ⟨c.val.s.toArray⟩]] W fun e w' => e = .returned (.bool (valB c.val)) ∧ Below W.heap.size W w'
  q7 : ∀ W, Held w c cv vv fv ea wa m W → Calls Tryz.prog 76 #[vv] W fun e w' => e = .returned (.bool (areVals c.vals)) ∧ Below W.heap.size W w'
  q8 : ∀ W, Held w c cv vv fv ea wa m W → Calls Tryz.prog 77 #[fv, .func (.func 72) #[] #[]] W fun e w' => e = .returned (.bool (c.fields.all nameW)) ∧ Below W.heap.size W w'
  q9 : ∀ W, Held w c cv vv fv ea wa m W → Calls Tryz.prog 78 #[.agg #[.int .i64 c.expr.k, .int .i64 c.expr.v.k, .int .i64 c.expr.v.n, .string ⟨c.expr.v.s.toArray⟩, .string ⟨c.expr.nm.toArray⟩, ea]] W fun e w' => e = .returned (.bool (rightE c.expr)) ∧ Below W.heap.size W w'
  n9 : ∀ W, Held w c cv vv fv ea wa m W → Calls Tryz.prog 79 #[.agg #[.int .i64 c.expr.k, .int .i64 c.expr.v.k, .int .i64 c.expr.v.n, .string ⟨c.expr.v.s.toArray⟩, .string ⟨c.expr.nm.toArray⟩, ea]] W fun e w' => e = .returned (.bool (noneE c.expr)) ∧ Below W.heap.size W w'
  q10 : ∀ W, Held w c cv vv fv ea wa m W → Calls Tryz.prog 80 #[.bool c.all, .agg #[.int .i64 c.wh.k, .int .i64 c.wh.v.k, .int .i64 c.wh.v.n, .string ⟨c.wh.v.s.toArray⟩, .string ⟨c.wh.nm.toArray⟩, wa]] W fun e w' => e = .returned (.bool (whereB c.all c.wh)) ∧ Below W.heap.size W w'
  n10 : ∀ W, Held w c cv vv fv ea wa m W → Calls Tryz.prog 79 #[.agg #[.int .i64 c.wh.k, .int .i64 c.wh.v.k, .int .i64 c.wh.v.n, .string ⟨c.wh.v.s.toArray⟩, .string ⟨c.wh.nm.toArray⟩, wa]] W fun e w' => e = .returned (.bool (noneE c.wh)) ∧ Below W.heap.size W w'
  q11 : ∀ W, Held w c cv vv fv ea wa m W → Calls Tryz.prog 72 #[.string ⟨c.order.toArray⟩] W fun e w' => e = .returned (.bool (nameW c.order)) ∧ Below W.heap.size W w'
  l4 : ∃ ao ca, cv = .slice ao c.cols.length ca
  l7 : ∃ ao ca, vv = .slice ao c.vals.length ca
  l8 : ∃ ao ca, fv = .slice ao c.fields.length ca

def Ob (w : World) (c : Cm) (cv vv fv ea wa : Value) (m : Int) (a0 : Act) (Q : Exit → Act → World → Prop) (j : Nat) : Prop :=
  ∀ o listed a W, rops[j]? = some o → RunAt rops (Array.replicate 143 false) a0 (VV w c cv vv fv ea wa m) listed a → (∀ e ∈ o.after, Region.binds .any e = true → listed.getD e.on false = true) → Held w c cv vv fv ea wa m W →
    ∀ K : Act → World → Prop, (∀ w', Held w c cv vv fv ea wa m w' → K (a.put o.dst (VV w c cv vv fv ea wa m j)) w') → wpOp Tryz.prog rops Q j K a W

set_option maxRecDepth 100000 in
theorem ob_0 {w : World} {c : Cm} {cv vv fv ea wa : Value} {m : Int} {a0 : Act} {Q : Exit → Act → World → Prop} (h4 : a0.tmps[4]? = some (.bool true)) : Ob w c cv vv fv ea wa m a0 Q 0 := by
  intro o listed a W ho hd hl hS K hK
  have eo : rops[0]? = some (opAt 0) := by kernel_rfl
  obtain rfl : o = opAt 0 := Option.some.inj (ho.symm.trans eo)
  have s1 := (hd.base 4 (by kernel_rfl)).trans h4
  refine run_quiet eo (Or.inl ⟨wanted_none (by kernel_rfl), fun W' hW' => ?_⟩) hS hK
  exact ex_move (x := .tmp 4) (by kernel_rfl) (eval_tmp s1)

set_option maxRecDepth 100000 in
theorem ob_1 {w : World} {c : Cm} {cv vv fv ea wa : Value} {m : Int} {a0 : Act} {Q : Exit → Act → World → Prop} : Ob w c cv vv fv ea wa m a0 Q 1 := by
  intro o listed a W ho hd hl hS K hK
  have eo : rops[1]? = some (opAt 1) := by kernel_rfl
  obtain rfl : o = opAt 1 := Option.some.inj (ho.symm.trans eo)
  have s1 := hd.slot hl 0 13 (by kernel_rfl) (by kernel_rfl) (by kernel_rfl)
  refine run_quiet eo (Or.inl ⟨wanted_none (by kernel_rfl), fun W' hW' => ?_⟩) hS hK
  exact ex_move (x := .tmp 13) (by kernel_rfl) (eval_tmp s1)

set_option maxRecDepth 100000 in
theorem ob_2 {w : World} {c : Cm} {cv vv fv ea wa : Value} {m : Int} {a0 : Act} {Q : Exit → Act → World → Prop} (h5 : a0.tmps[5]? = some (.func (.func 71) #[] #[.pointer (some ⟨w.heap.size + 1, 0, none⟩)])) : Ob w c cv vv fv ea wa m a0 Q 2 := by
  intro o listed a W ho hd hl hS K hK
  have eo : rops[2]? = some (opAt 2) := by kernel_rfl
  obtain rfl : o = opAt 2 := Option.some.inj (ho.symm.trans eo)
  have sg := hd.slot hl 1 14 (by kernel_rfl) (by kernel_rfl) (by kernel_rfl)
  have hw := wanted_some (o := opAt 2) (ops := rops) (g := 1) (b := true) (c := (Pr (Xc m c) 0)) (by kernel_rfl) (by kernel_rfl) sg
  cases hp : (Pr (Xc m c) 0) with
  | false =>
    rw [hp] at hw
    exact run_quiet eo (Or.inr ⟨hw, by show gv (Pr (Xc m c) 0) _ = undef; rw [hp]; rfl⟩) hS hK
  | true =>
    rw [hp] at hw
    have hV : VV w c cv vv fv ea wa m 2 = .func (.func 71) #[] #[.pointer (some ⟨w.heap.size + 1, 0, none⟩)] := by show gv (Pr (Xc m c) 0) _ = _; rw [hp]; rfl
    rw [hV] at hK
    refine run_quiet eo (Or.inl ⟨hw, fun W' hW' => ?_⟩) hS hK
    exact ex_move (x := .tmp 5) (by kernel_rfl) (eval_tmp ((hd.base 5 (by kernel_rfl)).trans h5))

set_option maxRecDepth 100000 in
theorem ob_3 {w : World} {c : Cm} {cv vv fv ea wa : Value} {m : Int} {a0 : Act} {Q : Exit → Act → World → Prop} (h1 : a0.tmps[1]? = some (.pointer (some ⟨w.heap.size, 0, none⟩))) : Ob w c cv vv fv ea wa m a0 Q 3 := by
  intro o listed a W ho hd hl hS K hK
  have eo : rops[3]? = some (opAt 3) := by kernel_rfl
  obtain rfl : o = opAt 3 := Option.some.inj (ho.symm.trans eo)
  have sg := hd.slot hl 1 14 (by kernel_rfl) (by kernel_rfl) (by kernel_rfl)
  have hw := wanted_some (o := opAt 3) (ops := rops) (g := 1) (b := true) (c := (Pr (Xc m c) 0)) (by kernel_rfl) (by kernel_rfl) sg
  cases hp : (Pr (Xc m c) 0) with
  | false =>
    rw [hp] at hw
    exact run_quiet eo (Or.inr ⟨hw, by show gv (Pr (Xc m c) 0) _ = undef; rw [hp]; rfl⟩) hS hK
  | true =>
    rw [hp] at hw
    have hV : VV w c cv vv fv ea wa m 3 = .pointer (some ⟨w.heap.size, 1, none⟩) := by show gv (Pr (Xc m c) 0) _ = _; rw [hp]; rfl
    rw [hV] at hK
    refine run_quiet eo (Or.inl ⟨hw, fun W' hW' => ?_⟩) hS hK
    exact ex_field (x := .tmp 1) (t := 31) (f := 1) (by kernel_rfl) (eval_tmp ((hd.base 1 (by kernel_rfl)).trans h1)) (fa1 W' _)

set_option maxRecDepth 100000 in
theorem ob_4 {w : World} {c : Cm} {cv vv fv ea wa : Value} {m : Int} {a0 : Act} {Q : Exit → Act → World → Prop} : Ob w c cv vv fv ea wa m a0 Q 4 := by
  intro o listed a W ho hd hl hS K hK
  have eo : rops[4]? = some (opAt 4) := by kernel_rfl
  obtain rfl : o = opAt 4 := Option.some.inj (ho.symm.trans eo)
  have sg := hd.slot hl 1 14 (by kernel_rfl) (by kernel_rfl) (by kernel_rfl)
  have hw := wanted_some (o := opAt 4) (ops := rops) (g := 1) (b := true) (c := (Pr (Xc m c) 0)) (by kernel_rfl) (by kernel_rfl) sg
  have s1 := hd.slot hl 3 16 (by kernel_rfl) (by kernel_rfl) (by kernel_rfl)
  cases hp : (Pr (Xc m c) 0) with
  | false =>
    rw [hp] at hw
    exact run_quiet eo (Or.inr ⟨hw, by show gv (Pr (Xc m c) 0) _ = undef; rw [hp]; rfl⟩) hS hK
  | true =>
    rw [hp] at hw
    have hV : VV w c cv vv fv ea wa m 4 = .string ⟨c.name.toArray⟩ := by show gv (Pr (Xc m c) 0) _ = _; rw [hp]; rfl
    rw [hV] at hK
    replace s1 : a.tmps[16]? = some (.pointer (some ⟨w.heap.size, 1, none⟩)) := s1.trans (by show some (gv (Pr (Xc m c) 0) _) = _; rw [hp]; rfl)
    refine run_quiet eo (Or.inl ⟨hw, fun W' hW' => ?_⟩) hS hK
    exact ex_load (x := .tmp 16) (t := 9) (by kernel_rfl) (eval_tmp s1) (ld9 W' _ 1 _ (hW'.1 1 _ rfl))

set_option maxRecDepth 100000 in
theorem ob_5 {w : World} {c : Cm} {cv vv fv ea wa : Value} {m : Int} {a0 : Act} {Q : Exit → Act → World → Prop} (hc : Cals w c cv vv fv ea wa m) : Ob w c cv vv fv ea wa m a0 Q 5 := by
  intro o listed a W ho hd hl hS K hK
  have eo : rops[5]? = some (opAt 5) := by kernel_rfl
  obtain rfl : o = opAt 5 := Option.some.inj (ho.symm.trans eo)
  have sg := hd.slot hl 1 14 (by kernel_rfl) (by kernel_rfl) (by kernel_rfl)
  have hw := wanted_some (o := opAt 5) (ops := rops) (g := 1) (b := true) (c := (Pr (Xc m c) 0)) (by kernel_rfl) (by kernel_rfl) sg
  have s1 := hd.slot hl 4 17 (by kernel_rfl) (by kernel_rfl) (by kernel_rfl)
  cases hp : (Pr (Xc m c) 0) with
  | false =>
    rw [hp] at hw
    exact run_quiet eo (Or.inr ⟨hw, by show gv (Pr (Xc m c) 0) _ = undef; rw [hp]; rfl⟩) hS hK
  | true =>
    rw [hp] at hw
    have hV : VV w c cv vv fv ea wa m 5 = .bool (nameW c.name) := by show gv (Pr (Xc m c) 0) _ = _; rw [hp]; rfl
    rw [hV] at hK
    replace s1 : a.tmps[17]? = some (.string ⟨c.name.toArray⟩) := s1.trans (by show some (gv (Pr (Xc m c) 0) _) = _; rw [hp]; rfl)
    exact run_call 72 #[.string ⟨c.name.toArray⟩] eo hw (ex_call1 (ts := #[9]) (x := .tmp 17) (f := 72) cf72 (by kernel_rfl) rfl (eval_tmp s1)) ((hc.q1 W hS).mono fun e w' h => ⟨h.1, hS.below h.2⟩) hK

set_option maxRecDepth 100000 in
theorem ob_6 {w : World} {c : Cm} {cv vv fv ea wa : Value} {m : Int} {a0 : Act} {Q : Exit → Act → World → Prop} (h1 : a0.tmps[1]? = some (.pointer (some ⟨w.heap.size, 0, none⟩))) : Ob w c cv vv fv ea wa m a0 Q 6 := by
  intro o listed a W ho hd hl hS K hK
  have eo : rops[6]? = some (opAt 6) := by kernel_rfl
  obtain rfl : o = opAt 6 := Option.some.inj (ho.symm.trans eo)
  have sg := hd.slot hl 1 14 (by kernel_rfl) (by kernel_rfl) (by kernel_rfl)
  have hw := wanted_some (o := opAt 6) (ops := rops) (g := 1) (b := true) (c := (Pr (Xc m c) 0)) (by kernel_rfl) (by kernel_rfl) sg
  cases hp : (Pr (Xc m c) 0) with
  | false =>
    rw [hp] at hw
    exact run_quiet eo (Or.inr ⟨hw, by show gv (Pr (Xc m c) 0) _ = undef; rw [hp]; rfl⟩) hS hK
  | true =>
    rw [hp] at hw
    have hV : VV w c cv vv fv ea wa m 6 = .pointer (some ⟨w.heap.size, 1, none⟩) := by show gv (Pr (Xc m c) 0) _ = _; rw [hp]; rfl
    rw [hV] at hK
    refine run_quiet eo (Or.inl ⟨hw, fun W' hW' => ?_⟩) hS hK
    exact ex_field (x := .tmp 1) (t := 31) (f := 1) (by kernel_rfl) (eval_tmp ((hd.base 1 (by kernel_rfl)).trans h1)) (fa1 W' _)

set_option maxRecDepth 100000 in
theorem ob_7 {w : World} {c : Cm} {cv vv fv ea wa : Value} {m : Int} {a0 : Act} {Q : Exit → Act → World → Prop} : Ob w c cv vv fv ea wa m a0 Q 7 := by
  intro o listed a W ho hd hl hS K hK
  have eo : rops[7]? = some (opAt 7) := by kernel_rfl
  obtain rfl : o = opAt 7 := Option.some.inj (ho.symm.trans eo)
  have sg := hd.slot hl 1 14 (by kernel_rfl) (by kernel_rfl) (by kernel_rfl)
  have hw := wanted_some (o := opAt 7) (ops := rops) (g := 1) (b := true) (c := (Pr (Xc m c) 0)) (by kernel_rfl) (by kernel_rfl) sg
  have s1 := hd.slot hl 6 19 (by kernel_rfl) (by kernel_rfl) (by kernel_rfl)
  cases hp : (Pr (Xc m c) 0) with
  | false =>
    rw [hp] at hw
    exact run_quiet eo (Or.inr ⟨hw, by show gv (Pr (Xc m c) 0) _ = undef; rw [hp]; rfl⟩) hS hK
  | true =>
    rw [hp] at hw
    have hV : VV w c cv vv fv ea wa m 7 = .string ⟨c.name.toArray⟩ := by show gv (Pr (Xc m c) 0) _ = _; rw [hp]; rfl
    rw [hV] at hK
    replace s1 : a.tmps[19]? = some (.pointer (some ⟨w.heap.size, 1, none⟩)) := s1.trans (by show some (gv (Pr (Xc m c) 0) _) = _; rw [hp]; rfl)
    refine run_quiet eo (Or.inl ⟨hw, fun W' hW' => ?_⟩) hS hK
    exact ex_load (x := .tmp 19) (t := 9) (by kernel_rfl) (eval_tmp s1) (ld9 W' _ 1 _ (hW'.1 1 _ rfl))

set_option maxRecDepth 100000 in
theorem ob_8 {w : World} {c : Cm} {cv vv fv ea wa : Value} {m : Int} {a0 : Act} {Q : Exit → Act → World → Prop} : Ob w c cv vv fv ea wa m a0 Q 8 := by
  intro o listed a W ho hd hl hS K hK
  have eo : rops[8]? = some (opAt 8) := by kernel_rfl
  obtain rfl : o = opAt 8 := Option.some.inj (ho.symm.trans eo)
  have sg := hd.slot hl 1 14 (by kernel_rfl) (by kernel_rfl) (by kernel_rfl)
  have hw := wanted_some (o := opAt 8) (ops := rops) (g := 1) (b := true) (c := (Pr (Xc m c) 0)) (by kernel_rfl) (by kernel_rfl) sg
  have s1 := hd.slot hl 7 20 (by kernel_rfl) (by kernel_rfl) (by kernel_rfl)
  cases hp : (Pr (Xc m c) 0) with
  | false =>
    rw [hp] at hw
    exact run_quiet eo (Or.inr ⟨hw, by show gv (Pr (Xc m c) 0) _ = undef; rw [hp]; rfl⟩) hS hK
  | true =>
    rw [hp] at hw
    have hV : VV w c cv vv fv ea wa m 8 = .bool (decide (c.name = [])) := by show gv (Pr (Xc m c) 0) _ = _; rw [hp]; rfl
    rw [hV] at hK
    replace s1 : a.tmps[20]? = some (.string ⟨c.name.toArray⟩) := s1.trans (by show some (gv (Pr (Xc m c) 0) _) = _; rw [hp]; rfl)
    refine run_quiet eo (Or.inl ⟨hw, fun W' hW' => ?_⟩) hS hK
    exact ex_bin (u := 9) (x := .tmp 20) (y := .const (.string ⟨#[]⟩)) (by kernel_rfl) (eval_tmp s1) rfl (eq9 W' _ _ _)

set_option maxRecDepth 100000 in
theorem ob_9 {w : World} {c : Cm} {cv vv fv ea wa : Value} {m : Int} {a0 : Act} {Q : Exit → Act → World → Prop} : Ob w c cv vv fv ea wa m a0 Q 9 := by
  intro o listed a W ho hd hl hS K hK
  have eo : rops[9]? = some (opAt 9) := by kernel_rfl
  obtain rfl : o = opAt 9 := Option.some.inj (ho.symm.trans eo)
  have sg := hd.slot hl 1 14 (by kernel_rfl) (by kernel_rfl) (by kernel_rfl)
  have hw := wanted_some (o := opAt 9) (ops := rops) (g := 1) (b := true) (c := (Pr (Xc m c) 0)) (by kernel_rfl) (by kernel_rfl) sg
  have s1 := hd.slot hl 2 15 (by kernel_rfl) (by kernel_rfl) (by kernel_rfl)
  have s2 := hd.slot hl 5 18 (by kernel_rfl) (by kernel_rfl) (by kernel_rfl)
  have s3 := hd.slot hl 8 21 (by kernel_rfl) (by kernel_rfl) (by kernel_rfl)
  cases hp : (Pr (Xc m c) 0) with
  | false =>
    rw [hp] at hw
    exact run_quiet eo (Or.inr ⟨hw, by show gv (Pr (Xc m c) 0) _ = undef; rw [hp]; rfl⟩) hS hK
  | true =>
    rw [hp] at hw
    have hV : VV w c cv vv fv ea wa m 9 = .bool ((Xc m c) 1) := by show gv (Pr (Xc m c) 0) _ = _; rw [hp]; rfl
    rw [hV] at hK
    replace s1 : a.tmps[15]? = some (.func (.func 71) #[] #[.pointer (some ⟨w.heap.size + 1, 0, none⟩)]) := s1.trans (by show some (gv (Pr (Xc m c) 0) _) = _; rw [hp]; rfl)
    replace s2 : a.tmps[18]? = some (.bool (nameW c.name)) := s2.trans (by show some (gv (Pr (Xc m c) 0) _) = _; rw [hp]; rfl)
    replace s3 : a.tmps[21]? = some (.bool (decide (c.name = []))) := s3.trans (by show some (gv (Pr (Xc m c) 0) _) = _; rw [hp]; rfl)
    refine run_call 71 #[.int .i64 1, .bool (nameW c.name), .bool (decide (c.name = [])), .pointer (some ⟨w.heap.size + 1, 0, none⟩)] eo hw (ex_is (ts := #[3, 4, 4]) (t := .tmp 15) (x := .const (.int .i64 1)) (y := .tmp 18) (z := .tmp 21) (f := 71) cf71 (by kernel_rfl) (eval_tmp s1) rfl (eval_tmp s2) (eval_tmp s3)) ((is_any m 1 (nameW c.name) (decide (c.name = [])) _ W hS.2.1).mono fun e w' h => ⟨h.1, h.2 ▸ hS⟩) hK

set_option maxRecDepth 100000 in
theorem ob_10 {w : World} {c : Cm} {cv vv fv ea wa : Value} {m : Int} {a0 : Act} {Q : Exit → Act → World → Prop} : Ob w c cv vv fv ea wa m a0 Q 10 := by
  intro o listed a W ho hd hl hS K hK
  have eo : rops[10]? = some (opAt 10) := by kernel_rfl
  obtain rfl : o = opAt 10 := Option.some.inj (ho.symm.trans eo)
  have s1 := hd.slot hl 1 14 (by kernel_rfl) (by kernel_rfl) (by kernel_rfl)
  have s2 := hd.slot hl 9 22 (by kernel_rfl) (by kernel_rfl) (by kernel_rfl)
  have ev : (if (Pr (Xc m c) 0) = true then a.eval (.tmp 22) else a.eval (.const (.bool false))) = .bool (Pr (Xc m c) 1) := by
    rw [eval_tmp s2]
    show (if (Pr (Xc m c) 0) = true then gv (Pr (Xc m c) 0) (.bool ((Xc m c) 1)) else .bool false) = .bool ((Pr (Xc m c) 0) && (Xc m c) 1)
    cases (Pr (Xc m c) 0) <;> rfl
  refine run_quiet eo (Or.inl ⟨wanted_none (by kernel_rfl), fun W' hW' => ?_⟩) hS hK
  rw [ex_pick (P := Tryz.prog) (ρ := a.eval) (W := W') (o := opAt 10) (c := .tmp 14) (x := .tmp 22) (y := .const (.bool false)) (b := (Pr (Xc m c) 0)) (by kernel_rfl) (eval_tmp s1), ev]; rfl

set_option maxRecDepth 100000 in
theorem ob_11 {w : World} {c : Cm} {cv vv fv ea wa : Value} {m : Int} {a0 : Act} {Q : Exit → Act → World → Prop} : Ob w c cv vv fv ea wa m a0 Q 11 := by
  intro o listed a W ho hd hl hS K hK
  have eo : rops[11]? = some (opAt 11) := by kernel_rfl
  obtain rfl : o = opAt 11 := Option.some.inj (ho.symm.trans eo)
  have s1 := hd.slot hl 10 23 (by kernel_rfl) (by kernel_rfl) (by kernel_rfl)
  refine run_quiet eo (Or.inl ⟨wanted_none (by kernel_rfl), fun W' hW' => ?_⟩) hS hK
  exact ex_move (x := .tmp 23) (by kernel_rfl) (eval_tmp s1)

set_option maxRecDepth 100000 in
theorem ob_12 {w : World} {c : Cm} {cv vv fv ea wa : Value} {m : Int} {a0 : Act} {Q : Exit → Act → World → Prop} (h5 : a0.tmps[5]? = some (.func (.func 71) #[] #[.pointer (some ⟨w.heap.size + 1, 0, none⟩)])) : Ob w c cv vv fv ea wa m a0 Q 12 := by
  intro o listed a W ho hd hl hS K hK
  have eo : rops[12]? = some (opAt 12) := by kernel_rfl
  obtain rfl : o = opAt 12 := Option.some.inj (ho.symm.trans eo)
  have sg := hd.slot hl 11 24 (by kernel_rfl) (by kernel_rfl) (by kernel_rfl)
  have hw := wanted_some (o := opAt 12) (ops := rops) (g := 11) (b := true) (c := (Pr (Xc m c) 1)) (by kernel_rfl) (by kernel_rfl) sg
  cases hp : (Pr (Xc m c) 1) with
  | false =>
    rw [hp] at hw
    exact run_quiet eo (Or.inr ⟨hw, by show gv (Pr (Xc m c) 1) _ = undef; rw [hp]; rfl⟩) hS hK
  | true =>
    rw [hp] at hw
    have hV : VV w c cv vv fv ea wa m 12 = .func (.func 71) #[] #[.pointer (some ⟨w.heap.size + 1, 0, none⟩)] := by show gv (Pr (Xc m c) 1) _ = _; rw [hp]; rfl
    rw [hV] at hK
    refine run_quiet eo (Or.inl ⟨hw, fun W' hW' => ?_⟩) hS hK
    exact ex_move (x := .tmp 5) (by kernel_rfl) (eval_tmp ((hd.base 5 (by kernel_rfl)).trans h5))

set_option maxRecDepth 100000 in
theorem ob_13 {w : World} {c : Cm} {cv vv fv ea wa : Value} {m : Int} {a0 : Act} {Q : Exit → Act → World → Prop} (h1 : a0.tmps[1]? = some (.pointer (some ⟨w.heap.size, 0, none⟩))) : Ob w c cv vv fv ea wa m a0 Q 13 := by
  intro o listed a W ho hd hl hS K hK
  have eo : rops[13]? = some (opAt 13) := by kernel_rfl
  obtain rfl : o = opAt 13 := Option.some.inj (ho.symm.trans eo)
  have sg := hd.slot hl 11 24 (by kernel_rfl) (by kernel_rfl) (by kernel_rfl)
  have hw := wanted_some (o := opAt 13) (ops := rops) (g := 11) (b := true) (c := (Pr (Xc m c) 1)) (by kernel_rfl) (by kernel_rfl) sg
  cases hp : (Pr (Xc m c) 1) with
  | false =>
    rw [hp] at hw
    exact run_quiet eo (Or.inr ⟨hw, by show gv (Pr (Xc m c) 1) _ = undef; rw [hp]; rfl⟩) hS hK
  | true =>
    rw [hp] at hw
    have hV : VV w c cv vv fv ea wa m 13 = .pointer (some ⟨w.heap.size, 2, none⟩) := by show gv (Pr (Xc m c) 1) _ = _; rw [hp]; rfl
    rw [hV] at hK
    refine run_quiet eo (Or.inl ⟨hw, fun W' hW' => ?_⟩) hS hK
    exact ex_field (x := .tmp 1) (t := 31) (f := 2) (by kernel_rfl) (eval_tmp ((hd.base 1 (by kernel_rfl)).trans h1)) (fa2 W' _)

set_option maxRecDepth 100000 in
theorem ob_14 {w : World} {c : Cm} {cv vv fv ea wa : Value} {m : Int} {a0 : Act} {Q : Exit → Act → World → Prop} : Ob w c cv vv fv ea wa m a0 Q 14 := by
  intro o listed a W ho hd hl hS K hK
  have eo : rops[14]? = some (opAt 14) := by kernel_rfl
  obtain rfl : o = opAt 14 := Option.some.inj (ho.symm.trans eo)
  have sg := hd.slot hl 11 24 (by kernel_rfl) (by kernel_rfl) (by kernel_rfl)
  have hw := wanted_some (o := opAt 14) (ops := rops) (g := 11) (b := true) (c := (Pr (Xc m c) 1)) (by kernel_rfl) (by kernel_rfl) sg
  have s1 := hd.slot hl 13 26 (by kernel_rfl) (by kernel_rfl) (by kernel_rfl)
  cases hp : (Pr (Xc m c) 1) with
  | false =>
    rw [hp] at hw
    exact run_quiet eo (Or.inr ⟨hw, by show gv (Pr (Xc m c) 1) _ = undef; rw [hp]; rfl⟩) hS hK
  | true =>
    rw [hp] at hw
    have hV : VV w c cv vv fv ea wa m 14 = .string ⟨c.other.toArray⟩ := by show gv (Pr (Xc m c) 1) _ = _; rw [hp]; rfl
    rw [hV] at hK
    replace s1 : a.tmps[26]? = some (.pointer (some ⟨w.heap.size, 2, none⟩)) := s1.trans (by show some (gv (Pr (Xc m c) 1) _) = _; rw [hp]; rfl)
    refine run_quiet eo (Or.inl ⟨hw, fun W' hW' => ?_⟩) hS hK
    exact ex_load (x := .tmp 26) (t := 9) (by kernel_rfl) (eval_tmp s1) (ld9 W' _ 2 _ (hW'.1 2 _ rfl))

set_option maxRecDepth 100000 in
theorem ob_15 {w : World} {c : Cm} {cv vv fv ea wa : Value} {m : Int} {a0 : Act} {Q : Exit → Act → World → Prop} (hc : Cals w c cv vv fv ea wa m) : Ob w c cv vv fv ea wa m a0 Q 15 := by
  intro o listed a W ho hd hl hS K hK
  have eo : rops[15]? = some (opAt 15) := by kernel_rfl
  obtain rfl : o = opAt 15 := Option.some.inj (ho.symm.trans eo)
  have sg := hd.slot hl 11 24 (by kernel_rfl) (by kernel_rfl) (by kernel_rfl)
  have hw := wanted_some (o := opAt 15) (ops := rops) (g := 11) (b := true) (c := (Pr (Xc m c) 1)) (by kernel_rfl) (by kernel_rfl) sg
  have s1 := hd.slot hl 14 27 (by kernel_rfl) (by kernel_rfl) (by kernel_rfl)
  cases hp : (Pr (Xc m c) 1) with
  | false =>
    rw [hp] at hw
    exact run_quiet eo (Or.inr ⟨hw, by show gv (Pr (Xc m c) 1) _ = undef; rw [hp]; rfl⟩) hS hK
  | true =>
    rw [hp] at hw
    have hV : VV w c cv vv fv ea wa m 15 = .bool (nameW c.other) := by show gv (Pr (Xc m c) 1) _ = _; rw [hp]; rfl
    rw [hV] at hK
    replace s1 : a.tmps[27]? = some (.string ⟨c.other.toArray⟩) := s1.trans (by show some (gv (Pr (Xc m c) 1) _) = _; rw [hp]; rfl)
    exact run_call 72 #[.string ⟨c.other.toArray⟩] eo hw (ex_call1 (ts := #[9]) (x := .tmp 27) (f := 72) cf72 (by kernel_rfl) rfl (eval_tmp s1)) ((hc.q2 W hS).mono fun e w' h => ⟨h.1, hS.below h.2⟩) hK

set_option maxRecDepth 100000 in
theorem ob_16 {w : World} {c : Cm} {cv vv fv ea wa : Value} {m : Int} {a0 : Act} {Q : Exit → Act → World → Prop} (h1 : a0.tmps[1]? = some (.pointer (some ⟨w.heap.size, 0, none⟩))) : Ob w c cv vv fv ea wa m a0 Q 16 := by
  intro o listed a W ho hd hl hS K hK
  have eo : rops[16]? = some (opAt 16) := by kernel_rfl
  obtain rfl : o = opAt 16 := Option.some.inj (ho.symm.trans eo)
  have sg := hd.slot hl 11 24 (by kernel_rfl) (by kernel_rfl) (by kernel_rfl)
  have hw := wanted_some (o := opAt 16) (ops := rops) (g := 11) (b := true) (c := (Pr (Xc m c) 1)) (by kernel_rfl) (by kernel_rfl) sg
  cases hp : (Pr (Xc m c) 1) with
  | false =>
    rw [hp] at hw
    exact run_quiet eo (Or.inr ⟨hw, by show gv (Pr (Xc m c) 1) _ = undef; rw [hp]; rfl⟩) hS hK
  | true =>
    rw [hp] at hw
    have hV : VV w c cv vv fv ea wa m 16 = .pointer (some ⟨w.heap.size, 2, none⟩) := by show gv (Pr (Xc m c) 1) _ = _; rw [hp]; rfl
    rw [hV] at hK
    refine run_quiet eo (Or.inl ⟨hw, fun W' hW' => ?_⟩) hS hK
    exact ex_field (x := .tmp 1) (t := 31) (f := 2) (by kernel_rfl) (eval_tmp ((hd.base 1 (by kernel_rfl)).trans h1)) (fa2 W' _)

set_option maxRecDepth 100000 in
theorem ob_17 {w : World} {c : Cm} {cv vv fv ea wa : Value} {m : Int} {a0 : Act} {Q : Exit → Act → World → Prop} : Ob w c cv vv fv ea wa m a0 Q 17 := by
  intro o listed a W ho hd hl hS K hK
  have eo : rops[17]? = some (opAt 17) := by kernel_rfl
  obtain rfl : o = opAt 17 := Option.some.inj (ho.symm.trans eo)
  have sg := hd.slot hl 11 24 (by kernel_rfl) (by kernel_rfl) (by kernel_rfl)
  have hw := wanted_some (o := opAt 17) (ops := rops) (g := 11) (b := true) (c := (Pr (Xc m c) 1)) (by kernel_rfl) (by kernel_rfl) sg
  have s1 := hd.slot hl 16 29 (by kernel_rfl) (by kernel_rfl) (by kernel_rfl)
  cases hp : (Pr (Xc m c) 1) with
  | false =>
    rw [hp] at hw
    exact run_quiet eo (Or.inr ⟨hw, by show gv (Pr (Xc m c) 1) _ = undef; rw [hp]; rfl⟩) hS hK
  | true =>
    rw [hp] at hw
    have hV : VV w c cv vv fv ea wa m 17 = .string ⟨c.other.toArray⟩ := by show gv (Pr (Xc m c) 1) _ = _; rw [hp]; rfl
    rw [hV] at hK
    replace s1 : a.tmps[29]? = some (.pointer (some ⟨w.heap.size, 2, none⟩)) := s1.trans (by show some (gv (Pr (Xc m c) 1) _) = _; rw [hp]; rfl)
    refine run_quiet eo (Or.inl ⟨hw, fun W' hW' => ?_⟩) hS hK
    exact ex_load (x := .tmp 29) (t := 9) (by kernel_rfl) (eval_tmp s1) (ld9 W' _ 2 _ (hW'.1 2 _ rfl))

set_option maxRecDepth 100000 in
theorem ob_18 {w : World} {c : Cm} {cv vv fv ea wa : Value} {m : Int} {a0 : Act} {Q : Exit → Act → World → Prop} : Ob w c cv vv fv ea wa m a0 Q 18 := by
  intro o listed a W ho hd hl hS K hK
  have eo : rops[18]? = some (opAt 18) := by kernel_rfl
  obtain rfl : o = opAt 18 := Option.some.inj (ho.symm.trans eo)
  have sg := hd.slot hl 11 24 (by kernel_rfl) (by kernel_rfl) (by kernel_rfl)
  have hw := wanted_some (o := opAt 18) (ops := rops) (g := 11) (b := true) (c := (Pr (Xc m c) 1)) (by kernel_rfl) (by kernel_rfl) sg
  have s1 := hd.slot hl 17 30 (by kernel_rfl) (by kernel_rfl) (by kernel_rfl)
  cases hp : (Pr (Xc m c) 1) with
  | false =>
    rw [hp] at hw
    exact run_quiet eo (Or.inr ⟨hw, by show gv (Pr (Xc m c) 1) _ = undef; rw [hp]; rfl⟩) hS hK
  | true =>
    rw [hp] at hw
    have hV : VV w c cv vv fv ea wa m 18 = .bool (decide (c.other = [])) := by show gv (Pr (Xc m c) 1) _ = _; rw [hp]; rfl
    rw [hV] at hK
    replace s1 : a.tmps[30]? = some (.string ⟨c.other.toArray⟩) := s1.trans (by show some (gv (Pr (Xc m c) 1) _) = _; rw [hp]; rfl)
    refine run_quiet eo (Or.inl ⟨hw, fun W' hW' => ?_⟩) hS hK
    exact ex_bin (u := 9) (x := .tmp 30) (y := .const (.string ⟨#[]⟩)) (by kernel_rfl) (eval_tmp s1) rfl (eq9 W' _ _ _)

set_option maxRecDepth 100000 in
theorem ob_19 {w : World} {c : Cm} {cv vv fv ea wa : Value} {m : Int} {a0 : Act} {Q : Exit → Act → World → Prop} : Ob w c cv vv fv ea wa m a0 Q 19 := by
  intro o listed a W ho hd hl hS K hK
  have eo : rops[19]? = some (opAt 19) := by kernel_rfl
  obtain rfl : o = opAt 19 := Option.some.inj (ho.symm.trans eo)
  have sg := hd.slot hl 11 24 (by kernel_rfl) (by kernel_rfl) (by kernel_rfl)
  have hw := wanted_some (o := opAt 19) (ops := rops) (g := 11) (b := true) (c := (Pr (Xc m c) 1)) (by kernel_rfl) (by kernel_rfl) sg
  have s1 := hd.slot hl 12 25 (by kernel_rfl) (by kernel_rfl) (by kernel_rfl)
  have s2 := hd.slot hl 15 28 (by kernel_rfl) (by kernel_rfl) (by kernel_rfl)
  have s3 := hd.slot hl 18 31 (by kernel_rfl) (by kernel_rfl) (by kernel_rfl)
  cases hp : (Pr (Xc m c) 1) with
  | false =>
    rw [hp] at hw
    exact run_quiet eo (Or.inr ⟨hw, by show gv (Pr (Xc m c) 1) _ = undef; rw [hp]; rfl⟩) hS hK
  | true =>
    rw [hp] at hw
    have hV : VV w c cv vv fv ea wa m 19 = .bool ((Xc m c) 2) := by show gv (Pr (Xc m c) 1) _ = _; rw [hp]; rfl
    rw [hV] at hK
    replace s1 : a.tmps[25]? = some (.func (.func 71) #[] #[.pointer (some ⟨w.heap.size + 1, 0, none⟩)]) := s1.trans (by show some (gv (Pr (Xc m c) 1) _) = _; rw [hp]; rfl)
    replace s2 : a.tmps[28]? = some (.bool (nameW c.other)) := s2.trans (by show some (gv (Pr (Xc m c) 1) _) = _; rw [hp]; rfl)
    replace s3 : a.tmps[31]? = some (.bool (decide (c.other = []))) := s3.trans (by show some (gv (Pr (Xc m c) 1) _) = _; rw [hp]; rfl)
    refine run_call 71 #[.int .i64 2, .bool (nameW c.other), .bool (decide (c.other = [])), .pointer (some ⟨w.heap.size + 1, 0, none⟩)] eo hw (ex_is (ts := #[3, 4, 4]) (t := .tmp 25) (x := .const (.int .i64 2)) (y := .tmp 28) (z := .tmp 31) (f := 71) cf71 (by kernel_rfl) (eval_tmp s1) rfl (eval_tmp s2) (eval_tmp s3)) ((is_any m 2 (nameW c.other) (decide (c.other = [])) _ W hS.2.1).mono fun e w' h => ⟨h.1, h.2 ▸ hS⟩) hK

set_option maxRecDepth 100000 in
theorem ob_20 {w : World} {c : Cm} {cv vv fv ea wa : Value} {m : Int} {a0 : Act} {Q : Exit → Act → World → Prop} : Ob w c cv vv fv ea wa m a0 Q 20 := by
  intro o listed a W ho hd hl hS K hK
  have eo : rops[20]? = some (opAt 20) := by kernel_rfl
  obtain rfl : o = opAt 20 := Option.some.inj (ho.symm.trans eo)
  have s1 := hd.slot hl 11 24 (by kernel_rfl) (by kernel_rfl) (by kernel_rfl)
  have s2 := hd.slot hl 19 32 (by kernel_rfl) (by kernel_rfl) (by kernel_rfl)
  have ev : (if (Pr (Xc m c) 1) = true then a.eval (.tmp 32) else a.eval (.const (.bool false))) = .bool (Pr (Xc m c) 2) := by
    rw [eval_tmp s2]
    show (if (Pr (Xc m c) 1) = true then gv (Pr (Xc m c) 1) (.bool ((Xc m c) 2)) else .bool false) = .bool ((Pr (Xc m c) 1) && (Xc m c) 2)
    cases (Pr (Xc m c) 1) <;> rfl
  refine run_quiet eo (Or.inl ⟨wanted_none (by kernel_rfl), fun W' hW' => ?_⟩) hS hK
  rw [ex_pick (P := Tryz.prog) (ρ := a.eval) (W := W') (o := opAt 20) (c := .tmp 24) (x := .tmp 32) (y := .const (.bool false)) (b := (Pr (Xc m c) 1)) (by kernel_rfl) (eval_tmp s1), ev]; rfl

set_option maxRecDepth 100000 in
theorem ob_21 {w : World} {c : Cm} {cv vv fv ea wa : Value} {m : Int} {a0 : Act} {Q : Exit → Act → World → Prop} : Ob w c cv vv fv ea wa m a0 Q 21 := by
  intro o listed a W ho hd hl hS K hK
  have eo : rops[21]? = some (opAt 21) := by kernel_rfl
  obtain rfl : o = opAt 21 := Option.some.inj (ho.symm.trans eo)
  have s1 := hd.slot hl 20 33 (by kernel_rfl) (by kernel_rfl) (by kernel_rfl)
  refine run_quiet eo (Or.inl ⟨wanted_none (by kernel_rfl), fun W' hW' => ?_⟩) hS hK
  exact ex_move (x := .tmp 33) (by kernel_rfl) (eval_tmp s1)

set_option maxRecDepth 100000 in
theorem ob_22 {w : World} {c : Cm} {cv vv fv ea wa : Value} {m : Int} {a0 : Act} {Q : Exit → Act → World → Prop} (h5 : a0.tmps[5]? = some (.func (.func 71) #[] #[.pointer (some ⟨w.heap.size + 1, 0, none⟩)])) : Ob w c cv vv fv ea wa m a0 Q 22 := by
  intro o listed a W ho hd hl hS K hK
  have eo : rops[22]? = some (opAt 22) := by kernel_rfl
  obtain rfl : o = opAt 22 := Option.some.inj (ho.symm.trans eo)
  have sg := hd.slot hl 21 34 (by kernel_rfl) (by kernel_rfl) (by kernel_rfl)
  have hw := wanted_some (o := opAt 22) (ops := rops) (g := 21) (b := true) (c := (Pr (Xc m c) 2)) (by kernel_rfl) (by kernel_rfl) sg
  cases hp : (Pr (Xc m c) 2) with
  | false =>
    rw [hp] at hw
    exact run_quiet eo (Or.inr ⟨hw, by show gv (Pr (Xc m c) 2) _ = undef; rw [hp]; rfl⟩) hS hK
  | true =>
    rw [hp] at hw
    have hV : VV w c cv vv fv ea wa m 22 = .func (.func 71) #[] #[.pointer (some ⟨w.heap.size + 1, 0, none⟩)] := by show gv (Pr (Xc m c) 2) _ = _; rw [hp]; rfl
    rw [hV] at hK
    refine run_quiet eo (Or.inl ⟨hw, fun W' hW' => ?_⟩) hS hK
    exact ex_move (x := .tmp 5) (by kernel_rfl) (eval_tmp ((hd.base 5 (by kernel_rfl)).trans h5))

set_option maxRecDepth 100000 in
theorem ob_23 {w : World} {c : Cm} {cv vv fv ea wa : Value} {m : Int} {a0 : Act} {Q : Exit → Act → World → Prop} (h1 : a0.tmps[1]? = some (.pointer (some ⟨w.heap.size, 0, none⟩))) : Ob w c cv vv fv ea wa m a0 Q 23 := by
  intro o listed a W ho hd hl hS K hK
  have eo : rops[23]? = some (opAt 23) := by kernel_rfl
  obtain rfl : o = opAt 23 := Option.some.inj (ho.symm.trans eo)
  have sg := hd.slot hl 21 34 (by kernel_rfl) (by kernel_rfl) (by kernel_rfl)
  have hw := wanted_some (o := opAt 23) (ops := rops) (g := 21) (b := true) (c := (Pr (Xc m c) 2)) (by kernel_rfl) (by kernel_rfl) sg
  cases hp : (Pr (Xc m c) 2) with
  | false =>
    rw [hp] at hw
    exact run_quiet eo (Or.inr ⟨hw, by show gv (Pr (Xc m c) 2) _ = undef; rw [hp]; rfl⟩) hS hK
  | true =>
    rw [hp] at hw
    have hV : VV w c cv vv fv ea wa m 23 = .pointer (some ⟨w.heap.size, 3, none⟩) := by show gv (Pr (Xc m c) 2) _ = _; rw [hp]; rfl
    rw [hV] at hK
    refine run_quiet eo (Or.inl ⟨hw, fun W' hW' => ?_⟩) hS hK
    exact ex_field (x := .tmp 1) (t := 31) (f := 3) (by kernel_rfl) (eval_tmp ((hd.base 1 (by kernel_rfl)).trans h1)) (fa3 W' _)

set_option maxRecDepth 100000 in
theorem ob_24 {w : World} {c : Cm} {cv vv fv ea wa : Value} {m : Int} {a0 : Act} {Q : Exit → Act → World → Prop} : Ob w c cv vv fv ea wa m a0 Q 24 := by
  intro o listed a W ho hd hl hS K hK
  have eo : rops[24]? = some (opAt 24) := by kernel_rfl
  obtain rfl : o = opAt 24 := Option.some.inj (ho.symm.trans eo)
  have sg := hd.slot hl 21 34 (by kernel_rfl) (by kernel_rfl) (by kernel_rfl)
  have hw := wanted_some (o := opAt 24) (ops := rops) (g := 21) (b := true) (c := (Pr (Xc m c) 2)) (by kernel_rfl) (by kernel_rfl) sg
  have s1 := hd.slot hl 23 36 (by kernel_rfl) (by kernel_rfl) (by kernel_rfl)
  cases hp : (Pr (Xc m c) 2) with
  | false =>
    rw [hp] at hw
    exact run_quiet eo (Or.inr ⟨hw, by show gv (Pr (Xc m c) 2) _ = undef; rw [hp]; rfl⟩) hS hK
  | true =>
    rw [hp] at hw
    have hV : VV w c cv vv fv ea wa m 24 = .string ⟨c.column.toArray⟩ := by show gv (Pr (Xc m c) 2) _ = _; rw [hp]; rfl
    rw [hV] at hK
    replace s1 : a.tmps[36]? = some (.pointer (some ⟨w.heap.size, 3, none⟩)) := s1.trans (by show some (gv (Pr (Xc m c) 2) _) = _; rw [hp]; rfl)
    refine run_quiet eo (Or.inl ⟨hw, fun W' hW' => ?_⟩) hS hK
    exact ex_load (x := .tmp 36) (t := 9) (by kernel_rfl) (eval_tmp s1) (ld9 W' _ 3 _ (hW'.1 3 _ rfl))

set_option maxRecDepth 100000 in
theorem ob_25 {w : World} {c : Cm} {cv vv fv ea wa : Value} {m : Int} {a0 : Act} {Q : Exit → Act → World → Prop} (hc : Cals w c cv vv fv ea wa m) : Ob w c cv vv fv ea wa m a0 Q 25 := by
  intro o listed a W ho hd hl hS K hK
  have eo : rops[25]? = some (opAt 25) := by kernel_rfl
  obtain rfl : o = opAt 25 := Option.some.inj (ho.symm.trans eo)
  have sg := hd.slot hl 21 34 (by kernel_rfl) (by kernel_rfl) (by kernel_rfl)
  have hw := wanted_some (o := opAt 25) (ops := rops) (g := 21) (b := true) (c := (Pr (Xc m c) 2)) (by kernel_rfl) (by kernel_rfl) sg
  have s1 := hd.slot hl 24 37 (by kernel_rfl) (by kernel_rfl) (by kernel_rfl)
  cases hp : (Pr (Xc m c) 2) with
  | false =>
    rw [hp] at hw
    exact run_quiet eo (Or.inr ⟨hw, by show gv (Pr (Xc m c) 2) _ = undef; rw [hp]; rfl⟩) hS hK
  | true =>
    rw [hp] at hw
    have hV : VV w c cv vv fv ea wa m 25 = .bool (nameW c.column) := by show gv (Pr (Xc m c) 2) _ = _; rw [hp]; rfl
    rw [hV] at hK
    replace s1 : a.tmps[37]? = some (.string ⟨c.column.toArray⟩) := s1.trans (by show some (gv (Pr (Xc m c) 2) _) = _; rw [hp]; rfl)
    exact run_call 72 #[.string ⟨c.column.toArray⟩] eo hw (ex_call1 (ts := #[9]) (x := .tmp 37) (f := 72) cf72 (by kernel_rfl) rfl (eval_tmp s1)) ((hc.q3 W hS).mono fun e w' h => ⟨h.1, hS.below h.2⟩) hK

set_option maxRecDepth 100000 in
theorem ob_26 {w : World} {c : Cm} {cv vv fv ea wa : Value} {m : Int} {a0 : Act} {Q : Exit → Act → World → Prop} (h1 : a0.tmps[1]? = some (.pointer (some ⟨w.heap.size, 0, none⟩))) : Ob w c cv vv fv ea wa m a0 Q 26 := by
  intro o listed a W ho hd hl hS K hK
  have eo : rops[26]? = some (opAt 26) := by kernel_rfl
  obtain rfl : o = opAt 26 := Option.some.inj (ho.symm.trans eo)
  have sg := hd.slot hl 21 34 (by kernel_rfl) (by kernel_rfl) (by kernel_rfl)
  have hw := wanted_some (o := opAt 26) (ops := rops) (g := 21) (b := true) (c := (Pr (Xc m c) 2)) (by kernel_rfl) (by kernel_rfl) sg
  cases hp : (Pr (Xc m c) 2) with
  | false =>
    rw [hp] at hw
    exact run_quiet eo (Or.inr ⟨hw, by show gv (Pr (Xc m c) 2) _ = undef; rw [hp]; rfl⟩) hS hK
  | true =>
    rw [hp] at hw
    have hV : VV w c cv vv fv ea wa m 26 = .pointer (some ⟨w.heap.size, 3, none⟩) := by show gv (Pr (Xc m c) 2) _ = _; rw [hp]; rfl
    rw [hV] at hK
    refine run_quiet eo (Or.inl ⟨hw, fun W' hW' => ?_⟩) hS hK
    exact ex_field (x := .tmp 1) (t := 31) (f := 3) (by kernel_rfl) (eval_tmp ((hd.base 1 (by kernel_rfl)).trans h1)) (fa3 W' _)

set_option maxRecDepth 100000 in
theorem ob_27 {w : World} {c : Cm} {cv vv fv ea wa : Value} {m : Int} {a0 : Act} {Q : Exit → Act → World → Prop} : Ob w c cv vv fv ea wa m a0 Q 27 := by
  intro o listed a W ho hd hl hS K hK
  have eo : rops[27]? = some (opAt 27) := by kernel_rfl
  obtain rfl : o = opAt 27 := Option.some.inj (ho.symm.trans eo)
  have sg := hd.slot hl 21 34 (by kernel_rfl) (by kernel_rfl) (by kernel_rfl)
  have hw := wanted_some (o := opAt 27) (ops := rops) (g := 21) (b := true) (c := (Pr (Xc m c) 2)) (by kernel_rfl) (by kernel_rfl) sg
  have s1 := hd.slot hl 26 39 (by kernel_rfl) (by kernel_rfl) (by kernel_rfl)
  cases hp : (Pr (Xc m c) 2) with
  | false =>
    rw [hp] at hw
    exact run_quiet eo (Or.inr ⟨hw, by show gv (Pr (Xc m c) 2) _ = undef; rw [hp]; rfl⟩) hS hK
  | true =>
    rw [hp] at hw
    have hV : VV w c cv vv fv ea wa m 27 = .string ⟨c.column.toArray⟩ := by show gv (Pr (Xc m c) 2) _ = _; rw [hp]; rfl
    rw [hV] at hK
    replace s1 : a.tmps[39]? = some (.pointer (some ⟨w.heap.size, 3, none⟩)) := s1.trans (by show some (gv (Pr (Xc m c) 2) _) = _; rw [hp]; rfl)
    refine run_quiet eo (Or.inl ⟨hw, fun W' hW' => ?_⟩) hS hK
    exact ex_load (x := .tmp 39) (t := 9) (by kernel_rfl) (eval_tmp s1) (ld9 W' _ 3 _ (hW'.1 3 _ rfl))

set_option maxRecDepth 100000 in
theorem ob_28 {w : World} {c : Cm} {cv vv fv ea wa : Value} {m : Int} {a0 : Act} {Q : Exit → Act → World → Prop} : Ob w c cv vv fv ea wa m a0 Q 28 := by
  intro o listed a W ho hd hl hS K hK
  have eo : rops[28]? = some (opAt 28) := by kernel_rfl
  obtain rfl : o = opAt 28 := Option.some.inj (ho.symm.trans eo)
  have sg := hd.slot hl 21 34 (by kernel_rfl) (by kernel_rfl) (by kernel_rfl)
  have hw := wanted_some (o := opAt 28) (ops := rops) (g := 21) (b := true) (c := (Pr (Xc m c) 2)) (by kernel_rfl) (by kernel_rfl) sg
  have s1 := hd.slot hl 27 40 (by kernel_rfl) (by kernel_rfl) (by kernel_rfl)
  cases hp : (Pr (Xc m c) 2) with
  | false =>
    rw [hp] at hw
    exact run_quiet eo (Or.inr ⟨hw, by show gv (Pr (Xc m c) 2) _ = undef; rw [hp]; rfl⟩) hS hK
  | true =>
    rw [hp] at hw
    have hV : VV w c cv vv fv ea wa m 28 = .bool (decide (c.column = [])) := by show gv (Pr (Xc m c) 2) _ = _; rw [hp]; rfl
    rw [hV] at hK
    replace s1 : a.tmps[40]? = some (.string ⟨c.column.toArray⟩) := s1.trans (by show some (gv (Pr (Xc m c) 2) _) = _; rw [hp]; rfl)
    refine run_quiet eo (Or.inl ⟨hw, fun W' hW' => ?_⟩) hS hK
    exact ex_bin (u := 9) (x := .tmp 40) (y := .const (.string ⟨#[]⟩)) (by kernel_rfl) (eval_tmp s1) rfl (eq9 W' _ _ _)

set_option maxRecDepth 100000 in
theorem ob_29 {w : World} {c : Cm} {cv vv fv ea wa : Value} {m : Int} {a0 : Act} {Q : Exit → Act → World → Prop} : Ob w c cv vv fv ea wa m a0 Q 29 := by
  intro o listed a W ho hd hl hS K hK
  have eo : rops[29]? = some (opAt 29) := by kernel_rfl
  obtain rfl : o = opAt 29 := Option.some.inj (ho.symm.trans eo)
  have sg := hd.slot hl 21 34 (by kernel_rfl) (by kernel_rfl) (by kernel_rfl)
  have hw := wanted_some (o := opAt 29) (ops := rops) (g := 21) (b := true) (c := (Pr (Xc m c) 2)) (by kernel_rfl) (by kernel_rfl) sg
  have s1 := hd.slot hl 22 35 (by kernel_rfl) (by kernel_rfl) (by kernel_rfl)
  have s2 := hd.slot hl 25 38 (by kernel_rfl) (by kernel_rfl) (by kernel_rfl)
  have s3 := hd.slot hl 28 41 (by kernel_rfl) (by kernel_rfl) (by kernel_rfl)
  cases hp : (Pr (Xc m c) 2) with
  | false =>
    rw [hp] at hw
    exact run_quiet eo (Or.inr ⟨hw, by show gv (Pr (Xc m c) 2) _ = undef; rw [hp]; rfl⟩) hS hK
  | true =>
    rw [hp] at hw
    have hV : VV w c cv vv fv ea wa m 29 = .bool ((Xc m c) 3) := by show gv (Pr (Xc m c) 2) _ = _; rw [hp]; rfl
    rw [hV] at hK
    replace s1 : a.tmps[35]? = some (.func (.func 71) #[] #[.pointer (some ⟨w.heap.size + 1, 0, none⟩)]) := s1.trans (by show some (gv (Pr (Xc m c) 2) _) = _; rw [hp]; rfl)
    replace s2 : a.tmps[38]? = some (.bool (nameW c.column)) := s2.trans (by show some (gv (Pr (Xc m c) 2) _) = _; rw [hp]; rfl)
    replace s3 : a.tmps[41]? = some (.bool (decide (c.column = []))) := s3.trans (by show some (gv (Pr (Xc m c) 2) _) = _; rw [hp]; rfl)
    refine run_call 71 #[.int .i64 4, .bool (nameW c.column), .bool (decide (c.column = [])), .pointer (some ⟨w.heap.size + 1, 0, none⟩)] eo hw (ex_is (ts := #[3, 4, 4]) (t := .tmp 35) (x := .const (.int .i64 4)) (y := .tmp 38) (z := .tmp 41) (f := 71) cf71 (by kernel_rfl) (eval_tmp s1) rfl (eval_tmp s2) (eval_tmp s3)) ((is_any m 4 (nameW c.column) (decide (c.column = [])) _ W hS.2.1).mono fun e w' h => ⟨h.1, h.2 ▸ hS⟩) hK

set_option maxRecDepth 100000 in
theorem ob_30 {w : World} {c : Cm} {cv vv fv ea wa : Value} {m : Int} {a0 : Act} {Q : Exit → Act → World → Prop} : Ob w c cv vv fv ea wa m a0 Q 30 := by
  intro o listed a W ho hd hl hS K hK
  have eo : rops[30]? = some (opAt 30) := by kernel_rfl
  obtain rfl : o = opAt 30 := Option.some.inj (ho.symm.trans eo)
  have s1 := hd.slot hl 21 34 (by kernel_rfl) (by kernel_rfl) (by kernel_rfl)
  have s2 := hd.slot hl 29 42 (by kernel_rfl) (by kernel_rfl) (by kernel_rfl)
  have ev : (if (Pr (Xc m c) 2) = true then a.eval (.tmp 42) else a.eval (.const (.bool false))) = .bool (Pr (Xc m c) 3) := by
    rw [eval_tmp s2]
    show (if (Pr (Xc m c) 2) = true then gv (Pr (Xc m c) 2) (.bool ((Xc m c) 3)) else .bool false) = .bool ((Pr (Xc m c) 2) && (Xc m c) 3)
    cases (Pr (Xc m c) 2) <;> rfl
  refine run_quiet eo (Or.inl ⟨wanted_none (by kernel_rfl), fun W' hW' => ?_⟩) hS hK
  rw [ex_pick (P := Tryz.prog) (ρ := a.eval) (W := W') (o := opAt 30) (c := .tmp 34) (x := .tmp 42) (y := .const (.bool false)) (b := (Pr (Xc m c) 2)) (by kernel_rfl) (eval_tmp s1), ev]; rfl

set_option maxRecDepth 100000 in
theorem ob_31 {w : World} {c : Cm} {cv vv fv ea wa : Value} {m : Int} {a0 : Act} {Q : Exit → Act → World → Prop} : Ob w c cv vv fv ea wa m a0 Q 31 := by
  intro o listed a W ho hd hl hS K hK
  have eo : rops[31]? = some (opAt 31) := by kernel_rfl
  obtain rfl : o = opAt 31 := Option.some.inj (ho.symm.trans eo)
  have s1 := hd.slot hl 30 43 (by kernel_rfl) (by kernel_rfl) (by kernel_rfl)
  refine run_quiet eo (Or.inl ⟨wanted_none (by kernel_rfl), fun W' hW' => ?_⟩) hS hK
  exact ex_move (x := .tmp 43) (by kernel_rfl) (eval_tmp s1)

set_option maxRecDepth 100000 in
theorem ob_32 {w : World} {c : Cm} {cv vv fv ea wa : Value} {m : Int} {a0 : Act} {Q : Exit → Act → World → Prop} (h5 : a0.tmps[5]? = some (.func (.func 71) #[] #[.pointer (some ⟨w.heap.size + 1, 0, none⟩)])) : Ob w c cv vv fv ea wa m a0 Q 32 := by
  intro o listed a W ho hd hl hS K hK
  have eo : rops[32]? = some (opAt 32) := by kernel_rfl
  obtain rfl : o = opAt 32 := Option.some.inj (ho.symm.trans eo)
  have sg := hd.slot hl 31 44 (by kernel_rfl) (by kernel_rfl) (by kernel_rfl)
  have hw := wanted_some (o := opAt 32) (ops := rops) (g := 31) (b := true) (c := (Pr (Xc m c) 3)) (by kernel_rfl) (by kernel_rfl) sg
  cases hp : (Pr (Xc m c) 3) with
  | false =>
    rw [hp] at hw
    exact run_quiet eo (Or.inr ⟨hw, by show gv (Pr (Xc m c) 3) _ = undef; rw [hp]; rfl⟩) hS hK
  | true =>
    rw [hp] at hw
    have hV : VV w c cv vv fv ea wa m 32 = .func (.func 71) #[] #[.pointer (some ⟨w.heap.size + 1, 0, none⟩)] := by show gv (Pr (Xc m c) 3) _ = _; rw [hp]; rfl
    rw [hV] at hK
    refine run_quiet eo (Or.inl ⟨hw, fun W' hW' => ?_⟩) hS hK
    exact ex_move (x := .tmp 5) (by kernel_rfl) (eval_tmp ((hd.base 5 (by kernel_rfl)).trans h5))

set_option maxRecDepth 100000 in
theorem ob_33 {w : World} {c : Cm} {cv vv fv ea wa : Value} {m : Int} {a0 : Act} {Q : Exit → Act → World → Prop} (h1 : a0.tmps[1]? = some (.pointer (some ⟨w.heap.size, 0, none⟩))) : Ob w c cv vv fv ea wa m a0 Q 33 := by
  intro o listed a W ho hd hl hS K hK
  have eo : rops[33]? = some (opAt 33) := by kernel_rfl
  obtain rfl : o = opAt 33 := Option.some.inj (ho.symm.trans eo)
  have sg := hd.slot hl 31 44 (by kernel_rfl) (by kernel_rfl) (by kernel_rfl)
  have hw := wanted_some (o := opAt 33) (ops := rops) (g := 31) (b := true) (c := (Pr (Xc m c) 3)) (by kernel_rfl) (by kernel_rfl) sg
  cases hp : (Pr (Xc m c) 3) with
  | false =>
    rw [hp] at hw
    exact run_quiet eo (Or.inr ⟨hw, by show gv (Pr (Xc m c) 3) _ = undef; rw [hp]; rfl⟩) hS hK
  | true =>
    rw [hp] at hw
    have hV : VV w c cv vv fv ea wa m 33 = .pointer (some ⟨w.heap.size, 4, none⟩) := by show gv (Pr (Xc m c) 3) _ = _; rw [hp]; rfl
    rw [hV] at hK
    refine run_quiet eo (Or.inl ⟨hw, fun W' hW' => ?_⟩) hS hK
    exact ex_field (x := .tmp 1) (t := 31) (f := 4) (by kernel_rfl) (eval_tmp ((hd.base 1 (by kernel_rfl)).trans h1)) (fa4 W' _)

set_option maxRecDepth 100000 in
theorem ob_34 {w : World} {c : Cm} {cv vv fv ea wa : Value} {m : Int} {a0 : Act} {Q : Exit → Act → World → Prop} : Ob w c cv vv fv ea wa m a0 Q 34 := by
  intro o listed a W ho hd hl hS K hK
  have eo : rops[34]? = some (opAt 34) := by kernel_rfl
  obtain rfl : o = opAt 34 := Option.some.inj (ho.symm.trans eo)
  have sg := hd.slot hl 31 44 (by kernel_rfl) (by kernel_rfl) (by kernel_rfl)
  have hw := wanted_some (o := opAt 34) (ops := rops) (g := 31) (b := true) (c := (Pr (Xc m c) 3)) (by kernel_rfl) (by kernel_rfl) sg
  have s1 := hd.slot hl 33 46 (by kernel_rfl) (by kernel_rfl) (by kernel_rfl)
  cases hp : (Pr (Xc m c) 3) with
  | false =>
    rw [hp] at hw
    exact run_quiet eo (Or.inr ⟨hw, by show gv (Pr (Xc m c) 3) _ = undef; rw [hp]; rfl⟩) hS hK
  | true =>
    rw [hp] at hw
    have hV : VV w c cv vv fv ea wa m 34 = cv := by show gv (Pr (Xc m c) 3) _ = _; rw [hp]; rfl
    rw [hV] at hK
    replace s1 : a.tmps[46]? = some (.pointer (some ⟨w.heap.size, 4, none⟩)) := s1.trans (by show some (gv (Pr (Xc m c) 3) _) = _; rw [hp]; rfl)
    refine run_quiet eo (Or.inl ⟨hw, fun W' hW' => ?_⟩) hS hK
    exact ex_load (x := .tmp 46) (t := 22) (by kernel_rfl) (eval_tmp s1) (ld22 W' _ 4 _ (hW'.1 4 _ rfl))

set_option maxRecDepth 100000 in
theorem ob_35 {w : World} {c : Cm} {cv vv fv ea wa : Value} {m : Int} {a0 : Act} {Q : Exit → Act → World → Prop} (hc : Cals w c cv vv fv ea wa m) : Ob w c cv vv fv ea wa m a0 Q 35 := by
  intro o listed a W ho hd hl hS K hK
  have eo : rops[35]? = some (opAt 35) := by kernel_rfl
  obtain rfl : o = opAt 35 := Option.some.inj (ho.symm.trans eo)
  have sg := hd.slot hl 31 44 (by kernel_rfl) (by kernel_rfl) (by kernel_rfl)
  have hw := wanted_some (o := opAt 35) (ops := rops) (g := 31) (b := true) (c := (Pr (Xc m c) 3)) (by kernel_rfl) (by kernel_rfl) sg
  have s1 := hd.slot hl 34 47 (by kernel_rfl) (by kernel_rfl) (by kernel_rfl)
  cases hp : (Pr (Xc m c) 3) with
  | false =>
    rw [hp] at hw
    exact run_quiet eo (Or.inr ⟨hw, by show gv (Pr (Xc m c) 3) _ = undef; rw [hp]; rfl⟩) hS hK
  | true =>
    rw [hp] at hw
    have hV : VV w c cv vv fv ea wa m 35 = .bool (areCols c.cols) := by show gv (Pr (Xc m c) 3) _ = _; rw [hp]; rfl
    rw [hV] at hK
    replace s1 : a.tmps[47]? = some (cv) := s1.trans (by show some (gv (Pr (Xc m c) 3) _) = _; rw [hp]; rfl)
    exact run_call 73 #[cv] eo hw (ex_call1 (ts := #[22]) (x := .tmp 47) (f := 73) cf73 (by kernel_rfl) rfl (eval_tmp s1)) ((hc.q4 W hS).mono fun e w' h => ⟨h.1, hS.below h.2⟩) hK

set_option maxRecDepth 100000 in
theorem ob_36 {w : World} {c : Cm} {cv vv fv ea wa : Value} {m : Int} {a0 : Act} {Q : Exit → Act → World → Prop} (h1 : a0.tmps[1]? = some (.pointer (some ⟨w.heap.size, 0, none⟩))) : Ob w c cv vv fv ea wa m a0 Q 36 := by
  intro o listed a W ho hd hl hS K hK
  have eo : rops[36]? = some (opAt 36) := by kernel_rfl
  obtain rfl : o = opAt 36 := Option.some.inj (ho.symm.trans eo)
  have sg := hd.slot hl 31 44 (by kernel_rfl) (by kernel_rfl) (by kernel_rfl)
  have hw := wanted_some (o := opAt 36) (ops := rops) (g := 31) (b := true) (c := (Pr (Xc m c) 3)) (by kernel_rfl) (by kernel_rfl) sg
  cases hp : (Pr (Xc m c) 3) with
  | false =>
    rw [hp] at hw
    exact run_quiet eo (Or.inr ⟨hw, by show gv (Pr (Xc m c) 3) _ = undef; rw [hp]; rfl⟩) hS hK
  | true =>
    rw [hp] at hw
    have hV : VV w c cv vv fv ea wa m 36 = .pointer (some ⟨w.heap.size, 4, none⟩) := by show gv (Pr (Xc m c) 3) _ = _; rw [hp]; rfl
    rw [hV] at hK
    refine run_quiet eo (Or.inl ⟨hw, fun W' hW' => ?_⟩) hS hK
    exact ex_field (x := .tmp 1) (t := 31) (f := 4) (by kernel_rfl) (eval_tmp ((hd.base 1 (by kernel_rfl)).trans h1)) (fa4 W' _)

set_option maxRecDepth 100000 in
theorem ob_37 {w : World} {c : Cm} {cv vv fv ea wa : Value} {m : Int} {a0 : Act} {Q : Exit → Act → World → Prop} : Ob w c cv vv fv ea wa m a0 Q 37 := by
  intro o listed a W ho hd hl hS K hK
  have eo : rops[37]? = some (opAt 37) := by kernel_rfl
  obtain rfl : o = opAt 37 := Option.some.inj (ho.symm.trans eo)
  have sg := hd.slot hl 31 44 (by kernel_rfl) (by kernel_rfl) (by kernel_rfl)
  have hw := wanted_some (o := opAt 37) (ops := rops) (g := 31) (b := true) (c := (Pr (Xc m c) 3)) (by kernel_rfl) (by kernel_rfl) sg
  have s1 := hd.slot hl 36 49 (by kernel_rfl) (by kernel_rfl) (by kernel_rfl)
  cases hp : (Pr (Xc m c) 3) with
  | false =>
    rw [hp] at hw
    exact run_quiet eo (Or.inr ⟨hw, by show gv (Pr (Xc m c) 3) _ = undef; rw [hp]; rfl⟩) hS hK
  | true =>
    rw [hp] at hw
    have hV : VV w c cv vv fv ea wa m 37 = cv := by show gv (Pr (Xc m c) 3) _ = _; rw [hp]; rfl
    rw [hV] at hK
    replace s1 : a.tmps[49]? = some (.pointer (some ⟨w.heap.size, 4, none⟩)) := s1.trans (by show some (gv (Pr (Xc m c) 3) _) = _; rw [hp]; rfl)
    refine run_quiet eo (Or.inl ⟨hw, fun W' hW' => ?_⟩) hS hK
    exact ex_load (x := .tmp 49) (t := 22) (by kernel_rfl) (eval_tmp s1) (ld22 W' _ 4 _ (hW'.1 4 _ rfl))

set_option maxRecDepth 100000 in
theorem ob_38 {w : World} {c : Cm} {cv vv fv ea wa : Value} {m : Int} {a0 : Act} {Q : Exit → Act → World → Prop} (hc : Cals w c cv vv fv ea wa m) : Ob w c cv vv fv ea wa m a0 Q 38 := by
  intro o listed a W ho hd hl hS K hK
  have eo : rops[38]? = some (opAt 38) := by kernel_rfl
  obtain rfl : o = opAt 38 := Option.some.inj (ho.symm.trans eo)
  have sg := hd.slot hl 31 44 (by kernel_rfl) (by kernel_rfl) (by kernel_rfl)
  have hw := wanted_some (o := opAt 38) (ops := rops) (g := 31) (b := true) (c := (Pr (Xc m c) 3)) (by kernel_rfl) (by kernel_rfl) sg
  have s1 := hd.slot hl 37 50 (by kernel_rfl) (by kernel_rfl) (by kernel_rfl)
  cases hp : (Pr (Xc m c) 3) with
  | false =>
    rw [hp] at hw
    exact run_quiet eo (Or.inr ⟨hw, by show gv (Pr (Xc m c) 3) _ = undef; rw [hp]; rfl⟩) hS hK
  | true =>
    rw [hp] at hw
    have hV : VV w c cv vv fv ea wa m 38 = .int .i64 (c.cols.length : Nat) := by show gv (Pr (Xc m c) 3) _ = _; rw [hp]; rfl
    rw [hV] at hK
    replace s1 : a.tmps[50]? = some (cv) := s1.trans (by show some (gv (Pr (Xc m c) 3) _) = _; rw [hp]; rfl)
    refine run_quiet eo (Or.inl ⟨hw, fun W' hW' => ?_⟩) hS hK
    obtain ⟨ao, ca, hcv⟩ := hc.l4
    exact ex_len (ts := #[22]) (x := .tmp 50) (by kernel_rfl) (fun ty => len22 W' ao c.cols.length ca ty) (eval_tmp (s1.trans (congrArg some hcv)))

set_option maxRecDepth 100000 in
theorem ob_39 {w : World} {c : Cm} {cv vv fv ea wa : Value} {m : Int} {a0 : Act} {Q : Exit → Act → World → Prop} : Ob w c cv vv fv ea wa m a0 Q 39 := by
  intro o listed a W ho hd hl hS K hK
  have eo : rops[39]? = some (opAt 39) := by kernel_rfl
  obtain rfl : o = opAt 39 := Option.some.inj (ho.symm.trans eo)
  have sg := hd.slot hl 31 44 (by kernel_rfl) (by kernel_rfl) (by kernel_rfl)
  have hw := wanted_some (o := opAt 39) (ops := rops) (g := 31) (b := true) (c := (Pr (Xc m c) 3)) (by kernel_rfl) (by kernel_rfl) sg
  have s1 := hd.slot hl 38 51 (by kernel_rfl) (by kernel_rfl) (by kernel_rfl)
  cases hp : (Pr (Xc m c) 3) with
  | false =>
    rw [hp] at hw
    exact run_quiet eo (Or.inr ⟨hw, by show gv (Pr (Xc m c) 3) _ = undef; rw [hp]; rfl⟩) hS hK
  | true =>
    rw [hp] at hw
    have hV : VV w c cv vv fv ea wa m 39 = .bool (decide ((c.cols.length : Int) = 0)) := by show gv (Pr (Xc m c) 3) _ = _; rw [hp]; rfl
    rw [hV] at hK
    replace s1 : a.tmps[51]? = some (.int .i64 (c.cols.length : Nat)) := s1.trans (by show some (gv (Pr (Xc m c) 3) _) = _; rw [hp]; rfl)
    refine run_quiet eo (Or.inl ⟨hw, fun W' hW' => ?_⟩) hS hK
    exact ex_bin (u := 3) (x := .tmp 51) (y := .const (.int .i64 0)) (by kernel_rfl) (eval_tmp s1) rfl (eq3 W' _ _ _)

set_option maxRecDepth 100000 in
theorem ob_40 {w : World} {c : Cm} {cv vv fv ea wa : Value} {m : Int} {a0 : Act} {Q : Exit → Act → World → Prop} : Ob w c cv vv fv ea wa m a0 Q 40 := by
  intro o listed a W ho hd hl hS K hK
  have eo : rops[40]? = some (opAt 40) := by kernel_rfl
  obtain rfl : o = opAt 40 := Option.some.inj (ho.symm.trans eo)
  have sg := hd.slot hl 31 44 (by kernel_rfl) (by kernel_rfl) (by kernel_rfl)
  have hw := wanted_some (o := opAt 40) (ops := rops) (g := 31) (b := true) (c := (Pr (Xc m c) 3)) (by kernel_rfl) (by kernel_rfl) sg
  have s1 := hd.slot hl 32 45 (by kernel_rfl) (by kernel_rfl) (by kernel_rfl)
  have s2 := hd.slot hl 35 48 (by kernel_rfl) (by kernel_rfl) (by kernel_rfl)
  have s3 := hd.slot hl 39 52 (by kernel_rfl) (by kernel_rfl) (by kernel_rfl)
  cases hp : (Pr (Xc m c) 3) with
  | false =>
    rw [hp] at hw
    exact run_quiet eo (Or.inr ⟨hw, by show gv (Pr (Xc m c) 3) _ = undef; rw [hp]; rfl⟩) hS hK
  | true =>
    rw [hp] at hw
    have hV : VV w c cv vv fv ea wa m 40 = .bool ((Xc m c) 4) := by show gv (Pr (Xc m c) 3) _ = _; rw [hp]; rfl
    rw [hV] at hK
    replace s1 : a.tmps[45]? = some (.func (.func 71) #[] #[.pointer (some ⟨w.heap.size + 1, 0, none⟩)]) := s1.trans (by show some (gv (Pr (Xc m c) 3) _) = _; rw [hp]; rfl)
    replace s2 : a.tmps[48]? = some (.bool (areCols c.cols)) := s2.trans (by show some (gv (Pr (Xc m c) 3) _) = _; rw [hp]; rfl)
    replace s3 : a.tmps[52]? = some (.bool (decide ((c.cols.length : Int) = 0))) := s3.trans (by show some (gv (Pr (Xc m c) 3) _) = _; rw [hp]; rfl)
    refine run_call 71 #[.int .i64 8, .bool (areCols c.cols), .bool (decide ((c.cols.length : Int) = 0)), .pointer (some ⟨w.heap.size + 1, 0, none⟩)] eo hw (ex_is (ts := #[3, 4, 4]) (t := .tmp 45) (x := .const (.int .i64 8)) (y := .tmp 48) (z := .tmp 52) (f := 71) cf71 (by kernel_rfl) (eval_tmp s1) rfl (eval_tmp s2) (eval_tmp s3)) ((is_any m 8 (areCols c.cols) (decide ((c.cols.length : Int) = 0)) _ W hS.2.1).mono fun e w' h => ⟨h.1, h.2 ▸ hS⟩) hK

set_option maxRecDepth 100000 in
theorem ob_41 {w : World} {c : Cm} {cv vv fv ea wa : Value} {m : Int} {a0 : Act} {Q : Exit → Act → World → Prop} : Ob w c cv vv fv ea wa m a0 Q 41 := by
  intro o listed a W ho hd hl hS K hK
  have eo : rops[41]? = some (opAt 41) := by kernel_rfl
  obtain rfl : o = opAt 41 := Option.some.inj (ho.symm.trans eo)
  have s1 := hd.slot hl 31 44 (by kernel_rfl) (by kernel_rfl) (by kernel_rfl)
  have s2 := hd.slot hl 40 53 (by kernel_rfl) (by kernel_rfl) (by kernel_rfl)
  have ev : (if (Pr (Xc m c) 3) = true then a.eval (.tmp 53) else a.eval (.const (.bool false))) = .bool (Pr (Xc m c) 4) := by
    rw [eval_tmp s2]
    show (if (Pr (Xc m c) 3) = true then gv (Pr (Xc m c) 3) (.bool ((Xc m c) 4)) else .bool false) = .bool ((Pr (Xc m c) 3) && (Xc m c) 4)
    cases (Pr (Xc m c) 3) <;> rfl
  refine run_quiet eo (Or.inl ⟨wanted_none (by kernel_rfl), fun W' hW' => ?_⟩) hS hK
  rw [ex_pick (P := Tryz.prog) (ρ := a.eval) (W := W') (o := opAt 41) (c := .tmp 44) (x := .tmp 53) (y := .const (.bool false)) (b := (Pr (Xc m c) 3)) (by kernel_rfl) (eval_tmp s1), ev]; rfl

set_option maxRecDepth 100000 in
theorem ob_42 {w : World} {c : Cm} {cv vv fv ea wa : Value} {m : Int} {a0 : Act} {Q : Exit → Act → World → Prop} : Ob w c cv vv fv ea wa m a0 Q 42 := by
  intro o listed a W ho hd hl hS K hK
  have eo : rops[42]? = some (opAt 42) := by kernel_rfl
  obtain rfl : o = opAt 42 := Option.some.inj (ho.symm.trans eo)
  have s1 := hd.slot hl 41 54 (by kernel_rfl) (by kernel_rfl) (by kernel_rfl)
  refine run_quiet eo (Or.inl ⟨wanted_none (by kernel_rfl), fun W' hW' => ?_⟩) hS hK
  exact ex_move (x := .tmp 54) (by kernel_rfl) (eval_tmp s1)

set_option maxRecDepth 100000 in
theorem ob_43 {w : World} {c : Cm} {cv vv fv ea wa : Value} {m : Int} {a0 : Act} {Q : Exit → Act → World → Prop} (h5 : a0.tmps[5]? = some (.func (.func 71) #[] #[.pointer (some ⟨w.heap.size + 1, 0, none⟩)])) : Ob w c cv vv fv ea wa m a0 Q 43 := by
  intro o listed a W ho hd hl hS K hK
  have eo : rops[43]? = some (opAt 43) := by kernel_rfl
  obtain rfl : o = opAt 43 := Option.some.inj (ho.symm.trans eo)
  have sg := hd.slot hl 42 55 (by kernel_rfl) (by kernel_rfl) (by kernel_rfl)
  have hw := wanted_some (o := opAt 43) (ops := rops) (g := 42) (b := true) (c := (Pr (Xc m c) 4)) (by kernel_rfl) (by kernel_rfl) sg
  cases hp : (Pr (Xc m c) 4) with
  | false =>
    rw [hp] at hw
    exact run_quiet eo (Or.inr ⟨hw, by show gv (Pr (Xc m c) 4) _ = undef; rw [hp]; rfl⟩) hS hK
  | true =>
    rw [hp] at hw
    have hV : VV w c cv vv fv ea wa m 43 = .func (.func 71) #[] #[.pointer (some ⟨w.heap.size + 1, 0, none⟩)] := by show gv (Pr (Xc m c) 4) _ = _; rw [hp]; rfl
    rw [hV] at hK
    refine run_quiet eo (Or.inl ⟨hw, fun W' hW' => ?_⟩) hS hK
    exact ex_move (x := .tmp 5) (by kernel_rfl) (eval_tmp ((hd.base 5 (by kernel_rfl)).trans h5))

set_option maxRecDepth 100000 in
theorem ob_44 {w : World} {c : Cm} {cv vv fv ea wa : Value} {m : Int} {a0 : Act} {Q : Exit → Act → World → Prop} (h1 : a0.tmps[1]? = some (.pointer (some ⟨w.heap.size, 0, none⟩))) : Ob w c cv vv fv ea wa m a0 Q 44 := by
  intro o listed a W ho hd hl hS K hK
  have eo : rops[44]? = some (opAt 44) := by kernel_rfl
  obtain rfl : o = opAt 44 := Option.some.inj (ho.symm.trans eo)
  have sg := hd.slot hl 42 55 (by kernel_rfl) (by kernel_rfl) (by kernel_rfl)
  have hw := wanted_some (o := opAt 44) (ops := rops) (g := 42) (b := true) (c := (Pr (Xc m c) 4)) (by kernel_rfl) (by kernel_rfl) sg
  cases hp : (Pr (Xc m c) 4) with
  | false =>
    rw [hp] at hw
    exact run_quiet eo (Or.inr ⟨hw, by show gv (Pr (Xc m c) 4) _ = undef; rw [hp]; rfl⟩) hS hK
  | true =>
    rw [hp] at hw
    have hV : VV w c cv vv fv ea wa m 44 = .pointer (some ⟨w.heap.size, 5, none⟩) := by show gv (Pr (Xc m c) 4) _ = _; rw [hp]; rfl
    rw [hV] at hK
    refine run_quiet eo (Or.inl ⟨hw, fun W' hW' => ?_⟩) hS hK
    exact ex_field (x := .tmp 1) (t := 31) (f := 5) (by kernel_rfl) (eval_tmp ((hd.base 1 (by kernel_rfl)).trans h1)) (fa5 W' _)

set_option maxRecDepth 100000 in
theorem ob_45 {w : World} {c : Cm} {cv vv fv ea wa : Value} {m : Int} {a0 : Act} {Q : Exit → Act → World → Prop} : Ob w c cv vv fv ea wa m a0 Q 45 := by
  intro o listed a W ho hd hl hS K hK
  have eo : rops[45]? = some (opAt 45) := by kernel_rfl
  obtain rfl : o = opAt 45 := Option.some.inj (ho.symm.trans eo)
  have sg := hd.slot hl 42 55 (by kernel_rfl) (by kernel_rfl) (by kernel_rfl)
  have hw := wanted_some (o := opAt 45) (ops := rops) (g := 42) (b := true) (c := (Pr (Xc m c) 4)) (by kernel_rfl) (by kernel_rfl) sg
  have s1 := hd.slot hl 44 57 (by kernel_rfl) (by kernel_rfl) (by kernel_rfl)
  cases hp : (Pr (Xc m c) 4) with
  | false =>
    rw [hp] at hw
    exact run_quiet eo (Or.inr ⟨hw, by show gv (Pr (Xc m c) 4) _ = undef; rw [hp]; rfl⟩) hS hK
  | true =>
    rw [hp] at hw
    have hV : VV w c cv vv fv ea wa m 45 = .int .i64 c.ty := by show gv (Pr (Xc m c) 4) _ = _; rw [hp]; rfl
    rw [hV] at hK
    replace s1 : a.tmps[57]? = some (.pointer (some ⟨w.heap.size, 5, none⟩)) := s1.trans (by show some (gv (Pr (Xc m c) 4) _) = _; rw [hp]; rfl)
    refine run_quiet eo (Or.inl ⟨hw, fun W' hW' => ?_⟩) hS hK
    exact ex_load (x := .tmp 57) (t := 3) (by kernel_rfl) (eval_tmp s1) (ld3 W' _ 5 _ (hW'.1 5 _ rfl))

set_option maxRecDepth 100000 in
theorem ob_46 {w : World} {c : Cm} {cv vv fv ea wa : Value} {m : Int} {a0 : Act} {Q : Exit → Act → World → Prop} (hc : Cals w c cv vv fv ea wa m) : Ob w c cv vv fv ea wa m a0 Q 46 := by
  intro o listed a W ho hd hl hS K hK
  have eo : rops[46]? = some (opAt 46) := by kernel_rfl
  obtain rfl : o = opAt 46 := Option.some.inj (ho.symm.trans eo)
  have sg := hd.slot hl 42 55 (by kernel_rfl) (by kernel_rfl) (by kernel_rfl)
  have hw := wanted_some (o := opAt 46) (ops := rops) (g := 42) (b := true) (c := (Pr (Xc m c) 4)) (by kernel_rfl) (by kernel_rfl) sg
  have s1 := hd.slot hl 45 58 (by kernel_rfl) (by kernel_rfl) (by kernel_rfl)
  cases hp : (Pr (Xc m c) 4) with
  | false =>
    rw [hp] at hw
    exact run_quiet eo (Or.inr ⟨hw, by show gv (Pr (Xc m c) 4) _ = undef; rw [hp]; rfl⟩) hS hK
  | true =>
    rw [hp] at hw
    have hV : VV w c cv vv fv ea wa m 46 = .bool (typeB c.ty) := by show gv (Pr (Xc m c) 4) _ = _; rw [hp]; rfl
    rw [hV] at hK
    replace s1 : a.tmps[58]? = some (.int .i64 c.ty) := s1.trans (by show some (gv (Pr (Xc m c) 4) _) = _; rw [hp]; rfl)
    exact run_call 74 #[.int .i64 c.ty] eo hw (ex_call1 (ts := #[3]) (x := .tmp 58) (f := 74) cf74 (by kernel_rfl) rfl (eval_tmp s1)) ((hc.q5 W hS).mono fun e w' h => ⟨h.1, hS.below h.2⟩) hK

set_option maxRecDepth 100000 in
theorem ob_47 {w : World} {c : Cm} {cv vv fv ea wa : Value} {m : Int} {a0 : Act} {Q : Exit → Act → World → Prop} (h1 : a0.tmps[1]? = some (.pointer (some ⟨w.heap.size, 0, none⟩))) : Ob w c cv vv fv ea wa m a0 Q 47 := by
  intro o listed a W ho hd hl hS K hK
  have eo : rops[47]? = some (opAt 47) := by kernel_rfl
  obtain rfl : o = opAt 47 := Option.some.inj (ho.symm.trans eo)
  have sg := hd.slot hl 42 55 (by kernel_rfl) (by kernel_rfl) (by kernel_rfl)
  have hw := wanted_some (o := opAt 47) (ops := rops) (g := 42) (b := true) (c := (Pr (Xc m c) 4)) (by kernel_rfl) (by kernel_rfl) sg
  cases hp : (Pr (Xc m c) 4) with
  | false =>
    rw [hp] at hw
    exact run_quiet eo (Or.inr ⟨hw, by show gv (Pr (Xc m c) 4) _ = undef; rw [hp]; rfl⟩) hS hK
  | true =>
    rw [hp] at hw
    have hV : VV w c cv vv fv ea wa m 47 = .pointer (some ⟨w.heap.size, 5, none⟩) := by show gv (Pr (Xc m c) 4) _ = _; rw [hp]; rfl
    rw [hV] at hK
    refine run_quiet eo (Or.inl ⟨hw, fun W' hW' => ?_⟩) hS hK
    exact ex_field (x := .tmp 1) (t := 31) (f := 5) (by kernel_rfl) (eval_tmp ((hd.base 1 (by kernel_rfl)).trans h1)) (fa5 W' _)

set_option maxRecDepth 100000 in
theorem ob_48 {w : World} {c : Cm} {cv vv fv ea wa : Value} {m : Int} {a0 : Act} {Q : Exit → Act → World → Prop} : Ob w c cv vv fv ea wa m a0 Q 48 := by
  intro o listed a W ho hd hl hS K hK
  have eo : rops[48]? = some (opAt 48) := by kernel_rfl
  obtain rfl : o = opAt 48 := Option.some.inj (ho.symm.trans eo)
  have sg := hd.slot hl 42 55 (by kernel_rfl) (by kernel_rfl) (by kernel_rfl)
  have hw := wanted_some (o := opAt 48) (ops := rops) (g := 42) (b := true) (c := (Pr (Xc m c) 4)) (by kernel_rfl) (by kernel_rfl) sg
  have s1 := hd.slot hl 47 60 (by kernel_rfl) (by kernel_rfl) (by kernel_rfl)
  cases hp : (Pr (Xc m c) 4) with
  | false =>
    rw [hp] at hw
    exact run_quiet eo (Or.inr ⟨hw, by show gv (Pr (Xc m c) 4) _ = undef; rw [hp]; rfl⟩) hS hK
  | true =>
    rw [hp] at hw
    have hV : VV w c cv vv fv ea wa m 48 = .int .i64 c.ty := by show gv (Pr (Xc m c) 4) _ = _; rw [hp]; rfl
    rw [hV] at hK
    replace s1 : a.tmps[60]? = some (.pointer (some ⟨w.heap.size, 5, none⟩)) := s1.trans (by show some (gv (Pr (Xc m c) 4) _) = _; rw [hp]; rfl)
    refine run_quiet eo (Or.inl ⟨hw, fun W' hW' => ?_⟩) hS hK
    exact ex_load (x := .tmp 60) (t := 3) (by kernel_rfl) (eval_tmp s1) (ld3 W' _ 5 _ (hW'.1 5 _ rfl))

set_option maxRecDepth 100000 in
theorem ob_49 {w : World} {c : Cm} {cv vv fv ea wa : Value} {m : Int} {a0 : Act} {Q : Exit → Act → World → Prop} : Ob w c cv vv fv ea wa m a0 Q 49 := by
  intro o listed a W ho hd hl hS K hK
  have eo : rops[49]? = some (opAt 49) := by kernel_rfl
  obtain rfl : o = opAt 49 := Option.some.inj (ho.symm.trans eo)
  have sg := hd.slot hl 42 55 (by kernel_rfl) (by kernel_rfl) (by kernel_rfl)
  have hw := wanted_some (o := opAt 49) (ops := rops) (g := 42) (b := true) (c := (Pr (Xc m c) 4)) (by kernel_rfl) (by kernel_rfl) sg
  have s1 := hd.slot hl 48 61 (by kernel_rfl) (by kernel_rfl) (by kernel_rfl)
  cases hp : (Pr (Xc m c) 4) with
  | false =>
    rw [hp] at hw
    exact run_quiet eo (Or.inr ⟨hw, by show gv (Pr (Xc m c) 4) _ = undef; rw [hp]; rfl⟩) hS hK
  | true =>
    rw [hp] at hw
    have hV : VV w c cv vv fv ea wa m 49 = .bool (decide (c.ty = 0)) := by show gv (Pr (Xc m c) 4) _ = _; rw [hp]; rfl
    rw [hV] at hK
    replace s1 : a.tmps[61]? = some (.int .i64 c.ty) := s1.trans (by show some (gv (Pr (Xc m c) 4) _) = _; rw [hp]; rfl)
    refine run_quiet eo (Or.inl ⟨hw, fun W' hW' => ?_⟩) hS hK
    exact ex_bin (u := 3) (x := .tmp 61) (y := .const (.int .i64 0)) (by kernel_rfl) (eval_tmp s1) rfl (eq3 W' _ _ _)

set_option maxRecDepth 100000 in
theorem ob_50 {w : World} {c : Cm} {cv vv fv ea wa : Value} {m : Int} {a0 : Act} {Q : Exit → Act → World → Prop} : Ob w c cv vv fv ea wa m a0 Q 50 := by
  intro o listed a W ho hd hl hS K hK
  have eo : rops[50]? = some (opAt 50) := by kernel_rfl
  obtain rfl : o = opAt 50 := Option.some.inj (ho.symm.trans eo)
  have sg := hd.slot hl 42 55 (by kernel_rfl) (by kernel_rfl) (by kernel_rfl)
  have hw := wanted_some (o := opAt 50) (ops := rops) (g := 42) (b := true) (c := (Pr (Xc m c) 4)) (by kernel_rfl) (by kernel_rfl) sg
  have s1 := hd.slot hl 43 56 (by kernel_rfl) (by kernel_rfl) (by kernel_rfl)
  have s2 := hd.slot hl 46 59 (by kernel_rfl) (by kernel_rfl) (by kernel_rfl)
  have s3 := hd.slot hl 49 62 (by kernel_rfl) (by kernel_rfl) (by kernel_rfl)
  cases hp : (Pr (Xc m c) 4) with
  | false =>
    rw [hp] at hw
    exact run_quiet eo (Or.inr ⟨hw, by show gv (Pr (Xc m c) 4) _ = undef; rw [hp]; rfl⟩) hS hK
  | true =>
    rw [hp] at hw
    have hV : VV w c cv vv fv ea wa m 50 = .bool ((Xc m c) 5) := by show gv (Pr (Xc m c) 4) _ = _; rw [hp]; rfl
    rw [hV] at hK
    replace s1 : a.tmps[56]? = some (.func (.func 71) #[] #[.pointer (some ⟨w.heap.size + 1, 0, none⟩)]) := s1.trans (by show some (gv (Pr (Xc m c) 4) _) = _; rw [hp]; rfl)
    replace s2 : a.tmps[59]? = some (.bool (typeB c.ty)) := s2.trans (by show some (gv (Pr (Xc m c) 4) _) = _; rw [hp]; rfl)
    replace s3 : a.tmps[62]? = some (.bool (decide (c.ty = 0))) := s3.trans (by show some (gv (Pr (Xc m c) 4) _) = _; rw [hp]; rfl)
    refine run_call 71 #[.int .i64 16, .bool (typeB c.ty), .bool (decide (c.ty = 0)), .pointer (some ⟨w.heap.size + 1, 0, none⟩)] eo hw (ex_is (ts := #[3, 4, 4]) (t := .tmp 56) (x := .const (.int .i64 16)) (y := .tmp 59) (z := .tmp 62) (f := 71) cf71 (by kernel_rfl) (eval_tmp s1) rfl (eval_tmp s2) (eval_tmp s3)) ((is_any m 16 (typeB c.ty) (decide (c.ty = 0)) _ W hS.2.1).mono fun e w' h => ⟨h.1, h.2 ▸ hS⟩) hK

set_option maxRecDepth 100000 in
theorem ob_51 {w : World} {c : Cm} {cv vv fv ea wa : Value} {m : Int} {a0 : Act} {Q : Exit → Act → World → Prop} : Ob w c cv vv fv ea wa m a0 Q 51 := by
  intro o listed a W ho hd hl hS K hK
  have eo : rops[51]? = some (opAt 51) := by kernel_rfl
  obtain rfl : o = opAt 51 := Option.some.inj (ho.symm.trans eo)
  have s1 := hd.slot hl 42 55 (by kernel_rfl) (by kernel_rfl) (by kernel_rfl)
  have s2 := hd.slot hl 50 63 (by kernel_rfl) (by kernel_rfl) (by kernel_rfl)
  have ev : (if (Pr (Xc m c) 4) = true then a.eval (.tmp 63) else a.eval (.const (.bool false))) = .bool (Pr (Xc m c) 5) := by
    rw [eval_tmp s2]
    show (if (Pr (Xc m c) 4) = true then gv (Pr (Xc m c) 4) (.bool ((Xc m c) 5)) else .bool false) = .bool ((Pr (Xc m c) 4) && (Xc m c) 5)
    cases (Pr (Xc m c) 4) <;> rfl
  refine run_quiet eo (Or.inl ⟨wanted_none (by kernel_rfl), fun W' hW' => ?_⟩) hS hK
  rw [ex_pick (P := Tryz.prog) (ρ := a.eval) (W := W') (o := opAt 51) (c := .tmp 55) (x := .tmp 63) (y := .const (.bool false)) (b := (Pr (Xc m c) 4)) (by kernel_rfl) (eval_tmp s1), ev]; rfl

set_option maxRecDepth 100000 in
theorem ob_52 {w : World} {c : Cm} {cv vv fv ea wa : Value} {m : Int} {a0 : Act} {Q : Exit → Act → World → Prop} : Ob w c cv vv fv ea wa m a0 Q 52 := by
  intro o listed a W ho hd hl hS K hK
  have eo : rops[52]? = some (opAt 52) := by kernel_rfl
  obtain rfl : o = opAt 52 := Option.some.inj (ho.symm.trans eo)
  have s1 := hd.slot hl 51 64 (by kernel_rfl) (by kernel_rfl) (by kernel_rfl)
  refine run_quiet eo (Or.inl ⟨wanted_none (by kernel_rfl), fun W' hW' => ?_⟩) hS hK
  exact ex_move (x := .tmp 64) (by kernel_rfl) (eval_tmp s1)

set_option maxRecDepth 100000 in
theorem ob_53 {w : World} {c : Cm} {cv vv fv ea wa : Value} {m : Int} {a0 : Act} {Q : Exit → Act → World → Prop} (h5 : a0.tmps[5]? = some (.func (.func 71) #[] #[.pointer (some ⟨w.heap.size + 1, 0, none⟩)])) : Ob w c cv vv fv ea wa m a0 Q 53 := by
  intro o listed a W ho hd hl hS K hK
  have eo : rops[53]? = some (opAt 53) := by kernel_rfl
  obtain rfl : o = opAt 53 := Option.some.inj (ho.symm.trans eo)
  have sg := hd.slot hl 52 65 (by kernel_rfl) (by kernel_rfl) (by kernel_rfl)
  have hw := wanted_some (o := opAt 53) (ops := rops) (g := 52) (b := true) (c := (Pr (Xc m c) 5)) (by kernel_rfl) (by kernel_rfl) sg
  cases hp : (Pr (Xc m c) 5) with
  | false =>
    rw [hp] at hw
    exact run_quiet eo (Or.inr ⟨hw, by show gv (Pr (Xc m c) 5) _ = undef; rw [hp]; rfl⟩) hS hK
  | true =>
    rw [hp] at hw
    have hV : VV w c cv vv fv ea wa m 53 = .func (.func 71) #[] #[.pointer (some ⟨w.heap.size + 1, 0, none⟩)] := by show gv (Pr (Xc m c) 5) _ = _; rw [hp]; rfl
    rw [hV] at hK
    refine run_quiet eo (Or.inl ⟨hw, fun W' hW' => ?_⟩) hS hK
    exact ex_move (x := .tmp 5) (by kernel_rfl) (eval_tmp ((hd.base 5 (by kernel_rfl)).trans h5))

set_option maxRecDepth 100000 in
theorem ob_54 {w : World} {c : Cm} {cv vv fv ea wa : Value} {m : Int} {a0 : Act} {Q : Exit → Act → World → Prop} (h1 : a0.tmps[1]? = some (.pointer (some ⟨w.heap.size, 0, none⟩))) : Ob w c cv vv fv ea wa m a0 Q 54 := by
  intro o listed a W ho hd hl hS K hK
  have eo : rops[54]? = some (opAt 54) := by kernel_rfl
  obtain rfl : o = opAt 54 := Option.some.inj (ho.symm.trans eo)
  have sg := hd.slot hl 52 65 (by kernel_rfl) (by kernel_rfl) (by kernel_rfl)
  have hw := wanted_some (o := opAt 54) (ops := rops) (g := 52) (b := true) (c := (Pr (Xc m c) 5)) (by kernel_rfl) (by kernel_rfl) sg
  cases hp : (Pr (Xc m c) 5) with
  | false =>
    rw [hp] at hw
    exact run_quiet eo (Or.inr ⟨hw, by show gv (Pr (Xc m c) 5) _ = undef; rw [hp]; rfl⟩) hS hK
  | true =>
    rw [hp] at hw
    have hV : VV w c cv vv fv ea wa m 54 = .pointer (some ⟨w.heap.size, 6, none⟩) := by show gv (Pr (Xc m c) 5) _ = _; rw [hp]; rfl
    rw [hV] at hK
    refine run_quiet eo (Or.inl ⟨hw, fun W' hW' => ?_⟩) hS hK
    exact ex_field (x := .tmp 1) (t := 31) (f := 6) (by kernel_rfl) (eval_tmp ((hd.base 1 (by kernel_rfl)).trans h1)) (fa6 W' _)

set_option maxRecDepth 100000 in
theorem ob_55 {w : World} {c : Cm} {cv vv fv ea wa : Value} {m : Int} {a0 : Act} {Q : Exit → Act → World → Prop} : Ob w c cv vv fv ea wa m a0 Q 55 := by
  intro o listed a W ho hd hl hS K hK
  have eo : rops[55]? = some (opAt 55) := by kernel_rfl
  obtain rfl : o = opAt 55 := Option.some.inj (ho.symm.trans eo)
  have sg := hd.slot hl 52 65 (by kernel_rfl) (by kernel_rfl) (by kernel_rfl)
  have hw := wanted_some (o := opAt 55) (ops := rops) (g := 52) (b := true) (c := (Pr (Xc m c) 5)) (by kernel_rfl) (by kernel_rfl) sg
  have s1 := hd.slot hl 54 67 (by kernel_rfl) (by kernel_rfl) (by kernel_rfl)
  cases hp : (Pr (Xc m c) 5) with
  | false =>
    rw [hp] at hw
    exact run_quiet eo (Or.inr ⟨hw, by show gv (Pr (Xc m c) 5) _ = undef; rw [hp]; rfl⟩) hS hK
  | true =>
    rw [hp] at hw
    have hV : VV w c cv vv fv ea wa m 55 = .agg #[.int .i64 c.val.k, .int .i64 c.val.n, .string ⟨c.val.s.toArray⟩] := by show gv (Pr (Xc m c) 5) _ = _; rw [hp]; rfl
    rw [hV] at hK
    replace s1 : a.tmps[67]? = some (.pointer (some ⟨w.heap.size, 6, none⟩)) := s1.trans (by show some (gv (Pr (Xc m c) 5) _) = _; rw [hp]; rfl)
    refine run_quiet eo (Or.inl ⟨hw, fun W' hW' => ?_⟩) hS hK
    exact ex_load (x := .tmp 67) (t := 24) (by kernel_rfl) (eval_tmp s1) (ld24 W' _ 6 _ _ _ (hW'.1 6 _ rfl) (hW'.1 7 _ rfl) (hW'.1 8 _ rfl))

set_option maxRecDepth 100000 in
theorem ob_56 {w : World} {c : Cm} {cv vv fv ea wa : Value} {m : Int} {a0 : Act} {Q : Exit → Act → World → Prop} (hc : Cals w c cv vv fv ea wa m) : Ob w c cv vv fv ea wa m a0 Q 56 := by
  intro o listed a W ho hd hl hS K hK
  have eo : rops[56]? = some (opAt 56) := by kernel_rfl
  obtain rfl : o = opAt 56 := Option.some.inj (ho.symm.trans eo)
  have sg := hd.slot hl 52 65 (by kernel_rfl) (by kernel_rfl) (by kernel_rfl)
  have hw := wanted_some (o := opAt 56) (ops := rops) (g := 52) (b := true) (c := (Pr (Xc m c) 5)) (by kernel_rfl) (by kernel_rfl) sg
  have s1 := hd.slot hl 55 68 (by kernel_rfl) (by kernel_rfl) (by kernel_rfl)
  cases hp : (Pr (Xc m c) 5) with
  | false =>
    rw [hp] at hw
    exact run_quiet eo (Or.inr ⟨hw, by show gv (Pr (Xc m c) 5) _ = undef; rw [hp]; rfl⟩) hS hK
  | true =>
    rw [hp] at hw
    have hV : VV w c cv vv fv ea wa m 56 = .bool (valB c.val) := by show gv (Pr (Xc m c) 5) _ = _; rw [hp]; rfl
    rw [hV] at hK
    replace s1 : a.tmps[68]? = some (.agg #[.int .i64 c.val.k, .int .i64 c.val.n, .string ⟨c.val.s.toArray⟩]) := s1.trans (by show some (gv (Pr (Xc m c) 5) _) = _; rw [hp]; rfl)
    exact run_call 75 #[.agg #[.int .i64 c.val.k, .int .i64 c.val.n, .string ⟨c.val.s.toArray⟩]] eo hw (ex_call1 (ts := #[24]) (x := .tmp 68) (f := 75) cf75 (by kernel_rfl) rfl (eval_tmp s1)) ((hc.q6 W hS).mono fun e w' h => ⟨h.1, hS.below h.2⟩) hK

set_option maxRecDepth 100000 in
theorem ob_57 {w : World} {c : Cm} {cv vv fv ea wa : Value} {m : Int} {a0 : Act} {Q : Exit → Act → World → Prop} (h1 : a0.tmps[1]? = some (.pointer (some ⟨w.heap.size, 0, none⟩))) : Ob w c cv vv fv ea wa m a0 Q 57 := by
  intro o listed a W ho hd hl hS K hK
  have eo : rops[57]? = some (opAt 57) := by kernel_rfl
  obtain rfl : o = opAt 57 := Option.some.inj (ho.symm.trans eo)
  have sg := hd.slot hl 52 65 (by kernel_rfl) (by kernel_rfl) (by kernel_rfl)
  have hw := wanted_some (o := opAt 57) (ops := rops) (g := 52) (b := true) (c := (Pr (Xc m c) 5)) (by kernel_rfl) (by kernel_rfl) sg
  cases hp : (Pr (Xc m c) 5) with
  | false =>
    rw [hp] at hw
    exact run_quiet eo (Or.inr ⟨hw, by show gv (Pr (Xc m c) 5) _ = undef; rw [hp]; rfl⟩) hS hK
  | true =>
    rw [hp] at hw
    have hV : VV w c cv vv fv ea wa m 57 = .pointer (some ⟨w.heap.size, 6, none⟩) := by show gv (Pr (Xc m c) 5) _ = _; rw [hp]; rfl
    rw [hV] at hK
    refine run_quiet eo (Or.inl ⟨hw, fun W' hW' => ?_⟩) hS hK
    exact ex_field (x := .tmp 1) (t := 31) (f := 6) (by kernel_rfl) (eval_tmp ((hd.base 1 (by kernel_rfl)).trans h1)) (fa6 W' _)

set_option maxRecDepth 100000 in
theorem ob_58 {w : World} {c : Cm} {cv vv fv ea wa : Value} {m : Int} {a0 : Act} {Q : Exit → Act → World → Prop} : Ob w c cv vv fv ea wa m a0 Q 58 := by
  intro o listed a W ho hd hl hS K hK
  have eo : rops[58]? = some (opAt 58) := by kernel_rfl
  obtain rfl : o = opAt 58 := Option.some.inj (ho.symm.trans eo)
  have sg := hd.slot hl 52 65 (by kernel_rfl) (by kernel_rfl) (by kernel_rfl)
  have hw := wanted_some (o := opAt 58) (ops := rops) (g := 52) (b := true) (c := (Pr (Xc m c) 5)) (by kernel_rfl) (by kernel_rfl) sg
  have s1 := hd.slot hl 57 70 (by kernel_rfl) (by kernel_rfl) (by kernel_rfl)
  cases hp : (Pr (Xc m c) 5) with
  | false =>
    rw [hp] at hw
    exact run_quiet eo (Or.inr ⟨hw, by show gv (Pr (Xc m c) 5) _ = undef; rw [hp]; rfl⟩) hS hK
  | true =>
    rw [hp] at hw
    have hV : VV w c cv vv fv ea wa m 58 = .agg #[.int .i64 c.val.k, .int .i64 c.val.n, .string ⟨c.val.s.toArray⟩] := by show gv (Pr (Xc m c) 5) _ = _; rw [hp]; rfl
    rw [hV] at hK
    replace s1 : a.tmps[70]? = some (.pointer (some ⟨w.heap.size, 6, none⟩)) := s1.trans (by show some (gv (Pr (Xc m c) 5) _) = _; rw [hp]; rfl)
    refine run_quiet eo (Or.inl ⟨hw, fun W' hW' => ?_⟩) hS hK
    exact ex_load (x := .tmp 70) (t := 24) (by kernel_rfl) (eval_tmp s1) (ld24 W' _ 6 _ _ _ (hW'.1 6 _ rfl) (hW'.1 7 _ rfl) (hW'.1 8 _ rfl))

set_option maxRecDepth 100000 in
theorem ob_59 {w : World} {c : Cm} {cv vv fv ea wa : Value} {m : Int} {a0 : Act} {Q : Exit → Act → World → Prop} : Ob w c cv vv fv ea wa m a0 Q 59 := by
  intro o listed a W ho hd hl hS K hK
  have eo : rops[59]? = some (opAt 59) := by kernel_rfl
  obtain rfl : o = opAt 59 := Option.some.inj (ho.symm.trans eo)
  have sg := hd.slot hl 52 65 (by kernel_rfl) (by kernel_rfl) (by kernel_rfl)
  have hw := wanted_some (o := opAt 59) (ops := rops) (g := 52) (b := true) (c := (Pr (Xc m c) 5)) (by kernel_rfl) (by kernel_rfl) sg
  cases hp : (Pr (Xc m c) 5) with
  | false =>
    rw [hp] at hw
    exact run_quiet eo (Or.inr ⟨hw, by show gv (Pr (Xc m c) 5) _ = undef; rw [hp]; rfl⟩) hS hK
  | true =>
    rw [hp] at hw
    have hV : VV w c cv vv fv ea wa m 59 = .agg #[.int .i64 0, .int .i64 0, .string ⟨#[]⟩] := by show gv (Pr (Xc m c) 5) _ = _; rw [hp]; rfl
    rw [hV] at hK
    refine run_quiet eo (Or.inl ⟨hw, fun W' hW' => ?_⟩) hS hK
    exact ex_build24 (by kernel_rfl)

set_option maxRecDepth 100000 in
theorem ob_60 {w : World} {c : Cm} {cv vv fv ea wa : Value} {m : Int} {a0 : Act} {Q : Exit → Act → World → Prop} : Ob w c cv vv fv ea wa m a0 Q 60 := by
  intro o listed a W ho hd hl hS K hK
  have eo : rops[60]? = some (opAt 60) := by kernel_rfl
  obtain rfl : o = opAt 60 := Option.some.inj (ho.symm.trans eo)
  have sg := hd.slot hl 52 65 (by kernel_rfl) (by kernel_rfl) (by kernel_rfl)
  have hw := wanted_some (o := opAt 60) (ops := rops) (g := 52) (b := true) (c := (Pr (Xc m c) 5)) (by kernel_rfl) (by kernel_rfl) sg
  have s1 := hd.slot hl 58 71 (by kernel_rfl) (by kernel_rfl) (by kernel_rfl)
  have s2 := hd.slot hl 59 72 (by kernel_rfl) (by kernel_rfl) (by kernel_rfl)
  cases hp : (Pr (Xc m c) 5) with
  | false =>
    rw [hp] at hw
    exact run_quiet eo (Or.inr ⟨hw, by show gv (Pr (Xc m c) 5) _ = undef; rw [hp]; rfl⟩) hS hK
  | true =>
    rw [hp] at hw
    have hV : VV w c cv vv fv ea wa m 60 = .bool (noneV c.val) := by show gv (Pr (Xc m c) 5) _ = _; rw [hp]; rfl
    rw [hV] at hK
    replace s1 : a.tmps[71]? = some (.agg #[.int .i64 c.val.k, .int .i64 c.val.n, .string ⟨c.val.s.toArray⟩]) := s1.trans (by show some (gv (Pr (Xc m c) 5) _) = _; rw [hp]; rfl)
    replace s2 : a.tmps[72]? = some (.agg #[.int .i64 0, .int .i64 0, .string ⟨#[]⟩]) := s2.trans (by show some (gv (Pr (Xc m c) 5) _) = _; rw [hp]; rfl)
    refine run_quiet eo (Or.inl ⟨hw, fun W' hW' => ?_⟩) hS hK
    exact ex_bin (u := 24) (x := .tmp 71) (y := .tmp 72) (by kernel_rfl) (eval_tmp s1) (eval_tmp s2) (eq24 W' _ _ _)

set_option maxRecDepth 100000 in
theorem ob_61 {w : World} {c : Cm} {cv vv fv ea wa : Value} {m : Int} {a0 : Act} {Q : Exit → Act → World → Prop} : Ob w c cv vv fv ea wa m a0 Q 61 := by
  intro o listed a W ho hd hl hS K hK
  have eo : rops[61]? = some (opAt 61) := by kernel_rfl
  obtain rfl : o = opAt 61 := Option.some.inj (ho.symm.trans eo)
  have sg := hd.slot hl 52 65 (by kernel_rfl) (by kernel_rfl) (by kernel_rfl)
  have hw := wanted_some (o := opAt 61) (ops := rops) (g := 52) (b := true) (c := (Pr (Xc m c) 5)) (by kernel_rfl) (by kernel_rfl) sg
  have s1 := hd.slot hl 53 66 (by kernel_rfl) (by kernel_rfl) (by kernel_rfl)
  have s2 := hd.slot hl 56 69 (by kernel_rfl) (by kernel_rfl) (by kernel_rfl)
  have s3 := hd.slot hl 60 73 (by kernel_rfl) (by kernel_rfl) (by kernel_rfl)
  cases hp : (Pr (Xc m c) 5) with
  | false =>
    rw [hp] at hw
    exact run_quiet eo (Or.inr ⟨hw, by show gv (Pr (Xc m c) 5) _ = undef; rw [hp]; rfl⟩) hS hK
  | true =>
    rw [hp] at hw
    have hV : VV w c cv vv fv ea wa m 61 = .bool ((Xc m c) 6) := by show gv (Pr (Xc m c) 5) _ = _; rw [hp]; rfl
    rw [hV] at hK
    replace s1 : a.tmps[66]? = some (.func (.func 71) #[] #[.pointer (some ⟨w.heap.size + 1, 0, none⟩)]) := s1.trans (by show some (gv (Pr (Xc m c) 5) _) = _; rw [hp]; rfl)
    replace s2 : a.tmps[69]? = some (.bool (valB c.val)) := s2.trans (by show some (gv (Pr (Xc m c) 5) _) = _; rw [hp]; rfl)
    replace s3 : a.tmps[73]? = some (.bool (noneV c.val)) := s3.trans (by show some (gv (Pr (Xc m c) 5) _) = _; rw [hp]; rfl)
    refine run_call 71 #[.int .i64 32, .bool (valB c.val), .bool (noneV c.val), .pointer (some ⟨w.heap.size + 1, 0, none⟩)] eo hw (ex_is (ts := #[3, 4, 4]) (t := .tmp 66) (x := .const (.int .i64 32)) (y := .tmp 69) (z := .tmp 73) (f := 71) cf71 (by kernel_rfl) (eval_tmp s1) rfl (eval_tmp s2) (eval_tmp s3)) ((is_any m 32 (valB c.val) (noneV c.val) _ W hS.2.1).mono fun e w' h => ⟨h.1, h.2 ▸ hS⟩) hK

set_option maxRecDepth 100000 in
theorem ob_62 {w : World} {c : Cm} {cv vv fv ea wa : Value} {m : Int} {a0 : Act} {Q : Exit → Act → World → Prop} : Ob w c cv vv fv ea wa m a0 Q 62 := by
  intro o listed a W ho hd hl hS K hK
  have eo : rops[62]? = some (opAt 62) := by kernel_rfl
  obtain rfl : o = opAt 62 := Option.some.inj (ho.symm.trans eo)
  have s1 := hd.slot hl 52 65 (by kernel_rfl) (by kernel_rfl) (by kernel_rfl)
  have s2 := hd.slot hl 61 74 (by kernel_rfl) (by kernel_rfl) (by kernel_rfl)
  have ev : (if (Pr (Xc m c) 5) = true then a.eval (.tmp 74) else a.eval (.const (.bool false))) = .bool (Pr (Xc m c) 6) := by
    rw [eval_tmp s2]
    show (if (Pr (Xc m c) 5) = true then gv (Pr (Xc m c) 5) (.bool ((Xc m c) 6)) else .bool false) = .bool ((Pr (Xc m c) 5) && (Xc m c) 6)
    cases (Pr (Xc m c) 5) <;> rfl
  refine run_quiet eo (Or.inl ⟨wanted_none (by kernel_rfl), fun W' hW' => ?_⟩) hS hK
  rw [ex_pick (P := Tryz.prog) (ρ := a.eval) (W := W') (o := opAt 62) (c := .tmp 65) (x := .tmp 74) (y := .const (.bool false)) (b := (Pr (Xc m c) 5)) (by kernel_rfl) (eval_tmp s1), ev]; rfl

set_option maxRecDepth 100000 in
theorem ob_63 {w : World} {c : Cm} {cv vv fv ea wa : Value} {m : Int} {a0 : Act} {Q : Exit → Act → World → Prop} : Ob w c cv vv fv ea wa m a0 Q 63 := by
  intro o listed a W ho hd hl hS K hK
  have eo : rops[63]? = some (opAt 63) := by kernel_rfl
  obtain rfl : o = opAt 63 := Option.some.inj (ho.symm.trans eo)
  have s1 := hd.slot hl 62 75 (by kernel_rfl) (by kernel_rfl) (by kernel_rfl)
  refine run_quiet eo (Or.inl ⟨wanted_none (by kernel_rfl), fun W' hW' => ?_⟩) hS hK
  exact ex_move (x := .tmp 75) (by kernel_rfl) (eval_tmp s1)

set_option maxRecDepth 100000 in
theorem ob_64 {w : World} {c : Cm} {cv vv fv ea wa : Value} {m : Int} {a0 : Act} {Q : Exit → Act → World → Prop} (h5 : a0.tmps[5]? = some (.func (.func 71) #[] #[.pointer (some ⟨w.heap.size + 1, 0, none⟩)])) : Ob w c cv vv fv ea wa m a0 Q 64 := by
  intro o listed a W ho hd hl hS K hK
  have eo : rops[64]? = some (opAt 64) := by kernel_rfl
  obtain rfl : o = opAt 64 := Option.some.inj (ho.symm.trans eo)
  have sg := hd.slot hl 63 76 (by kernel_rfl) (by kernel_rfl) (by kernel_rfl)
  have hw := wanted_some (o := opAt 64) (ops := rops) (g := 63) (b := true) (c := (Pr (Xc m c) 6)) (by kernel_rfl) (by kernel_rfl) sg
  cases hp : (Pr (Xc m c) 6) with
  | false =>
    rw [hp] at hw
    exact run_quiet eo (Or.inr ⟨hw, by show gv (Pr (Xc m c) 6) _ = undef; rw [hp]; rfl⟩) hS hK
  | true =>
    rw [hp] at hw
    have hV : VV w c cv vv fv ea wa m 64 = .func (.func 71) #[] #[.pointer (some ⟨w.heap.size + 1, 0, none⟩)] := by show gv (Pr (Xc m c) 6) _ = _; rw [hp]; rfl
    rw [hV] at hK
    refine run_quiet eo (Or.inl ⟨hw, fun W' hW' => ?_⟩) hS hK
    exact ex_move (x := .tmp 5) (by kernel_rfl) (eval_tmp ((hd.base 5 (by kernel_rfl)).trans h5))

set_option maxRecDepth 100000 in
theorem ob_65 {w : World} {c : Cm} {cv vv fv ea wa : Value} {m : Int} {a0 : Act} {Q : Exit → Act → World → Prop} (h1 : a0.tmps[1]? = some (.pointer (some ⟨w.heap.size, 0, none⟩))) : Ob w c cv vv fv ea wa m a0 Q 65 := by
  intro o listed a W ho hd hl hS K hK
  have eo : rops[65]? = some (opAt 65) := by kernel_rfl
  obtain rfl : o = opAt 65 := Option.some.inj (ho.symm.trans eo)
  have sg := hd.slot hl 63 76 (by kernel_rfl) (by kernel_rfl) (by kernel_rfl)
  have hw := wanted_some (o := opAt 65) (ops := rops) (g := 63) (b := true) (c := (Pr (Xc m c) 6)) (by kernel_rfl) (by kernel_rfl) sg
  cases hp : (Pr (Xc m c) 6) with
  | false =>
    rw [hp] at hw
    exact run_quiet eo (Or.inr ⟨hw, by show gv (Pr (Xc m c) 6) _ = undef; rw [hp]; rfl⟩) hS hK
  | true =>
    rw [hp] at hw
    have hV : VV w c cv vv fv ea wa m 65 = .pointer (some ⟨w.heap.size, 9, none⟩) := by show gv (Pr (Xc m c) 6) _ = _; rw [hp]; rfl
    rw [hV] at hK
    refine run_quiet eo (Or.inl ⟨hw, fun W' hW' => ?_⟩) hS hK
    exact ex_field (x := .tmp 1) (t := 31) (f := 7) (by kernel_rfl) (eval_tmp ((hd.base 1 (by kernel_rfl)).trans h1)) (fa7 W' _)

set_option maxRecDepth 100000 in
theorem ob_66 {w : World} {c : Cm} {cv vv fv ea wa : Value} {m : Int} {a0 : Act} {Q : Exit → Act → World → Prop} : Ob w c cv vv fv ea wa m a0 Q 66 := by
  intro o listed a W ho hd hl hS K hK
  have eo : rops[66]? = some (opAt 66) := by kernel_rfl
  obtain rfl : o = opAt 66 := Option.some.inj (ho.symm.trans eo)
  have sg := hd.slot hl 63 76 (by kernel_rfl) (by kernel_rfl) (by kernel_rfl)
  have hw := wanted_some (o := opAt 66) (ops := rops) (g := 63) (b := true) (c := (Pr (Xc m c) 6)) (by kernel_rfl) (by kernel_rfl) sg
  have s1 := hd.slot hl 65 78 (by kernel_rfl) (by kernel_rfl) (by kernel_rfl)
  cases hp : (Pr (Xc m c) 6) with
  | false =>
    rw [hp] at hw
    exact run_quiet eo (Or.inr ⟨hw, by show gv (Pr (Xc m c) 6) _ = undef; rw [hp]; rfl⟩) hS hK
  | true =>
    rw [hp] at hw
    have hV : VV w c cv vv fv ea wa m 66 = vv := by show gv (Pr (Xc m c) 6) _ = _; rw [hp]; rfl
    rw [hV] at hK
    replace s1 : a.tmps[78]? = some (.pointer (some ⟨w.heap.size, 9, none⟩)) := s1.trans (by show some (gv (Pr (Xc m c) 6) _) = _; rw [hp]; rfl)
    refine run_quiet eo (Or.inl ⟨hw, fun W' hW' => ?_⟩) hS hK
    exact ex_load (x := .tmp 78) (t := 25) (by kernel_rfl) (eval_tmp s1) (ld25 W' _ 9 _ (hW'.1 9 _ rfl))

set_option maxRecDepth 100000 in
theorem ob_67 {w : World} {c : Cm} {cv vv fv ea wa : Value} {m : Int} {a0 : Act} {Q : Exit → Act → World → Prop} (hc : Cals w c cv vv fv ea wa m) : Ob w c cv vv fv ea wa m a0 Q 67 := by
  intro o listed a W ho hd hl hS K hK
  have eo : rops[67]? = some (opAt 67) := by kernel_rfl
  obtain rfl : o = opAt 67 := Option.some.inj (ho.symm.trans eo)
  have sg := hd.slot hl 63 76 (by kernel_rfl) (by kernel_rfl) (by kernel_rfl)
  have hw := wanted_some (o := opAt 67) (ops := rops) (g := 63) (b := true) (c := (Pr (Xc m c) 6)) (by kernel_rfl) (by kernel_rfl) sg
  have s1 := hd.slot hl 66 79 (by kernel_rfl) (by kernel_rfl) (by kernel_rfl)
  cases hp : (Pr (Xc m c) 6) with
  | false =>
    rw [hp] at hw
    exact run_quiet eo (Or.inr ⟨hw, by show gv (Pr (Xc m c) 6) _ = undef; rw [hp]; rfl⟩) hS hK
  | true =>
    rw [hp] at hw
    have hV : VV w c cv vv fv ea wa m 67 = .bool (areVals c.vals) := by show gv (Pr (Xc m c) 6) _ = _; rw [hp]; rfl
    rw [hV] at hK
    replace s1 : a.tmps[79]? = some (vv) := s1.trans (by show some (gv (Pr (Xc m c) 6) _) = _; rw [hp]; rfl)
    exact run_call 76 #[vv] eo hw (ex_call1 (ts := #[25]) (x := .tmp 79) (f := 76) cf76 (by kernel_rfl) rfl (eval_tmp s1)) ((hc.q7 W hS).mono fun e w' h => ⟨h.1, hS.below h.2⟩) hK

set_option maxRecDepth 100000 in
theorem ob_68 {w : World} {c : Cm} {cv vv fv ea wa : Value} {m : Int} {a0 : Act} {Q : Exit → Act → World → Prop} (h1 : a0.tmps[1]? = some (.pointer (some ⟨w.heap.size, 0, none⟩))) : Ob w c cv vv fv ea wa m a0 Q 68 := by
  intro o listed a W ho hd hl hS K hK
  have eo : rops[68]? = some (opAt 68) := by kernel_rfl
  obtain rfl : o = opAt 68 := Option.some.inj (ho.symm.trans eo)
  have sg := hd.slot hl 63 76 (by kernel_rfl) (by kernel_rfl) (by kernel_rfl)
  have hw := wanted_some (o := opAt 68) (ops := rops) (g := 63) (b := true) (c := (Pr (Xc m c) 6)) (by kernel_rfl) (by kernel_rfl) sg
  cases hp : (Pr (Xc m c) 6) with
  | false =>
    rw [hp] at hw
    exact run_quiet eo (Or.inr ⟨hw, by show gv (Pr (Xc m c) 6) _ = undef; rw [hp]; rfl⟩) hS hK
  | true =>
    rw [hp] at hw
    have hV : VV w c cv vv fv ea wa m 68 = .pointer (some ⟨w.heap.size, 9, none⟩) := by show gv (Pr (Xc m c) 6) _ = _; rw [hp]; rfl
    rw [hV] at hK
    refine run_quiet eo (Or.inl ⟨hw, fun W' hW' => ?_⟩) hS hK
    exact ex_field (x := .tmp 1) (t := 31) (f := 7) (by kernel_rfl) (eval_tmp ((hd.base 1 (by kernel_rfl)).trans h1)) (fa7 W' _)

set_option maxRecDepth 100000 in
theorem ob_69 {w : World} {c : Cm} {cv vv fv ea wa : Value} {m : Int} {a0 : Act} {Q : Exit → Act → World → Prop} : Ob w c cv vv fv ea wa m a0 Q 69 := by
  intro o listed a W ho hd hl hS K hK
  have eo : rops[69]? = some (opAt 69) := by kernel_rfl
  obtain rfl : o = opAt 69 := Option.some.inj (ho.symm.trans eo)
  have sg := hd.slot hl 63 76 (by kernel_rfl) (by kernel_rfl) (by kernel_rfl)
  have hw := wanted_some (o := opAt 69) (ops := rops) (g := 63) (b := true) (c := (Pr (Xc m c) 6)) (by kernel_rfl) (by kernel_rfl) sg
  have s1 := hd.slot hl 68 81 (by kernel_rfl) (by kernel_rfl) (by kernel_rfl)
  cases hp : (Pr (Xc m c) 6) with
  | false =>
    rw [hp] at hw
    exact run_quiet eo (Or.inr ⟨hw, by show gv (Pr (Xc m c) 6) _ = undef; rw [hp]; rfl⟩) hS hK
  | true =>
    rw [hp] at hw
    have hV : VV w c cv vv fv ea wa m 69 = vv := by show gv (Pr (Xc m c) 6) _ = _; rw [hp]; rfl
    rw [hV] at hK
    replace s1 : a.tmps[81]? = some (.pointer (some ⟨w.heap.size, 9, none⟩)) := s1.trans (by show some (gv (Pr (Xc m c) 6) _) = _; rw [hp]; rfl)
    refine run_quiet eo (Or.inl ⟨hw, fun W' hW' => ?_⟩) hS hK
    exact ex_load (x := .tmp 81) (t := 25) (by kernel_rfl) (eval_tmp s1) (ld25 W' _ 9 _ (hW'.1 9 _ rfl))

set_option maxRecDepth 100000 in
theorem ob_70 {w : World} {c : Cm} {cv vv fv ea wa : Value} {m : Int} {a0 : Act} {Q : Exit → Act → World → Prop} (hc : Cals w c cv vv fv ea wa m) : Ob w c cv vv fv ea wa m a0 Q 70 := by
  intro o listed a W ho hd hl hS K hK
  have eo : rops[70]? = some (opAt 70) := by kernel_rfl
  obtain rfl : o = opAt 70 := Option.some.inj (ho.symm.trans eo)
  have sg := hd.slot hl 63 76 (by kernel_rfl) (by kernel_rfl) (by kernel_rfl)
  have hw := wanted_some (o := opAt 70) (ops := rops) (g := 63) (b := true) (c := (Pr (Xc m c) 6)) (by kernel_rfl) (by kernel_rfl) sg
  have s1 := hd.slot hl 69 82 (by kernel_rfl) (by kernel_rfl) (by kernel_rfl)
  cases hp : (Pr (Xc m c) 6) with
  | false =>
    rw [hp] at hw
    exact run_quiet eo (Or.inr ⟨hw, by show gv (Pr (Xc m c) 6) _ = undef; rw [hp]; rfl⟩) hS hK
  | true =>
    rw [hp] at hw
    have hV : VV w c cv vv fv ea wa m 70 = .int .i64 (c.vals.length : Nat) := by show gv (Pr (Xc m c) 6) _ = _; rw [hp]; rfl
    rw [hV] at hK
    replace s1 : a.tmps[82]? = some (vv) := s1.trans (by show some (gv (Pr (Xc m c) 6) _) = _; rw [hp]; rfl)
    refine run_quiet eo (Or.inl ⟨hw, fun W' hW' => ?_⟩) hS hK
    obtain ⟨ao, ca, hcv⟩ := hc.l7
    exact ex_len (ts := #[25]) (x := .tmp 82) (by kernel_rfl) (fun ty => len25 W' ao c.vals.length ca ty) (eval_tmp (s1.trans (congrArg some hcv)))

set_option maxRecDepth 100000 in
theorem ob_71 {w : World} {c : Cm} {cv vv fv ea wa : Value} {m : Int} {a0 : Act} {Q : Exit → Act → World → Prop} : Ob w c cv vv fv ea wa m a0 Q 71 := by
  intro o listed a W ho hd hl hS K hK
  have eo : rops[71]? = some (opAt 71) := by kernel_rfl
  obtain rfl : o = opAt 71 := Option.some.inj (ho.symm.trans eo)
  have sg := hd.slot hl 63 76 (by kernel_rfl) (by kernel_rfl) (by kernel_rfl)
  have hw := wanted_some (o := opAt 71) (ops := rops) (g := 63) (b := true) (c := (Pr (Xc m c) 6)) (by kernel_rfl) (by kernel_rfl) sg
  have s1 := hd.slot hl 70 83 (by kernel_rfl) (by kernel_rfl) (by kernel_rfl)
  cases hp : (Pr (Xc m c) 6) with
  | false =>
    rw [hp] at hw
    exact run_quiet eo (Or.inr ⟨hw, by show gv (Pr (Xc m c) 6) _ = undef; rw [hp]; rfl⟩) hS hK
  | true =>
    rw [hp] at hw
    have hV : VV w c cv vv fv ea wa m 71 = .bool (decide ((c.vals.length : Int) = 0)) := by show gv (Pr (Xc m c) 6) _ = _; rw [hp]; rfl
    rw [hV] at hK
    replace s1 : a.tmps[83]? = some (.int .i64 (c.vals.length : Nat)) := s1.trans (by show some (gv (Pr (Xc m c) 6) _) = _; rw [hp]; rfl)
    refine run_quiet eo (Or.inl ⟨hw, fun W' hW' => ?_⟩) hS hK
    exact ex_bin (u := 3) (x := .tmp 83) (y := .const (.int .i64 0)) (by kernel_rfl) (eval_tmp s1) rfl (eq3 W' _ _ _)

set_option maxRecDepth 100000 in
theorem ob_72 {w : World} {c : Cm} {cv vv fv ea wa : Value} {m : Int} {a0 : Act} {Q : Exit → Act → World → Prop} : Ob w c cv vv fv ea wa m a0 Q 72 := by
  intro o listed a W ho hd hl hS K hK
  have eo : rops[72]? = some (opAt 72) := by kernel_rfl
  obtain rfl : o = opAt 72 := Option.some.inj (ho.symm.trans eo)
  have sg := hd.slot hl 63 76 (by kernel_rfl) (by kernel_rfl) (by kernel_rfl)
  have hw := wanted_some (o := opAt 72) (ops := rops) (g := 63) (b := true) (c := (Pr (Xc m c) 6)) (by kernel_rfl) (by kernel_rfl) sg
  have s1 := hd.slot hl 64 77 (by kernel_rfl) (by kernel_rfl) (by kernel_rfl)
  have s2 := hd.slot hl 67 80 (by kernel_rfl) (by kernel_rfl) (by kernel_rfl)
  have s3 := hd.slot hl 71 84 (by kernel_rfl) (by kernel_rfl) (by kernel_rfl)
  cases hp : (Pr (Xc m c) 6) with
  | false =>
    rw [hp] at hw
    exact run_quiet eo (Or.inr ⟨hw, by show gv (Pr (Xc m c) 6) _ = undef; rw [hp]; rfl⟩) hS hK
  | true =>
    rw [hp] at hw
    have hV : VV w c cv vv fv ea wa m 72 = .bool ((Xc m c) 7) := by show gv (Pr (Xc m c) 6) _ = _; rw [hp]; rfl
    rw [hV] at hK
    replace s1 : a.tmps[77]? = some (.func (.func 71) #[] #[.pointer (some ⟨w.heap.size + 1, 0, none⟩)]) := s1.trans (by show some (gv (Pr (Xc m c) 6) _) = _; rw [hp]; rfl)
    replace s2 : a.tmps[80]? = some (.bool (areVals c.vals)) := s2.trans (by show some (gv (Pr (Xc m c) 6) _) = _; rw [hp]; rfl)
    replace s3 : a.tmps[84]? = some (.bool (decide ((c.vals.length : Int) = 0))) := s3.trans (by show some (gv (Pr (Xc m c) 6) _) = _; rw [hp]; rfl)
    refine run_call 71 #[.int .i64 64, .bool (areVals c.vals), .bool (decide ((c.vals.length : Int) = 0)), .pointer (some ⟨w.heap.size + 1, 0, none⟩)] eo hw (ex_is (ts := #[3, 4, 4]) (t := .tmp 77) (x := .const (.int .i64 64)) (y := .tmp 80) (z := .tmp 84) (f := 71) cf71 (by kernel_rfl) (eval_tmp s1) rfl (eval_tmp s2) (eval_tmp s3)) ((is_any m 64 (areVals c.vals) (decide ((c.vals.length : Int) = 0)) _ W hS.2.1).mono fun e w' h => ⟨h.1, h.2 ▸ hS⟩) hK

set_option maxRecDepth 100000 in
theorem ob_73 {w : World} {c : Cm} {cv vv fv ea wa : Value} {m : Int} {a0 : Act} {Q : Exit → Act → World → Prop} : Ob w c cv vv fv ea wa m a0 Q 73 := by
  intro o listed a W ho hd hl hS K hK
  have eo : rops[73]? = some (opAt 73) := by kernel_rfl
  obtain rfl : o = opAt 73 := Option.some.inj (ho.symm.trans eo)
  have s1 := hd.slot hl 63 76 (by kernel_rfl) (by kernel_rfl) (by kernel_rfl)
  have s2 := hd.slot hl 72 85 (by kernel_rfl) (by kernel_rfl) (by kernel_rfl)
  have ev : (if (Pr (Xc m c) 6) = true then a.eval (.tmp 85) else a.eval (.const (.bool false))) = .bool (Pr (Xc m c) 7) := by
    rw [eval_tmp s2]
    show (if (Pr (Xc m c) 6) = true then gv (Pr (Xc m c) 6) (.bool ((Xc m c) 7)) else .bool false) = .bool ((Pr (Xc m c) 6) && (Xc m c) 7)
    cases (Pr (Xc m c) 6) <;> rfl
  refine run_quiet eo (Or.inl ⟨wanted_none (by kernel_rfl), fun W' hW' => ?_⟩) hS hK
  rw [ex_pick (P := Tryz.prog) (ρ := a.eval) (W := W') (o := opAt 73) (c := .tmp 76) (x := .tmp 85) (y := .const (.bool false)) (b := (Pr (Xc m c) 6)) (by kernel_rfl) (eval_tmp s1), ev]; rfl

set_option maxRecDepth 100000 in
theorem ob_74 {w : World} {c : Cm} {cv vv fv ea wa : Value} {m : Int} {a0 : Act} {Q : Exit → Act → World → Prop} : Ob w c cv vv fv ea wa m a0 Q 74 := by
  intro o listed a W ho hd hl hS K hK
  have eo : rops[74]? = some (opAt 74) := by kernel_rfl
  obtain rfl : o = opAt 74 := Option.some.inj (ho.symm.trans eo)
  have s1 := hd.slot hl 73 86 (by kernel_rfl) (by kernel_rfl) (by kernel_rfl)
  refine run_quiet eo (Or.inl ⟨wanted_none (by kernel_rfl), fun W' hW' => ?_⟩) hS hK
  exact ex_move (x := .tmp 86) (by kernel_rfl) (eval_tmp s1)

set_option maxRecDepth 100000 in
theorem ob_75 {w : World} {c : Cm} {cv vv fv ea wa : Value} {m : Int} {a0 : Act} {Q : Exit → Act → World → Prop} (h5 : a0.tmps[5]? = some (.func (.func 71) #[] #[.pointer (some ⟨w.heap.size + 1, 0, none⟩)])) : Ob w c cv vv fv ea wa m a0 Q 75 := by
  intro o listed a W ho hd hl hS K hK
  have eo : rops[75]? = some (opAt 75) := by kernel_rfl
  obtain rfl : o = opAt 75 := Option.some.inj (ho.symm.trans eo)
  have sg := hd.slot hl 74 87 (by kernel_rfl) (by kernel_rfl) (by kernel_rfl)
  have hw := wanted_some (o := opAt 75) (ops := rops) (g := 74) (b := true) (c := (Pr (Xc m c) 7)) (by kernel_rfl) (by kernel_rfl) sg
  cases hp : (Pr (Xc m c) 7) with
  | false =>
    rw [hp] at hw
    exact run_quiet eo (Or.inr ⟨hw, by show gv (Pr (Xc m c) 7) _ = undef; rw [hp]; rfl⟩) hS hK
  | true =>
    rw [hp] at hw
    have hV : VV w c cv vv fv ea wa m 75 = .func (.func 71) #[] #[.pointer (some ⟨w.heap.size + 1, 0, none⟩)] := by show gv (Pr (Xc m c) 7) _ = _; rw [hp]; rfl
    rw [hV] at hK
    refine run_quiet eo (Or.inl ⟨hw, fun W' hW' => ?_⟩) hS hK
    exact ex_move (x := .tmp 5) (by kernel_rfl) (eval_tmp ((hd.base 5 (by kernel_rfl)).trans h5))

set_option maxRecDepth 100000 in
theorem ob_76 {w : World} {c : Cm} {cv vv fv ea wa : Value} {m : Int} {a0 : Act} {Q : Exit → Act → World → Prop} (h1 : a0.tmps[1]? = some (.pointer (some ⟨w.heap.size, 0, none⟩))) : Ob w c cv vv fv ea wa m a0 Q 76 := by
  intro o listed a W ho hd hl hS K hK
  have eo : rops[76]? = some (opAt 76) := by kernel_rfl
  obtain rfl : o = opAt 76 := Option.some.inj (ho.symm.trans eo)
  have sg := hd.slot hl 74 87 (by kernel_rfl) (by kernel_rfl) (by kernel_rfl)
  have hw := wanted_some (o := opAt 76) (ops := rops) (g := 74) (b := true) (c := (Pr (Xc m c) 7)) (by kernel_rfl) (by kernel_rfl) sg
  cases hp : (Pr (Xc m c) 7) with
  | false =>
    rw [hp] at hw
    exact run_quiet eo (Or.inr ⟨hw, by show gv (Pr (Xc m c) 7) _ = undef; rw [hp]; rfl⟩) hS hK
  | true =>
    rw [hp] at hw
    have hV : VV w c cv vv fv ea wa m 76 = .pointer (some ⟨w.heap.size, 10, none⟩) := by show gv (Pr (Xc m c) 7) _ = _; rw [hp]; rfl
    rw [hV] at hK
    refine run_quiet eo (Or.inl ⟨hw, fun W' hW' => ?_⟩) hS hK
    exact ex_field (x := .tmp 1) (t := 31) (f := 8) (by kernel_rfl) (eval_tmp ((hd.base 1 (by kernel_rfl)).trans h1)) (fa8 W' _)

set_option maxRecDepth 100000 in
theorem ob_77 {w : World} {c : Cm} {cv vv fv ea wa : Value} {m : Int} {a0 : Act} {Q : Exit → Act → World → Prop} : Ob w c cv vv fv ea wa m a0 Q 77 := by
  intro o listed a W ho hd hl hS K hK
  have eo : rops[77]? = some (opAt 77) := by kernel_rfl
  obtain rfl : o = opAt 77 := Option.some.inj (ho.symm.trans eo)
  have sg := hd.slot hl 74 87 (by kernel_rfl) (by kernel_rfl) (by kernel_rfl)
  have hw := wanted_some (o := opAt 77) (ops := rops) (g := 74) (b := true) (c := (Pr (Xc m c) 7)) (by kernel_rfl) (by kernel_rfl) sg
  have s1 := hd.slot hl 76 89 (by kernel_rfl) (by kernel_rfl) (by kernel_rfl)
  cases hp : (Pr (Xc m c) 7) with
  | false =>
    rw [hp] at hw
    exact run_quiet eo (Or.inr ⟨hw, by show gv (Pr (Xc m c) 7) _ = undef; rw [hp]; rfl⟩) hS hK
  | true =>
    rw [hp] at hw
    have hV : VV w c cv vv fv ea wa m 77 = fv := by show gv (Pr (Xc m c) 7) _ = _; rw [hp]; rfl
    rw [hV] at hK
    replace s1 : a.tmps[89]? = some (.pointer (some ⟨w.heap.size, 10, none⟩)) := s1.trans (by show some (gv (Pr (Xc m c) 7) _) = _; rw [hp]; rfl)
    refine run_quiet eo (Or.inl ⟨hw, fun W' hW' => ?_⟩) hS hK
    exact ex_load (x := .tmp 89) (t := 26) (by kernel_rfl) (eval_tmp s1) (ld26 W' _ 10 _ (hW'.1 10 _ rfl))

set_option maxRecDepth 100000 in
theorem ob_78 {w : World} {c : Cm} {cv vv fv ea wa : Value} {m : Int} {a0 : Act} {Q : Exit → Act → World → Prop} (hc : Cals w c cv vv fv ea wa m) : Ob w c cv vv fv ea wa m a0 Q 78 := by
  intro o listed a W ho hd hl hS K hK
  have eo : rops[78]? = some (opAt 78) := by kernel_rfl
  obtain rfl : o = opAt 78 := Option.some.inj (ho.symm.trans eo)
  have sg := hd.slot hl 74 87 (by kernel_rfl) (by kernel_rfl) (by kernel_rfl)
  have hw := wanted_some (o := opAt 78) (ops := rops) (g := 74) (b := true) (c := (Pr (Xc m c) 7)) (by kernel_rfl) (by kernel_rfl) sg
  have s1 := hd.slot hl 77 90 (by kernel_rfl) (by kernel_rfl) (by kernel_rfl)
  cases hp : (Pr (Xc m c) 7) with
  | false =>
    rw [hp] at hw
    exact run_quiet eo (Or.inr ⟨hw, by show gv (Pr (Xc m c) 7) _ = undef; rw [hp]; rfl⟩) hS hK
  | true =>
    rw [hp] at hw
    have hV : VV w c cv vv fv ea wa m 78 = .bool (c.fields.all nameW) := by show gv (Pr (Xc m c) 7) _ = _; rw [hp]; rfl
    rw [hV] at hK
    replace s1 : a.tmps[90]? = some (fv) := s1.trans (by show some (gv (Pr (Xc m c) 7) _) = _; rw [hp]; rfl)
    exact run_call 77 #[fv, .func (.func 72) #[] #[]] eo hw (ex_call2 (ts := #[26, 37]) (x := .tmp 90) (y := .func 72) (f := 77) cf77 (by kernel_rfl) rfl (eval_tmp s1) rfl) ((hc.q8 W hS).mono fun e w' h => ⟨h.1, hS.below h.2⟩) hK

set_option maxRecDepth 100000 in
theorem ob_79 {w : World} {c : Cm} {cv vv fv ea wa : Value} {m : Int} {a0 : Act} {Q : Exit → Act → World → Prop} (h1 : a0.tmps[1]? = some (.pointer (some ⟨w.heap.size, 0, none⟩))) : Ob w c cv vv fv ea wa m a0 Q 79 := by
  intro o listed a W ho hd hl hS K hK
  have eo : rops[79]? = some (opAt 79) := by kernel_rfl
  obtain rfl : o = opAt 79 := Option.some.inj (ho.symm.trans eo)
  have sg := hd.slot hl 74 87 (by kernel_rfl) (by kernel_rfl) (by kernel_rfl)
  have hw := wanted_some (o := opAt 79) (ops := rops) (g := 74) (b := true) (c := (Pr (Xc m c) 7)) (by kernel_rfl) (by kernel_rfl) sg
  cases hp : (Pr (Xc m c) 7) with
  | false =>
    rw [hp] at hw
    exact run_quiet eo (Or.inr ⟨hw, by show gv (Pr (Xc m c) 7) _ = undef; rw [hp]; rfl⟩) hS hK
  | true =>
    rw [hp] at hw
    have hV : VV w c cv vv fv ea wa m 79 = .pointer (some ⟨w.heap.size, 10, none⟩) := by show gv (Pr (Xc m c) 7) _ = _; rw [hp]; rfl
    rw [hV] at hK
    refine run_quiet eo (Or.inl ⟨hw, fun W' hW' => ?_⟩) hS hK
    exact ex_field (x := .tmp 1) (t := 31) (f := 8) (by kernel_rfl) (eval_tmp ((hd.base 1 (by kernel_rfl)).trans h1)) (fa8 W' _)

set_option maxRecDepth 100000 in
theorem ob_80 {w : World} {c : Cm} {cv vv fv ea wa : Value} {m : Int} {a0 : Act} {Q : Exit → Act → World → Prop} : Ob w c cv vv fv ea wa m a0 Q 80 := by
  intro o listed a W ho hd hl hS K hK
  have eo : rops[80]? = some (opAt 80) := by kernel_rfl
  obtain rfl : o = opAt 80 := Option.some.inj (ho.symm.trans eo)
  have sg := hd.slot hl 74 87 (by kernel_rfl) (by kernel_rfl) (by kernel_rfl)
  have hw := wanted_some (o := opAt 80) (ops := rops) (g := 74) (b := true) (c := (Pr (Xc m c) 7)) (by kernel_rfl) (by kernel_rfl) sg
  have s1 := hd.slot hl 79 92 (by kernel_rfl) (by kernel_rfl) (by kernel_rfl)
  cases hp : (Pr (Xc m c) 7) with
  | false =>
    rw [hp] at hw
    exact run_quiet eo (Or.inr ⟨hw, by show gv (Pr (Xc m c) 7) _ = undef; rw [hp]; rfl⟩) hS hK
  | true =>
    rw [hp] at hw
    have hV : VV w c cv vv fv ea wa m 80 = fv := by show gv (Pr (Xc m c) 7) _ = _; rw [hp]; rfl
    rw [hV] at hK
    replace s1 : a.tmps[92]? = some (.pointer (some ⟨w.heap.size, 10, none⟩)) := s1.trans (by show some (gv (Pr (Xc m c) 7) _) = _; rw [hp]; rfl)
    refine run_quiet eo (Or.inl ⟨hw, fun W' hW' => ?_⟩) hS hK
    exact ex_load (x := .tmp 92) (t := 26) (by kernel_rfl) (eval_tmp s1) (ld26 W' _ 10 _ (hW'.1 10 _ rfl))

set_option maxRecDepth 100000 in
theorem ob_81 {w : World} {c : Cm} {cv vv fv ea wa : Value} {m : Int} {a0 : Act} {Q : Exit → Act → World → Prop} (hc : Cals w c cv vv fv ea wa m) : Ob w c cv vv fv ea wa m a0 Q 81 := by
  intro o listed a W ho hd hl hS K hK
  have eo : rops[81]? = some (opAt 81) := by kernel_rfl
  obtain rfl : o = opAt 81 := Option.some.inj (ho.symm.trans eo)
  have sg := hd.slot hl 74 87 (by kernel_rfl) (by kernel_rfl) (by kernel_rfl)
  have hw := wanted_some (o := opAt 81) (ops := rops) (g := 74) (b := true) (c := (Pr (Xc m c) 7)) (by kernel_rfl) (by kernel_rfl) sg
  have s1 := hd.slot hl 80 93 (by kernel_rfl) (by kernel_rfl) (by kernel_rfl)
  cases hp : (Pr (Xc m c) 7) with
  | false =>
    rw [hp] at hw
    exact run_quiet eo (Or.inr ⟨hw, by show gv (Pr (Xc m c) 7) _ = undef; rw [hp]; rfl⟩) hS hK
  | true =>
    rw [hp] at hw
    have hV : VV w c cv vv fv ea wa m 81 = .int .i64 (c.fields.length : Nat) := by show gv (Pr (Xc m c) 7) _ = _; rw [hp]; rfl
    rw [hV] at hK
    replace s1 : a.tmps[93]? = some (fv) := s1.trans (by show some (gv (Pr (Xc m c) 7) _) = _; rw [hp]; rfl)
    refine run_quiet eo (Or.inl ⟨hw, fun W' hW' => ?_⟩) hS hK
    obtain ⟨ao, ca, hcv⟩ := hc.l8
    exact ex_len (ts := #[26]) (x := .tmp 93) (by kernel_rfl) (fun ty => len26 W' ao c.fields.length ca ty) (eval_tmp (s1.trans (congrArg some hcv)))

set_option maxRecDepth 100000 in
theorem ob_82 {w : World} {c : Cm} {cv vv fv ea wa : Value} {m : Int} {a0 : Act} {Q : Exit → Act → World → Prop} : Ob w c cv vv fv ea wa m a0 Q 82 := by
  intro o listed a W ho hd hl hS K hK
  have eo : rops[82]? = some (opAt 82) := by kernel_rfl
  obtain rfl : o = opAt 82 := Option.some.inj (ho.symm.trans eo)
  have sg := hd.slot hl 74 87 (by kernel_rfl) (by kernel_rfl) (by kernel_rfl)
  have hw := wanted_some (o := opAt 82) (ops := rops) (g := 74) (b := true) (c := (Pr (Xc m c) 7)) (by kernel_rfl) (by kernel_rfl) sg
  have s1 := hd.slot hl 81 94 (by kernel_rfl) (by kernel_rfl) (by kernel_rfl)
  cases hp : (Pr (Xc m c) 7) with
  | false =>
    rw [hp] at hw
    exact run_quiet eo (Or.inr ⟨hw, by show gv (Pr (Xc m c) 7) _ = undef; rw [hp]; rfl⟩) hS hK
  | true =>
    rw [hp] at hw
    have hV : VV w c cv vv fv ea wa m 82 = .bool (decide ((c.fields.length : Int) = 0)) := by show gv (Pr (Xc m c) 7) _ = _; rw [hp]; rfl
    rw [hV] at hK
    replace s1 : a.tmps[94]? = some (.int .i64 (c.fields.length : Nat)) := s1.trans (by show some (gv (Pr (Xc m c) 7) _) = _; rw [hp]; rfl)
    refine run_quiet eo (Or.inl ⟨hw, fun W' hW' => ?_⟩) hS hK
    exact ex_bin (u := 3) (x := .tmp 94) (y := .const (.int .i64 0)) (by kernel_rfl) (eval_tmp s1) rfl (eq3 W' _ _ _)

set_option maxRecDepth 100000 in
theorem ob_83 {w : World} {c : Cm} {cv vv fv ea wa : Value} {m : Int} {a0 : Act} {Q : Exit → Act → World → Prop} : Ob w c cv vv fv ea wa m a0 Q 83 := by
  intro o listed a W ho hd hl hS K hK
  have eo : rops[83]? = some (opAt 83) := by kernel_rfl
  obtain rfl : o = opAt 83 := Option.some.inj (ho.symm.trans eo)
  have sg := hd.slot hl 74 87 (by kernel_rfl) (by kernel_rfl) (by kernel_rfl)
  have hw := wanted_some (o := opAt 83) (ops := rops) (g := 74) (b := true) (c := (Pr (Xc m c) 7)) (by kernel_rfl) (by kernel_rfl) sg
  have s1 := hd.slot hl 75 88 (by kernel_rfl) (by kernel_rfl) (by kernel_rfl)
  have s2 := hd.slot hl 78 91 (by kernel_rfl) (by kernel_rfl) (by kernel_rfl)
  have s3 := hd.slot hl 82 95 (by kernel_rfl) (by kernel_rfl) (by kernel_rfl)
  cases hp : (Pr (Xc m c) 7) with
  | false =>
    rw [hp] at hw
    exact run_quiet eo (Or.inr ⟨hw, by show gv (Pr (Xc m c) 7) _ = undef; rw [hp]; rfl⟩) hS hK
  | true =>
    rw [hp] at hw
    have hV : VV w c cv vv fv ea wa m 83 = .bool ((Xc m c) 8) := by show gv (Pr (Xc m c) 7) _ = _; rw [hp]; rfl
    rw [hV] at hK
    replace s1 : a.tmps[88]? = some (.func (.func 71) #[] #[.pointer (some ⟨w.heap.size + 1, 0, none⟩)]) := s1.trans (by show some (gv (Pr (Xc m c) 7) _) = _; rw [hp]; rfl)
    replace s2 : a.tmps[91]? = some (.bool (c.fields.all nameW)) := s2.trans (by show some (gv (Pr (Xc m c) 7) _) = _; rw [hp]; rfl)
    replace s3 : a.tmps[95]? = some (.bool (decide ((c.fields.length : Int) = 0))) := s3.trans (by show some (gv (Pr (Xc m c) 7) _) = _; rw [hp]; rfl)
    refine run_call 71 #[.int .i64 128, .bool (c.fields.all nameW), .bool (decide ((c.fields.length : Int) = 0)), .pointer (some ⟨w.heap.size + 1, 0, none⟩)] eo hw (ex_is (ts := #[3, 4, 4]) (t := .tmp 88) (x := .const (.int .i64 128)) (y := .tmp 91) (z := .tmp 95) (f := 71) cf71 (by kernel_rfl) (eval_tmp s1) rfl (eval_tmp s2) (eval_tmp s3)) ((is_any m 128 (c.fields.all nameW) (decide ((c.fields.length : Int) = 0)) _ W hS.2.1).mono fun e w' h => ⟨h.1, h.2 ▸ hS⟩) hK

set_option maxRecDepth 100000 in
theorem ob_84 {w : World} {c : Cm} {cv vv fv ea wa : Value} {m : Int} {a0 : Act} {Q : Exit → Act → World → Prop} : Ob w c cv vv fv ea wa m a0 Q 84 := by
  intro o listed a W ho hd hl hS K hK
  have eo : rops[84]? = some (opAt 84) := by kernel_rfl
  obtain rfl : o = opAt 84 := Option.some.inj (ho.symm.trans eo)
  have s1 := hd.slot hl 74 87 (by kernel_rfl) (by kernel_rfl) (by kernel_rfl)
  have s2 := hd.slot hl 83 96 (by kernel_rfl) (by kernel_rfl) (by kernel_rfl)
  have ev : (if (Pr (Xc m c) 7) = true then a.eval (.tmp 96) else a.eval (.const (.bool false))) = .bool (Pr (Xc m c) 8) := by
    rw [eval_tmp s2]
    show (if (Pr (Xc m c) 7) = true then gv (Pr (Xc m c) 7) (.bool ((Xc m c) 8)) else .bool false) = .bool ((Pr (Xc m c) 7) && (Xc m c) 8)
    cases (Pr (Xc m c) 7) <;> rfl
  refine run_quiet eo (Or.inl ⟨wanted_none (by kernel_rfl), fun W' hW' => ?_⟩) hS hK
  rw [ex_pick (P := Tryz.prog) (ρ := a.eval) (W := W') (o := opAt 84) (c := .tmp 87) (x := .tmp 96) (y := .const (.bool false)) (b := (Pr (Xc m c) 7)) (by kernel_rfl) (eval_tmp s1), ev]; rfl

set_option maxRecDepth 100000 in
theorem ob_85 {w : World} {c : Cm} {cv vv fv ea wa : Value} {m : Int} {a0 : Act} {Q : Exit → Act → World → Prop} : Ob w c cv vv fv ea wa m a0 Q 85 := by
  intro o listed a W ho hd hl hS K hK
  have eo : rops[85]? = some (opAt 85) := by kernel_rfl
  obtain rfl : o = opAt 85 := Option.some.inj (ho.symm.trans eo)
  have s1 := hd.slot hl 84 97 (by kernel_rfl) (by kernel_rfl) (by kernel_rfl)
  refine run_quiet eo (Or.inl ⟨wanted_none (by kernel_rfl), fun W' hW' => ?_⟩) hS hK
  exact ex_move (x := .tmp 97) (by kernel_rfl) (eval_tmp s1)

set_option maxRecDepth 100000 in
theorem ob_86 {w : World} {c : Cm} {cv vv fv ea wa : Value} {m : Int} {a0 : Act} {Q : Exit → Act → World → Prop} (h5 : a0.tmps[5]? = some (.func (.func 71) #[] #[.pointer (some ⟨w.heap.size + 1, 0, none⟩)])) : Ob w c cv vv fv ea wa m a0 Q 86 := by
  intro o listed a W ho hd hl hS K hK
  have eo : rops[86]? = some (opAt 86) := by kernel_rfl
  obtain rfl : o = opAt 86 := Option.some.inj (ho.symm.trans eo)
  have sg := hd.slot hl 85 98 (by kernel_rfl) (by kernel_rfl) (by kernel_rfl)
  have hw := wanted_some (o := opAt 86) (ops := rops) (g := 85) (b := true) (c := (Pr (Xc m c) 8)) (by kernel_rfl) (by kernel_rfl) sg
  cases hp : (Pr (Xc m c) 8) with
  | false =>
    rw [hp] at hw
    exact run_quiet eo (Or.inr ⟨hw, by show gv (Pr (Xc m c) 8) _ = undef; rw [hp]; rfl⟩) hS hK
  | true =>
    rw [hp] at hw
    have hV : VV w c cv vv fv ea wa m 86 = .func (.func 71) #[] #[.pointer (some ⟨w.heap.size + 1, 0, none⟩)] := by show gv (Pr (Xc m c) 8) _ = _; rw [hp]; rfl
    rw [hV] at hK
    refine run_quiet eo (Or.inl ⟨hw, fun W' hW' => ?_⟩) hS hK
    exact ex_move (x := .tmp 5) (by kernel_rfl) (eval_tmp ((hd.base 5 (by kernel_rfl)).trans h5))

set_option maxRecDepth 100000 in
theorem ob_87 {w : World} {c : Cm} {cv vv fv ea wa : Value} {m : Int} {a0 : Act} {Q : Exit → Act → World → Prop} (h1 : a0.tmps[1]? = some (.pointer (some ⟨w.heap.size, 0, none⟩))) : Ob w c cv vv fv ea wa m a0 Q 87 := by
  intro o listed a W ho hd hl hS K hK
  have eo : rops[87]? = some (opAt 87) := by kernel_rfl
  obtain rfl : o = opAt 87 := Option.some.inj (ho.symm.trans eo)
  have sg := hd.slot hl 85 98 (by kernel_rfl) (by kernel_rfl) (by kernel_rfl)
  have hw := wanted_some (o := opAt 87) (ops := rops) (g := 85) (b := true) (c := (Pr (Xc m c) 8)) (by kernel_rfl) (by kernel_rfl) sg
  cases hp : (Pr (Xc m c) 8) with
  | false =>
    rw [hp] at hw
    exact run_quiet eo (Or.inr ⟨hw, by show gv (Pr (Xc m c) 8) _ = undef; rw [hp]; rfl⟩) hS hK
  | true =>
    rw [hp] at hw
    have hV : VV w c cv vv fv ea wa m 87 = .pointer (some ⟨w.heap.size, 11, none⟩) := by show gv (Pr (Xc m c) 8) _ = _; rw [hp]; rfl
    rw [hV] at hK
    refine run_quiet eo (Or.inl ⟨hw, fun W' hW' => ?_⟩) hS hK
    exact ex_field (x := .tmp 1) (t := 31) (f := 9) (by kernel_rfl) (eval_tmp ((hd.base 1 (by kernel_rfl)).trans h1)) (fa9 W' _)

set_option maxRecDepth 100000 in
theorem ob_88 {w : World} {c : Cm} {cv vv fv ea wa : Value} {m : Int} {a0 : Act} {Q : Exit → Act → World → Prop} : Ob w c cv vv fv ea wa m a0 Q 88 := by
  intro o listed a W ho hd hl hS K hK
  have eo : rops[88]? = some (opAt 88) := by kernel_rfl
  obtain rfl : o = opAt 88 := Option.some.inj (ho.symm.trans eo)
  have sg := hd.slot hl 85 98 (by kernel_rfl) (by kernel_rfl) (by kernel_rfl)
  have hw := wanted_some (o := opAt 88) (ops := rops) (g := 85) (b := true) (c := (Pr (Xc m c) 8)) (by kernel_rfl) (by kernel_rfl) sg
  have s1 := hd.slot hl 87 100 (by kernel_rfl) (by kernel_rfl) (by kernel_rfl)
  cases hp : (Pr (Xc m c) 8) with
  | false =>
    rw [hp] at hw
    exact run_quiet eo (Or.inr ⟨hw, by show gv (Pr (Xc m c) 8) _ = undef; rw [hp]; rfl⟩) hS hK
  | true =>
    rw [hp] at hw
    have hV : VV w c cv vv fv ea wa m 88 = .agg #[.int .i64 c.expr.k, .int .i64 c.expr.v.k, .int .i64 c.expr.v.n, .string ⟨c.expr.v.s.toArray⟩, .string ⟨c.expr.nm.toArray⟩, ea] := by show gv (Pr (Xc m c) 8) _ = _; rw [hp]; rfl
    rw [hV] at hK
    replace s1 : a.tmps[100]? = some (.pointer (some ⟨w.heap.size, 11, none⟩)) := s1.trans (by show some (gv (Pr (Xc m c) 8) _) = _; rw [hp]; rfl)
    refine run_quiet eo (Or.inl ⟨hw, fun W' hW' => ?_⟩) hS hK
    exact ex_load (x := .tmp 100) (t := 29) (by kernel_rfl) (eval_tmp s1) (ld29 W' _ 11 _ _ _ _ _ _ (hW'.1 11 _ rfl) (hW'.1 12 _ rfl) (hW'.1 13 _ rfl) (hW'.1 14 _ rfl) (hW'.1 15 _ rfl) (hW'.1 16 _ rfl))

set_option maxRecDepth 100000 in
theorem ob_89 {w : World} {c : Cm} {cv vv fv ea wa : Value} {m : Int} {a0 : Act} {Q : Exit → Act → World → Prop} (hc : Cals w c cv vv fv ea wa m) : Ob w c cv vv fv ea wa m a0 Q 89 := by
  intro o listed a W ho hd hl hS K hK
  have eo : rops[89]? = some (opAt 89) := by kernel_rfl
  obtain rfl : o = opAt 89 := Option.some.inj (ho.symm.trans eo)
  have sg := hd.slot hl 85 98 (by kernel_rfl) (by kernel_rfl) (by kernel_rfl)
  have hw := wanted_some (o := opAt 89) (ops := rops) (g := 85) (b := true) (c := (Pr (Xc m c) 8)) (by kernel_rfl) (by kernel_rfl) sg
  have s1 := hd.slot hl 88 101 (by kernel_rfl) (by kernel_rfl) (by kernel_rfl)
  cases hp : (Pr (Xc m c) 8) with
  | false =>
    rw [hp] at hw
    exact run_quiet eo (Or.inr ⟨hw, by show gv (Pr (Xc m c) 8) _ = undef; rw [hp]; rfl⟩) hS hK
  | true =>
    rw [hp] at hw
    have hV : VV w c cv vv fv ea wa m 89 = .bool (rightE c.expr) := by show gv (Pr (Xc m c) 8) _ = _; rw [hp]; rfl
    rw [hV] at hK
    replace s1 : a.tmps[101]? = some (.agg #[.int .i64 c.expr.k, .int .i64 c.expr.v.k, .int .i64 c.expr.v.n, .string ⟨c.expr.v.s.toArray⟩, .string ⟨c.expr.nm.toArray⟩, ea]) := s1.trans (by show some (gv (Pr (Xc m c) 8) _) = _; rw [hp]; rfl)
    exact run_call 78 #[.agg #[.int .i64 c.expr.k, .int .i64 c.expr.v.k, .int .i64 c.expr.v.n, .string ⟨c.expr.v.s.toArray⟩, .string ⟨c.expr.nm.toArray⟩, ea]] eo hw (ex_call1 (ts := #[29]) (x := .tmp 101) (f := 78) cf78 (by kernel_rfl) rfl (eval_tmp s1)) ((hc.q9 W hS).mono fun e w' h => ⟨h.1, hS.below h.2⟩) hK

set_option maxRecDepth 100000 in
theorem ob_90 {w : World} {c : Cm} {cv vv fv ea wa : Value} {m : Int} {a0 : Act} {Q : Exit → Act → World → Prop} (h1 : a0.tmps[1]? = some (.pointer (some ⟨w.heap.size, 0, none⟩))) : Ob w c cv vv fv ea wa m a0 Q 90 := by
  intro o listed a W ho hd hl hS K hK
  have eo : rops[90]? = some (opAt 90) := by kernel_rfl
  obtain rfl : o = opAt 90 := Option.some.inj (ho.symm.trans eo)
  have sg := hd.slot hl 85 98 (by kernel_rfl) (by kernel_rfl) (by kernel_rfl)
  have hw := wanted_some (o := opAt 90) (ops := rops) (g := 85) (b := true) (c := (Pr (Xc m c) 8)) (by kernel_rfl) (by kernel_rfl) sg
  cases hp : (Pr (Xc m c) 8) with
  | false =>
    rw [hp] at hw
    exact run_quiet eo (Or.inr ⟨hw, by show gv (Pr (Xc m c) 8) _ = undef; rw [hp]; rfl⟩) hS hK
  | true =>
    rw [hp] at hw
    have hV : VV w c cv vv fv ea wa m 90 = .pointer (some ⟨w.heap.size, 11, none⟩) := by show gv (Pr (Xc m c) 8) _ = _; rw [hp]; rfl
    rw [hV] at hK
    refine run_quiet eo (Or.inl ⟨hw, fun W' hW' => ?_⟩) hS hK
    exact ex_field (x := .tmp 1) (t := 31) (f := 9) (by kernel_rfl) (eval_tmp ((hd.base 1 (by kernel_rfl)).trans h1)) (fa9 W' _)

set_option maxRecDepth 100000 in
theorem ob_91 {w : World} {c : Cm} {cv vv fv ea wa : Value} {m : Int} {a0 : Act} {Q : Exit → Act → World → Prop} : Ob w c cv vv fv ea wa m a0 Q 91 := by
  intro o listed a W ho hd hl hS K hK
  have eo : rops[91]? = some (opAt 91) := by kernel_rfl
  obtain rfl : o = opAt 91 := Option.some.inj (ho.symm.trans eo)
  have sg := hd.slot hl 85 98 (by kernel_rfl) (by kernel_rfl) (by kernel_rfl)
  have hw := wanted_some (o := opAt 91) (ops := rops) (g := 85) (b := true) (c := (Pr (Xc m c) 8)) (by kernel_rfl) (by kernel_rfl) sg
  have s1 := hd.slot hl 90 103 (by kernel_rfl) (by kernel_rfl) (by kernel_rfl)
  cases hp : (Pr (Xc m c) 8) with
  | false =>
    rw [hp] at hw
    exact run_quiet eo (Or.inr ⟨hw, by show gv (Pr (Xc m c) 8) _ = undef; rw [hp]; rfl⟩) hS hK
  | true =>
    rw [hp] at hw
    have hV : VV w c cv vv fv ea wa m 91 = .agg #[.int .i64 c.expr.k, .int .i64 c.expr.v.k, .int .i64 c.expr.v.n, .string ⟨c.expr.v.s.toArray⟩, .string ⟨c.expr.nm.toArray⟩, ea] := by show gv (Pr (Xc m c) 8) _ = _; rw [hp]; rfl
    rw [hV] at hK
    replace s1 : a.tmps[103]? = some (.pointer (some ⟨w.heap.size, 11, none⟩)) := s1.trans (by show some (gv (Pr (Xc m c) 8) _) = _; rw [hp]; rfl)
    refine run_quiet eo (Or.inl ⟨hw, fun W' hW' => ?_⟩) hS hK
    exact ex_load (x := .tmp 103) (t := 29) (by kernel_rfl) (eval_tmp s1) (ld29 W' _ 11 _ _ _ _ _ _ (hW'.1 11 _ rfl) (hW'.1 12 _ rfl) (hW'.1 13 _ rfl) (hW'.1 14 _ rfl) (hW'.1 15 _ rfl) (hW'.1 16 _ rfl))

set_option maxRecDepth 100000 in
theorem ob_92 {w : World} {c : Cm} {cv vv fv ea wa : Value} {m : Int} {a0 : Act} {Q : Exit → Act → World → Prop} (hc : Cals w c cv vv fv ea wa m) : Ob w c cv vv fv ea wa m a0 Q 92 := by
  intro o listed a W ho hd hl hS K hK
  have eo : rops[92]? = some (opAt 92) := by kernel_rfl
  obtain rfl : o = opAt 92 := Option.some.inj (ho.symm.trans eo)
  have sg := hd.slot hl 85 98 (by kernel_rfl) (by kernel_rfl) (by kernel_rfl)
  have hw := wanted_some (o := opAt 92) (ops := rops) (g := 85) (b := true) (c := (Pr (Xc m c) 8)) (by kernel_rfl) (by kernel_rfl) sg
  have s1 := hd.slot hl 91 104 (by kernel_rfl) (by kernel_rfl) (by kernel_rfl)
  cases hp : (Pr (Xc m c) 8) with
  | false =>
    rw [hp] at hw
    exact run_quiet eo (Or.inr ⟨hw, by show gv (Pr (Xc m c) 8) _ = undef; rw [hp]; rfl⟩) hS hK
  | true =>
    rw [hp] at hw
    have hV : VV w c cv vv fv ea wa m 92 = .bool (noneE c.expr) := by show gv (Pr (Xc m c) 8) _ = _; rw [hp]; rfl
    rw [hV] at hK
    replace s1 : a.tmps[104]? = some (.agg #[.int .i64 c.expr.k, .int .i64 c.expr.v.k, .int .i64 c.expr.v.n, .string ⟨c.expr.v.s.toArray⟩, .string ⟨c.expr.nm.toArray⟩, ea]) := s1.trans (by show some (gv (Pr (Xc m c) 8) _) = _; rw [hp]; rfl)
    exact run_call 79 #[.agg #[.int .i64 c.expr.k, .int .i64 c.expr.v.k, .int .i64 c.expr.v.n, .string ⟨c.expr.v.s.toArray⟩, .string ⟨c.expr.nm.toArray⟩, ea]] eo hw (ex_call1 (ts := #[29]) (x := .tmp 104) (f := 79) cf79 (by kernel_rfl) rfl (eval_tmp s1)) ((hc.n9 W hS).mono fun e w' h => ⟨h.1, hS.below h.2⟩) hK

set_option maxRecDepth 100000 in
theorem ob_93 {w : World} {c : Cm} {cv vv fv ea wa : Value} {m : Int} {a0 : Act} {Q : Exit → Act → World → Prop} : Ob w c cv vv fv ea wa m a0 Q 93 := by
  intro o listed a W ho hd hl hS K hK
  have eo : rops[93]? = some (opAt 93) := by kernel_rfl
  obtain rfl : o = opAt 93 := Option.some.inj (ho.symm.trans eo)
  have sg := hd.slot hl 85 98 (by kernel_rfl) (by kernel_rfl) (by kernel_rfl)
  have hw := wanted_some (o := opAt 93) (ops := rops) (g := 85) (b := true) (c := (Pr (Xc m c) 8)) (by kernel_rfl) (by kernel_rfl) sg
  have s1 := hd.slot hl 86 99 (by kernel_rfl) (by kernel_rfl) (by kernel_rfl)
  have s2 := hd.slot hl 89 102 (by kernel_rfl) (by kernel_rfl) (by kernel_rfl)
  have s3 := hd.slot hl 92 105 (by kernel_rfl) (by kernel_rfl) (by kernel_rfl)
  cases hp : (Pr (Xc m c) 8) with
  | false =>
    rw [hp] at hw
    exact run_quiet eo (Or.inr ⟨hw, by show gv (Pr (Xc m c) 8) _ = undef; rw [hp]; rfl⟩) hS hK
  | true =>
    rw [hp] at hw
    have hV : VV w c cv vv fv ea wa m 93 = .bool ((Xc m c) 9) := by show gv (Pr (Xc m c) 8) _ = _; rw [hp]; rfl
    rw [hV] at hK
    replace s1 : a.tmps[99]? = some (.func (.func 71) #[] #[.pointer (some ⟨w.heap.size + 1, 0, none⟩)]) := s1.trans (by show some (gv (Pr (Xc m c) 8) _) = _; rw [hp]; rfl)
    replace s2 : a.tmps[102]? = some (.bool (rightE c.expr)) := s2.trans (by show some (gv (Pr (Xc m c) 8) _) = _; rw [hp]; rfl)
    replace s3 : a.tmps[105]? = some (.bool (noneE c.expr)) := s3.trans (by show some (gv (Pr (Xc m c) 8) _) = _; rw [hp]; rfl)
    refine run_call 71 #[.int .i64 256, .bool (rightE c.expr), .bool (noneE c.expr), .pointer (some ⟨w.heap.size + 1, 0, none⟩)] eo hw (ex_is (ts := #[3, 4, 4]) (t := .tmp 99) (x := .const (.int .i64 256)) (y := .tmp 102) (z := .tmp 105) (f := 71) cf71 (by kernel_rfl) (eval_tmp s1) rfl (eval_tmp s2) (eval_tmp s3)) ((is_any m 256 (rightE c.expr) (noneE c.expr) _ W hS.2.1).mono fun e w' h => ⟨h.1, h.2 ▸ hS⟩) hK

set_option maxRecDepth 100000 in
theorem ob_94 {w : World} {c : Cm} {cv vv fv ea wa : Value} {m : Int} {a0 : Act} {Q : Exit → Act → World → Prop} : Ob w c cv vv fv ea wa m a0 Q 94 := by
  intro o listed a W ho hd hl hS K hK
  have eo : rops[94]? = some (opAt 94) := by kernel_rfl
  obtain rfl : o = opAt 94 := Option.some.inj (ho.symm.trans eo)
  have s1 := hd.slot hl 85 98 (by kernel_rfl) (by kernel_rfl) (by kernel_rfl)
  have s2 := hd.slot hl 93 106 (by kernel_rfl) (by kernel_rfl) (by kernel_rfl)
  have ev : (if (Pr (Xc m c) 8) = true then a.eval (.tmp 106) else a.eval (.const (.bool false))) = .bool (Pr (Xc m c) 9) := by
    rw [eval_tmp s2]
    show (if (Pr (Xc m c) 8) = true then gv (Pr (Xc m c) 8) (.bool ((Xc m c) 9)) else .bool false) = .bool ((Pr (Xc m c) 8) && (Xc m c) 9)
    cases (Pr (Xc m c) 8) <;> rfl
  refine run_quiet eo (Or.inl ⟨wanted_none (by kernel_rfl), fun W' hW' => ?_⟩) hS hK
  rw [ex_pick (P := Tryz.prog) (ρ := a.eval) (W := W') (o := opAt 94) (c := .tmp 98) (x := .tmp 106) (y := .const (.bool false)) (b := (Pr (Xc m c) 8)) (by kernel_rfl) (eval_tmp s1), ev]; rfl

set_option maxRecDepth 100000 in
theorem ob_95 {w : World} {c : Cm} {cv vv fv ea wa : Value} {m : Int} {a0 : Act} {Q : Exit → Act → World → Prop} : Ob w c cv vv fv ea wa m a0 Q 95 := by
  intro o listed a W ho hd hl hS K hK
  have eo : rops[95]? = some (opAt 95) := by kernel_rfl
  obtain rfl : o = opAt 95 := Option.some.inj (ho.symm.trans eo)
  have s1 := hd.slot hl 94 107 (by kernel_rfl) (by kernel_rfl) (by kernel_rfl)
  refine run_quiet eo (Or.inl ⟨wanted_none (by kernel_rfl), fun W' hW' => ?_⟩) hS hK
  exact ex_move (x := .tmp 107) (by kernel_rfl) (eval_tmp s1)

set_option maxRecDepth 100000 in
theorem ob_96 {w : World} {c : Cm} {cv vv fv ea wa : Value} {m : Int} {a0 : Act} {Q : Exit → Act → World → Prop} (h5 : a0.tmps[5]? = some (.func (.func 71) #[] #[.pointer (some ⟨w.heap.size + 1, 0, none⟩)])) : Ob w c cv vv fv ea wa m a0 Q 96 := by
  intro o listed a W ho hd hl hS K hK
  have eo : rops[96]? = some (opAt 96) := by kernel_rfl
  obtain rfl : o = opAt 96 := Option.some.inj (ho.symm.trans eo)
  have sg := hd.slot hl 95 108 (by kernel_rfl) (by kernel_rfl) (by kernel_rfl)
  have hw := wanted_some (o := opAt 96) (ops := rops) (g := 95) (b := true) (c := (Pr (Xc m c) 9)) (by kernel_rfl) (by kernel_rfl) sg
  cases hp : (Pr (Xc m c) 9) with
  | false =>
    rw [hp] at hw
    exact run_quiet eo (Or.inr ⟨hw, by show gv (Pr (Xc m c) 9) _ = undef; rw [hp]; rfl⟩) hS hK
  | true =>
    rw [hp] at hw
    have hV : VV w c cv vv fv ea wa m 96 = .func (.func 71) #[] #[.pointer (some ⟨w.heap.size + 1, 0, none⟩)] := by show gv (Pr (Xc m c) 9) _ = _; rw [hp]; rfl
    rw [hV] at hK
    refine run_quiet eo (Or.inl ⟨hw, fun W' hW' => ?_⟩) hS hK
    exact ex_move (x := .tmp 5) (by kernel_rfl) (eval_tmp ((hd.base 5 (by kernel_rfl)).trans h5))

set_option maxRecDepth 100000 in
theorem ob_97 {w : World} {c : Cm} {cv vv fv ea wa : Value} {m : Int} {a0 : Act} {Q : Exit → Act → World → Prop} (h1 : a0.tmps[1]? = some (.pointer (some ⟨w.heap.size, 0, none⟩))) : Ob w c cv vv fv ea wa m a0 Q 97 := by
  intro o listed a W ho hd hl hS K hK
  have eo : rops[97]? = some (opAt 97) := by kernel_rfl
  obtain rfl : o = opAt 97 := Option.some.inj (ho.symm.trans eo)
  have sg := hd.slot hl 95 108 (by kernel_rfl) (by kernel_rfl) (by kernel_rfl)
  have hw := wanted_some (o := opAt 97) (ops := rops) (g := 95) (b := true) (c := (Pr (Xc m c) 9)) (by kernel_rfl) (by kernel_rfl) sg
  cases hp : (Pr (Xc m c) 9) with
  | false =>
    rw [hp] at hw
    exact run_quiet eo (Or.inr ⟨hw, by show gv (Pr (Xc m c) 9) _ = undef; rw [hp]; rfl⟩) hS hK
  | true =>
    rw [hp] at hw
    have hV : VV w c cv vv fv ea wa m 97 = .pointer (some ⟨w.heap.size, 17, none⟩) := by show gv (Pr (Xc m c) 9) _ = _; rw [hp]; rfl
    rw [hV] at hK
    refine run_quiet eo (Or.inl ⟨hw, fun W' hW' => ?_⟩) hS hK
    exact ex_field (x := .tmp 1) (t := 31) (f := 10) (by kernel_rfl) (eval_tmp ((hd.base 1 (by kernel_rfl)).trans h1)) (fa10 W' _)

set_option maxRecDepth 100000 in
theorem ob_98 {w : World} {c : Cm} {cv vv fv ea wa : Value} {m : Int} {a0 : Act} {Q : Exit → Act → World → Prop} : Ob w c cv vv fv ea wa m a0 Q 98 := by
  intro o listed a W ho hd hl hS K hK
  have eo : rops[98]? = some (opAt 98) := by kernel_rfl
  obtain rfl : o = opAt 98 := Option.some.inj (ho.symm.trans eo)
  have sg := hd.slot hl 95 108 (by kernel_rfl) (by kernel_rfl) (by kernel_rfl)
  have hw := wanted_some (o := opAt 98) (ops := rops) (g := 95) (b := true) (c := (Pr (Xc m c) 9)) (by kernel_rfl) (by kernel_rfl) sg
  have s1 := hd.slot hl 97 110 (by kernel_rfl) (by kernel_rfl) (by kernel_rfl)
  cases hp : (Pr (Xc m c) 9) with
  | false =>
    rw [hp] at hw
    exact run_quiet eo (Or.inr ⟨hw, by show gv (Pr (Xc m c) 9) _ = undef; rw [hp]; rfl⟩) hS hK
  | true =>
    rw [hp] at hw
    have hV : VV w c cv vv fv ea wa m 98 = .bool c.all := by show gv (Pr (Xc m c) 9) _ = _; rw [hp]; rfl
    rw [hV] at hK
    replace s1 : a.tmps[110]? = some (.pointer (some ⟨w.heap.size, 17, none⟩)) := s1.trans (by show some (gv (Pr (Xc m c) 9) _) = _; rw [hp]; rfl)
    refine run_quiet eo (Or.inl ⟨hw, fun W' hW' => ?_⟩) hS hK
    exact ex_load (x := .tmp 110) (t := 4) (by kernel_rfl) (eval_tmp s1) (ld4 W' _ 17 _ (hW'.1 17 _ rfl))

set_option maxRecDepth 100000 in
theorem ob_99 {w : World} {c : Cm} {cv vv fv ea wa : Value} {m : Int} {a0 : Act} {Q : Exit → Act → World → Prop} (h1 : a0.tmps[1]? = some (.pointer (some ⟨w.heap.size, 0, none⟩))) : Ob w c cv vv fv ea wa m a0 Q 99 := by
  intro o listed a W ho hd hl hS K hK
  have eo : rops[99]? = some (opAt 99) := by kernel_rfl
  obtain rfl : o = opAt 99 := Option.some.inj (ho.symm.trans eo)
  have sg := hd.slot hl 95 108 (by kernel_rfl) (by kernel_rfl) (by kernel_rfl)
  have hw := wanted_some (o := opAt 99) (ops := rops) (g := 95) (b := true) (c := (Pr (Xc m c) 9)) (by kernel_rfl) (by kernel_rfl) sg
  cases hp : (Pr (Xc m c) 9) with
  | false =>
    rw [hp] at hw
    exact run_quiet eo (Or.inr ⟨hw, by show gv (Pr (Xc m c) 9) _ = undef; rw [hp]; rfl⟩) hS hK
  | true =>
    rw [hp] at hw
    have hV : VV w c cv vv fv ea wa m 99 = .pointer (some ⟨w.heap.size, 18, none⟩) := by show gv (Pr (Xc m c) 9) _ = _; rw [hp]; rfl
    rw [hV] at hK
    refine run_quiet eo (Or.inl ⟨hw, fun W' hW' => ?_⟩) hS hK
    exact ex_field (x := .tmp 1) (t := 31) (f := 11) (by kernel_rfl) (eval_tmp ((hd.base 1 (by kernel_rfl)).trans h1)) (fa11 W' _)

set_option maxRecDepth 100000 in
theorem ob_100 {w : World} {c : Cm} {cv vv fv ea wa : Value} {m : Int} {a0 : Act} {Q : Exit → Act → World → Prop} : Ob w c cv vv fv ea wa m a0 Q 100 := by
  intro o listed a W ho hd hl hS K hK
  have eo : rops[100]? = some (opAt 100) := by kernel_rfl
  obtain rfl : o = opAt 100 := Option.some.inj (ho.symm.trans eo)
  have sg := hd.slot hl 95 108 (by kernel_rfl) (by kernel_rfl) (by kernel_rfl)
  have hw := wanted_some (o := opAt 100) (ops := rops) (g := 95) (b := true) (c := (Pr (Xc m c) 9)) (by kernel_rfl) (by kernel_rfl) sg
  have s1 := hd.slot hl 99 112 (by kernel_rfl) (by kernel_rfl) (by kernel_rfl)
  cases hp : (Pr (Xc m c) 9) with
  | false =>
    rw [hp] at hw
    exact run_quiet eo (Or.inr ⟨hw, by show gv (Pr (Xc m c) 9) _ = undef; rw [hp]; rfl⟩) hS hK
  | true =>
    rw [hp] at hw
    have hV : VV w c cv vv fv ea wa m 100 = .agg #[.int .i64 c.wh.k, .int .i64 c.wh.v.k, .int .i64 c.wh.v.n, .string ⟨c.wh.v.s.toArray⟩, .string ⟨c.wh.nm.toArray⟩, wa] := by show gv (Pr (Xc m c) 9) _ = _; rw [hp]; rfl
    rw [hV] at hK
    replace s1 : a.tmps[112]? = some (.pointer (some ⟨w.heap.size, 18, none⟩)) := s1.trans (by show some (gv (Pr (Xc m c) 9) _) = _; rw [hp]; rfl)
    refine run_quiet eo (Or.inl ⟨hw, fun W' hW' => ?_⟩) hS hK
    exact ex_load (x := .tmp 112) (t := 29) (by kernel_rfl) (eval_tmp s1) (ld29 W' _ 18 _ _ _ _ _ _ (hW'.1 18 _ rfl) (hW'.1 19 _ rfl) (hW'.1 20 _ rfl) (hW'.1 21 _ rfl) (hW'.1 22 _ rfl) (hW'.1 23 _ rfl))

set_option maxRecDepth 100000 in
theorem ob_101 {w : World} {c : Cm} {cv vv fv ea wa : Value} {m : Int} {a0 : Act} {Q : Exit → Act → World → Prop} (hc : Cals w c cv vv fv ea wa m) : Ob w c cv vv fv ea wa m a0 Q 101 := by
  intro o listed a W ho hd hl hS K hK
  have eo : rops[101]? = some (opAt 101) := by kernel_rfl
  obtain rfl : o = opAt 101 := Option.some.inj (ho.symm.trans eo)
  have sg := hd.slot hl 95 108 (by kernel_rfl) (by kernel_rfl) (by kernel_rfl)
  have hw := wanted_some (o := opAt 101) (ops := rops) (g := 95) (b := true) (c := (Pr (Xc m c) 9)) (by kernel_rfl) (by kernel_rfl) sg
  have s1 := hd.slot hl 98 111 (by kernel_rfl) (by kernel_rfl) (by kernel_rfl)
  have s2 := hd.slot hl 100 113 (by kernel_rfl) (by kernel_rfl) (by kernel_rfl)
  cases hp : (Pr (Xc m c) 9) with
  | false =>
    rw [hp] at hw
    exact run_quiet eo (Or.inr ⟨hw, by show gv (Pr (Xc m c) 9) _ = undef; rw [hp]; rfl⟩) hS hK
  | true =>
    rw [hp] at hw
    have hV : VV w c cv vv fv ea wa m 101 = .bool (whereB c.all c.wh) := by show gv (Pr (Xc m c) 9) _ = _; rw [hp]; rfl
    rw [hV] at hK
    replace s1 : a.tmps[111]? = some (.bool c.all) := s1.trans (by show some (gv (Pr (Xc m c) 9) _) = _; rw [hp]; rfl)
    replace s2 : a.tmps[113]? = some (.agg #[.int .i64 c.wh.k, .int .i64 c.wh.v.k, .int .i64 c.wh.v.n, .string ⟨c.wh.v.s.toArray⟩, .string ⟨c.wh.nm.toArray⟩, wa]) := s2.trans (by show some (gv (Pr (Xc m c) 9) _) = _; rw [hp]; rfl)
    exact run_call 80 #[.bool c.all, .agg #[.int .i64 c.wh.k, .int .i64 c.wh.v.k, .int .i64 c.wh.v.n, .string ⟨c.wh.v.s.toArray⟩, .string ⟨c.wh.nm.toArray⟩, wa]] eo hw (ex_call2 (ts := #[4, 29]) (x := .tmp 111) (y := .tmp 113) (f := 80) cf80 (by kernel_rfl) rfl (eval_tmp s1) (eval_tmp s2)) ((hc.q10 W hS).mono fun e w' h => ⟨h.1, hS.below h.2⟩) hK

set_option maxRecDepth 100000 in
theorem ob_102 {w : World} {c : Cm} {cv vv fv ea wa : Value} {m : Int} {a0 : Act} {Q : Exit → Act → World → Prop} (h1 : a0.tmps[1]? = some (.pointer (some ⟨w.heap.size, 0, none⟩))) : Ob w c cv vv fv ea wa m a0 Q 102 := by
  intro o listed a W ho hd hl hS K hK
  have eo : rops[102]? = some (opAt 102) := by kernel_rfl
  obtain rfl : o = opAt 102 := Option.some.inj (ho.symm.trans eo)
  have sg := hd.slot hl 95 108 (by kernel_rfl) (by kernel_rfl) (by kernel_rfl)
  have hw := wanted_some (o := opAt 102) (ops := rops) (g := 95) (b := true) (c := (Pr (Xc m c) 9)) (by kernel_rfl) (by kernel_rfl) sg
  cases hp : (Pr (Xc m c) 9) with
  | false =>
    rw [hp] at hw
    exact run_quiet eo (Or.inr ⟨hw, by show gv (Pr (Xc m c) 9) _ = undef; rw [hp]; rfl⟩) hS hK
  | true =>
    rw [hp] at hw
    have hV : VV w c cv vv fv ea wa m 102 = .pointer (some ⟨w.heap.size, 17, none⟩) := by show gv (Pr (Xc m c) 9) _ = _; rw [hp]; rfl
    rw [hV] at hK
    refine run_quiet eo (Or.inl ⟨hw, fun W' hW' => ?_⟩) hS hK
    exact ex_field (x := .tmp 1) (t := 31) (f := 10) (by kernel_rfl) (eval_tmp ((hd.base 1 (by kernel_rfl)).trans h1)) (fa10 W' _)

set_option maxRecDepth 100000 in
theorem ob_103 {w : World} {c : Cm} {cv vv fv ea wa : Value} {m : Int} {a0 : Act} {Q : Exit → Act → World → Prop} : Ob w c cv vv fv ea wa m a0 Q 103 := by
  intro o listed a W ho hd hl hS K hK
  have eo : rops[103]? = some (opAt 103) := by kernel_rfl
  obtain rfl : o = opAt 103 := Option.some.inj (ho.symm.trans eo)
  have sg := hd.slot hl 95 108 (by kernel_rfl) (by kernel_rfl) (by kernel_rfl)
  have hw := wanted_some (o := opAt 103) (ops := rops) (g := 95) (b := true) (c := (Pr (Xc m c) 9)) (by kernel_rfl) (by kernel_rfl) sg
  have s1 := hd.slot hl 102 115 (by kernel_rfl) (by kernel_rfl) (by kernel_rfl)
  cases hp : (Pr (Xc m c) 9) with
  | false =>
    rw [hp] at hw
    exact run_quiet eo (Or.inr ⟨hw, by show gv (Pr (Xc m c) 9) _ = undef; rw [hp]; rfl⟩) hS hK
  | true =>
    rw [hp] at hw
    have hV : VV w c cv vv fv ea wa m 103 = .bool c.all := by show gv (Pr (Xc m c) 9) _ = _; rw [hp]; rfl
    rw [hV] at hK
    replace s1 : a.tmps[115]? = some (.pointer (some ⟨w.heap.size, 17, none⟩)) := s1.trans (by show some (gv (Pr (Xc m c) 9) _) = _; rw [hp]; rfl)
    refine run_quiet eo (Or.inl ⟨hw, fun W' hW' => ?_⟩) hS hK
    exact ex_load (x := .tmp 115) (t := 4) (by kernel_rfl) (eval_tmp s1) (ld4 W' _ 17 _ (hW'.1 17 _ rfl))

set_option maxRecDepth 100000 in
theorem ob_104 {w : World} {c : Cm} {cv vv fv ea wa : Value} {m : Int} {a0 : Act} {Q : Exit → Act → World → Prop} : Ob w c cv vv fv ea wa m a0 Q 104 := by
  intro o listed a W ho hd hl hS K hK
  have eo : rops[104]? = some (opAt 104) := by kernel_rfl
  obtain rfl : o = opAt 104 := Option.some.inj (ho.symm.trans eo)
  have sg := hd.slot hl 95 108 (by kernel_rfl) (by kernel_rfl) (by kernel_rfl)
  have hw := wanted_some (o := opAt 104) (ops := rops) (g := 95) (b := true) (c := (Pr (Xc m c) 9)) (by kernel_rfl) (by kernel_rfl) sg
  have s1 := hd.slot hl 103 116 (by kernel_rfl) (by kernel_rfl) (by kernel_rfl)
  cases hp : (Pr (Xc m c) 9) with
  | false =>
    rw [hp] at hw
    exact run_quiet eo (Or.inr ⟨hw, by show gv (Pr (Xc m c) 9) _ = undef; rw [hp]; rfl⟩) hS hK
  | true =>
    rw [hp] at hw
    have hV : VV w c cv vv fv ea wa m 104 = .bool (!c.all) := by show gv (Pr (Xc m c) 9) _ = _; rw [hp]; rfl
    rw [hV] at hK
    replace s1 : a.tmps[116]? = some (.bool c.all) := s1.trans (by show some (gv (Pr (Xc m c) 9) _) = _; rw [hp]; rfl)
    refine run_quiet eo (Or.inl ⟨hw, fun W' hW' => ?_⟩) hS hK
    exact ex_un (x := .tmp 116) (t := 4) (op := .not) (by kernel_rfl) (eval_tmp s1) (not4 W' _)

set_option maxRecDepth 100000 in
theorem ob_105 {w : World} {c : Cm} {cv vv fv ea wa : Value} {m : Int} {a0 : Act} {Q : Exit → Act → World → Prop} : Ob w c cv vv fv ea wa m a0 Q 105 := by
  intro o listed a W ho hd hl hS K hK
  have eo : rops[105]? = some (opAt 105) := by kernel_rfl
  obtain rfl : o = opAt 105 := Option.some.inj (ho.symm.trans eo)
  have sg := hd.slot hl 95 108 (by kernel_rfl) (by kernel_rfl) (by kernel_rfl)
  have hw := wanted_some (o := opAt 105) (ops := rops) (g := 95) (b := true) (c := (Pr (Xc m c) 9)) (by kernel_rfl) (by kernel_rfl) sg
  have s1 := hd.slot hl 104 117 (by kernel_rfl) (by kernel_rfl) (by kernel_rfl)
  cases hp : (Pr (Xc m c) 9) with
  | false =>
    rw [hp] at hw
    exact run_quiet eo (Or.inr ⟨hw, by show gv (Pr (Xc m c) 9) _ = undef; rw [hp]; rfl⟩) hS hK
  | true =>
    rw [hp] at hw
    have hV : VV w c cv vv fv ea wa m 105 = .bool (!c.all) := by show gv (Pr (Xc m c) 9) _ = _; rw [hp]; rfl
    rw [hV] at hK
    replace s1 : a.tmps[117]? = some (.bool (!c.all)) := s1.trans (by show some (gv (Pr (Xc m c) 9) _) = _; rw [hp]; rfl)
    refine run_quiet eo (Or.inl ⟨hw, fun W' hW' => ?_⟩) hS hK
    exact ex_move (x := .tmp 117) (by kernel_rfl) (eval_tmp s1)

set_option maxRecDepth 100000 in
theorem ob_106 {w : World} {c : Cm} {cv vv fv ea wa : Value} {m : Int} {a0 : Act} {Q : Exit → Act → World → Prop} (h1 : a0.tmps[1]? = some (.pointer (some ⟨w.heap.size, 0, none⟩))) : Ob w c cv vv fv ea wa m a0 Q 106 := by
  intro o listed a W ho hd hl hS K hK
  have eo : rops[106]? = some (opAt 106) := by kernel_rfl
  obtain rfl : o = opAt 106 := Option.some.inj (ho.symm.trans eo)
  have sg := hd.slot hl 105 118 (by kernel_rfl) (by kernel_rfl) (by kernel_rfl)
  cases hp : (Pr (Xc m c) 9) with
  | false =>
    have hw := wanted_undef (o := opAt 106) (ops := rops) (g := 105) (b := true) (by kernel_rfl) (by kernel_rfl) (sg.trans (by show some (gv (Pr (Xc m c) 9) _) = _; rw [hp]; rfl))
    exact run_quiet eo (Or.inr ⟨hw, by show gv ((Pr (Xc m c) 9) && (!c.all)) _ = undef; rw [hp]; rfl⟩) hS hK
  | true =>
    have hw := wanted_some (o := opAt 106) (ops := rops) (g := 105) (b := true) (c := (!c.all)) (by kernel_rfl) (by kernel_rfl) (sg.trans (by show some (gv (Pr (Xc m c) 9) _) = _; rw [hp]; rfl))
    by_cases hj : (!c.all) = true
    case neg =>
      have hj' : (!c.all) = false := by simpa using hj
      rw [hj'] at hw
      exact run_quiet eo (Or.inr ⟨hw, by show gv ((Pr (Xc m c) 9) && (!c.all)) _ = undef; rw [hp, hj']; rfl⟩) hS hK
    case pos =>
    rw [hj] at hw
    have hV : VV w c cv vv fv ea wa m 106 = .pointer (some ⟨w.heap.size, 18, none⟩) := by show gv ((Pr (Xc m c) 9) && (!c.all)) _ = _; rw [hp, hj]; rfl
    rw [hV] at hK
    refine run_quiet eo (Or.inl ⟨hw, fun W' hW' => ?_⟩) hS hK
    exact ex_field (x := .tmp 1) (t := 31) (f := 11) (by kernel_rfl) (eval_tmp ((hd.base 1 (by kernel_rfl)).trans h1)) (fa11 W' _)

set_option maxRecDepth 100000 in
theorem ob_107 {w : World} {c : Cm} {cv vv fv ea wa : Value} {m : Int} {a0 : Act} {Q : Exit → Act → World → Prop} : Ob w c cv vv fv ea wa m a0 Q 107 := by
  intro o listed a W ho hd hl hS K hK
  have eo : rops[107]? = some (opAt 107) := by kernel_rfl
  obtain rfl : o = opAt 107 := Option.some.inj (ho.symm.trans eo)
  have sg := hd.slot hl 105 118 (by kernel_rfl) (by kernel_rfl) (by kernel_rfl)
  have s1 := hd.slot hl 106 119 (by kernel_rfl) (by kernel_rfl) (by kernel_rfl)
  cases hp : (Pr (Xc m c) 9) with
  | false =>
    have hw := wanted_undef (o := opAt 107) (ops := rops) (g := 105) (b := true) (by kernel_rfl) (by kernel_rfl) (sg.trans (by show some (gv (Pr (Xc m c) 9) _) = _; rw [hp]; rfl))
    exact run_quiet eo (Or.inr ⟨hw, by show gv ((Pr (Xc m c) 9) && (!c.all)) _ = undef; rw [hp]; rfl⟩) hS hK
  | true =>
    have hw := wanted_some (o := opAt 107) (ops := rops) (g := 105) (b := true) (c := (!c.all)) (by kernel_rfl) (by kernel_rfl) (sg.trans (by show some (gv (Pr (Xc m c) 9) _) = _; rw [hp]; rfl))
    by_cases hj : (!c.all) = true
    case neg =>
      have hj' : (!c.all) = false := by simpa using hj
      rw [hj'] at hw
      exact run_quiet eo (Or.inr ⟨hw, by show gv ((Pr (Xc m c) 9) && (!c.all)) _ = undef; rw [hp, hj']; rfl⟩) hS hK
    case pos =>
    rw [hj] at hw
    have hV : VV w c cv vv fv ea wa m 107 = .agg #[.int .i64 c.wh.k, .int .i64 c.wh.v.k, .int .i64 c.wh.v.n, .string ⟨c.wh.v.s.toArray⟩, .string ⟨c.wh.nm.toArray⟩, wa] := by show gv ((Pr (Xc m c) 9) && (!c.all)) _ = _; rw [hp, hj]; rfl
    rw [hV] at hK
    replace s1 : a.tmps[119]? = some (.pointer (some ⟨w.heap.size, 18, none⟩)) := s1.trans (by show some (gv ((Pr (Xc m c) 9) && (!c.all)) _) = _; rw [hp, hj]; rfl)
    refine run_quiet eo (Or.inl ⟨hw, fun W' hW' => ?_⟩) hS hK
    exact ex_load (x := .tmp 119) (t := 29) (by kernel_rfl) (eval_tmp s1) (ld29 W' _ 18 _ _ _ _ _ _ (hW'.1 18 _ rfl) (hW'.1 19 _ rfl) (hW'.1 20 _ rfl) (hW'.1 21 _ rfl) (hW'.1 22 _ rfl) (hW'.1 23 _ rfl))

set_option maxRecDepth 100000 in
theorem ob_108 {w : World} {c : Cm} {cv vv fv ea wa : Value} {m : Int} {a0 : Act} {Q : Exit → Act → World → Prop} (hc : Cals w c cv vv fv ea wa m) : Ob w c cv vv fv ea wa m a0 Q 108 := by
  intro o listed a W ho hd hl hS K hK
  have eo : rops[108]? = some (opAt 108) := by kernel_rfl
  obtain rfl : o = opAt 108 := Option.some.inj (ho.symm.trans eo)
  have sg := hd.slot hl 105 118 (by kernel_rfl) (by kernel_rfl) (by kernel_rfl)
  have s1 := hd.slot hl 107 120 (by kernel_rfl) (by kernel_rfl) (by kernel_rfl)
  cases hp : (Pr (Xc m c) 9) with
  | false =>
    have hw := wanted_undef (o := opAt 108) (ops := rops) (g := 105) (b := true) (by kernel_rfl) (by kernel_rfl) (sg.trans (by show some (gv (Pr (Xc m c) 9) _) = _; rw [hp]; rfl))
    exact run_quiet eo (Or.inr ⟨hw, by show gv ((Pr (Xc m c) 9) && (!c.all)) _ = undef; rw [hp]; rfl⟩) hS hK
  | true =>
    have hw := wanted_some (o := opAt 108) (ops := rops) (g := 105) (b := true) (c := (!c.all)) (by kernel_rfl) (by kernel_rfl) (sg.trans (by show some (gv (Pr (Xc m c) 9) _) = _; rw [hp]; rfl))
    by_cases hj : (!c.all) = true
    case neg =>
      have hj' : (!c.all) = false := by simpa using hj
      rw [hj'] at hw
      exact run_quiet eo (Or.inr ⟨hw, by show gv ((Pr (Xc m c) 9) && (!c.all)) _ = undef; rw [hp, hj']; rfl⟩) hS hK
    case pos =>
    rw [hj] at hw
    have hV : VV w c cv vv fv ea wa m 108 = .bool (noneE c.wh) := by show gv ((Pr (Xc m c) 9) && (!c.all)) _ = _; rw [hp, hj]; rfl
    rw [hV] at hK
    replace s1 : a.tmps[120]? = some (.agg #[.int .i64 c.wh.k, .int .i64 c.wh.v.k, .int .i64 c.wh.v.n, .string ⟨c.wh.v.s.toArray⟩, .string ⟨c.wh.nm.toArray⟩, wa]) := s1.trans (by show some (gv ((Pr (Xc m c) 9) && (!c.all)) _) = _; rw [hp, hj]; rfl)
    exact run_call 79 #[.agg #[.int .i64 c.wh.k, .int .i64 c.wh.v.k, .int .i64 c.wh.v.n, .string ⟨c.wh.v.s.toArray⟩, .string ⟨c.wh.nm.toArray⟩, wa]] eo hw (ex_call1 (ts := #[29]) (x := .tmp 120) (f := 79) cf79 (by kernel_rfl) rfl (eval_tmp s1)) ((hc.n10 W hS).mono fun e w' h => ⟨h.1, hS.below h.2⟩) hK

set_option maxRecDepth 100000 in
theorem ob_109 {w : World} {c : Cm} {cv vv fv ea wa : Value} {m : Int} {a0 : Act} {Q : Exit → Act → World → Prop} : Ob w c cv vv fv ea wa m a0 Q 109 := by
  intro o listed a W ho hd hl hS K hK
  have eo : rops[109]? = some (opAt 109) := by kernel_rfl
  obtain rfl : o = opAt 109 := Option.some.inj (ho.symm.trans eo)
  have sg := hd.slot hl 95 108 (by kernel_rfl) (by kernel_rfl) (by kernel_rfl)
  have hw := wanted_some (o := opAt 109) (ops := rops) (g := 95) (b := true) (c := (Pr (Xc m c) 9)) (by kernel_rfl) (by kernel_rfl) sg
  have s1 := hd.slot hl 105 118 (by kernel_rfl) (by kernel_rfl) (by kernel_rfl)
  have s2 := hd.slot hl 108 121 (by kernel_rfl) (by kernel_rfl) (by kernel_rfl)
  cases hp : (Pr (Xc m c) 9) with
  | false =>
    rw [hp] at hw
    exact run_quiet eo (Or.inr ⟨hw, by show gv (Pr (Xc m c) 9) _ = undef; rw [hp]; rfl⟩) hS hK
  | true =>
    rw [hp] at hw
    have hV : VV w c cv vv fv ea wa m 109 = .bool (!c.all && noneE c.wh) := by show gv (Pr (Xc m c) 9) _ = _; rw [hp]; rfl
    rw [hV] at hK
    replace s1 : a.tmps[118]? = some (.bool (!c.all)) := s1.trans (by show some (gv (Pr (Xc m c) 9) _) = _; rw [hp]; rfl)
    refine run_quiet eo (Or.inl ⟨hw, fun W' hW' => ?_⟩) hS hK
    have ev : (if (!c.all) = true then a.eval (.tmp 121) else a.eval (.const (.bool false))) = .bool (!c.all && noneE c.wh) := by
      rw [eval_tmp (s2.trans (show some (gv ((Pr (Xc m c) 9) && (!c.all)) (.bool (noneE c.wh))) = some (gv (!c.all) (.bool (noneE c.wh))) by rw [hp]; rfl))]
      cases c.all <;> rfl
    rw [ex_pick (P := Tryz.prog) (ρ := a.eval) (W := W') (o := opAt 109) (c := .tmp 118) (x := .tmp 121) (y := .const (.bool false)) (b := (!c.all)) (by kernel_rfl) (eval_tmp s1), ev]

set_option maxRecDepth 100000 in
theorem ob_110 {w : World} {c : Cm} {cv vv fv ea wa : Value} {m : Int} {a0 : Act} {Q : Exit → Act → World → Prop} : Ob w c cv vv fv ea wa m a0 Q 110 := by
  intro o listed a W ho hd hl hS K hK
  have eo : rops[110]? = some (opAt 110) := by kernel_rfl
  obtain rfl : o = opAt 110 := Option.some.inj (ho.symm.trans eo)
  have sg := hd.slot hl 95 108 (by kernel_rfl) (by kernel_rfl) (by kernel_rfl)
  have hw := wanted_some (o := opAt 110) (ops := rops) (g := 95) (b := true) (c := (Pr (Xc m c) 9)) (by kernel_rfl) (by kernel_rfl) sg
  have s1 := hd.slot hl 96 109 (by kernel_rfl) (by kernel_rfl) (by kernel_rfl)
  have s2 := hd.slot hl 101 114 (by kernel_rfl) (by kernel_rfl) (by kernel_rfl)
  have s3 := hd.slot hl 109 122 (by kernel_rfl) (by kernel_rfl) (by kernel_rfl)
  cases hp : (Pr (Xc m c) 9) with
  | false =>
    rw [hp] at hw
    exact run_quiet eo (Or.inr ⟨hw, by show gv (Pr (Xc m c) 9) _ = undef; rw [hp]; rfl⟩) hS hK
  | true =>
    rw [hp] at hw
    have hV : VV w c cv vv fv ea wa m 110 = .bool ((Xc m c) 10) := by show gv (Pr (Xc m c) 9) _ = _; rw [hp]; rfl
    rw [hV] at hK
    replace s1 : a.tmps[109]? = some (.func (.func 71) #[] #[.pointer (some ⟨w.heap.size + 1, 0, none⟩)]) := s1.trans (by show some (gv (Pr (Xc m c) 9) _) = _; rw [hp]; rfl)
    replace s2 : a.tmps[114]? = some (.bool (whereB c.all c.wh)) := s2.trans (by show some (gv (Pr (Xc m c) 9) _) = _; rw [hp]; rfl)
    replace s3 : a.tmps[122]? = some (.bool (!c.all && noneE c.wh)) := s3.trans (by show some (gv (Pr (Xc m c) 9) _) = _; rw [hp]; rfl)
    refine run_call 71 #[.int .i64 512, .bool (whereB c.all c.wh), .bool (!c.all && noneE c.wh), .pointer (some ⟨w.heap.size + 1, 0, none⟩)] eo hw (ex_is (ts := #[3, 4, 4]) (t := .tmp 109) (x := .const (.int .i64 512)) (y := .tmp 114) (z := .tmp 122) (f := 71) cf71 (by kernel_rfl) (eval_tmp s1) rfl (eval_tmp s2) (eval_tmp s3)) ((is_any m 512 (whereB c.all c.wh) (!c.all && noneE c.wh) _ W hS.2.1).mono fun e w' h => ⟨h.1, h.2 ▸ hS⟩) hK

set_option maxRecDepth 100000 in
theorem ob_111 {w : World} {c : Cm} {cv vv fv ea wa : Value} {m : Int} {a0 : Act} {Q : Exit → Act → World → Prop} : Ob w c cv vv fv ea wa m a0 Q 111 := by
  intro o listed a W ho hd hl hS K hK
  have eo : rops[111]? = some (opAt 111) := by kernel_rfl
  obtain rfl : o = opAt 111 := Option.some.inj (ho.symm.trans eo)
  have s1 := hd.slot hl 95 108 (by kernel_rfl) (by kernel_rfl) (by kernel_rfl)
  have s2 := hd.slot hl 110 123 (by kernel_rfl) (by kernel_rfl) (by kernel_rfl)
  have ev : (if (Pr (Xc m c) 9) = true then a.eval (.tmp 123) else a.eval (.const (.bool false))) = .bool (Pr (Xc m c) 10) := by
    rw [eval_tmp s2]
    show (if (Pr (Xc m c) 9) = true then gv (Pr (Xc m c) 9) (.bool ((Xc m c) 10)) else .bool false) = .bool ((Pr (Xc m c) 9) && (Xc m c) 10)
    cases (Pr (Xc m c) 9) <;> rfl
  refine run_quiet eo (Or.inl ⟨wanted_none (by kernel_rfl), fun W' hW' => ?_⟩) hS hK
  rw [ex_pick (P := Tryz.prog) (ρ := a.eval) (W := W') (o := opAt 111) (c := .tmp 108) (x := .tmp 123) (y := .const (.bool false)) (b := (Pr (Xc m c) 9)) (by kernel_rfl) (eval_tmp s1), ev]; rfl

set_option maxRecDepth 100000 in
theorem ob_112 {w : World} {c : Cm} {cv vv fv ea wa : Value} {m : Int} {a0 : Act} {Q : Exit → Act → World → Prop} : Ob w c cv vv fv ea wa m a0 Q 112 := by
  intro o listed a W ho hd hl hS K hK
  have eo : rops[112]? = some (opAt 112) := by kernel_rfl
  obtain rfl : o = opAt 112 := Option.some.inj (ho.symm.trans eo)
  have s1 := hd.slot hl 111 124 (by kernel_rfl) (by kernel_rfl) (by kernel_rfl)
  refine run_quiet eo (Or.inl ⟨wanted_none (by kernel_rfl), fun W' hW' => ?_⟩) hS hK
  exact ex_move (x := .tmp 124) (by kernel_rfl) (eval_tmp s1)

set_option maxRecDepth 100000 in
theorem ob_113 {w : World} {c : Cm} {cv vv fv ea wa : Value} {m : Int} {a0 : Act} {Q : Exit → Act → World → Prop} (h5 : a0.tmps[5]? = some (.func (.func 71) #[] #[.pointer (some ⟨w.heap.size + 1, 0, none⟩)])) : Ob w c cv vv fv ea wa m a0 Q 113 := by
  intro o listed a W ho hd hl hS K hK
  have eo : rops[113]? = some (opAt 113) := by kernel_rfl
  obtain rfl : o = opAt 113 := Option.some.inj (ho.symm.trans eo)
  have sg := hd.slot hl 112 125 (by kernel_rfl) (by kernel_rfl) (by kernel_rfl)
  have hw := wanted_some (o := opAt 113) (ops := rops) (g := 112) (b := true) (c := (Pr (Xc m c) 10)) (by kernel_rfl) (by kernel_rfl) sg
  cases hp : (Pr (Xc m c) 10) with
  | false =>
    rw [hp] at hw
    exact run_quiet eo (Or.inr ⟨hw, by show gv (Pr (Xc m c) 10) _ = undef; rw [hp]; rfl⟩) hS hK
  | true =>
    rw [hp] at hw
    have hV : VV w c cv vv fv ea wa m 113 = .func (.func 71) #[] #[.pointer (some ⟨w.heap.size + 1, 0, none⟩)] := by show gv (Pr (Xc m c) 10) _ = _; rw [hp]; rfl
    rw [hV] at hK
    refine run_quiet eo (Or.inl ⟨hw, fun W' hW' => ?_⟩) hS hK
    exact ex_move (x := .tmp 5) (by kernel_rfl) (eval_tmp ((hd.base 5 (by kernel_rfl)).trans h5))

set_option maxRecDepth 100000 in
theorem ob_114 {w : World} {c : Cm} {cv vv fv ea wa : Value} {m : Int} {a0 : Act} {Q : Exit → Act → World → Prop} (h1 : a0.tmps[1]? = some (.pointer (some ⟨w.heap.size, 0, none⟩))) : Ob w c cv vv fv ea wa m a0 Q 114 := by
  intro o listed a W ho hd hl hS K hK
  have eo : rops[114]? = some (opAt 114) := by kernel_rfl
  obtain rfl : o = opAt 114 := Option.some.inj (ho.symm.trans eo)
  have sg := hd.slot hl 112 125 (by kernel_rfl) (by kernel_rfl) (by kernel_rfl)
  have hw := wanted_some (o := opAt 114) (ops := rops) (g := 112) (b := true) (c := (Pr (Xc m c) 10)) (by kernel_rfl) (by kernel_rfl) sg
  cases hp : (Pr (Xc m c) 10) with
  | false =>
    rw [hp] at hw
    exact run_quiet eo (Or.inr ⟨hw, by show gv (Pr (Xc m c) 10) _ = undef; rw [hp]; rfl⟩) hS hK
  | true =>
    rw [hp] at hw
    have hV : VV w c cv vv fv ea wa m 114 = .pointer (some ⟨w.heap.size, 24, none⟩) := by show gv (Pr (Xc m c) 10) _ = _; rw [hp]; rfl
    rw [hV] at hK
    refine run_quiet eo (Or.inl ⟨hw, fun W' hW' => ?_⟩) hS hK
    exact ex_field (x := .tmp 1) (t := 31) (f := 12) (by kernel_rfl) (eval_tmp ((hd.base 1 (by kernel_rfl)).trans h1)) (fa12 W' _)

set_option maxRecDepth 100000 in
theorem ob_115 {w : World} {c : Cm} {cv vv fv ea wa : Value} {m : Int} {a0 : Act} {Q : Exit → Act → World → Prop} : Ob w c cv vv fv ea wa m a0 Q 115 := by
  intro o listed a W ho hd hl hS K hK
  have eo : rops[115]? = some (opAt 115) := by kernel_rfl
  obtain rfl : o = opAt 115 := Option.some.inj (ho.symm.trans eo)
  have sg := hd.slot hl 112 125 (by kernel_rfl) (by kernel_rfl) (by kernel_rfl)
  have hw := wanted_some (o := opAt 115) (ops := rops) (g := 112) (b := true) (c := (Pr (Xc m c) 10)) (by kernel_rfl) (by kernel_rfl) sg
  have s1 := hd.slot hl 114 127 (by kernel_rfl) (by kernel_rfl) (by kernel_rfl)
  cases hp : (Pr (Xc m c) 10) with
  | false =>
    rw [hp] at hw
    exact run_quiet eo (Or.inr ⟨hw, by show gv (Pr (Xc m c) 10) _ = undef; rw [hp]; rfl⟩) hS hK
  | true =>
    rw [hp] at hw
    have hV : VV w c cv vv fv ea wa m 115 = .string ⟨c.order.toArray⟩ := by show gv (Pr (Xc m c) 10) _ = _; rw [hp]; rfl
    rw [hV] at hK
    replace s1 : a.tmps[127]? = some (.pointer (some ⟨w.heap.size, 24, none⟩)) := s1.trans (by show some (gv (Pr (Xc m c) 10) _) = _; rw [hp]; rfl)
    refine run_quiet eo (Or.inl ⟨hw, fun W' hW' => ?_⟩) hS hK
    exact ex_load (x := .tmp 127) (t := 9) (by kernel_rfl) (eval_tmp s1) (ld9 W' _ 24 _ (hW'.1 24 _ rfl))

set_option maxRecDepth 100000 in
theorem ob_116 {w : World} {c : Cm} {cv vv fv ea wa : Value} {m : Int} {a0 : Act} {Q : Exit → Act → World → Prop} : Ob w c cv vv fv ea wa m a0 Q 116 := by
  intro o listed a W ho hd hl hS K hK
  have eo : rops[116]? = some (opAt 116) := by kernel_rfl
  obtain rfl : o = opAt 116 := Option.some.inj (ho.symm.trans eo)
  have sg := hd.slot hl 112 125 (by kernel_rfl) (by kernel_rfl) (by kernel_rfl)
  have hw := wanted_some (o := opAt 116) (ops := rops) (g := 112) (b := true) (c := (Pr (Xc m c) 10)) (by kernel_rfl) (by kernel_rfl) sg
  have s1 := hd.slot hl 115 128 (by kernel_rfl) (by kernel_rfl) (by kernel_rfl)
  cases hp : (Pr (Xc m c) 10) with
  | false =>
    rw [hp] at hw
    exact run_quiet eo (Or.inr ⟨hw, by show gv (Pr (Xc m c) 10) _ = undef; rw [hp]; rfl⟩) hS hK
  | true =>
    rw [hp] at hw
    have hV : VV w c cv vv fv ea wa m 116 = .bool (decide (c.order = [])) := by show gv (Pr (Xc m c) 10) _ = _; rw [hp]; rfl
    rw [hV] at hK
    replace s1 : a.tmps[128]? = some (.string ⟨c.order.toArray⟩) := s1.trans (by show some (gv (Pr (Xc m c) 10) _) = _; rw [hp]; rfl)
    refine run_quiet eo (Or.inl ⟨hw, fun W' hW' => ?_⟩) hS hK
    exact ex_bin (u := 9) (x := .tmp 128) (y := .const (.string ⟨#[]⟩)) (by kernel_rfl) (eval_tmp s1) rfl (eq9 W' _ _ _)

set_option maxRecDepth 100000 in
theorem ob_117 {w : World} {c : Cm} {cv vv fv ea wa : Value} {m : Int} {a0 : Act} {Q : Exit → Act → World → Prop} : Ob w c cv vv fv ea wa m a0 Q 117 := by
  intro o listed a W ho hd hl hS K hK
  have eo : rops[117]? = some (opAt 117) := by kernel_rfl
  obtain rfl : o = opAt 117 := Option.some.inj (ho.symm.trans eo)
  have sg := hd.slot hl 112 125 (by kernel_rfl) (by kernel_rfl) (by kernel_rfl)
  have hw := wanted_some (o := opAt 117) (ops := rops) (g := 112) (b := true) (c := (Pr (Xc m c) 10)) (by kernel_rfl) (by kernel_rfl) sg
  have s1 := hd.slot hl 116 129 (by kernel_rfl) (by kernel_rfl) (by kernel_rfl)
  cases hp : (Pr (Xc m c) 10) with
  | false =>
    rw [hp] at hw
    exact run_quiet eo (Or.inr ⟨hw, by show gv (Pr (Xc m c) 10) _ = undef; rw [hp]; rfl⟩) hS hK
  | true =>
    rw [hp] at hw
    have hV : VV w c cv vv fv ea wa m 117 = .bool (decide (c.order = [])) := by show gv (Pr (Xc m c) 10) _ = _; rw [hp]; rfl
    rw [hV] at hK
    replace s1 : a.tmps[129]? = some (.bool (decide (c.order = []))) := s1.trans (by show some (gv (Pr (Xc m c) 10) _) = _; rw [hp]; rfl)
    refine run_quiet eo (Or.inl ⟨hw, fun W' hW' => ?_⟩) hS hK
    exact ex_move (x := .tmp 129) (by kernel_rfl) (eval_tmp s1)

set_option maxRecDepth 100000 in
theorem ob_118 {w : World} {c : Cm} {cv vv fv ea wa : Value} {m : Int} {a0 : Act} {Q : Exit → Act → World → Prop} (h1 : a0.tmps[1]? = some (.pointer (some ⟨w.heap.size, 0, none⟩))) : Ob w c cv vv fv ea wa m a0 Q 118 := by
  intro o listed a W ho hd hl hS K hK
  have eo : rops[118]? = some (opAt 118) := by kernel_rfl
  obtain rfl : o = opAt 118 := Option.some.inj (ho.symm.trans eo)
  have sg := hd.slot hl 117 130 (by kernel_rfl) (by kernel_rfl) (by kernel_rfl)
  cases hp : (Pr (Xc m c) 10) with
  | false =>
    have hw := wanted_undef (o := opAt 118) (ops := rops) (g := 117) (b := false) (by kernel_rfl) (by kernel_rfl) (sg.trans (by show some (gv (Pr (Xc m c) 10) _) = _; rw [hp]; rfl))
    exact run_quiet eo (Or.inr ⟨hw, by show gv ((Pr (Xc m c) 10) && (!(decide (c.order = [])))) _ = undef; rw [hp]; rfl⟩) hS hK
  | true =>
    have hw := wanted_some (o := opAt 118) (ops := rops) (g := 117) (b := false) (c := (decide (c.order = []))) (by kernel_rfl) (by kernel_rfl) (sg.trans (by show some (gv (Pr (Xc m c) 10) _) = _; rw [hp]; rfl))
    by_cases hj : (decide (c.order = [])) = false
    case neg =>
      have hj' : (decide (c.order = [])) = true := by simpa using hj
      rw [hj'] at hw
      exact run_quiet eo (Or.inr ⟨hw, by show gv ((Pr (Xc m c) 10) && (!(decide (c.order = [])))) _ = undef; rw [hp, hj']; rfl⟩) hS hK
    case pos =>
    rw [hj] at hw
    have hV : VV w c cv vv fv ea wa m 118 = .pointer (some ⟨w.heap.size, 24, none⟩) := by show gv ((Pr (Xc m c) 10) && (!(decide (c.order = [])))) _ = _; rw [hp, hj]; rfl
    rw [hV] at hK
    refine run_quiet eo (Or.inl ⟨hw, fun W' hW' => ?_⟩) hS hK
    exact ex_field (x := .tmp 1) (t := 31) (f := 12) (by kernel_rfl) (eval_tmp ((hd.base 1 (by kernel_rfl)).trans h1)) (fa12 W' _)

set_option maxRecDepth 100000 in
theorem ob_119 {w : World} {c : Cm} {cv vv fv ea wa : Value} {m : Int} {a0 : Act} {Q : Exit → Act → World → Prop} : Ob w c cv vv fv ea wa m a0 Q 119 := by
  intro o listed a W ho hd hl hS K hK
  have eo : rops[119]? = some (opAt 119) := by kernel_rfl
  obtain rfl : o = opAt 119 := Option.some.inj (ho.symm.trans eo)
  have sg := hd.slot hl 117 130 (by kernel_rfl) (by kernel_rfl) (by kernel_rfl)
  have s1 := hd.slot hl 118 131 (by kernel_rfl) (by kernel_rfl) (by kernel_rfl)
  cases hp : (Pr (Xc m c) 10) with
  | false =>
    have hw := wanted_undef (o := opAt 119) (ops := rops) (g := 117) (b := false) (by kernel_rfl) (by kernel_rfl) (sg.trans (by show some (gv (Pr (Xc m c) 10) _) = _; rw [hp]; rfl))
    exact run_quiet eo (Or.inr ⟨hw, by show gv ((Pr (Xc m c) 10) && (!(decide (c.order = [])))) _ = undef; rw [hp]; rfl⟩) hS hK
  | true =>
    have hw := wanted_some (o := opAt 119) (ops := rops) (g := 117) (b := false) (c := (decide (c.order = []))) (by kernel_rfl) (by kernel_rfl) (sg.trans (by show some (gv (Pr (Xc m c) 10) _) = _; rw [hp]; rfl))
    by_cases hj : (decide (c.order = [])) = false
    case neg =>
      have hj' : (decide (c.order = [])) = true := by simpa using hj
      rw [hj'] at hw
      exact run_quiet eo (Or.inr ⟨hw, by show gv ((Pr (Xc m c) 10) && (!(decide (c.order = [])))) _ = undef; rw [hp, hj']; rfl⟩) hS hK
    case pos =>
    rw [hj] at hw
    have hV : VV w c cv vv fv ea wa m 119 = .string ⟨c.order.toArray⟩ := by show gv ((Pr (Xc m c) 10) && (!(decide (c.order = [])))) _ = _; rw [hp, hj]; rfl
    rw [hV] at hK
    replace s1 : a.tmps[131]? = some (.pointer (some ⟨w.heap.size, 24, none⟩)) := s1.trans (by show some (gv ((Pr (Xc m c) 10) && (!(decide (c.order = [])))) _) = _; rw [hp, hj]; rfl)
    refine run_quiet eo (Or.inl ⟨hw, fun W' hW' => ?_⟩) hS hK
    exact ex_load (x := .tmp 131) (t := 9) (by kernel_rfl) (eval_tmp s1) (ld9 W' _ 24 _ (hW'.1 24 _ rfl))

set_option maxRecDepth 100000 in
theorem ob_120 {w : World} {c : Cm} {cv vv fv ea wa : Value} {m : Int} {a0 : Act} {Q : Exit → Act → World → Prop} (hc : Cals w c cv vv fv ea wa m) : Ob w c cv vv fv ea wa m a0 Q 120 := by
  intro o listed a W ho hd hl hS K hK
  have eo : rops[120]? = some (opAt 120) := by kernel_rfl
  obtain rfl : o = opAt 120 := Option.some.inj (ho.symm.trans eo)
  have sg := hd.slot hl 117 130 (by kernel_rfl) (by kernel_rfl) (by kernel_rfl)
  have s1 := hd.slot hl 119 132 (by kernel_rfl) (by kernel_rfl) (by kernel_rfl)
  cases hp : (Pr (Xc m c) 10) with
  | false =>
    have hw := wanted_undef (o := opAt 120) (ops := rops) (g := 117) (b := false) (by kernel_rfl) (by kernel_rfl) (sg.trans (by show some (gv (Pr (Xc m c) 10) _) = _; rw [hp]; rfl))
    exact run_quiet eo (Or.inr ⟨hw, by show gv ((Pr (Xc m c) 10) && (!(decide (c.order = [])))) _ = undef; rw [hp]; rfl⟩) hS hK
  | true =>
    have hw := wanted_some (o := opAt 120) (ops := rops) (g := 117) (b := false) (c := (decide (c.order = []))) (by kernel_rfl) (by kernel_rfl) (sg.trans (by show some (gv (Pr (Xc m c) 10) _) = _; rw [hp]; rfl))
    by_cases hj : (decide (c.order = [])) = false
    case neg =>
      have hj' : (decide (c.order = [])) = true := by simpa using hj
      rw [hj'] at hw
      exact run_quiet eo (Or.inr ⟨hw, by show gv ((Pr (Xc m c) 10) && (!(decide (c.order = [])))) _ = undef; rw [hp, hj']; rfl⟩) hS hK
    case pos =>
    rw [hj] at hw
    have hV : VV w c cv vv fv ea wa m 120 = .bool (nameW c.order) := by show gv ((Pr (Xc m c) 10) && (!(decide (c.order = [])))) _ = _; rw [hp, hj]; rfl
    rw [hV] at hK
    replace s1 : a.tmps[132]? = some (.string ⟨c.order.toArray⟩) := s1.trans (by show some (gv ((Pr (Xc m c) 10) && (!(decide (c.order = [])))) _) = _; rw [hp, hj]; rfl)
    exact run_call 72 #[.string ⟨c.order.toArray⟩] eo hw (ex_call1 (ts := #[9]) (x := .tmp 132) (f := 72) cf72 (by kernel_rfl) rfl (eval_tmp s1)) ((hc.q11 W hS).mono fun e w' h => ⟨h.1, hS.below h.2⟩) hK

set_option maxRecDepth 100000 in
theorem ob_121 {w : World} {c : Cm} {cv vv fv ea wa : Value} {m : Int} {a0 : Act} {Q : Exit → Act → World → Prop} : Ob w c cv vv fv ea wa m a0 Q 121 := by
  intro o listed a W ho hd hl hS K hK
  have eo : rops[121]? = some (opAt 121) := by kernel_rfl
  obtain rfl : o = opAt 121 := Option.some.inj (ho.symm.trans eo)
  have sg := hd.slot hl 112 125 (by kernel_rfl) (by kernel_rfl) (by kernel_rfl)
  have hw := wanted_some (o := opAt 121) (ops := rops) (g := 112) (b := true) (c := (Pr (Xc m c) 10)) (by kernel_rfl) (by kernel_rfl) sg
  have s1 := hd.slot hl 117 130 (by kernel_rfl) (by kernel_rfl) (by kernel_rfl)
  have s2 := hd.slot hl 120 133 (by kernel_rfl) (by kernel_rfl) (by kernel_rfl)
  cases hp : (Pr (Xc m c) 10) with
  | false =>
    rw [hp] at hw
    exact run_quiet eo (Or.inr ⟨hw, by show gv (Pr (Xc m c) 10) _ = undef; rw [hp]; rfl⟩) hS hK
  | true =>
    rw [hp] at hw
    have hV : VV w c cv vv fv ea wa m 121 = .bool (decide (c.order = []) || nameW c.order) := by show gv (Pr (Xc m c) 10) _ = _; rw [hp]; rfl
    rw [hV] at hK
    replace s1 : a.tmps[130]? = some (.bool (decide (c.order = []))) := s1.trans (by show some (gv (Pr (Xc m c) 10) _) = _; rw [hp]; rfl)
    refine run_quiet eo (Or.inl ⟨hw, fun W' hW' => ?_⟩) hS hK
    have ev : (if (decide (c.order = [])) = true then a.eval (.const (.bool true)) else a.eval (.tmp 133)) = .bool (decide (c.order = []) || nameW c.order) := by
      rw [eval_tmp (s2.trans (show some (gv ((Pr (Xc m c) 10) && (!(decide (c.order = [])))) (.bool (nameW c.order))) = some (gv (!(decide (c.order = []))) (.bool (nameW c.order))) by rw [hp]; rfl))]
      cases (decide (c.order = [])) <;> rfl
    rw [ex_pick (P := Tryz.prog) (ρ := a.eval) (W := W') (o := opAt 121) (c := .tmp 130) (x := .const (.bool true)) (y := .tmp 133) (b := (decide (c.order = []))) (by kernel_rfl) (eval_tmp s1), ev]

set_option maxRecDepth 100000 in
theorem ob_122 {w : World} {c : Cm} {cv vv fv ea wa : Value} {m : Int} {a0 : Act} {Q : Exit → Act → World → Prop} (h1 : a0.tmps[1]? = some (.pointer (some ⟨w.heap.size, 0, none⟩))) : Ob w c cv vv fv ea wa m a0 Q 122 := by
  intro o listed a W ho hd hl hS K hK
  have eo : rops[122]? = some (opAt 122) := by kernel_rfl
  obtain rfl : o = opAt 122 := Option.some.inj (ho.symm.trans eo)
  have sg := hd.slot hl 112 125 (by kernel_rfl) (by kernel_rfl) (by kernel_rfl)
  have hw := wanted_some (o := opAt 122) (ops := rops) (g := 112) (b := true) (c := (Pr (Xc m c) 10)) (by kernel_rfl) (by kernel_rfl) sg
  cases hp : (Pr (Xc m c) 10) with
  | false =>
    rw [hp] at hw
    exact run_quiet eo (Or.inr ⟨hw, by show gv (Pr (Xc m c) 10) _ = undef; rw [hp]; rfl⟩) hS hK
  | true =>
    rw [hp] at hw
    have hV : VV w c cv vv fv ea wa m 122 = .pointer (some ⟨w.heap.size, 24, none⟩) := by show gv (Pr (Xc m c) 10) _ = _; rw [hp]; rfl
    rw [hV] at hK
    refine run_quiet eo (Or.inl ⟨hw, fun W' hW' => ?_⟩) hS hK
    exact ex_field (x := .tmp 1) (t := 31) (f := 12) (by kernel_rfl) (eval_tmp ((hd.base 1 (by kernel_rfl)).trans h1)) (fa12 W' _)

set_option maxRecDepth 100000 in
theorem ob_123 {w : World} {c : Cm} {cv vv fv ea wa : Value} {m : Int} {a0 : Act} {Q : Exit → Act → World → Prop} : Ob w c cv vv fv ea wa m a0 Q 123 := by
  intro o listed a W ho hd hl hS K hK
  have eo : rops[123]? = some (opAt 123) := by kernel_rfl
  obtain rfl : o = opAt 123 := Option.some.inj (ho.symm.trans eo)
  have sg := hd.slot hl 112 125 (by kernel_rfl) (by kernel_rfl) (by kernel_rfl)
  have hw := wanted_some (o := opAt 123) (ops := rops) (g := 112) (b := true) (c := (Pr (Xc m c) 10)) (by kernel_rfl) (by kernel_rfl) sg
  have s1 := hd.slot hl 122 135 (by kernel_rfl) (by kernel_rfl) (by kernel_rfl)
  cases hp : (Pr (Xc m c) 10) with
  | false =>
    rw [hp] at hw
    exact run_quiet eo (Or.inr ⟨hw, by show gv (Pr (Xc m c) 10) _ = undef; rw [hp]; rfl⟩) hS hK
  | true =>
    rw [hp] at hw
    have hV : VV w c cv vv fv ea wa m 123 = .string ⟨c.order.toArray⟩ := by show gv (Pr (Xc m c) 10) _ = _; rw [hp]; rfl
    rw [hV] at hK
    replace s1 : a.tmps[135]? = some (.pointer (some ⟨w.heap.size, 24, none⟩)) := s1.trans (by show some (gv (Pr (Xc m c) 10) _) = _; rw [hp]; rfl)
    refine run_quiet eo (Or.inl ⟨hw, fun W' hW' => ?_⟩) hS hK
    exact ex_load (x := .tmp 135) (t := 9) (by kernel_rfl) (eval_tmp s1) (ld9 W' _ 24 _ (hW'.1 24 _ rfl))

set_option maxRecDepth 100000 in
theorem ob_124 {w : World} {c : Cm} {cv vv fv ea wa : Value} {m : Int} {a0 : Act} {Q : Exit → Act → World → Prop} : Ob w c cv vv fv ea wa m a0 Q 124 := by
  intro o listed a W ho hd hl hS K hK
  have eo : rops[124]? = some (opAt 124) := by kernel_rfl
  obtain rfl : o = opAt 124 := Option.some.inj (ho.symm.trans eo)
  have sg := hd.slot hl 112 125 (by kernel_rfl) (by kernel_rfl) (by kernel_rfl)
  have hw := wanted_some (o := opAt 124) (ops := rops) (g := 112) (b := true) (c := (Pr (Xc m c) 10)) (by kernel_rfl) (by kernel_rfl) sg
  have s1 := hd.slot hl 123 136 (by kernel_rfl) (by kernel_rfl) (by kernel_rfl)
  cases hp : (Pr (Xc m c) 10) with
  | false =>
    rw [hp] at hw
    exact run_quiet eo (Or.inr ⟨hw, by show gv (Pr (Xc m c) 10) _ = undef; rw [hp]; rfl⟩) hS hK
  | true =>
    rw [hp] at hw
    have hV : VV w c cv vv fv ea wa m 124 = .bool (decide (c.order = [])) := by show gv (Pr (Xc m c) 10) _ = _; rw [hp]; rfl
    rw [hV] at hK
    replace s1 : a.tmps[136]? = some (.string ⟨c.order.toArray⟩) := s1.trans (by show some (gv (Pr (Xc m c) 10) _) = _; rw [hp]; rfl)
    refine run_quiet eo (Or.inl ⟨hw, fun W' hW' => ?_⟩) hS hK
    exact ex_bin (u := 9) (x := .tmp 136) (y := .const (.string ⟨#[]⟩)) (by kernel_rfl) (eval_tmp s1) rfl (eq9 W' _ _ _)

set_option maxRecDepth 100000 in
theorem ob_125 {w : World} {c : Cm} {cv vv fv ea wa : Value} {m : Int} {a0 : Act} {Q : Exit → Act → World → Prop} : Ob w c cv vv fv ea wa m a0 Q 125 := by
  intro o listed a W ho hd hl hS K hK
  have eo : rops[125]? = some (opAt 125) := by kernel_rfl
  obtain rfl : o = opAt 125 := Option.some.inj (ho.symm.trans eo)
  have sg := hd.slot hl 112 125 (by kernel_rfl) (by kernel_rfl) (by kernel_rfl)
  have hw := wanted_some (o := opAt 125) (ops := rops) (g := 112) (b := true) (c := (Pr (Xc m c) 10)) (by kernel_rfl) (by kernel_rfl) sg
  have s1 := hd.slot hl 113 126 (by kernel_rfl) (by kernel_rfl) (by kernel_rfl)
  have s2 := hd.slot hl 121 134 (by kernel_rfl) (by kernel_rfl) (by kernel_rfl)
  have s3 := hd.slot hl 124 137 (by kernel_rfl) (by kernel_rfl) (by kernel_rfl)
  cases hp : (Pr (Xc m c) 10) with
  | false =>
    rw [hp] at hw
    exact run_quiet eo (Or.inr ⟨hw, by show gv (Pr (Xc m c) 10) _ = undef; rw [hp]; rfl⟩) hS hK
  | true =>
    rw [hp] at hw
    have hV : VV w c cv vv fv ea wa m 125 = .bool ((Xc m c) 11) := by show gv (Pr (Xc m c) 10) _ = _; rw [hp]; rfl
    rw [hV] at hK
    replace s1 : a.tmps[126]? = some (.func (.func 71) #[] #[.pointer (some ⟨w.heap.size + 1, 0, none⟩)]) := s1.trans (by show some (gv (Pr (Xc m c) 10) _) = _; rw [hp]; rfl)
    replace s2 : a.tmps[134]? = some (.bool (decide (c.order = []) || nameW c.order)) := s2.trans (by show some (gv (Pr (Xc m c) 10) _) = _; rw [hp]; rfl)
    replace s3 : a.tmps[137]? = some (.bool (decide (c.order = []))) := s3.trans (by show some (gv (Pr (Xc m c) 10) _) = _; rw [hp]; rfl)
    refine run_call 71 #[.int .i64 1024, .bool (decide (c.order = []) || nameW c.order), .bool (decide (c.order = [])), .pointer (some ⟨w.heap.size + 1, 0, none⟩)] eo hw (ex_is (ts := #[3, 4, 4]) (t := .tmp 126) (x := .const (.int .i64 1024)) (y := .tmp 134) (z := .tmp 137) (f := 71) cf71 (by kernel_rfl) (eval_tmp s1) rfl (eval_tmp s2) (eval_tmp s3)) ((is_any m 1024 (decide (c.order = []) || nameW c.order) (decide (c.order = [])) _ W hS.2.1).mono fun e w' h => ⟨h.1, h.2 ▸ hS⟩) hK

set_option maxRecDepth 100000 in
theorem ob_126 {w : World} {c : Cm} {cv vv fv ea wa : Value} {m : Int} {a0 : Act} {Q : Exit → Act → World → Prop} : Ob w c cv vv fv ea wa m a0 Q 126 := by
  intro o listed a W ho hd hl hS K hK
  have eo : rops[126]? = some (opAt 126) := by kernel_rfl
  obtain rfl : o = opAt 126 := Option.some.inj (ho.symm.trans eo)
  have s1 := hd.slot hl 112 125 (by kernel_rfl) (by kernel_rfl) (by kernel_rfl)
  have s2 := hd.slot hl 125 138 (by kernel_rfl) (by kernel_rfl) (by kernel_rfl)
  have ev : (if (Pr (Xc m c) 10) = true then a.eval (.tmp 138) else a.eval (.const (.bool false))) = .bool (Pr (Xc m c) 11) := by
    rw [eval_tmp s2]
    show (if (Pr (Xc m c) 10) = true then gv (Pr (Xc m c) 10) (.bool ((Xc m c) 11)) else .bool false) = .bool ((Pr (Xc m c) 10) && (Xc m c) 11)
    cases (Pr (Xc m c) 10) <;> rfl
  refine run_quiet eo (Or.inl ⟨wanted_none (by kernel_rfl), fun W' hW' => ?_⟩) hS hK
  rw [ex_pick (P := Tryz.prog) (ρ := a.eval) (W := W') (o := opAt 126) (c := .tmp 125) (x := .tmp 138) (y := .const (.bool false)) (b := (Pr (Xc m c) 10)) (by kernel_rfl) (eval_tmp s1), ev]; rfl

set_option maxRecDepth 100000 in
theorem ob_127 {w : World} {c : Cm} {cv vv fv ea wa : Value} {m : Int} {a0 : Act} {Q : Exit → Act → World → Prop} : Ob w c cv vv fv ea wa m a0 Q 127 := by
  intro o listed a W ho hd hl hS K hK
  have eo : rops[127]? = some (opAt 127) := by kernel_rfl
  obtain rfl : o = opAt 127 := Option.some.inj (ho.symm.trans eo)
  have s1 := hd.slot hl 126 139 (by kernel_rfl) (by kernel_rfl) (by kernel_rfl)
  refine run_quiet eo (Or.inl ⟨wanted_none (by kernel_rfl), fun W' hW' => ?_⟩) hS hK
  exact ex_move (x := .tmp 139) (by kernel_rfl) (eval_tmp s1)

set_option maxRecDepth 100000 in
theorem ob_128 {w : World} {c : Cm} {cv vv fv ea wa : Value} {m : Int} {a0 : Act} {Q : Exit → Act → World → Prop} (h5 : a0.tmps[5]? = some (.func (.func 71) #[] #[.pointer (some ⟨w.heap.size + 1, 0, none⟩)])) : Ob w c cv vv fv ea wa m a0 Q 128 := by
  intro o listed a W ho hd hl hS K hK
  have eo : rops[128]? = some (opAt 128) := by kernel_rfl
  obtain rfl : o = opAt 128 := Option.some.inj (ho.symm.trans eo)
  have sg := hd.slot hl 127 140 (by kernel_rfl) (by kernel_rfl) (by kernel_rfl)
  have hw := wanted_some (o := opAt 128) (ops := rops) (g := 127) (b := true) (c := (Pr (Xc m c) 11)) (by kernel_rfl) (by kernel_rfl) sg
  cases hp : (Pr (Xc m c) 11) with
  | false =>
    rw [hp] at hw
    exact run_quiet eo (Or.inr ⟨hw, by show gv (Pr (Xc m c) 11) _ = undef; rw [hp]; rfl⟩) hS hK
  | true =>
    rw [hp] at hw
    have hV : VV w c cv vv fv ea wa m 128 = .func (.func 71) #[] #[.pointer (some ⟨w.heap.size + 1, 0, none⟩)] := by show gv (Pr (Xc m c) 11) _ = _; rw [hp]; rfl
    rw [hV] at hK
    refine run_quiet eo (Or.inl ⟨hw, fun W' hW' => ?_⟩) hS hK
    exact ex_move (x := .tmp 5) (by kernel_rfl) (eval_tmp ((hd.base 5 (by kernel_rfl)).trans h5))

set_option maxRecDepth 100000 in
theorem ob_129 {w : World} {c : Cm} {cv vv fv ea wa : Value} {m : Int} {a0 : Act} {Q : Exit → Act → World → Prop} (h1 : a0.tmps[1]? = some (.pointer (some ⟨w.heap.size, 0, none⟩))) : Ob w c cv vv fv ea wa m a0 Q 129 := by
  intro o listed a W ho hd hl hS K hK
  have eo : rops[129]? = some (opAt 129) := by kernel_rfl
  obtain rfl : o = opAt 129 := Option.some.inj (ho.symm.trans eo)
  have sg := hd.slot hl 127 140 (by kernel_rfl) (by kernel_rfl) (by kernel_rfl)
  have hw := wanted_some (o := opAt 129) (ops := rops) (g := 127) (b := true) (c := (Pr (Xc m c) 11)) (by kernel_rfl) (by kernel_rfl) sg
  cases hp : (Pr (Xc m c) 11) with
  | false =>
    rw [hp] at hw
    exact run_quiet eo (Or.inr ⟨hw, by show gv (Pr (Xc m c) 11) _ = undef; rw [hp]; rfl⟩) hS hK
  | true =>
    rw [hp] at hw
    have hV : VV w c cv vv fv ea wa m 129 = .pointer (some ⟨w.heap.size, 25, none⟩) := by show gv (Pr (Xc m c) 11) _ = _; rw [hp]; rfl
    rw [hV] at hK
    refine run_quiet eo (Or.inl ⟨hw, fun W' hW' => ?_⟩) hS hK
    exact ex_field (x := .tmp 1) (t := 31) (f := 13) (by kernel_rfl) (eval_tmp ((hd.base 1 (by kernel_rfl)).trans h1)) (fa13 W' _)

set_option maxRecDepth 100000 in
theorem ob_130 {w : World} {c : Cm} {cv vv fv ea wa : Value} {m : Int} {a0 : Act} {Q : Exit → Act → World → Prop} : Ob w c cv vv fv ea wa m a0 Q 130 := by
  intro o listed a W ho hd hl hS K hK
  have eo : rops[130]? = some (opAt 130) := by kernel_rfl
  obtain rfl : o = opAt 130 := Option.some.inj (ho.symm.trans eo)
  have sg := hd.slot hl 127 140 (by kernel_rfl) (by kernel_rfl) (by kernel_rfl)
  have hw := wanted_some (o := opAt 130) (ops := rops) (g := 127) (b := true) (c := (Pr (Xc m c) 11)) (by kernel_rfl) (by kernel_rfl) sg
  have s1 := hd.slot hl 129 142 (by kernel_rfl) (by kernel_rfl) (by kernel_rfl)
  cases hp : (Pr (Xc m c) 11) with
  | false =>
    rw [hp] at hw
    exact run_quiet eo (Or.inr ⟨hw, by show gv (Pr (Xc m c) 11) _ = undef; rw [hp]; rfl⟩) hS hK
  | true =>
    rw [hp] at hw
    have hV : VV w c cv vv fv ea wa m 130 = .int .i64 c.limit := by show gv (Pr (Xc m c) 11) _ = _; rw [hp]; rfl
    rw [hV] at hK
    replace s1 : a.tmps[142]? = some (.pointer (some ⟨w.heap.size, 25, none⟩)) := s1.trans (by show some (gv (Pr (Xc m c) 11) _) = _; rw [hp]; rfl)
    refine run_quiet eo (Or.inl ⟨hw, fun W' hW' => ?_⟩) hS hK
    exact ex_load (x := .tmp 142) (t := 3) (by kernel_rfl) (eval_tmp s1) (ld3 W' _ 25 _ (hW'.1 25 _ rfl))

set_option maxRecDepth 100000 in
theorem ob_131 {w : World} {c : Cm} {cv vv fv ea wa : Value} {m : Int} {a0 : Act} {Q : Exit → Act → World → Prop} : Ob w c cv vv fv ea wa m a0 Q 131 := by
  intro o listed a W ho hd hl hS K hK
  have eo : rops[131]? = some (opAt 131) := by kernel_rfl
  obtain rfl : o = opAt 131 := Option.some.inj (ho.symm.trans eo)
  have sg := hd.slot hl 127 140 (by kernel_rfl) (by kernel_rfl) (by kernel_rfl)
  have hw := wanted_some (o := opAt 131) (ops := rops) (g := 127) (b := true) (c := (Pr (Xc m c) 11)) (by kernel_rfl) (by kernel_rfl) sg
  have s1 := hd.slot hl 130 143 (by kernel_rfl) (by kernel_rfl) (by kernel_rfl)
  cases hp : (Pr (Xc m c) 11) with
  | false =>
    rw [hp] at hw
    exact run_quiet eo (Or.inr ⟨hw, by show gv (Pr (Xc m c) 11) _ = undef; rw [hp]; rfl⟩) hS hK
  | true =>
    rw [hp] at hw
    have hV : VV w c cv vv fv ea wa m 131 = .bool (decide (-1 ≤ c.limit)) := by show gv (Pr (Xc m c) 11) _ = _; rw [hp]; rfl
    rw [hV] at hK
    replace s1 : a.tmps[143]? = some (.int .i64 c.limit) := s1.trans (by show some (gv (Pr (Xc m c) 11) _) = _; rw [hp]; rfl)
    refine run_quiet eo (Or.inl ⟨hw, fun W' hW' => ?_⟩) hS hK
    exact ex_bin (u := 3) (x := .tmp 143) (y := .const (.int .i64 (-1))) (by kernel_rfl) (eval_tmp s1) rfl (geq3 W' _ _ _)

set_option maxRecDepth 100000 in
theorem ob_132 {w : World} {c : Cm} {cv vv fv ea wa : Value} {m : Int} {a0 : Act} {Q : Exit → Act → World → Prop} : Ob w c cv vv fv ea wa m a0 Q 132 := by
  intro o listed a W ho hd hl hS K hK
  have eo : rops[132]? = some (opAt 132) := by kernel_rfl
  obtain rfl : o = opAt 132 := Option.some.inj (ho.symm.trans eo)
  have sg := hd.slot hl 127 140 (by kernel_rfl) (by kernel_rfl) (by kernel_rfl)
  have hw := wanted_some (o := opAt 132) (ops := rops) (g := 127) (b := true) (c := (Pr (Xc m c) 11)) (by kernel_rfl) (by kernel_rfl) sg
  have s1 := hd.slot hl 131 144 (by kernel_rfl) (by kernel_rfl) (by kernel_rfl)
  cases hp : (Pr (Xc m c) 11) with
  | false =>
    rw [hp] at hw
    exact run_quiet eo (Or.inr ⟨hw, by show gv (Pr (Xc m c) 11) _ = undef; rw [hp]; rfl⟩) hS hK
  | true =>
    rw [hp] at hw
    have hV : VV w c cv vv fv ea wa m 132 = .bool (decide (-1 ≤ c.limit)) := by show gv (Pr (Xc m c) 11) _ = _; rw [hp]; rfl
    rw [hV] at hK
    replace s1 : a.tmps[144]? = some (.bool (decide (-1 ≤ c.limit))) := s1.trans (by show some (gv (Pr (Xc m c) 11) _) = _; rw [hp]; rfl)
    refine run_quiet eo (Or.inl ⟨hw, fun W' hW' => ?_⟩) hS hK
    exact ex_move (x := .tmp 144) (by kernel_rfl) (eval_tmp s1)

set_option maxRecDepth 100000 in
theorem ob_133 {w : World} {c : Cm} {cv vv fv ea wa : Value} {m : Int} {a0 : Act} {Q : Exit → Act → World → Prop} (h1 : a0.tmps[1]? = some (.pointer (some ⟨w.heap.size, 0, none⟩))) : Ob w c cv vv fv ea wa m a0 Q 133 := by
  intro o listed a W ho hd hl hS K hK
  have eo : rops[133]? = some (opAt 133) := by kernel_rfl
  obtain rfl : o = opAt 133 := Option.some.inj (ho.symm.trans eo)
  have sg := hd.slot hl 132 145 (by kernel_rfl) (by kernel_rfl) (by kernel_rfl)
  cases hp : (Pr (Xc m c) 11) with
  | false =>
    have hw := wanted_undef (o := opAt 133) (ops := rops) (g := 132) (b := true) (by kernel_rfl) (by kernel_rfl) (sg.trans (by show some (gv (Pr (Xc m c) 11) _) = _; rw [hp]; rfl))
    exact run_quiet eo (Or.inr ⟨hw, by show gv ((Pr (Xc m c) 11) && (decide (-1 ≤ c.limit))) _ = undef; rw [hp]; rfl⟩) hS hK
  | true =>
    have hw := wanted_some (o := opAt 133) (ops := rops) (g := 132) (b := true) (c := (decide (-1 ≤ c.limit))) (by kernel_rfl) (by kernel_rfl) (sg.trans (by show some (gv (Pr (Xc m c) 11) _) = _; rw [hp]; rfl))
    by_cases hj : (decide (-1 ≤ c.limit)) = true
    case neg =>
      have hj' : (decide (-1 ≤ c.limit)) = false := by simpa using hj
      rw [hj'] at hw
      exact run_quiet eo (Or.inr ⟨hw, by show gv ((Pr (Xc m c) 11) && (decide (-1 ≤ c.limit))) _ = undef; rw [hp, hj']; rfl⟩) hS hK
    case pos =>
    rw [hj] at hw
    have hV : VV w c cv vv fv ea wa m 133 = .pointer (some ⟨w.heap.size, 25, none⟩) := by show gv ((Pr (Xc m c) 11) && (decide (-1 ≤ c.limit))) _ = _; rw [hp, hj]; rfl
    rw [hV] at hK
    refine run_quiet eo (Or.inl ⟨hw, fun W' hW' => ?_⟩) hS hK
    exact ex_field (x := .tmp 1) (t := 31) (f := 13) (by kernel_rfl) (eval_tmp ((hd.base 1 (by kernel_rfl)).trans h1)) (fa13 W' _)

set_option maxRecDepth 100000 in
theorem ob_134 {w : World} {c : Cm} {cv vv fv ea wa : Value} {m : Int} {a0 : Act} {Q : Exit → Act → World → Prop} : Ob w c cv vv fv ea wa m a0 Q 134 := by
  intro o listed a W ho hd hl hS K hK
  have eo : rops[134]? = some (opAt 134) := by kernel_rfl
  obtain rfl : o = opAt 134 := Option.some.inj (ho.symm.trans eo)
  have sg := hd.slot hl 132 145 (by kernel_rfl) (by kernel_rfl) (by kernel_rfl)
  have s1 := hd.slot hl 133 146 (by kernel_rfl) (by kernel_rfl) (by kernel_rfl)
  cases hp : (Pr (Xc m c) 11) with
  | false =>
    have hw := wanted_undef (o := opAt 134) (ops := rops) (g := 132) (b := true) (by kernel_rfl) (by kernel_rfl) (sg.trans (by show some (gv (Pr (Xc m c) 11) _) = _; rw [hp]; rfl))
    exact run_quiet eo (Or.inr ⟨hw, by show gv ((Pr (Xc m c) 11) && (decide (-1 ≤ c.limit))) _ = undef; rw [hp]; rfl⟩) hS hK
  | true =>
    have hw := wanted_some (o := opAt 134) (ops := rops) (g := 132) (b := true) (c := (decide (-1 ≤ c.limit))) (by kernel_rfl) (by kernel_rfl) (sg.trans (by show some (gv (Pr (Xc m c) 11) _) = _; rw [hp]; rfl))
    by_cases hj : (decide (-1 ≤ c.limit)) = true
    case neg =>
      have hj' : (decide (-1 ≤ c.limit)) = false := by simpa using hj
      rw [hj'] at hw
      exact run_quiet eo (Or.inr ⟨hw, by show gv ((Pr (Xc m c) 11) && (decide (-1 ≤ c.limit))) _ = undef; rw [hp, hj']; rfl⟩) hS hK
    case pos =>
    rw [hj] at hw
    have hV : VV w c cv vv fv ea wa m 134 = .int .i64 c.limit := by show gv ((Pr (Xc m c) 11) && (decide (-1 ≤ c.limit))) _ = _; rw [hp, hj]; rfl
    rw [hV] at hK
    replace s1 : a.tmps[146]? = some (.pointer (some ⟨w.heap.size, 25, none⟩)) := s1.trans (by show some (gv ((Pr (Xc m c) 11) && (decide (-1 ≤ c.limit))) _) = _; rw [hp, hj]; rfl)
    refine run_quiet eo (Or.inl ⟨hw, fun W' hW' => ?_⟩) hS hK
    exact ex_load (x := .tmp 146) (t := 3) (by kernel_rfl) (eval_tmp s1) (ld3 W' _ 25 _ (hW'.1 25 _ rfl))

set_option maxRecDepth 100000 in
theorem ob_135 {w : World} {c : Cm} {cv vv fv ea wa : Value} {m : Int} {a0 : Act} {Q : Exit → Act → World → Prop} : Ob w c cv vv fv ea wa m a0 Q 135 := by
  intro o listed a W ho hd hl hS K hK
  have eo : rops[135]? = some (opAt 135) := by kernel_rfl
  obtain rfl : o = opAt 135 := Option.some.inj (ho.symm.trans eo)
  have sg := hd.slot hl 132 145 (by kernel_rfl) (by kernel_rfl) (by kernel_rfl)
  have s1 := hd.slot hl 134 147 (by kernel_rfl) (by kernel_rfl) (by kernel_rfl)
  cases hp : (Pr (Xc m c) 11) with
  | false =>
    have hw := wanted_undef (o := opAt 135) (ops := rops) (g := 132) (b := true) (by kernel_rfl) (by kernel_rfl) (sg.trans (by show some (gv (Pr (Xc m c) 11) _) = _; rw [hp]; rfl))
    exact run_quiet eo (Or.inr ⟨hw, by show gv ((Pr (Xc m c) 11) && (decide (-1 ≤ c.limit))) _ = undef; rw [hp]; rfl⟩) hS hK
  | true =>
    have hw := wanted_some (o := opAt 135) (ops := rops) (g := 132) (b := true) (c := (decide (-1 ≤ c.limit))) (by kernel_rfl) (by kernel_rfl) (sg.trans (by show some (gv (Pr (Xc m c) 11) _) = _; rw [hp]; rfl))
    by_cases hj : (decide (-1 ≤ c.limit)) = true
    case neg =>
      have hj' : (decide (-1 ≤ c.limit)) = false := by simpa using hj
      rw [hj'] at hw
      exact run_quiet eo (Or.inr ⟨hw, by show gv ((Pr (Xc m c) 11) && (decide (-1 ≤ c.limit))) _ = undef; rw [hp, hj']; rfl⟩) hS hK
    case pos =>
    rw [hj] at hw
    have hV : VV w c cv vv fv ea wa m 135 = .bool (decide (c.limit ≤ 999999999)) := by show gv ((Pr (Xc m c) 11) && (decide (-1 ≤ c.limit))) _ = _; rw [hp, hj]; rfl
    rw [hV] at hK
    replace s1 : a.tmps[147]? = some (.int .i64 c.limit) := s1.trans (by show some (gv ((Pr (Xc m c) 11) && (decide (-1 ≤ c.limit))) _) = _; rw [hp, hj]; rfl)
    refine run_quiet eo (Or.inl ⟨hw, fun W' hW' => ?_⟩) hS hK
    exact ex_bin (u := 3) (x := .tmp 147) (y := .const (.int .i64 999999999)) (by kernel_rfl) (eval_tmp s1) rfl (leq3 W' _ _ _)

set_option maxRecDepth 100000 in
theorem ob_136 {w : World} {c : Cm} {cv vv fv ea wa : Value} {m : Int} {a0 : Act} {Q : Exit → Act → World → Prop} : Ob w c cv vv fv ea wa m a0 Q 136 := by
  intro o listed a W ho hd hl hS K hK
  have eo : rops[136]? = some (opAt 136) := by kernel_rfl
  obtain rfl : o = opAt 136 := Option.some.inj (ho.symm.trans eo)
  have sg := hd.slot hl 127 140 (by kernel_rfl) (by kernel_rfl) (by kernel_rfl)
  have hw := wanted_some (o := opAt 136) (ops := rops) (g := 127) (b := true) (c := (Pr (Xc m c) 11)) (by kernel_rfl) (by kernel_rfl) sg
  have s1 := hd.slot hl 132 145 (by kernel_rfl) (by kernel_rfl) (by kernel_rfl)
  have s2 := hd.slot hl 135 148 (by kernel_rfl) (by kernel_rfl) (by kernel_rfl)
  cases hp : (Pr (Xc m c) 11) with
  | false =>
    rw [hp] at hw
    exact run_quiet eo (Or.inr ⟨hw, by show gv (Pr (Xc m c) 11) _ = undef; rw [hp]; rfl⟩) hS hK
  | true =>
    rw [hp] at hw
    have hV : VV w c cv vv fv ea wa m 136 = .bool (decide (-1 ≤ c.limit) && decide (c.limit ≤ 999999999)) := by show gv (Pr (Xc m c) 11) _ = _; rw [hp]; rfl
    rw [hV] at hK
    replace s1 : a.tmps[145]? = some (.bool (decide (-1 ≤ c.limit))) := s1.trans (by show some (gv (Pr (Xc m c) 11) _) = _; rw [hp]; rfl)
    refine run_quiet eo (Or.inl ⟨hw, fun W' hW' => ?_⟩) hS hK
    have ev : (if (decide (-1 ≤ c.limit)) = true then a.eval (.tmp 148) else a.eval (.const (.bool false))) = .bool (decide (-1 ≤ c.limit) && decide (c.limit ≤ 999999999)) := by
      rw [eval_tmp (s2.trans (show some (gv ((Pr (Xc m c) 11) && (decide (-1 ≤ c.limit))) (.bool (decide (c.limit ≤ 999999999)))) = some (gv (decide (-1 ≤ c.limit)) (.bool (decide (c.limit ≤ 999999999)))) by rw [hp]; rfl))]
      cases (decide (-1 ≤ c.limit)) <;> rfl
    rw [ex_pick (P := Tryz.prog) (ρ := a.eval) (W := W') (o := opAt 136) (c := .tmp 145) (x := .tmp 148) (y := .const (.bool false)) (b := (decide (-1 ≤ c.limit))) (by kernel_rfl) (eval_tmp s1), ev]

set_option maxRecDepth 100000 in
theorem ob_137 {w : World} {c : Cm} {cv vv fv ea wa : Value} {m : Int} {a0 : Act} {Q : Exit → Act → World → Prop} (h1 : a0.tmps[1]? = some (.pointer (some ⟨w.heap.size, 0, none⟩))) : Ob w c cv vv fv ea wa m a0 Q 137 := by
  intro o listed a W ho hd hl hS K hK
  have eo : rops[137]? = some (opAt 137) := by kernel_rfl
  obtain rfl : o = opAt 137 := Option.some.inj (ho.symm.trans eo)
  have sg := hd.slot hl 127 140 (by kernel_rfl) (by kernel_rfl) (by kernel_rfl)
  have hw := wanted_some (o := opAt 137) (ops := rops) (g := 127) (b := true) (c := (Pr (Xc m c) 11)) (by kernel_rfl) (by kernel_rfl) sg
  cases hp : (Pr (Xc m c) 11) with
  | false =>
    rw [hp] at hw
    exact run_quiet eo (Or.inr ⟨hw, by show gv (Pr (Xc m c) 11) _ = undef; rw [hp]; rfl⟩) hS hK
  | true =>
    rw [hp] at hw
    have hV : VV w c cv vv fv ea wa m 137 = .pointer (some ⟨w.heap.size, 25, none⟩) := by show gv (Pr (Xc m c) 11) _ = _; rw [hp]; rfl
    rw [hV] at hK
    refine run_quiet eo (Or.inl ⟨hw, fun W' hW' => ?_⟩) hS hK
    exact ex_field (x := .tmp 1) (t := 31) (f := 13) (by kernel_rfl) (eval_tmp ((hd.base 1 (by kernel_rfl)).trans h1)) (fa13 W' _)

set_option maxRecDepth 100000 in
theorem ob_138 {w : World} {c : Cm} {cv vv fv ea wa : Value} {m : Int} {a0 : Act} {Q : Exit → Act → World → Prop} : Ob w c cv vv fv ea wa m a0 Q 138 := by
  intro o listed a W ho hd hl hS K hK
  have eo : rops[138]? = some (opAt 138) := by kernel_rfl
  obtain rfl : o = opAt 138 := Option.some.inj (ho.symm.trans eo)
  have sg := hd.slot hl 127 140 (by kernel_rfl) (by kernel_rfl) (by kernel_rfl)
  have hw := wanted_some (o := opAt 138) (ops := rops) (g := 127) (b := true) (c := (Pr (Xc m c) 11)) (by kernel_rfl) (by kernel_rfl) sg
  have s1 := hd.slot hl 137 150 (by kernel_rfl) (by kernel_rfl) (by kernel_rfl)
  cases hp : (Pr (Xc m c) 11) with
  | false =>
    rw [hp] at hw
    exact run_quiet eo (Or.inr ⟨hw, by show gv (Pr (Xc m c) 11) _ = undef; rw [hp]; rfl⟩) hS hK
  | true =>
    rw [hp] at hw
    have hV : VV w c cv vv fv ea wa m 138 = .int .i64 c.limit := by show gv (Pr (Xc m c) 11) _ = _; rw [hp]; rfl
    rw [hV] at hK
    replace s1 : a.tmps[150]? = some (.pointer (some ⟨w.heap.size, 25, none⟩)) := s1.trans (by show some (gv (Pr (Xc m c) 11) _) = _; rw [hp]; rfl)
    refine run_quiet eo (Or.inl ⟨hw, fun W' hW' => ?_⟩) hS hK
    exact ex_load (x := .tmp 150) (t := 3) (by kernel_rfl) (eval_tmp s1) (ld3 W' _ 25 _ (hW'.1 25 _ rfl))

set_option maxRecDepth 100000 in
theorem ob_139 {w : World} {c : Cm} {cv vv fv ea wa : Value} {m : Int} {a0 : Act} {Q : Exit → Act → World → Prop} : Ob w c cv vv fv ea wa m a0 Q 139 := by
  intro o listed a W ho hd hl hS K hK
  have eo : rops[139]? = some (opAt 139) := by kernel_rfl
  obtain rfl : o = opAt 139 := Option.some.inj (ho.symm.trans eo)
  have sg := hd.slot hl 127 140 (by kernel_rfl) (by kernel_rfl) (by kernel_rfl)
  have hw := wanted_some (o := opAt 139) (ops := rops) (g := 127) (b := true) (c := (Pr (Xc m c) 11)) (by kernel_rfl) (by kernel_rfl) sg
  have s1 := hd.slot hl 138 151 (by kernel_rfl) (by kernel_rfl) (by kernel_rfl)
  cases hp : (Pr (Xc m c) 11) with
  | false =>
    rw [hp] at hw
    exact run_quiet eo (Or.inr ⟨hw, by show gv (Pr (Xc m c) 11) _ = undef; rw [hp]; rfl⟩) hS hK
  | true =>
    rw [hp] at hw
    have hV : VV w c cv vv fv ea wa m 139 = .bool (decide (c.limit = 0)) := by show gv (Pr (Xc m c) 11) _ = _; rw [hp]; rfl
    rw [hV] at hK
    replace s1 : a.tmps[151]? = some (.int .i64 c.limit) := s1.trans (by show some (gv (Pr (Xc m c) 11) _) = _; rw [hp]; rfl)
    refine run_quiet eo (Or.inl ⟨hw, fun W' hW' => ?_⟩) hS hK
    exact ex_bin (u := 3) (x := .tmp 151) (y := .const (.int .i64 0)) (by kernel_rfl) (eval_tmp s1) rfl (eq3 W' _ _ _)

set_option maxRecDepth 100000 in
theorem ob_140 {w : World} {c : Cm} {cv vv fv ea wa : Value} {m : Int} {a0 : Act} {Q : Exit → Act → World → Prop} : Ob w c cv vv fv ea wa m a0 Q 140 := by
  intro o listed a W ho hd hl hS K hK
  have eo : rops[140]? = some (opAt 140) := by kernel_rfl
  obtain rfl : o = opAt 140 := Option.some.inj (ho.symm.trans eo)
  have sg := hd.slot hl 127 140 (by kernel_rfl) (by kernel_rfl) (by kernel_rfl)
  have hw := wanted_some (o := opAt 140) (ops := rops) (g := 127) (b := true) (c := (Pr (Xc m c) 11)) (by kernel_rfl) (by kernel_rfl) sg
  have s1 := hd.slot hl 128 141 (by kernel_rfl) (by kernel_rfl) (by kernel_rfl)
  have s2 := hd.slot hl 136 149 (by kernel_rfl) (by kernel_rfl) (by kernel_rfl)
  have s3 := hd.slot hl 139 152 (by kernel_rfl) (by kernel_rfl) (by kernel_rfl)
  cases hp : (Pr (Xc m c) 11) with
  | false =>
    rw [hp] at hw
    exact run_quiet eo (Or.inr ⟨hw, by show gv (Pr (Xc m c) 11) _ = undef; rw [hp]; rfl⟩) hS hK
  | true =>
    rw [hp] at hw
    have hV : VV w c cv vv fv ea wa m 140 = .bool ((Xc m c) 12) := by show gv (Pr (Xc m c) 11) _ = _; rw [hp]; rfl
    rw [hV] at hK
    replace s1 : a.tmps[141]? = some (.func (.func 71) #[] #[.pointer (some ⟨w.heap.size + 1, 0, none⟩)]) := s1.trans (by show some (gv (Pr (Xc m c) 11) _) = _; rw [hp]; rfl)
    replace s2 : a.tmps[149]? = some (.bool (decide (-1 ≤ c.limit) && decide (c.limit ≤ 999999999))) := s2.trans (by show some (gv (Pr (Xc m c) 11) _) = _; rw [hp]; rfl)
    replace s3 : a.tmps[152]? = some (.bool (decide (c.limit = 0))) := s3.trans (by show some (gv (Pr (Xc m c) 11) _) = _; rw [hp]; rfl)
    refine run_call 71 #[.int .i64 2048, .bool (decide (-1 ≤ c.limit) && decide (c.limit ≤ 999999999)), .bool (decide (c.limit = 0)), .pointer (some ⟨w.heap.size + 1, 0, none⟩)] eo hw (ex_is (ts := #[3, 4, 4]) (t := .tmp 141) (x := .const (.int .i64 2048)) (y := .tmp 149) (z := .tmp 152) (f := 71) cf71 (by kernel_rfl) (eval_tmp s1) rfl (eval_tmp s2) (eval_tmp s3)) ((is_any m 2048 (decide (-1 ≤ c.limit) && decide (c.limit ≤ 999999999)) (decide (c.limit = 0)) _ W hS.2.1).mono fun e w' h => ⟨h.1, h.2 ▸ hS⟩) hK

set_option maxRecDepth 100000 in
theorem ob_141 {w : World} {c : Cm} {cv vv fv ea wa : Value} {m : Int} {a0 : Act} {Q : Exit → Act → World → Prop} : Ob w c cv vv fv ea wa m a0 Q 141 := by
  intro o listed a W ho hd hl hS K hK
  have eo : rops[141]? = some (opAt 141) := by kernel_rfl
  obtain rfl : o = opAt 141 := Option.some.inj (ho.symm.trans eo)
  have s1 := hd.slot hl 127 140 (by kernel_rfl) (by kernel_rfl) (by kernel_rfl)
  have s2 := hd.slot hl 140 153 (by kernel_rfl) (by kernel_rfl) (by kernel_rfl)
  have ev : (if (Pr (Xc m c) 11) = true then a.eval (.tmp 153) else a.eval (.const (.bool false))) = .bool (Pr (Xc m c) 12) := by
    rw [eval_tmp s2]
    show (if (Pr (Xc m c) 11) = true then gv (Pr (Xc m c) 11) (.bool ((Xc m c) 12)) else .bool false) = .bool ((Pr (Xc m c) 11) && (Xc m c) 12)
    cases (Pr (Xc m c) 11) <;> rfl
  refine run_quiet eo (Or.inl ⟨wanted_none (by kernel_rfl), fun W' hW' => ?_⟩) hS hK
  rw [ex_pick (P := Tryz.prog) (ρ := a.eval) (W := W') (o := opAt 141) (c := .tmp 140) (x := .tmp 153) (y := .const (.bool false)) (b := (Pr (Xc m c) 11)) (by kernel_rfl) (eval_tmp s1), ev]; rfl

set_option maxRecDepth 100000 in
theorem ob_142 {w : World} {c : Cm} {cv vv fv ea wa : Value} {m : Int} {a0 : Act} {Q : Exit → Act → World → Prop} : Ob w c cv vv fv ea wa m a0 Q 142 := by
  intro o listed a W ho hd hl hS K hK
  have eo : rops[142]? = some (opAt 142) := by kernel_rfl
  obtain rfl : o = opAt 142 := Option.some.inj (ho.symm.trans eo)
  have s1 := hd.slot hl 141 154 (by kernel_rfl) (by kernel_rfl) (by kernel_rfl)
  refine run_quiet eo (Or.inl ⟨wanted_none (by kernel_rfl), fun W' hW' => ?_⟩) hS hK
  exact ex_assign (x := .tmp 154) (by kernel_rfl) (eval_tmp s1)


end Go.Proofs.YtkpeklealgicpabGreatDoor

namespace Go.Proofs.YtkpeklealgicpabGreatDoor
open Go.RowKit

theorem below_succ {p : Nat → Prop} {n : Nat} (h : ∀ j, j < n → p j) (hn : p n) : ∀ j, j < n + 1 → p j := fun j hj => by
  by_cases e : j = n
  · exact e ▸ hn
  · exact h j (by omega)

set_option maxRecDepth 100000 in
theorem ob_all {w : World} {c : Cm} {cv vv fv ea wa : Value} {m : Int} {a0 : Act} {Q : Exit → Act → World → Prop} (h1 : a0.tmps[1]? = some (.pointer (some ⟨w.heap.size, 0, none⟩))) (h4 : a0.tmps[4]? = some (.bool true)) (h5 : a0.tmps[5]? = some (.func (.func 71) #[] #[.pointer (some ⟨w.heap.size + 1, 0, none⟩)])) (hc : Cals w c cv vv fv ea wa m) : ∀ j, j < 143 → Ob w c cv vv fv ea wa m a0 Q j := by
  refine below_succ ?_ (ob_142)
  refine below_succ ?_ (ob_141)
  refine below_succ ?_ (ob_140)
  refine below_succ ?_ (ob_139)
  refine below_succ ?_ (ob_138)
  refine below_succ ?_ (ob_137 h1)
  refine below_succ ?_ (ob_136)
  refine below_succ ?_ (ob_135)
  refine below_succ ?_ (ob_134)
  refine below_succ ?_ (ob_133 h1)
  refine below_succ ?_ (ob_132)
  refine below_succ ?_ (ob_131)
  refine below_succ ?_ (ob_130)
  refine below_succ ?_ (ob_129 h1)
  refine below_succ ?_ (ob_128 h5)
  refine below_succ ?_ (ob_127)
  refine below_succ ?_ (ob_126)
  refine below_succ ?_ (ob_125)
  refine below_succ ?_ (ob_124)
  refine below_succ ?_ (ob_123)
  refine below_succ ?_ (ob_122 h1)
  refine below_succ ?_ (ob_121)
  refine below_succ ?_ (ob_120 hc)
  refine below_succ ?_ (ob_119)
  refine below_succ ?_ (ob_118 h1)
  refine below_succ ?_ (ob_117)
  refine below_succ ?_ (ob_116)
  refine below_succ ?_ (ob_115)
  refine below_succ ?_ (ob_114 h1)
  refine below_succ ?_ (ob_113 h5)
  refine below_succ ?_ (ob_112)
  refine below_succ ?_ (ob_111)
  refine below_succ ?_ (ob_110)
  refine below_succ ?_ (ob_109)
  refine below_succ ?_ (ob_108 hc)
  refine below_succ ?_ (ob_107)
  refine below_succ ?_ (ob_106 h1)
  refine below_succ ?_ (ob_105)
  refine below_succ ?_ (ob_104)
  refine below_succ ?_ (ob_103)
  refine below_succ ?_ (ob_102 h1)
  refine below_succ ?_ (ob_101 hc)
  refine below_succ ?_ (ob_100)
  refine below_succ ?_ (ob_99 h1)
  refine below_succ ?_ (ob_98)
  refine below_succ ?_ (ob_97 h1)
  refine below_succ ?_ (ob_96 h5)
  refine below_succ ?_ (ob_95)
  refine below_succ ?_ (ob_94)
  refine below_succ ?_ (ob_93)
  refine below_succ ?_ (ob_92 hc)
  refine below_succ ?_ (ob_91)
  refine below_succ ?_ (ob_90 h1)
  refine below_succ ?_ (ob_89 hc)
  refine below_succ ?_ (ob_88)
  refine below_succ ?_ (ob_87 h1)
  refine below_succ ?_ (ob_86 h5)
  refine below_succ ?_ (ob_85)
  refine below_succ ?_ (ob_84)
  refine below_succ ?_ (ob_83)
  refine below_succ ?_ (ob_82)
  refine below_succ ?_ (ob_81 hc)
  refine below_succ ?_ (ob_80)
  refine below_succ ?_ (ob_79 h1)
  refine below_succ ?_ (ob_78 hc)
  refine below_succ ?_ (ob_77)
  refine below_succ ?_ (ob_76 h1)
  refine below_succ ?_ (ob_75 h5)
  refine below_succ ?_ (ob_74)
  refine below_succ ?_ (ob_73)
  refine below_succ ?_ (ob_72)
  refine below_succ ?_ (ob_71)
  refine below_succ ?_ (ob_70 hc)
  refine below_succ ?_ (ob_69)
  refine below_succ ?_ (ob_68 h1)
  refine below_succ ?_ (ob_67 hc)
  refine below_succ ?_ (ob_66)
  refine below_succ ?_ (ob_65 h1)
  refine below_succ ?_ (ob_64 h5)
  refine below_succ ?_ (ob_63)
  refine below_succ ?_ (ob_62)
  refine below_succ ?_ (ob_61)
  refine below_succ ?_ (ob_60)
  refine below_succ ?_ (ob_59)
  refine below_succ ?_ (ob_58)
  refine below_succ ?_ (ob_57 h1)
  refine below_succ ?_ (ob_56 hc)
  refine below_succ ?_ (ob_55)
  refine below_succ ?_ (ob_54 h1)
  refine below_succ ?_ (ob_53 h5)
  refine below_succ ?_ (ob_52)
  refine below_succ ?_ (ob_51)
  refine below_succ ?_ (ob_50)
  refine below_succ ?_ (ob_49)
  refine below_succ ?_ (ob_48)
  refine below_succ ?_ (ob_47 h1)
  refine below_succ ?_ (ob_46 hc)
  refine below_succ ?_ (ob_45)
  refine below_succ ?_ (ob_44 h1)
  refine below_succ ?_ (ob_43 h5)
  refine below_succ ?_ (ob_42)
  refine below_succ ?_ (ob_41)
  refine below_succ ?_ (ob_40)
  refine below_succ ?_ (ob_39)
  refine below_succ ?_ (ob_38 hc)
  refine below_succ ?_ (ob_37)
  refine below_succ ?_ (ob_36 h1)
  refine below_succ ?_ (ob_35 hc)
  refine below_succ ?_ (ob_34)
  refine below_succ ?_ (ob_33 h1)
  refine below_succ ?_ (ob_32 h5)
  refine below_succ ?_ (ob_31)
  refine below_succ ?_ (ob_30)
  refine below_succ ?_ (ob_29)
  refine below_succ ?_ (ob_28)
  refine below_succ ?_ (ob_27)
  refine below_succ ?_ (ob_26 h1)
  refine below_succ ?_ (ob_25 hc)
  refine below_succ ?_ (ob_24)
  refine below_succ ?_ (ob_23 h1)
  refine below_succ ?_ (ob_22 h5)
  refine below_succ ?_ (ob_21)
  refine below_succ ?_ (ob_20)
  refine below_succ ?_ (ob_19)
  refine below_succ ?_ (ob_18)
  refine below_succ ?_ (ob_17)
  refine below_succ ?_ (ob_16 h1)
  refine below_succ ?_ (ob_15 hc)
  refine below_succ ?_ (ob_14)
  refine below_succ ?_ (ob_13 h1)
  refine below_succ ?_ (ob_12 h5)
  refine below_succ ?_ (ob_11)
  refine below_succ ?_ (ob_10)
  refine below_succ ?_ (ob_9)
  refine below_succ ?_ (ob_8)
  refine below_succ ?_ (ob_7)
  refine below_succ ?_ (ob_6 h1)
  refine below_succ ?_ (ob_5 hc)
  refine below_succ ?_ (ob_4)
  refine below_succ ?_ (ob_3 h1)
  refine below_succ ?_ (ob_2 h5)
  refine below_succ ?_ (ob_1)
  refine below_succ ?_ (ob_0 h4)
  exact fun j hj => absurd hj (Nat.not_lt_zero j)

def backB (ops : Array Oper) (n : Nat) : Bool := (List.range ops.size).all fun j => match ops[j]? with
  | some o => o.after.all (fun e => decide (e.on < j)) && (match o.dst with | some d => decide (d < n) | none => false)
  | none => true

def dls : List (Option Tmp) := [some 13, some 14, some 15, some 16, some 17, some 18, some 19, some 20, some 21, some 22, some 23, some 24, some 25, some 26, some 27, some 28, some 29, some 30, some 31, some 32, some 33, some 34, some 35, some 36, some 37, some 38, some 39, some 40, some 41, some 42, some 43, some 44, some 45, some 46, some 47, some 48, some 49, some 50, some 51, some 52, some 53, some 54, some 55, some 56, some 57, some 58, some 59, some 60, some 61, some 62, some 63, some 64, some 65, some 66, some 67, some 68, some 69, some 70, some 71, some 72, some 73, some 74, some 75, some 76, some 77, some 78, some 79, some 80, some 81, some 82, some 83, some 84, some 85, some 86, some 87, some 88, some 89, some 90, some 91, some 92, some 93, some 94, some 95, some 96, some 97, some 98, some 99, some 100, some 101, some 102, some 103, some 104, some 105, some 106, some 107, some 108, some 109, some 110, some 111, some 112, some 113, some 114, some 115, some 116, some 117, some 118, some 119, some 120, some 121, some 122, some 123, some 124, some 125, some 126, some 127, some 128, some 129, some 130, some 131, some 132, some 133, some 134, some 135, some 136, some 137, some 138, some 139, some 140, some 141, some 142, some 143, some 144, some 145, some 146, some 147, some 148, some 149, some 150, some 151, some 152, some 153, some 154, some 2]

set_option maxRecDepth 100000 in
theorem dls_nodup : dls.Nodup := by unfold dls; decide

set_option maxRecDepth 100000 in
theorem run_ok {w : World} {c : Cm} {cv vv fv ea wa : Value} {m : Int} {a0 : Act} {Q : Exit → Act → World → Prop} (h1 : a0.tmps[1]? = some (.pointer (some ⟨w.heap.size, 0, none⟩))) (h4 : a0.tmps[4]? = some (.bool true)) (h5 : a0.tmps[5]? = some (.func (.func 71) #[] #[.pointer (some ⟨w.heap.size + 1, 0, none⟩)])) (hc : Cals w c cv vv fv ea wa m) (ha : a0.tmps.size = 155) :
    RunOk rops (Array.replicate 143 false) a0 (VV w c cv vv fv ea wa m) Tryz.prog .any Q (Held w c cv vv fv ea wa m) := by
  have hb : backB rops 155 = true := by kernel_rfl
  have hdl : rops.toList.map (·.dst) = dls := by kernel_rfl
  have hnd := dls_nodup
  have each : ∀ (j : Nat) (o : Oper), rops[j]? = some o → o.after.all (fun e => decide (e.on < j)) = true ∧ (match o.dst with | some d => decide (d < 155) | none => false) = true := by
    intro j o hj
    have hlt := (Array.getElem?_eq_some_iff.1 hj).1
    have := List.all_eq_true.1 hb j (List.mem_range.2 hlt)
    rw [hj] at this
    simpa only [Bool.and_eq_true] using this
  refine ⟨by rw [rops_size]; simp, ?_, ?_, ?_, ?_⟩
  · intro j o hj _ e he
    have := Array.all_eq_true_iff_forall_mem.1 (each j o hj).1 e he
    simpa using this
  · intro j o hj _
    have := (each j o hj).2
    cases hd : o.dst with
    | none => rw [hd] at this; cases this
    | some d => rw [hd] at this; exact ⟨d, rfl, by rw [ha]; simpa using this⟩
  · intro j k o p d hj hk _ _ hod hpd
    have at' : ∀ (i : Nat) (q : Oper), rops[i]? = some q → dls[i]? = some q.dst := by
      intro i q hq
      rw [← hdl, List.getElem?_map, Array.getElem?_toList, hq]; rfl
    have e1 := at' j o hj
    have e2 := at' k p hk
    rw [hod] at e1
    rw [hpd] at e2
    exact (List.getElem?_inj (List.getElem?_eq_some_iff.1 e1).1 hnd).1 (e1.trans e2.symm)
  · intro j o listed a W hj _ hd hl hS K hK
    have hlt := (Array.getElem?_eq_some_iff.1 hj).1
    rw [rops_size] at hlt
    exact ob_all h1 h4 h5 hc j hlt o listed a W hj hd hl hS K hK

theorem Held.drew {w : World} {c : Cm} {cv vv fv ea wa : Value} {m : Int} {W : World} (h : Held w c cv vv fv ea wa m W) : Held w c cv vv fv ea wa m W.drew := ⟨h.1, h.2.1, h.2.2.1.drew, h.2.2.2⟩

theorem row_len {B : Nat} {w : World} {u : Value} {n : Nat} {xs : List Value} (h : RowAt B w u n xs) : ∃ ao ca, u = .slice ao n ca := by
  rcases h with ⟨rfl, ao, ca, h⟩ | ⟨b, off, cap, h, -⟩
  · exact ⟨ao, ca, h⟩
  · exact ⟨_, _, h⟩

theorem cals_of {w : World} {c : Cm} {cv vv fv ea wa : Value} (m : Int) (hi : CmIn 0 w c cv vv fv ea wa) (hf : CmFit c) (hl : Laid w) : Cals w c cv vv fv ea wa m := by
  have up : ∀ W, Held w c cv vv fv ea wa m W → CmIn 0 W c cv vv fv ea wa ∧ Laid W := fun W h => ⟨hi.keep h.2.2.1.size fun b _ hb => h.2.2.1.block b hb, hl.below h.2.2.1⟩
  have nn : ∀ (x : Ex) (a : Value) (W : World), ExAt 0 W (exV x.k x.v x.nm a) x → Calls Tryz.prog 79 #[exV x.k x.v x.nm a] W fun e w' => e = .returned (.bool (noneE x)) ∧ Below W.heap.size W w' := by
    intro x a W h
    obtain ⟨ao, ca, e⟩ := h.len
    rw [e]
    exact isNone_any x ao ca W
  exact {
    q1 := fun W h => cname_any _ hf.name (up W h).2
    q2 := fun W h => cname_any _ hf.other (up W h).2
    q3 := fun W h => cname_any _ hf.column (up W h).2
    q4 := fun W h => cols_any _ W (up W h).1.cols hf.cols hf.colsN (up W h).2
    q5 := fun W _ => isType_any _ W
    q6 := fun W _ => isValue_any _ W hf.val
    q7 := fun W h => vals_any _ W (up W h).1.vals hf.vals hf.valsN
    q8 := fun W h => fields_any c fv (up W h).1.fields hf.fields hf.fieldsN (up W h).2
    q9 := fun W h => isExpr_any (up W h).1.expr hf.expr W (Below.refl _ _) (up W h).2
    n9 := fun W h => nn _ _ W (up W h).1.expr
    q10 := fun W h => isWhere_any c.all (up W h).1.wh hf.wh (up W h).2
    n10 := fun W h => nn _ _ W (up W h).1.wh
    q11 := fun W h => cname_any _ hf.order (up W h).2
    l4 := row_len hi.cols
    l7 := row_len hi.vals
    l8 := row_len hi.fields }

theorem rightC_eq (c : Cm) : rightC c = (kindB c.kind && Pr (Xc (maskN c.kind : Nat) c) 12) := by
  have d4 : decide ((c.cols.length : Int) = 0) = decide (c.cols.length = 0) := by rw [decide_eq_decide]; omega
  have d7 : decide ((c.vals.length : Int) = 0) = decide (c.vals.length = 0) := by rw [decide_eq_decide]; omega
  have d8 : decide ((c.fields.length : Int) = 0) = decide (c.fields.length = 0) := by rw [decide_eq_decide]; omega
  have d12 : (decide (-1 ≤ c.limit) && decide (c.limit ≤ 999999999)) = decide (-1 ≤ c.limit ∧ c.limit ≤ 999999999) := by rw [Bool.decide_and]
  simp only [rightC, Pr, Xc, bitC, rC, eC, d4, d7, d8, d12, selB, Bool.true_and, Bool.and_assoc]

set_option maxRecDepth 100000 in
set_option maxHeartbeats 1600000 in
theorem isRight_in {w : World} (c : Cm) (cv vv fv ea wa : Value) (hk : 1 ≤ c.kind ∧ c.kind ≤ 16) (hi : CmIn 0 w c cv vv fv ea wa) (hf : CmFit c) (hl : Laid w) :
    Calls Tryz.prog 29 #[.agg (cmL c cv vv fv ea wa).toArray] w fun e w' => e = .returned (.bool (rightC c)) ∧ Below w.heap.size w w' := by
  have H0 := Held.start w c cv vv fv ea wa (maskN c.kind : Nat)
  have hnb : ∀ W, Calls Tryz.prog 70 #[.int .i64 c.kind] W fun e w' => e = .returned (.tuple #[.int .i64 (maskN c.kind : Nat), .bool true]) ∧ w' = W := by
    intro W
    have e : ((c.kind.toNat : Nat) : Int) = c.kind := by omega
    have := namedBy_in W c.kind.toNat (by omega) (by omega)
    rwa [e] at this
  have hR : rightC c = Pr (Xc (maskN c.kind : Nat) c) 12 := by rw [rightC_eq, kindB, decide_eq_true hk, Bool.true_and]
  have hc := cals_of (maskN c.kind : Nat) hi hf hl
  rw [hR]
  have d0 : (w.alloc (.cells (cmL c cv vv fv ea wa).toArray 31)).cell? ⟨w.heap.size, 0, none⟩ = some (.int .i64 c.kind) := by
    rw [Lib.cell_of_heap (heap_alloc_new w (.cells (cmL c cv vv fv ea wa).toArray 31))]; rfl
  clear hk hR hi hf hl
  generalize hm : (maskN c.kind : Int) = m at *
  clear hm
  go_enter Tryz.func29, Tryz.ntmps29
  go_wp2_with fail
  refine (hnb _).mono ?_
  rintro e w' ⟨rfl, hw'⟩
  obtain rfl := hw'.symm
  clear hw' hnb d0
  go_wp2_with fail
  refine wp_region_as rops (by kernel_rfl) ?_
  refine wp_region_held_drew (S := Held w c cv vv fv ea wa m) (by kernel_rfl) H0.drew (fun hHeld => ?_)
  rw [rops_size]
  refine run_region (V := VV w c cv vv fv ea wa m) (run_ok rfl rfl rfl hc rfl) ?_ _ _ _ _ ⟨by rw [rops_size]; simp, rfl, fun _ h => h, fun j o d _ h1 h2 _ => (by rw [h1] at h2; cases h2), fun _ _ => rfl, rfl⟩ hHeld (of_decide_eq_true (by kernel_rfl))
  intro a' w' hS hd ha
  have h2 : a'.tmps[2]? = some (.bool (Pr (Xc m c) 12)) := ha 142 (opAt 142) 2 (by kernel_rfl) (by kernel_rfl) (by kernel_rfl)
  have hr := results_tmp Tryz.results29 a'.tmps Tryz.prog w'
  simp only [Array.getD_eq_getD_getElem?, h2, Option.getD_some] at hr
  refine ‹∀ (a : Act) (w : World), Code.wp _ _ _ a w → _› _ _ ?_
  refine wp_ret ?_
  exact bodyPost_ret hr hd ⟨rfl, hS.2.2.1⟩

theorem isRight_any {w : World} (c : Cm) (cv vv fv ea wa : Value) (hi : CmIn 0 w c cv vv fv ea wa) (hf : CmFit c) (hl : Laid w) :
    Calls Tryz.prog 29 #[.agg (cmL c cv vv fv ea wa).toArray] w fun e w' => e = .returned (.bool (rightC c)) ∧ Below w.heap.size w w' := by
  by_cases hk : 1 ≤ c.kind ∧ c.kind ≤ 16
  · exact isRight_in c cv vv fv ea wa hk hi hf hl
  · have e : rightC c = false := by rw [rightC_eq, kindB, decide_eq_false hk, Bool.false_and]
    rw [e]
    exact isRight_out c cv vv fv ea wa hk

end Go.Proofs.YtkpeklealgicpabGreatDoor

namespace Go.Proofs.YtkpeklealgicpabGreatDoor
open Go.RowKit

theorem args_of {w : World} {x : Ex} {a : Value} (h : ExAt 0 w (exV x.k x.v x.nm a) x) : ∃ ao ca, a = .slice ao x.args.length ca := by
  obtain ⟨ao, ca, ps, e, -⟩ := h.pairs
  exact ⟨ao, ca, e⟩

theorem many_any {w : World} (c : Cm) (cv vv fv ea wa : Value) (hi : CmIn 0 w c cv vv fv ea wa) (hf : CmFit c) :
    Calls Tryz.prog 28 #[.agg (cmL c cv vv fv ea wa).toArray] w fun e w' => e = .returned (.bool (manyC c)) ∧ Below w.heap.size w w' := by
  obtain ⟨a1, c1, rfl⟩ := row_len hi.cols
  obtain ⟨a2, c2, rfl⟩ := row_len hi.vals
  obtain ⟨a3, c3, rfl⟩ := row_len hi.fields
  obtain ⟨a4, c4, rfl⟩ := args_of hi.expr
  obtain ⟨a5, c5, rfl⟩ := args_of hi.wh
  exact hasMany_any c a1 a2 a3 a4 a5 c1 c2 c3 c4 c5 hi.expr hi.wh hf.expr hf.wh

/-- what Check answers of any command in memory -/
theorem check_cmd {w : World} (c : Cm) (cv vv fv ea wa : Value) (hi : CmIn 0 w c cv vv fv ea wa) (hf : CmFit c) (hl : Laid w) :
    Calls Tryz.prog 12 #[.agg (cmL c cv vv fv ea wa).toArray] w fun e w' => e = .returned (.int .i64 (chkC (manyC c) (rightC c))) ∧ Below w.heap.size w w' := by
  have up : ∀ W, Below w.heap.size w W → CmIn 0 W c cv vv fv ea wa ∧ Laid W := fun W h => ⟨hi.keep h.size fun b _ hb => h.block b hb, hl.below h⟩
  exact checkC_any c cv vv fv ea wa (manyC c) (rightC c) (fun W h => many_any c cv vv fv ea wa (up W h).1 hf) (fun W h => isRight_any c cv vv fv ea wa (up W h).1 hf (up W h).2)

/-- the same, with the document's own test of a command -/
theorem check_ref {w : World} (c : Cm) (cv vv fv ea wa : Value) (hi : CmIn 0 w c cv vv fv ea wa) (hf : CmFit c) (hl : Laid w) :
    Calls Tryz.prog 12 #[.agg (cmL c cv vv fv ea wa).toArray] w fun e w' => e = .returned (.int .i64 (chkC (manyC c) (refC c))) ∧ Below w.heap.size w w' := by
  rw [← rightC_iff]
  exact check_cmd c cv vv fv ea wa hi hf hl

end Go.Proofs.YtkpeklealgicpabGreatDoor

namespace Go.Proofs.YtkpeklealgicpabGreatDoor
open Go.RowKit

theorem scanGo_each {p : Tk → Prop} (hp : ∀ (a : Nat) (c : UInt8) (r : List UInt8), wrongL (tokL (c :: r)).1 ((c :: r).take (tokL (c :: r)).2) = 0 → p ⟨((tokL (c :: r)).1 : Nat), (a : Nat), (c :: r).take (tokL (c :: r)).2⟩) (f : Nat) :
    ∀ (a : Nat) (l : List UInt8) (acc : List Tk), (∀ x ∈ acc, p x) → ∀ x ∈ (scanGo f a l acc).1, p x := by
  induction f with
  | zero => intro a l acc h; exact h
  | succ f ih =>
    intro a l acc h
    cases l with
    | nil => exact h
    | cons c r =>
      rw [scanGo]
      split
      · exact ih _ _ _ h
      · split
        · rename_i hw
          apply ih
          intro x hx
          rcases List.mem_append.1 hx with hx | hx
          · exact h x hx
          · rw [List.mem_singleton] at hx
            rw [hx]
            exact hp a c r hw
        · intro x hx; cases hx

theorem scanS_each {p : Tk → Prop} (hp : ∀ (a : Nat) (c : UInt8) (r : List UInt8), wrongL (tokL (c :: r)).1 ((c :: r).take (tokL (c :: r)).2) = 0 → p ⟨((tokL (c :: r)).1 : Nat), (a : Nat), (c :: r).take (tokL (c :: r)).2⟩) (s : List UInt8) : ∀ x ∈ (scanS s).1, p x := by
  unfold scanS
  split
  · intro x hx; cases hx
  · exact scanGo_each hp _ _ _ _ (by intro x hx; cases hx)

theorem scanGo_few (f : Nat) : ∀ (a : Nat) (l : List UInt8) (acc : List Tk), (scanGo f a l acc).1.length ≤ acc.length + l.length := by
  induction f with
  | zero => intro a l acc; simp [scanGo]
  | succ f ih =>
    intro a l acc
    cases l with
    | nil => simp [scanGo]
    | cons c r =>
      rw [scanGo]
      split
      · have := ih (a + 1) r acc
        simp only [List.length_cons]; omega
      · split
        · rename_i hw
          have hz := tokL_pos c r (wrongL_zero hw)
          have := ih (a + (tokL (c :: r)).2) ((c :: r).drop (tokL (c :: r)).2) (acc ++ [⟨((tokL (c :: r)).1 : Nat), (a : Nat), (c :: r).take (tokL (c :: r)).2⟩])
          simp only [List.length_append, List.length_drop, List.length_cons, List.length_nil] at this ⊢
          omega
        · simp

theorem scanS_few (s : List UInt8) : (scanS s).1.length ≤ 2000 := by
  unfold scanS
  split
  · simp
  · have := scanGo_few (s.length + 1) 0 s []
    simp only [List.length_nil] at this
    unfold scanL
    omega

theorem runL_each (p : UInt8 → Bool) (l : List UInt8) : ∀ c ∈ l.take (runL p l), p c = true := by
  induction l with
  | nil => intro c hc; simp [runL] at hc
  | cons d r ih =>
    intro c hc
    rw [runL_cons] at hc
    split at hc
    · rename_i hd
      rw [List.take_succ_cons] at hc
      rcases List.mem_cons.1 hc with e | e
      · rw [e]; exact hd
      · exact ih c e
    · simp at hc

theorem tokL_two (c : UInt8) (r : List UInt8) (h : (tokL (c :: r)).1 = 2) : isD c = true ∧ tokL (c :: r) = (2, runL isD r + 1) := by
  revert h
  rw [tokL]
  repeat' split
  all_goals simp_all

theorem tokL_three (c : UInt8) (r : List UInt8) (h : (tokL (c :: r)).1 = 3) : c = 39 ∧ tokL (c :: r) = (3, runL isQ r + 2) ∧ r[runL isQ r]? = some 39 := by
  revert h
  rw [tokL]
  repeat' split
  all_goals simp_all

theorem scanned_ok (s : List UInt8) : ∀ x ∈ (scanS s).1, TokOk x := by
  have hs : ∀ x ∈ (scanS s).1, x.t.length ≤ 22 := by
    unfold scanS
    split
    · intro y hy; cases hy
    · exact scanGo_len _ _ _ _ (by intro y hy; cases hy)
  have hr : ∀ x ∈ (scanS s).1, (x.k = 2 → x.t ≠ [] ∧ x.t.length ≤ 9 ∧ ∀ c ∈ x.t, isD c = true) ∧ (x.k = 3 → 2 ≤ x.t.length) := by
    refine scanS_each (fun a c r hw => ⟨fun h2 => ?_, fun h3 => ?_⟩) s
    · have h2' : (tokL (c :: r)).1 = 2 := by simp only at h2; omega
      obtain ⟨hd, ht⟩ := tokL_two c r h2'
      rw [ht] at hw ⊢
      simp only [List.take_succ_cons] at hw ⊢
      refine ⟨by simp, ?_, ?_⟩
      · apply Classical.byContradiction
        intro hn
        rw [wrongL, if_neg (by decide), if_pos (by right; left; exact ⟨rfl, by omega⟩)] at hw
        cases hw
      · intro d hdm
        rcases List.mem_cons.1 hdm with e | e
        · rw [e]; exact hd
        · exact runL_each isD r d e
    · have h3' : (tokL (c :: r)).1 = 3 := by simp only at h3; omega
      obtain ⟨-, ht, hq⟩ := tokL_three c r h3'
      rw [ht]
      have := (List.getElem?_eq_some_iff.1 hq).1
      simp only [List.length_take, List.length_cons]
      omega
  exact fun x hx => ⟨hs x hx, (hr x hx).1, (hr x hx).2⟩

theorem tks_scanned {w : World} {base : Nat} {v : Value} {s : List UInt8} (h : w.ownsRow base 63 3 v (scanS s).1.length (cellsT (scanS s).1)) : Tks w base v (scanS s).1 := ⟨h, scanS_few s, scanned_ok s⟩

end Go.Proofs.YtkpeklealgicpabGreatDoor

namespace Go.Proofs.YtkpeklealgicpabGreatDoor
open Go.RowKit

set_option maxHeartbeats 400000 in
theorem between_any (n a b : Int) (w : World) :
    Calls Tryz.prog 31 #[.int .i64 n, .int .i64 a, .int .i64 b] w fun e w' => e = .returned (.bool (decide (a ≤ n) && decide (n ≤ b))) ∧ w' = w := by
  go_enter Tryz.func31, Tryz.ntmps31
  go_wp2
  all_goals go_ret
  all_goals exact ⟨ret_bool (by simp [*] <;> omega), rfl⟩

set_option maxHeartbeats 400000 in
theorem refL_any (c : UInt8) (w : World) :
    Calls Tryz.prog 113 #[.int .u8 (c.toNat : Int)] w fun e w' => e = .returned (.bool (isL c)) ∧ w' = w := by
  have hc : (c.toNat : Int) ≤ 255 := by have := c.toNat_lt; omega
  go_enter Tryz.func113, Tryz.ntmps113
  go_wp2_with (go_at_call 31; refine (between_any _ _ _ _).mono ?_; rintro e w' ⟨rfl, rfl⟩)
  go_ret
  exact ⟨ret_bool (by rfl), rfl⟩

set_option maxHeartbeats 400000 in
theorem refD_any (c : UInt8) (w : World) :
    Calls Tryz.prog 114 #[.int .u8 (c.toNat : Int)] w fun e w' => e = .returned (.bool (isD c)) ∧ w' = w := by
  have hc : (c.toNat : Int) ≤ 255 := by have := c.toNat_lt; omega
  go_enter Tryz.func114, Tryz.ntmps114
  go_wp2_with (go_at_call 31; refine (between_any _ _ _ _).mono ?_; rintro e w' ⟨rfl, rfl⟩)
  go_ret
  exact ⟨ret_bool (by rfl), rfl⟩

set_option maxHeartbeats 400000 in
theorem refQ_any (c : UInt8) (w : World) :
    Calls Tryz.prog 82 #[.int .u8 (c.toNat : Int)] w fun e w' => e = .returned (.bool (isQ c)) ∧ w' = w := by
  have hc : (c.toNat : Int) ≤ 255 := by have := c.toNat_lt; omega
  cases h : (decide ((32 : Int) ≤ (c.toNat : Int)) && decide ((c.toNat : Int) ≤ 126))
  · have H : Hid ((decide ((32 : Int) ≤ (c.toNat : Int)) && decide ((c.toNat : Int) ≤ 126)) = false) := h
    have hb := between_any c.toNat 32 126
    rw [h] at hb
    clear h
    go_enter Tryz.func82, Tryz.ntmps82
    go_wp2_with (go_at_call 31; refine (hb _).mono ?_; rintro e w' ⟨rfl, rfl⟩)
    go_ret
    exact ⟨ret_bool (by unfold isQ; rw [H.out]; rfl), rfl⟩
  · have H : Hid ((decide ((32 : Int) ≤ (c.toNat : Int)) && decide ((c.toNat : Int) ≤ 126)) = true) := h
    have hb := between_any c.toNat 32 126
    rw [h] at hb
    clear h
    go_enter Tryz.func82, Tryz.ntmps82
    go_wp2_with (go_at_call 31; refine (hb _).mono ?_; rintro e w' ⟨rfl, rfl⟩)
    go_ret
    exact ⟨ret_bool (by unfold isQ; rw [H.out]; rfl), rfl⟩

theorem refL_rw {c : UInt8} {b : Bool} (h : isL c = b) (w : World) : Calls Tryz.prog 113 #[.int .u8 (c.toNat : Int)] w fun e w' => e = .returned (.bool b) ∧ w' = w := by
  rw [← h]; exact refL_any c w
theorem refD_rw {c : UInt8} {b : Bool} (h : isD c = b) (w : World) : Calls Tryz.prog 114 #[.int .u8 (c.toNat : Int)] w fun e w' => e = .returned (.bool b) ∧ w' = w := by
  rw [← h]; exact refD_any c w
theorem refQ_rw {c : UInt8} {b : Bool} (h : isQ c = b) (w : World) : Calls Tryz.prog 82 #[.int .u8 (c.toNat : Int)] w fun e w' => e = .returned (.bool b) ∧ w' = w := by
  rw [← h]; exact refQ_any c w

set_option maxHeartbeats 800000 in
theorem at_name (s : ByteArray) (a : Nat) (w : World) (hs : s.size ≤ 2000) (ha : a < s.size) (hc : isL s[a] = true) :
    Calls Tryz.prog 58 #[.string s, .int .i64 (a : Int)] w fun e w' => e = .returned (.tuple #[.int .i64 1, .int .i64 ((spanE isW s (a + 1) - a : Nat) : Int)]) ∧ w' = w := by
  have h1 := refL_rw hc
  clear hc
  go_enter Tryz.func58, Tryz.ntmps58
  go_wp2_with (go_at_call 113; refine (h1 _).mono ?_; rintro e w' ⟨rfl, hw'⟩; obtain rfl := hw'.symm; clear hw')
  clear h1
  go_loop [7] (fun i => ∃ n : Nat, 1 ≤ n ∧ a + n ≤ s.size ∧ i = .int .i64 n ∧ Hid (spanE isW s (a + n) = spanE isW s (a + 1))) (fun i => s.size - (intOf i).toNat)
  case atStart => exact ⟨1, by omega, by omega, rfl, rfl⟩
  case round =>
    obtain ⟨n, hn1, hn2, rfl, HE⟩ := hrel
    by_cases hlt : a + n < s.size
    · cases hL : isL s[a + n]
      · cases hD : isD s[a + n]
        · have h1 := refL_rw hL
          have h2 := refD_rw hD
          have hend := spanE_no isW s (a + n) hlt (by simp [isW, hL, hD])
          rw [HE.out] at hend
          have HG : Hid (spanE isW s (a + 1) = a + n) := hend
          clear hend HE hL hD
          go_wp2_with (first | (go_at_call 113; refine (h1 _).mono ?_; rintro e w' ⟨rfl, hw'⟩; obtain rfl := hw'.symm; clear hw') | (go_at_call 114; refine (h2 _).mono ?_; rintro e w' ⟨rfl, hw'⟩; obtain rfl := hw'.symm; clear hw'))
          go_ret2
          rw [HG.out, Nat.add_sub_cancel_left]
          exact ⟨rfl, rfl⟩
        · have h1 := refL_rw hL
          have h2 := refD_rw hD
          have hend := spanE_yes isW s (a + n) hlt (by simp [isW, hL, hD])
          rw [HE.out] at hend
          have HG : Hid (spanE isW s (a + (n + 1)) = spanE isW s (a + 1)) := hend.symm
          clear hend HE hL hD
          go_wp2_with (first | (go_at_call 113; refine (h1 _).mono ?_; rintro e w' ⟨rfl, hw'⟩; obtain rfl := hw'.symm; clear hw') | (go_at_call 114; refine (h2 _).mono ?_; rintro e w' ⟨rfl, hw'⟩; obtain rfl := hw'.symm; clear hw'))
          go_round
          case rel => exact ⟨n + 1, by omega, by omega, by go_num, HG⟩
          case measure => simp [intOf]; omega
      · have h1 := refL_rw hL
        have hend := spanE_yes isW s (a + n) hlt (by simp [isW, hL])
        rw [HE.out] at hend
        have HG : Hid (spanE isW s (a + (n + 1)) = spanE isW s (a + 1)) := hend.symm
        clear hend HE hL
        go_wp2_with (go_at_call 113; refine (h1 _).mono ?_; rintro e w' ⟨rfl, hw'⟩; obtain rfl := hw'.symm; clear hw')
        go_round
        case rel => exact ⟨n + 1, by omega, by omega, by go_num, HG⟩
        case measure => simp [intOf]; omega
    · have hend := spanE_end isW s (a + n) hlt
      rw [HE.out] at hend
      have HG : Hid (spanE isW s (a + 1) = a + n) := hend
      clear hend HE
      go_wp2
      go_ret2
      rw [HG.out, Nat.add_sub_cancel_left]
      exact ⟨rfl, rfl⟩

set_option maxHeartbeats 800000 in
theorem at_number (s : ByteArray) (a : Nat) (w : World) (hs : s.size ≤ 2000) (ha : a < s.size) (hc : isL s[a] = false) (hd : isD s[a] = true) :
    Calls Tryz.prog 58 #[.string s, .int .i64 (a : Int)] w fun e w' => e = .returned (.tuple #[.int .i64 2, .int .i64 ((spanE isD s (a + 1) - a : Nat) : Int)]) ∧ w' = w := by
  have h1 := refL_rw hc
  have h2 := refD_rw hd
  clear hc hd
  go_enter Tryz.func58, Tryz.ntmps58
  go_wp2_with (first | (go_at_call 113; refine (h1 _).mono ?_; rintro e w' ⟨rfl, hw'⟩; obtain rfl := hw'.symm; clear hw') | (go_at_call 114; refine (h2 _).mono ?_; rintro e w' ⟨rfl, hw'⟩; obtain rfl := hw'.symm; clear hw'))
  clear h1 h2
  go_loop [7] (fun i => ∃ n : Nat, 1 ≤ n ∧ a + n ≤ s.size ∧ i = .int .i64 n ∧ Hid (spanE isD s (a + n) = spanE isD s (a + 1))) (fun i => s.size - (intOf i).toNat)
  case atStart => exact ⟨1, by omega, by omega, rfl, rfl⟩
  case round =>
    obtain ⟨n, hn1, hn2, rfl, HE⟩ := hrel
    by_cases hlt : a + n < s.size
    · cases hD : isD s[a + n]
      · have h2 := refD_rw hD
        have hend := spanE_no isD s (a + n) hlt hD
        rw [HE.out] at hend
        have HG : Hid (spanE isD s (a + 1) = a + n) := hend
        clear hend HE hD
        go_wp2_with (go_at_call 114; refine (h2 _).mono ?_; rintro e w' ⟨rfl, hw'⟩; obtain rfl := hw'.symm; clear hw')
        go_ret2
        rw [HG.out, Nat.add_sub_cancel_left]
        exact ⟨rfl, rfl⟩
      · have h2 := refD_rw hD
        have hend := spanE_yes isD s (a + n) hlt hD
        rw [HE.out] at hend
        have HG : Hid (spanE isD s (a + (n + 1)) = spanE isD s (a + 1)) := hend.symm
        clear hend HE hD
        go_wp2_with (go_at_call 114; refine (h2 _).mono ?_; rintro e w' ⟨rfl, hw'⟩; obtain rfl := hw'.symm; clear hw')
        go_round
        case rel => exact ⟨n + 1, by omega, by omega, by go_num, HG⟩
        case measure => simp [intOf]; omega
    · have hend := spanE_end isD s (a + n) hlt
      rw [HE.out] at hend
      have HG : Hid (spanE isD s (a + 1) = a + n) := hend
      clear hend HE
      go_wp2
      go_ret2
      rw [HG.out, Nat.add_sub_cancel_left]
      exact ⟨rfl, rfl⟩

set_option maxHeartbeats 800000 in
theorem at_text (s : ByteArray) (a : Nat) (w : World) (hs : s.size ≤ 2000) (ha : a < s.size) (hc : isL s[a] = false) (hd : isD s[a] = false) (hq : ((s[a].toNat : Int) == 39) = true)
    (hyp : ∃ h : spanE isQ s (a + 1) < s.size, ((s[spanE isQ s (a + 1)].toNat : Int) == 39) = true) :
    Calls Tryz.prog 58 #[.string s, .int .i64 (a : Int)] w fun e w' => e = .returned (.tuple #[.int .i64 3, .int .i64 ((spanE isQ s (a + 1) - a + 1 : Nat) : Int)]) ∧ w' = w := by
  have h1 := refL_rw hc
  have h2 := refD_rw hd
  have HZ := hide hyp
  clear hc hd hyp
  go_enter Tryz.func58, Tryz.ntmps58
  go_wp2_with (first | (go_at_call 113; refine (h1 _).mono ?_; rintro e w' ⟨rfl, hw'⟩; obtain rfl := hw'.symm; clear hw') | (go_at_call 114; refine (h2 _).mono ?_; rintro e w' ⟨rfl, hw'⟩; obtain rfl := hw'.symm; clear hw'))
  clear h1 h2
  go_loop [7] (fun i => ∃ n : Nat, 1 ≤ n ∧ a + n ≤ s.size ∧ i = .int .i64 n ∧ Hid (spanE isQ s (a + n) = spanE isQ s (a + 1))) (fun i => s.size - (intOf i).toNat)
  case atStart => exact ⟨1, by omega, by omega, rfl, rfl⟩
  case round =>
    obtain ⟨n, hn1, hn2, rfl, HE⟩ := hrel
    by_cases hlt : a + n < s.size
    · cases hD : isQ s[a + n]
      · have h2 := refQ_rw hD
        have hend := spanE_no isQ s (a + n) hlt hD
        rw [HE.out] at hend
        have HG : Hid (spanE isQ s (a + 1) = a + n) := hend
        clear hend HE hD
        have hz : ((s[a + n].toNat : Int) == 39) = true := by obtain ⟨h, hz⟩ := HZ.out; simpa only [HG.out] using hz
        go_wp2_with (go_at_call 82; refine (h2 _).mono ?_; rintro e w' ⟨rfl, hw'⟩; obtain rfl := hw'.symm; clear hw')
        go_ret2
        rw [HG.out, Nat.add_sub_cancel_left]
        exact ⟨rfl, rfl⟩
      · have h2 := refQ_rw hD
        have hend := spanE_yes isQ s (a + n) hlt hD
        rw [HE.out] at hend
        have HG : Hid (spanE isQ s (a + (n + 1)) = spanE isQ s (a + 1)) := hend.symm
        clear hend HE hD
        go_wp2_with (go_at_call 82; refine (h2 _).mono ?_; rintro e w' ⟨rfl, hw'⟩; obtain rfl := hw'.symm; clear hw')
        go_round
        case rel => exact ⟨n + 1, by omega, by omega, by go_num, HG⟩
        case measure => simp [intOf]; omega
    · have hend := spanE_end isQ s (a + n) hlt
      rw [HE.out] at hend
      have HG : Hid (spanE isQ s (a + 1) = a + n) := hend
      clear hend HE
      exact absurd (HZ.out.1) (by rw [HG.out]; exact hlt)

set_option maxHeartbeats 800000 in
theorem at_open (s : ByteArray) (a : Nat) (w : World) (hs : s.size ≤ 2000) (ha : a < s.size) (hc : isL s[a] = false) (hd : isD s[a] = false) (hq : ((s[a].toNat : Int) == 39) = true)
    (hyp : ¬ ∃ h : spanE isQ s (a + 1) < s.size, ((s[spanE isQ s (a + 1)].toNat : Int) == 39) = true) :
    Calls Tryz.prog 58 #[.string s, .int .i64 (a : Int)] w fun e w' => e = .returned (.tuple #[.int .i64 0, .int .i64 0]) ∧ w' = w := by
  have h1 := refL_rw hc
  have h2 := refD_rw hd
  have HZ := hide hyp
  clear hc hd hyp
  go_enter Tryz.func58, Tryz.ntmps58
  go_wp2_with (first | (go_at_call 113; refine (h1 _).mono ?_; rintro e w' ⟨rfl, hw'⟩; obtain rfl := hw'.symm; clear hw') | (go_at_call 114; refine (h2 _).mono ?_; rintro e w' ⟨rfl, hw'⟩; obtain rfl := hw'.symm; clear hw'))
  clear h1 h2
  go_loop [7] (fun i => ∃ n : Nat, 1 ≤ n ∧ a + n ≤ s.size ∧ i = .int .i64 n ∧ Hid (spanE isQ s (a + n) = spanE isQ s (a + 1))) (fun i => s.size - (intOf i).toNat)
  case atStart => exact ⟨1, by omega, by omega, rfl, rfl⟩
  case round =>
    obtain ⟨n, hn1, hn2, rfl, HE⟩ := hrel
    by_cases hlt : a + n < s.size
    · cases hD : isQ s[a + n]
      · have h2 := refQ_rw hD
        have hend := spanE_no isQ s (a + n) hlt hD
        rw [HE.out] at hend
        have HG : Hid (spanE isQ s (a + 1) = a + n) := hend
        clear hend HE hD
        have hz : ((s[a + n].toNat : Int) == 39) = false := by
          cases hz : ((s[a + n].toNat : Int) == 39)
          · rfl
          · exact absurd ⟨by rw [HG.out]; exact hlt, by simpa only [HG.out] using hz⟩ HZ.out
        go_wp2_with (go_at_call 82; refine (h2 _).mono ?_; rintro e w' ⟨rfl, hw'⟩; obtain rfl := hw'.symm; clear hw')
        go_ret2
        exact ⟨rfl, rfl⟩
      · have h2 := refQ_rw hD
        have hend := spanE_yes isQ s (a + n) hlt hD
        rw [HE.out] at hend
        have HG : Hid (spanE isQ s (a + (n + 1)) = spanE isQ s (a + 1)) := hend.symm
        clear hend HE hD
        go_wp2_with (go_at_call 82; refine (h2 _).mono ?_; rintro e w' ⟨rfl, hw'⟩; obtain rfl := hw'.symm; clear hw')
        go_round
        case rel => exact ⟨n + 1, by omega, by omega, by go_num, HG⟩
        case measure => simp [intOf]; omega
    · have hend := spanE_end isQ s (a + n) hlt
      rw [HE.out] at hend
      have HG : Hid (spanE isQ s (a + 1) = a + n) := hend
      clear hend HE
      go_wp2
      go_ret2
      exact ⟨rfl, rfl⟩

set_option maxHeartbeats 800000 in
theorem at_bars (s : ByteArray) (a : Nat) (w : World) (hs : s.size ≤ 2000) (ha : a + 1 < s.size) (hc : isL s[a] = false) (hd : isD s[a] = false) (hq : ((s[a].toNat : Int) == 39) = false)
    (hp : ((s[a].toNat : Int) == 124) = true) (hp2 : ((s[a + 1].toNat : Int) == 124) = true) :
    Calls Tryz.prog 58 #[.string s, .int .i64 (a : Int)] w fun e w' => e = .returned (.tuple #[.int .i64 4, .int .i64 2]) ∧ w' = w := by
  have h1 := refL_rw hc
  have h2 := refD_rw hd
  clear hc hd
  go_enter Tryz.func58, Tryz.ntmps58
  go_wp2_with (first | (go_at_call 113; refine (h1 _).mono ?_; rintro e w' ⟨rfl, hw'⟩; obtain rfl := hw'.symm; clear hw') | (go_at_call 114; refine (h2 _).mono ?_; rintro e w' ⟨rfl, hw'⟩; obtain rfl := hw'.symm; clear hw'))
  go_ret2
  exact ⟨rfl, rfl⟩

/-- the signs of one byte -/
def sg : List UInt8 := [40, 41, 44, 59, 42, 61, 60, 43, 45]

theorem sg_at (n : Nat) (h : n < sg.length) (h' : n < (⟨#[40, 41, 44, 59, 42, 61, 60, 43, 45]⟩ : ByteArray).size) : (⟨#[40, 41, 44, 59, 42, 61, 60, 43, 45]⟩ : ByteArray)[n] = sg[n]'h := rfl

theorem sg_step {c : UInt8} {n : Nat} (h' : n < (⟨#[40, 41, 44, 59, 42, 61, 60, 43, 45]⟩ : ByteArray).size) (HE : ∀ j (h : j < sg.length), j < n → sg[j] ≠ c)
    (hz : (((⟨#[40, 41, 44, 59, 42, 61, 60, 43, 45]⟩ : ByteArray)[n].toNat : Int) == (c.toNat : Int)) = false) : ∀ j (h : j < sg.length), j < n + 1 → sg[j] ≠ c := by
  intro j h hj
  by_cases e : j = n
  · subst e
    intro e2
    have hz2 : ((sg[j].toNat : Int) == (c.toNat : Int)) = false := hz
    exact (beq_eq_false_iff_ne.1 hz2) (congrArg (fun x : UInt8 => (x.toNat : Int)) e2)
  · exact HE j h (by omega)

theorem sg_hit {c : UInt8} {n : Nat} (h' : n < (⟨#[40, 41, 44, 59, 42, 61, 60, 43, 45]⟩ : ByteArray).size)
    (hz : (((⟨#[40, 41, 44, 59, 42, 61, 60, 43, 45]⟩ : ByteArray)[n].toNat : Int) == (c.toNat : Int)) = true) : isS c = true := by
  have h : n < sg.length := h'
  rw [sg_at n h h'] at hz
  have e : sg[n] = c := by apply UInt8.toNat_inj.1; have := eq_of_beq hz; omega
  unfold isS
  rw [decide_eq_true_eq, ← e]
  exact List.getElem_mem h

theorem sg_miss {c : UInt8} (HE : ∀ j (h : j < sg.length), j < 9 → sg[j] ≠ c) : isS c = false := by
  unfold isS
  rw [decide_eq_false_iff_not]
  intro h
  obtain ⟨j, hj, e⟩ := List.getElem_of_mem (show c ∈ sg from h)
  exact HE j hj hj e

set_option maxHeartbeats 800000 in
theorem at_sign (s : ByteArray) (a : Nat) (w : World) (_hs : s.size ≤ 2000) (ha : a < s.size) (hc : isL s[a] = false) (hd : isD s[a] = false) (hq : ((s[a].toNat : Int) == 39) = false)
    (hp : ((s[a].toNat : Int) == 124) = false) (hS : isS s[a] = true) :
    Calls Tryz.prog 58 #[.string s, .int .i64 (a : Int)] w fun e w' => e = .returned (.tuple #[.int .i64 4, .int .i64 1]) ∧ w' = w := by
  have h1 := refL_rw hc
  have h2 := refD_rw hd
  have HS := hide hS
  clear hc hd hS
  go_enter Tryz.func58, Tryz.ntmps58
  go_wp2_with (first | (go_at_call 113; refine (h1 _).mono ?_; rintro e w' ⟨rfl, hw'⟩; obtain rfl := hw'.symm; clear hw') | (go_at_call 114; refine (h2 _).mono ?_; rintro e w' ⟨rfl, hw'⟩; obtain rfl := hw'.symm; clear hw'))
  clear h1 h2
  go_loop [9] (fun i => ∃ n : Nat, n ≤ 9 ∧ i = .int .i64 n ∧ Hid (∀ j (h : j < sg.length), j < n → sg[j] ≠ s[a])) (fun i => 9 - (intOf i).toNat)
  case atStart => exact ⟨0, by omega, rfl, fun j _ h => by omega⟩
  case round =>
    obtain ⟨n, hn, rfl, HE⟩ := hrel
    by_cases hlt : n < 9
    · go_wp2
      · go_ret2
        exact ⟨rfl, rfl⟩
      · go_round
        case rel => exact ⟨n + 1, by omega, by go_num, hide (sg_step hlt HE.out ‹_›)⟩
        case measure => simp [intOf]; omega
    · have hn9 : n = 9 := by omega
      have hm := sg_miss (by have := HE.out; rw [hn9] at this; exact this)
      clear hn9
      rw [HS.out] at hm; cases hm

set_option maxHeartbeats 800000 in
theorem at_none (s : ByteArray) (a : Nat) (w : World) (_hs : s.size ≤ 2000) (ha : a < s.size) (hc : isL s[a] = false) (hd : isD s[a] = false) (hq : ((s[a].toNat : Int) == 39) = false)
    (hp : ((s[a].toNat : Int) == 124) = false) (hS : isS s[a] = false) :
    Calls Tryz.prog 58 #[.string s, .int .i64 (a : Int)] w fun e w' => e = .returned (.tuple #[.int .i64 0, .int .i64 0]) ∧ w' = w := by
  have h1 := refL_rw hc
  have h2 := refD_rw hd
  have HS := hide hS
  clear hc hd hS
  go_enter Tryz.func58, Tryz.ntmps58
  go_wp2_with (first | (go_at_call 113; refine (h1 _).mono ?_; rintro e w' ⟨rfl, hw'⟩; obtain rfl := hw'.symm; clear hw') | (go_at_call 114; refine (h2 _).mono ?_; rintro e w' ⟨rfl, hw'⟩; obtain rfl := hw'.symm; clear hw'))
  clear h1 h2
  go_loop [9] (fun i => ∃ n : Nat, n ≤ 9 ∧ i = .int .i64 n ∧ Hid (∀ j (h : j < sg.length), j < n → sg[j] ≠ s[a])) (fun i => 9 - (intOf i).toNat)
  case atStart => exact ⟨0, by omega, rfl, fun j _ h => by omega⟩
  case round =>
    obtain ⟨n, hn, rfl, HE⟩ := hrel
    by_cases hlt : n < 9
    · go_wp2
      · have hh := sg_hit hlt ‹_›
        rw [HS.out] at hh; cases hh
      · go_round
        case rel => exact ⟨n + 1, by omega, by go_num, hide (sg_step hlt HE.out ‹_›)⟩
        case measure => simp [intOf]; omega
    · have hn9 : n = 9 := by omega
      have hm := sg_miss (by have := HE.out; rw [hn9] at this; exact this)
      clear hn9
      clear hm
      go_wp2
      go_ret2
      exact ⟨rfl, rfl⟩

set_option maxHeartbeats 800000 in
theorem at_bar_end (s : ByteArray) (a : Nat) (w : World) (hs : s.size ≤ 2000) (ha : a < s.size) (hc : isL s[a] = false) (hd : isD s[a] = false) (hq : ((s[a].toNat : Int) == 39) = false)
    (hp : ((s[a].toNat : Int) == 124) = true) (he : ¬ a + 1 < s.size) (hS : isS s[a] = false) :
    Calls Tryz.prog 58 #[.string s, .int .i64 (a : Int)] w fun e w' => e = .returned (.tuple #[.int .i64 0, .int .i64 0]) ∧ w' = w := by
  have h1 := refL_rw hc
  have h2 := refD_rw hd
  have HS := hide hS
  clear hc hd hS
  go_enter Tryz.func58, Tryz.ntmps58
  go_wp2_with (first | (go_at_call 113; refine (h1 _).mono ?_; rintro e w' ⟨rfl, hw'⟩; obtain rfl := hw'.symm; clear hw') | (go_at_call 114; refine (h2 _).mono ?_; rintro e w' ⟨rfl, hw'⟩; obtain rfl := hw'.symm; clear hw'))
  clear h1 h2
  go_loop [9] (fun i => ∃ n : Nat, n ≤ 9 ∧ i = .int .i64 n ∧ Hid (∀ j (h : j < sg.length), j < n → sg[j] ≠ s[a])) (fun i => 9 - (intOf i).toNat)
  case atStart => exact ⟨0, by omega, rfl, fun j _ h => by omega⟩
  case round =>
    obtain ⟨n, hn, rfl, HE⟩ := hrel
    by_cases hlt : n < 9
    · go_wp2
      · have hh := sg_hit hlt ‹_›
        rw [HS.out] at hh; cases hh
      · go_round
        case rel => exact ⟨n + 1, by omega, by go_num, hide (sg_step hlt HE.out ‹_›)⟩
        case measure => simp [intOf]; omega
    · have hn9 : n = 9 := by omega
      have hm := sg_miss (by have := HE.out; rw [hn9] at this; exact this)
      clear hn9
      clear hm
      go_wp2
      go_ret2
      exact ⟨rfl, rfl⟩

set_option maxHeartbeats 800000 in
theorem at_bar_one (s : ByteArray) (a : Nat) (w : World) (hs : s.size ≤ 2000) (ha : a < s.size) (hc : isL s[a] = false) (hd : isD s[a] = false) (hq : ((s[a].toNat : Int) == 39) = false)
    (hp : ((s[a].toNat : Int) == 124) = true) (he : a + 1 < s.size) (hp2 : ((s[a + 1].toNat : Int) == 124) = false) (hS : isS s[a] = false) :
    Calls Tryz.prog 58 #[.string s, .int .i64 (a : Int)] w fun e w' => e = .returned (.tuple #[.int .i64 0, .int .i64 0]) ∧ w' = w := by
  have h1 := refL_rw hc
  have h2 := refD_rw hd
  have HS := hide hS
  clear hc hd hS
  go_enter Tryz.func58, Tryz.ntmps58
  go_wp2_with (first | (go_at_call 113; refine (h1 _).mono ?_; rintro e w' ⟨rfl, hw'⟩; obtain rfl := hw'.symm; clear hw') | (go_at_call 114; refine (h2 _).mono ?_; rintro e w' ⟨rfl, hw'⟩; obtain rfl := hw'.symm; clear hw'))
  clear h1 h2
  go_loop [9] (fun i => ∃ n : Nat, n ≤ 9 ∧ i = .int .i64 n ∧ Hid (∀ j (h : j < sg.length), j < n → sg[j] ≠ s[a])) (fun i => 9 - (intOf i).toNat)
  case atStart => exact ⟨0, by omega, rfl, fun j _ h => by omega⟩
  case round =>
    obtain ⟨n, hn, rfl, HE⟩ := hrel
    by_cases hlt : n < 9
    · go_wp2
      · have hh := sg_hit hlt ‹_›
        rw [HS.out] at hh; cases hh
      · go_round
        case rel => exact ⟨n + 1, by omega, by go_num, hide (sg_step hlt HE.out ‹_›)⟩
        case measure => simp [intOf]; omega
    · have hn9 : n = 9 := by omega
      have hm := sg_miss (by have := HE.out; rw [hn9] at this; exact this)
      clear hn9
      clear hm
      go_wp2
      go_ret2
      exact ⟨rfl, rfl⟩

/-- what 'TokenAt' answers -/
def atV (s : ByteArray) (a : Nat) : Value := .tuple #[.int .i64 ((tokL (s.data.toList.drop a)).1 : Nat), .int .i64 ((tokL (s.data.toList.drop a)).2 : Nat)]

theorem tokAt_any (s : ByteArray) (a : Nat) (w : World) (hs : s.size ≤ 2000) (ha : a < s.size) :
    Calls Tryz.prog 58 #[.string s, .int .i64 (a : Int)] w fun e w' => e = .returned (atV s a) ∧ w' = w := by
  have hd := drop_at s a ha
  have get : ∀ j, (h : j < s.size) → a + 1 ≤ j → (s.data.toList.drop (a + 1))[j - (a + 1)]? = some s[j] := by
    intro j h hj
    rw [List.getElem?_drop, show a + 1 + (j - (a + 1)) = j by omega, List.getElem?_eq_getElem (by simpa using h)]; rfl
  have val : ∀ K N, tokL (s.data.toList.drop a) = (K, N) → atV s a = .tuple #[.int .i64 (K : Nat), .int .i64 (N : Nat)] := by
    intro K N h; unfold atV; rw [h]
  rw [hd] at val
  cases hL : isL s[a]
  case true =>
    rw [val 1 (runL isW (s.data.toList.drop (a + 1)) + 1) (by simp [tokL, hL]), show runL isW (s.data.toList.drop (a + 1)) + 1 = spanE isW s (a + 1) - a by unfold spanE; omega]
    exact at_name s a w hs ha hL
  case false =>
  cases hD : isD s[a]
  case true =>
    rw [val 2 (runL isD (s.data.toList.drop (a + 1)) + 1) (by simp [tokL, hL, hD]), show runL isD (s.data.toList.drop (a + 1)) + 1 = spanE isD s (a + 1) - a by unfold spanE; omega]
    exact at_number s a w hs ha hL hD
  case false =>
  cases hQ : ((s[a].toNat : Int) == 39)
  case true =>
    have hq : s[a] = 39 := by rw [u8_39] at hQ; simpa using hQ
    have l39 : isL 39 = false := by decide
    have d39 : isD 39 = false := by decide
    have hsp : spanE isQ s (a + 1) = a + 1 + runL isQ (s.data.toList.drop (a + 1)) := rfl
    by_cases he : ∃ h : spanE isQ s (a + 1) < s.size, ((s[spanE isQ s (a + 1)].toNat : Int) == 39) = true
    · obtain ⟨h1, h2⟩ := he
      have hg := get _ h1 (spanE_ge isQ s (a + 1))
      rw [show spanE isQ s (a + 1) - (a + 1) = runL isQ (s.data.toList.drop (a + 1)) by omega] at hg
      have hz : s[spanE isQ s (a + 1)] = 39 := by rw [u8_39] at h2; simpa using h2
      rw [val 3 (runL isQ (s.data.toList.drop (a + 1)) + 2) (by simp only [tokL, l39, d39, hq, hg, hz]; rfl), show runL isQ (s.data.toList.drop (a + 1)) + 2 = spanE isQ s (a + 1) - a + 1 by omega]
      exact at_text s a w hs ha hL hD hQ ⟨h1, h2⟩
    · have hg : ¬ (s.data.toList.drop (a + 1))[runL isQ (s.data.toList.drop (a + 1))]? = some 39 := by
        intro hg
        have h1 : spanE isQ s (a + 1) < s.size := by
          rcases Nat.lt_or_ge (spanE isQ s (a + 1)) s.size with h | h
          · exact h
          · rw [List.getElem?_eq_none (by simp; omega)] at hg; cases hg
        have hg2 := get _ h1 (spanE_ge isQ s (a + 1))
        rw [show spanE isQ s (a + 1) - (a + 1) = runL isQ (s.data.toList.drop (a + 1)) by omega, hg] at hg2
        exact he ⟨h1, by rw [u8_39]; simpa using (Option.some.inj hg2).symm⟩
      rw [val 0 0 (by simp only [tokL, l39, d39, hq, hg, Bool.false_eq_true, if_false, if_true])]
      exact at_open s a w hs ha hL hD hQ he
  case false =>
  have hq : ¬ s[a] = 39 := by rw [u8_39] at hQ; simpa using hQ
  have hb := isBars_cons s[a] (s.data.toList.drop (a + 1))
  cases hP : ((s[a].toNat : Int) == 124)
  case false =>
    have hp : ¬ s[a] = 124 := by rw [show (124 : Int) = ((124 : UInt8).toNat : Int) from rfl, u8_is] at hP; simpa using hP
    have hb0 : isBars (s[a] :: s.data.toList.drop (a + 1)) = false := by rw [hb]; simp [hp]
    cases hS : isS s[a]
    case true =>
      rw [val 4 1 (by simp [tokL, hL, hD, hq, hb0, hS])]
      exact at_sign s a w hs ha hL hD hQ hP hS
    case false =>
      rw [val 0 0 (by simp [tokL, hL, hD, hq, hb0, hS])]
      exact at_none s a w hs ha hL hD hQ hP hS
  case true =>
    have hp : s[a] = 124 := by rw [show (124 : Int) = ((124 : UInt8).toNat : Int) from rfl, u8_is] at hP; simpa using hP
    have hS : isS s[a] = false := by rw [hp]; decide
    by_cases he : a + 1 < s.size
    · have hh : (s.data.toList.drop (a + 1)).head? = some s[a + 1] := by rw [drop_at s (a + 1) he]; rfl
      cases hP2 : ((s[a + 1].toNat : Int) == 124)
      case true =>
        have hp2 : s[a + 1] = 124 := by rw [show (124 : Int) = ((124 : UInt8).toNat : Int) from rfl, u8_is] at hP2; simpa using hP2
        have hb0 : isBars (s[a] :: s.data.toList.drop (a + 1)) = true := by rw [hb, hh]; simp [hp, hp2]
        rw [val 4 2 (by simp [tokL, hL, hD, hq, hb0])]
        exact at_bars s a w hs he hL hD hQ hP hP2
      case false =>
        have hp2 : ¬ s[a + 1] = 124 := by rw [show (124 : Int) = ((124 : UInt8).toNat : Int) from rfl, u8_is] at hP2; simpa using hP2
        have hb0 : isBars (s[a] :: s.data.toList.drop (a + 1)) = false := by rw [hb, hh]; simp [hp2]
        rw [val 0 0 (by simp [tokL, hL, hD, hq, hb0, hS])]
        exact at_bar_one s a w hs ha hL hD hQ hP he hP2 hS
    · have hh : (s.data.toList.drop (a + 1)).head? = none := by rw [List.drop_eq_nil_of_le (by simp; omega)]; rfl
      have hb0 : isBars (s[a] :: s.data.toList.drop (a + 1)) = false := by rw [hb, hh]; simp
      rw [val 0 0 (by simp [tokL, hL, hD, hq, hb0, hS])]
      exact at_bar_end s a w hs ha hL hD hQ hP he hS

end Go.Proofs.YtkpeklealgicpabGreatDoor

namespace Go.Proofs.YtkpeklealgicpabGreatDoor
open Go.RowKit

set_option maxRecDepth 100000 in
set_option maxHeartbeats 400000 in
theorem wrong_0 (t : ByteArray) (w : World)  :
    Calls Tryz.prog 59 #[.int .i64 0, .string t] w fun e w' => e = .returned (.int .i64 1) ∧ w' = w := by
  go_enter Tryz.func59, Tryz.ntmps59
  go_wp2
  go_ret
  exact ⟨rfl, rfl⟩

set_option maxRecDepth 100000 in
set_option maxHeartbeats 400000 in
theorem wrong_1_many (t : ByteArray) (w : World) (hl : 12 < t.size) :
    Calls Tryz.prog 59 #[.int .i64 1, .string t] w fun e w' => e = .returned (.int .i64 2) ∧ w' = w := by
  go_enter Tryz.func59, Tryz.ntmps59
  go_wp2
  go_ret
  exact ⟨rfl, rfl⟩

set_option maxRecDepth 100000 in
set_option maxHeartbeats 400000 in
theorem wrong_1_ok (t : ByteArray) (w : World) (hl : t.size ≤ 12) :
    Calls Tryz.prog 59 #[.int .i64 1, .string t] w fun e w' => e = .returned (.int .i64 0) ∧ w' = w := by
  go_enter Tryz.func59, Tryz.ntmps59
  go_wp2
  go_ret
  exact ⟨rfl, rfl⟩

set_option maxRecDepth 100000 in
set_option maxHeartbeats 400000 in
theorem wrong_2_many (t : ByteArray) (w : World) (hl : 9 < t.size) :
    Calls Tryz.prog 59 #[.int .i64 2, .string t] w fun e w' => e = .returned (.int .i64 2) ∧ w' = w := by
  go_enter Tryz.func59, Tryz.ntmps59
  go_wp2
  go_ret
  exact ⟨rfl, rfl⟩

set_option maxRecDepth 100000 in
set_option maxHeartbeats 400000 in
theorem wrong_2_one (t : ByteArray) (w : World) (hl : t.size ≤ 1) :
    Calls Tryz.prog 59 #[.int .i64 2, .string t] w fun e w' => e = .returned (.int .i64 0) ∧ w' = w := by
  go_enter Tryz.func59, Tryz.ntmps59
  go_wp2
  go_ret
  exact ⟨rfl, rfl⟩

set_option maxRecDepth 100000 in
set_option maxHeartbeats 400000 in
theorem wrong_2_nought (t : ByteArray) (w : World) (hl : t.size ≤ 9) (h1 : 1 < t.size) (hz : ((t[0].toNat : Int) == 48) = true) :
    Calls Tryz.prog 59 #[.int .i64 2, .string t] w fun e w' => e = .returned (.int .i64 1) ∧ w' = w := by
  go_enter Tryz.func59, Tryz.ntmps59
  go_wp2
  go_ret
  exact ⟨rfl, rfl⟩

set_option maxRecDepth 100000 in
set_option maxHeartbeats 400000 in
theorem wrong_2_ok (t : ByteArray) (w : World) (hl : t.size ≤ 9) (h1 : 1 < t.size) (hz : ((t[0].toNat : Int) == 48) = false) :
    Calls Tryz.prog 59 #[.int .i64 2, .string t] w fun e w' => e = .returned (.int .i64 0) ∧ w' = w := by
  go_enter Tryz.func59, Tryz.ntmps59
  go_wp2
  go_ret
  exact ⟨rfl, rfl⟩

set_option maxRecDepth 100000 in
set_option maxHeartbeats 400000 in
theorem wrong_3_many (t : ByteArray) (w : World) (hl : 22 < t.size) :
    Calls Tryz.prog 59 #[.int .i64 3, .string t] w fun e w' => e = .returned (.int .i64 2) ∧ w' = w := by
  go_enter Tryz.func59, Tryz.ntmps59
  go_wp2
  go_ret
  exact ⟨rfl, rfl⟩

set_option maxRecDepth 100000 in
set_option maxHeartbeats 400000 in
theorem wrong_3_ok (t : ByteArray) (w : World) (hl : t.size ≤ 22) :
    Calls Tryz.prog 59 #[.int .i64 3, .string t] w fun e w' => e = .returned (.int .i64 0) ∧ w' = w := by
  go_enter Tryz.func59, Tryz.ntmps59
  go_wp2
  go_ret
  exact ⟨rfl, rfl⟩

set_option maxRecDepth 100000 in
set_option maxHeartbeats 400000 in
theorem wrong_4 (t : ByteArray) (w : World)  :
    Calls Tryz.prog 59 #[.int .i64 4, .string t] w fun e w' => e = .returned (.int .i64 0) ∧ w' = w := by
  go_enter Tryz.func59, Tryz.ntmps59
  go_wp2
  go_ret
  exact ⟨rfl, rfl⟩

theorem wrong_any (k : Nat) (t : ByteArray) (w : World) (hk : k ≤ 4) :
    Calls Tryz.prog 59 #[.int .i64 (k : Int), .string t] w fun e w' => e = .returned (.int .i64 (wrongL k t.data.toList : Nat)) ∧ w' = w := by
  match k, hk with
  | 0, _ => exact wrong_0 t w
  | 1, _ =>
    by_cases h : 12 < t.size
    · rw [show wrongL 1 t.data.toList = 2 by simp [wrongL, h]]; exact wrong_1_many t w h
    · rw [show wrongL 1 t.data.toList = 0 by simp [wrongL]; omega]; exact wrong_1_ok t w (by omega)
  | 2, _ =>
    by_cases h : 9 < t.size
    · rw [show wrongL 2 t.data.toList = 2 by simp [wrongL, h]]; exact wrong_2_many t w h
    · by_cases h1 : 1 < t.size
      · have hh : t.data.toList.head? = some t[0] := by
          rw [List.head?_eq_getElem?, List.getElem?_eq_getElem (by simp; omega)]; rfl
        cases hz : ((t[0].toNat : Int) == 48)
        · have hz' : ¬ t[0] = 48 := by
            intro e; rw [e] at hz; revert hz; decide
          rw [show wrongL 2 t.data.toList = 0 by unfold wrongL; rw [hh]; simp [h, hz']]; exact wrong_2_ok t w (by omega) h1 hz
        · have hz' : t[0] = 48 := by
            apply UInt8.toNat_inj.1; have := eq_of_beq hz; simp; omega
          rw [show wrongL 2 t.data.toList = 1 by unfold wrongL; rw [hh]; simp [h, h1, hz']]; exact wrong_2_nought t w (by omega) h1 hz
      · rw [show wrongL 2 t.data.toList = 0 by simp [wrongL, h, h1]]; exact wrong_2_one t w (by omega)
  | 3, _ =>
    by_cases h : 22 < t.size
    · rw [show wrongL 3 t.data.toList = 2 by simp [wrongL, h]]; exact wrong_3_many t w h
    · rw [show wrongL 3 t.data.toList = 0 by simp [wrongL, h]]; exact wrong_3_ok t w (by omega)
  | 4, _ => rw [show wrongL 4 t.data.toList = 0 by simp [wrongL]]; exact wrong_4 t w

end Go.Proofs.YtkpeklealgicpabGreatDoor

namespace Go.Proofs.YtkpeklealgicpabGreatDoor
open Go.RowKit

set_option maxRecDepth 100000 in
set_option maxHeartbeats 400000 in
theorem isTok_empty (K : Int) (t : ByteArray) (w : World) (h : t.toList.isEmpty = true) :
    Calls Tryz.prog 83 #[.int .i64 K, .string t] w fun e w' => e = .returned (.bool false) ∧ w' = w := by
  go_enter Tryz.func83, Tryz.ntmps83
  go_wp2
  go_ret
  exact ⟨rfl, rfl⟩

set_option maxRecDepth 100000 in
set_option maxHeartbeats 400000 in
theorem isTok_long (K : Int) (t : ByteArray) (w : World) (h : t.toList.isEmpty = false) (hl : 2000 < t.size) (hm : t.size ≤ 9223372036854775000) :
    Calls Tryz.prog 83 #[.int .i64 K, .string t] w fun e w' => e = .returned (.bool false) ∧ w' = w := by
  go_enter Tryz.func83, Tryz.ntmps83
  go_wp2
  go_ret
  exact ⟨rfl, rfl⟩

set_option maxRecDepth 100000 in
set_option maxHeartbeats 400000 in
theorem isTok_kind0 (K : Int) (t : ByteArray) (w : World) (h : t.toList.isEmpty = false) (hl : t.size ≤ 2000) (hk : (K == 0) = true) :
    Calls Tryz.prog 83 #[.int .i64 K, .string t] w fun e w' => e = .returned (.bool false) ∧ w' = w := by
  go_enter Tryz.func83, Tryz.ntmps83
  go_wp2
  go_ret
  exact ⟨rfl, rfl⟩

set_option maxRecDepth 100000 in
set_option maxHeartbeats 400000 in
theorem isTok_go (K : Int) (t : ByteArray) (w : World) (h : t.toList.isEmpty = false) (h1 : 0 < t.size) (hl : t.size ≤ 2000) (hk : (K == 0) = false) (k N E : Nat) (hp : tokL t.data.toList = (k, N)) (hk4 : k ≤ 4) (hE : wrongL k t.data.toList = E) :
    Calls Tryz.prog 83 #[.int .i64 K, .string t] w fun e w' => e = .returned (.bool (((k : Int) == K) && ((N : Int) == (t.size : Int)) && ((E : Int) == 0))) ∧ w' = w := by
  have ht := tokAt_any t 0 w hl h1
  rw [atV, List.drop_zero, hp] at ht
  have hw := wrong_any k t w hk4
  rw [hE] at hw
  clear hp hE
  cases b1 : ((k : Int) == K) <;> cases b2 : ((N : Int) == (t.size : Int)) <;> cases b3 : ((E : Int) == 0)
  all_goals
    go_enter Tryz.func83, Tryz.ntmps83
    go_wp2_with (first | (go_at_call 58; refine ht.mono ?_; rintro e w' ⟨rfl, hw'⟩; obtain rfl := hw'.symm; clear hw') | (go_at_call 59; refine hw.mono ?_; rintro e w' ⟨rfl, hw'⟩; obtain rfl := hw'.symm; clear hw'))
    go_ret
    exact ⟨rfl, rfl⟩

end Go.Proofs.YtkpeklealgicpabGreatDoor

namespace Go.Proofs.YtkpeklealgicpabGreatDoor
open Go.RowKit

def Rs.all {α : Type} (p : α → Prop) : Rs α → Prop
  | .ok a _ => p a
  | .bad _ => True

theorem Rs.all_then {α β : Type} {p : α → Prop} {q : β → Prop} {r : Rs α} {f : α → Nat → Rs β} (h : r.all p) (hf : ∀ a j, p a → (f a j).all q) : (r.then f).all q := by
  cases r with
  | ok a j => exact hf a j h
  | bad j => trivial
theorem Rs.all_any {α β : Type} {q : β → Prop} {r : Rs α} {f : α → Nat → Rs β} (hf : ∀ a j, (f a j).all q) : (r.then f).all q := by
  cases r with
  | ok a j => exact hf a j
  | bad j => trivial

def Sh (s : List UInt8) : Prop := s.length ≤ 22
theorem Sh.up {s : List UInt8} (h : Sh s) : s.length ≤ 140737488355328 := by unfold Sh at h; omega

section
variable {T : List Tk} (hT : ∀ x ∈ T, TokOk x)
include hT

theorem tx_sh (i : Nat) : Sh (tx T i) := by
  unfold tx
  split
  · rename_i t h; exact (hT t (List.mem_of_getElem? h)).short
  · simp [Sh]

theorem name_sh (i : Nat) : (nameP T i).all Sh := by
  unfold nameP
  split
  · exact tx_sh hT i
  · trivial

theorem column_sh (i : Nat) : (columnP T i).all fun x => Sh x.name :=
  Rs.all_then (name_sh hT i) fun _ _ h => Rs.all_any fun _ _ => h

theorem value_sh (i : Nat) : (valueP T i).all fun x => Sh x.s := by
  unfold valueP
  split
  · exact Rs.all_any fun _ _ => by simp [Rs.all, Sh]
  · split
    · have := tx_sh hT i
      simp only [Rs.all, Sh, List.length_take, List.length_drop] at this ⊢
      omega
    · refine Rs.all_any fun s j => ?_
      split
      · exact Rs.all_any fun _ _ => by simp [Rs.all, Sh]
      · split
        · simp [Rs.all, Sh]
        · split <;> simp [Rs.all, Sh, vl0]

theorem leaf_fit (i : Nat) : (leafP T i).all Fit := by
  unfold leafP
  split
  · exact .mk _ _ _ _ (by simp [vl0]) (tx_sh hT i).up (by simp) (by intro y hy; cases hy)
  · exact Rs.all_then (value_sh hT i) fun v _ h => .mk _ _ _ _ h.up (by simp) (by simp) (by intro y hy; cases hy)

theorem expr_fit (f : Nat) : ∀ i, (exprP T f i).all Fit := by
  induction f with
  | zero => exact leaf_fit hT
  | succ f ih =>
    intro i
    rw [exprP]
    split
    · exact Rs.all_then (ih _) fun a _ h => .mk _ _ _ _ (by simp [vl0]) (by simp) (by simp) (by intro y hy; rw [List.mem_singleton] at hy; rw [hy]; exact h)
    · split
      · unfold brackP
        refine Rs.all_then (ih _) fun a _ h => Rs.all_any fun b _ => ?_
        split
        · exact .mk _ _ _ _ (by simp [vl0]) (by simp) (by simp) (by intro y hy; rw [List.mem_singleton] at hy; rw [hy]; exact h)
        · exact Rs.all_any fun k _ => Rs.all_then (ih _) fun b _ h2 => Rs.all_any fun _ _ => .mk _ _ _ _ (by simp [vl0]) (by simp) (by simp) (by
            intro y hy
            rcases List.mem_cons.1 hy with e | e
            · rw [e]; exact h
            · rw [List.mem_singleton] at e; rw [e]; exact h2)
      · exact leaf_fit hT i
end

theorem listGo_all {α : Type} {p : α → Prop} {T : List Tk} {one : Nat → Rs α} (h1 : ∀ i, (one i).all p) (f : Nat) : ∀ (l : List α) (i : Nat), (∀ x ∈ l, p x) → (listGo T one f l i).all fun r => r.length ≤ l.length + f ∧ ∀ x ∈ r, p x := by
  induction f with
  | zero => intro l i h; exact ⟨Nat.le_refl _, h⟩
  | succ f ih =>
    intro l i h
    rw [listGo]
    split
    · refine Rs.all_then (h1 _) fun x j hx => ?_
      have := ih (l ++ [x]) j (fun y hy => by
        rcases List.mem_append.1 hy with e | e
        · exact h y e
        · rw [List.mem_singleton] at e; rw [e]; exact hx)
      generalize listGo T one f (l ++ [x]) j = r at *
      cases r with
      | bad => trivial
      | ok r k =>
        have h2 := this.1
        simp only [List.length_append, List.length_cons, List.length_nil] at h2
        exact ⟨by omega, this.2⟩
    · exact ⟨by omega, h⟩

theorem listP_all {α : Type} {p : α → Prop} {T : List Tk} {one : Nat → Rs α} (hn : T.length ≤ 2000) (h1 : ∀ i, (one i).all p) (i : Nat) : (listP T one i).all fun r => r.length ≤ 1000000000000000 ∧ ∀ x ∈ r, p x := by
  refine Rs.all_then (h1 i) fun x j hx => ?_
  have := listGo_all (T := T) h1 (T.length + 1) [x] j (fun y hy => by rw [List.mem_singleton] at hy; rw [hy]; exact hx)
  generalize listGo T one (T.length + 1) [x] j = r at *
  cases r with
  | bad => trivial
  | ok r k =>
    have h2 := this.1
    simp only [List.length_cons, List.length_nil] at h2
    exact ⟨by omega, this.2⟩

theorem inBr_all {α : Type} {p : α → Prop} {T : List Tk} {one : Nat → Rs α} (hn : T.length ≤ 2000) (h1 : ∀ i, (one i).all p) (i : Nat) : (inBrP T one i).all fun r => r.length ≤ 1000000000000000 ∧ ∀ x ∈ r, p x :=
  Rs.all_any fun _ _ => Rs.all_then (listP_all hn h1 _) fun _ _ h => Rs.all_any fun _ _ => h

theorem fit0 : CmFit cm0 := by
  have he : Fit (.mk 0 vl0 [] []) := .mk _ _ _ _ (by simp [vl0]) (by simp) (by simp) (by intro y hy; cases hy)
  refine ⟨?_, ?_, ?_, ?_, ?_, ?_, ?_, ?_, ?_, ?_, ?_, he, he⟩ <;> simp [cm0, vl0]

section
variable {T : List Tk} (hT : ∀ x ∈ T, TokOk x) (hn : T.length ≤ 2000)
include hT

theorem where_fit {c : Cm} (h : CmFit c) (i : Nat) : (whereP T c i).all CmFit := by
  refine Rs.all_any fun b j => ?_
  split
  · exact Rs.all_then (expr_fit hT 60 j) fun e _ he => { h with wh := he }
  · exact { h with }

theorem rename_fit {c : Cm} (h : CmFit c) (i : Nat) : (renameP T c i).all CmFit := by
  refine Rs.all_any fun b j => ?_
  split
  · exact Rs.all_then (name_sh hT j) fun o _ ho => { h with other := ho.up }
  · exact Rs.all_then (name_sh hT j) fun l _ hl => Rs.all_any fun _ _ => Rs.all_then (name_sh hT _) fun o _ ho => { h with column := hl.up, other := ho.up }

theorem drop_fit (i : Nat) : (dropP T i).all CmFit := Rs.all_any fun _ j => Rs.all_then (name_sh hT j) fun _ _ h => { fit0 with name := h.up }

theorem alter_fit (i : Nat) : (alterP T i).all CmFit := by
  refine Rs.all_any fun _ j => Rs.all_then (name_sh hT j) fun n _ h => Rs.all_any fun s j => ?_
  split
  · exact Rs.all_then (column_sh hT j) fun c _ hc => Rs.all_any fun _ j => Rs.all_then (value_sh hT j) fun v _ hv => { fit0 with name := h.up, column := hc.up, val := hv.up }
  · split
    · exact Rs.all_then (name_sh hT j) fun c _ hc => { fit0 with name := h.up, column := hc.up }
    · split
      · exact rename_fit hT (c := { cm0 with name := n }) { fit0 with name := h.up } j
      · exact Rs.all_then (column_sh hT j) fun c _ hc => { fit0 with name := h.up, column := hc.up }

theorem delete_fit (i : Nat) : (deleteP T i).all CmFit := Rs.all_any fun _ j => Rs.all_then (name_sh hT j) fun n j h => where_fit hT (c := { cm0 with kind := 11, name := n }) { fit0 with name := h.up } j

theorem update_fit (i : Nat) : (updateP T i).all CmFit :=
  Rs.all_then (name_sh hT i) fun n _ h => Rs.all_any fun _ j => Rs.all_then (name_sh hT j) fun l _ hc => Rs.all_any fun _ j => Rs.all_then (expr_fit hT 60 j) fun e j he => where_fit hT (c := { cm0 with kind := 12, name := n, column := l, expr := e }) { fit0 with name := h.up, column := hc.up, expr := he } j

theorem order_fit {c : Cm} (h : CmFit c) (i : Nat) : (orderP T c i).all CmFit := by
  refine Rs.all_any fun b j => ?_
  split
  · exact Rs.all_then (name_sh hT j) fun o _ ho => { h with order := ho.up }
  · exact h

omit hT in
theorem limit_fit {c : Cm} (h : CmFit c) (i : Nat) : (limitP T c i).all CmFit := by
  refine Rs.all_any fun b j => ?_
  split
  · exact Rs.all_any fun n _ => { h with }
  · exact h

include hn

theorem create_fit (i : Nat) : (createP T i).all CmFit := by
  refine Rs.all_any fun s j => ?_
  split
  · exact Rs.all_then (name_sh hT j) fun n j h => Rs.all_then (inBr_all hn (column_sh hT) j) fun l _ hl => { fit0 with name := h.up, cols := hl.1, colsN := fun x hx => (hl.2 x hx).up }
  · exact Rs.all_then (name_sh hT j) fun n j h => Rs.all_any fun _ j => Rs.all_then (name_sh hT j) fun o j ho => Rs.all_any fun _ j => Rs.all_then (name_sh hT j) fun c j hc => Rs.all_any fun _ j => { fit0 with name := h.up, other := ho.up, column := hc.up }

theorem insert_fit (i : Nat) : (insertP T i).all CmFit :=
  Rs.all_any fun _ j => Rs.all_then (name_sh hT j) fun _ _ h => Rs.all_any fun _ j => Rs.all_then (inBr_all hn (value_sh hT) j) fun _ _ hl => { fit0 with name := h.up, vals := hl.1, valsN := fun x hx => (hl.2 x hx).up }

theorem choose_fit (i : Nat) : (chooseP T i).all CmFit := by
  have hf : ∀ i, (fieldsP T i).all fun r => r.length ≤ 1000000000000000 ∧ ∀ x ∈ r, Sh x := by
    intro i
    refine Rs.all_any fun b j => ?_
    split
    · exact ⟨by simp, by intro x hx; cases hx⟩
    · exact listP_all hn (name_sh hT) j
  exact Rs.all_then (hf i) fun l _ hl => Rs.all_any fun _ j => Rs.all_then (name_sh hT j) fun n j h =>
    Rs.all_then (where_fit hT (c := { cm0 with kind := 13, limit := -1, fields := l, name := n }) { fit0 with name := h.up, fields := hl.1, fieldsN := fun x hx => (hl.2 x hx).up } j) fun c j hc => Rs.all_then (order_fit hT hc j) fun c j hc => limit_fit hc j

theorem command_fit (i : Nat) : (commandP T i).all CmFit := by
  refine Rs.all_any fun s j => ?_
  repeat' split
  · exact create_fit hT hn j
  · exact drop_fit hT j
  · exact alter_fit hT j
  · exact insert_fit hT hn j
  · exact delete_fit hT j
  · exact update_fit hT j
  · exact choose_fit hT hn j
  · exact { fit0 with }
  · exact { fit0 with }
  · exact { fit0 with }

theorem whole_fit {c : Cm} {j : Nat} (h : wholeP T = .ok c j) : CmFit c := by
  have : (wholeP T).all CmFit := Rs.all_then (command_fit hT hn 0) fun c j hc => by
    split
    · trivial
    · exact hc
  rw [h] at this
  exact this
end

theorem scanned_fit {s : List UInt8} {c : Cm} {j : Nat} (h : wholeP (scanS s).1 = .ok c j) : CmFit c := whole_fit (scanned_ok s) (scanS_few s) h

end Go.Proofs.YtkpeklealgicpabGreatDoor

namespace Go.Proofs.YtkpeklealgicpabGreatDoor
open Go.RowKit

theorem results_whole3 (tmps : Array Value) (w : World) (rb : Nat) (cs : List Value) (x y : Value) (h2 : tmps.getD 2 undef = .pointer (some ⟨rb, 0, none⟩)) (h3 : tmps.getD 3 undef = x) (h4 : tmps.getD 4 undef = y)
    (hl : cs.length = 26) (hr : w.heap[rb]? = some (.cells cs.toArray 31)) : (results Tryz.f8 tmps).run Tryz.prog w = .ok (.tuple #[.agg cs.toArray, x, y]) w := by
  have h := run_loadVar_mid (P := Tryz.prog) w rb 0 31 cs _ (fun j v hv => by rw [Nat.zero_add, Lib.cell_of_heap hr]; simpa using hv) Tryz.underlying31 rfl (by rw [hl]; exact Tryz.size31)
  have h2' : tmps[2]?.getD undef = .pointer (some ⟨rb, 0, none⟩) := by simpa using h2
  have h3' : tmps[3]?.getD undef = x := by simpa using h3
  have h4' : tmps[4]?.getD undef = y := by simpa using h4
  simp [results, Tryz.results8, h2', h3', h4', asAddr, h]

set_option maxRecDepth 100000 in
set_option maxHeartbeats 2000000 in
theorem Parse_scan {w : World} (s : List UInt8) (A E : Nat) (hs : s.length ≤ 9223372036854775000) (hA : (scanS s).2.1 = A) (hE : (scanS s).2.2 = E) (hz : E ≠ 0) :
    Calls Tryz.prog 8 #[.string ⟨s.toArray⟩] w fun e w' => e = .returned (.tuple #[.agg cmZ.toArray, .int .i64 (A : Nat), .int .i64 (E : Nat)]) ∧ Below w.heap.size w w' := by
  have hsc : ∀ W : World, Calls Tryz.prog 15 #[.string ⟨s.toArray⟩] W fun e w' => ∃ v, e = .returned (.tuple #[v, .int .i64 (A : Nat), .int .i64 (E : Nat)]) ∧ Below W.heap.size W w' := by
    intro W
    refine (scan_any ⟨s.toArray⟩ W (by rw [size_mk]; exact hs)).mono ?_
    rintro e w' ⟨v, rfl, -, hb⟩
    refine ⟨v, ?_, hb⟩
    show Ending.returned (.tuple #[v, .int .i64 ((scanS s).2.1 : Nat), .int .i64 ((scanS s).2.2 : Nat)]) = _
    rw [hA, hE]
  have hd : ¬ ((E : Int) = 0) := by omega
  clear hA hE hs
  go_enter Tryz.func8, Tryz.ntmps8
  go_wp2_with (first | (refine wpList_alloc_blk 2 31 cmZ rfl rfl rfl Tryz.alloc31 ?_; intro W0 rb hrb k0 b0) | (refine (hsc _).mono ?_; rintro e w1 ⟨v, rfl, b1⟩; have k1 := (b1.block rb (Array.getElem?_eq_some_iff.1 k0).1).trans k0) | (refine wpList_store_whole 31 _ _ rfl rfl _ cmZ cmZ 31 rfl rfl (by exact k1) rfl Tryz.size31 (by exact (cmIn0 0 w1 cm0 rfl rfl rfl rfl rfl).one) ?_; intro w3 k3 p3))
  have hr := hrb.out
  have B3 : Below w.heap.size w w3 := by
    rw [p3.out]
    exact (b0.trans (b1.mono b0.size)).trans ⟨(putAll_misc rb _ w1 0).1, (putAll_misc rb _ w1 0).2.1, (putAll_misc rb _ w1 0).2.2, Nat.le_of_eq (putAll_size rb _ w1 0).symm, fun k hk => putAll_other rb _ w1 0 k (by have := b0.size; omega)⟩
  exact bodyPost_ret (results_whole3 _ _ rb cmZ _ _ rfl rfl rfl rfl k3) rfl ⟨rfl, B3⟩

set_option maxRecDepth 100000 in
set_option maxHeartbeats 2000000 in
theorem Parse_bad {w : World} (s : List UInt8) (j : Nat) (hs : s.length ≤ 9223372036854775000) (hl : Laid w) (hE : (scanS s).2.2 = 0) (hw : wholeP (scanS s).1 = .bad j) :
    Calls Tryz.prog 8 #[.string ⟨s.toArray⟩] w fun e w' => e = .returned (.tuple #[.agg cmZ.toArray, .int .i64 (pl (scanS s).1 (s.length : Nat) j), .int .i64 1]) ∧ Below w.heap.size w w' := by
  have hsc : ∀ W : World, Calls Tryz.prog 15 #[.string ⟨s.toArray⟩] W fun e w' => ∃ v A, e = .returned (.tuple #[v, .int .i64 A, .int .i64 0]) ∧ Hid (Tks w' W.heap.size v (scanS s).1) ∧ Below W.heap.size W w' := by
    intro W
    refine (scan_any ⟨s.toArray⟩ W (by rw [size_mk]; exact hs)).mono ?_
    rintro e w' ⟨v, rfl, ho, hb⟩
    refine ⟨v, ((scanS s).2.1 : Nat), ?_, tks_scanned ho, hb⟩
    show Ending.returned (.tuple #[v, .int .i64 ((scanS s).2.1 : Nat), .int .i64 ((scanS s).2.2 : Nat)]) = _
    rw [hE]; rfl
  have hpa : ∀ (W : World) (base : Nat) (v : Value), Tks W base v (scanS s).1 → Laid W → Calls Tryz.prog 21 #[v, .int .i64 ((s.length : Nat) : Int)] W fun e w' => e = .returned (.tuple #[.agg cmZ.toArray, .int .i64 (pl (scanS s).1 (s.length : Nat) j), .int .i64 1]) ∧ Below W.heap.size W w' := by
    intro W base v ht hL
    exact (parse_any ht hL _).mono fun e w' h => ⟨h.bad j hw, h.below⟩
  have hz : (⟨s.toArray⟩ : ByteArray).size = s.length := size_mk s
  generalize pl (scanS s).1 (s.length : Nat) j = P at *
  clear hw hE hs
  go_enter Tryz.func8, Tryz.ntmps8
  go_wp2_with (first | (refine wpList_alloc_blk 2 31 cmZ rfl rfl rfl Tryz.alloc31 ?_; intro W0 rb hrb k0 b0) | (refine (hsc _).mono ?_; rintro e w1 ⟨v, A, rfl, ht, b1⟩; have k1 := (b1.block rb (Array.getElem?_eq_some_iff.1 k0).1).trans k0) | (refine (hpa _ _ _ ht.out ((hl.below b0).below b1)).mono ?_; rintro e w2 ⟨rfl, b2⟩; have k2 := (b2.block rb (Array.getElem?_eq_some_iff.1 k1).1).trans k1) | (refine wpList_alloc_blk 8 31 cmZ rfl rfl rfl Tryz.alloc31 ?_; intro w4 cb hcb k4 b4; have k5 := (b4.block rb (Array.getElem?_eq_some_iff.1 k2).1).trans k2) | (refine wpList_store_whole 31 _ _ rfl rfl cb cmZ cmZ 31 rfl rfl (by exact k4) rfl Tryz.size31 (by exact (cmIn0 0 w4 cm0 rfl rfl rfl rfl rfl).one) ?_; intro w6 k6 p6; have k7 : w6.heap[rb]? = some (.cells cmZ.toArray 31) := (by rw [p6.out]; exact (putAll_other cb _ w4 0 rb (by have := hcb.out; have := (Array.getElem?_eq_some_iff.1 k2).1; omega)).trans k5)) | (refine wpList_store_whole 31 _ _ rfl rfl rb cmZ cmZ 31 rfl rfl (by exact k7) rfl Tryz.size31 (by exact (cmIn0 0 w6 cm0 rfl rfl rfl rfl rfl).one) ?_; intro w3 k3 p3))
  have hr := hrb.out
  have hc := hcb.out
  have B4 : Below w.heap.size w w4 := ((b0.trans (b1.mono b0.size)).trans (b2.mono (Nat.le_trans b0.size b1.size))).trans (b4.mono (Nat.le_trans (Nat.le_trans b0.size b1.size) b2.size))
  have B6 : Below w.heap.size w w6 := by
    rw [p6.out]
    exact B4.trans ⟨(putAll_misc cb _ w4 0).1, (putAll_misc cb _ w4 0).2.1, (putAll_misc cb _ w4 0).2.2, Nat.le_of_eq (putAll_size cb _ w4 0).symm, fun k hk => putAll_other cb _ w4 0 k (by have := b0.size; have := b1.size; have := b2.size; omega)⟩
  have B3 : Below w.heap.size w w3 := by
    rw [p3.out]
    exact B6.trans ⟨(putAll_misc rb _ w6 0).1, (putAll_misc rb _ w6 0).2.1, (putAll_misc rb _ w6 0).2.2, Nat.le_of_eq (putAll_size rb _ w6 0).symm, fun k hk => putAll_other rb _ w6 0 k (by omega)⟩
  exact bodyPost_ret (results_whole3 _ _ rb cmZ _ _ rfl rfl rfl rfl k3) rfl ⟨rfl, B3⟩

end Go.Proofs.YtkpeklealgicpabGreatDoor

namespace Go.Proofs.YtkpeklealgicpabGreatDoor
open Go.RowKit

theorem scan_ok {s : List UInt8} (hs : s.length ≤ 9223372036854775000) (hE : (scanS s).2.2 = 0) (W : World) : Calls Tryz.prog 15 #[.string ⟨s.toArray⟩] W fun e w' => ∃ v A, e = .returned (.tuple #[v, .int .i64 A, .int .i64 0]) ∧ Hid (Tks w' W.heap.size v (scanS s).1) ∧ Below W.heap.size W w' := by
  refine (scan_any ⟨s.toArray⟩ W (by rw [size_mk]; exact hs)).mono ?_
  rintro e w' ⟨v, rfl, ho, hb⟩
  refine ⟨v, ((scanS s).2.1 : Nat), ?_, tks_scanned ho, hb⟩
  show Ending.returned (.tuple #[v, .int .i64 ((scanS s).2.1 : Nat), .int .i64 ((scanS s).2.2 : Nat)]) = _
  rw [hE]; rfl

theorem g6_of {w2 w4 w6 : World} {cb : Nat} {xs : List Value} (hc : cb = w2.heap.size) (hp : w6 = putAll w4 cb 0 xs) (b4 : Below w2.heap.size w2 w4) : w4.heap.size = w6.heap.size ∧ (∀ b, b < w2.heap.size → w6.heap[b]? = w2.heap[b]?) := by
  subst hp
  exact ⟨(putAll_size cb _ w4 0).symm, fun b hb => (putAll_other cb _ w4 0 b (by omega)).trans (b4.block b hb)⟩

set_option maxRecDepth 100000 in
set_option maxHeartbeats 2000000 in
theorem Parse_wrong {w : World} (s : List UInt8) (c : Cm) (j : Nat) (E : Int) (hs : s.length ≤ 9223372036854775000) (hl : Laid w) (hE : (scanS s).2.2 = 0) (hw : wholeP (scanS s).1 = .ok c j) (hq : chkC (manyC c) (rightC c) = E) (hd : ¬ E = 0) :
    Calls Tryz.prog 8 #[.string ⟨s.toArray⟩] w fun e w' => e = .returned (.tuple #[.agg cmZ.toArray, .int .i64 0, .int .i64 E]) ∧ Below w.heap.size w w' := by
  have hsc := scan_ok hs hE
  have hpa : ∀ (W : World) (base : Nat) (v : Value), Tks W base v (scanS s).1 → Laid W → Calls Tryz.prog 21 #[v, .int .i64 ((s.length : Nat) : Int)] W fun e w' => (∃ cv vv fv ea wa, e = .returned (.tuple #[.agg (cmL c cv vv fv ea wa).toArray, .int .i64 0, .int .i64 0]) ∧ Hid (CmIn W.heap.size w' c cv vv fv ea wa)) ∧ Below W.heap.size W w' := by
    intro W base v ht hL
    refine (parse_any ht hL _).mono fun e w' h => ⟨?_, h.below⟩
    obtain ⟨u, rfl, cv, vv, fv, ea, wa, rfl, hi⟩ := h.ok c j hw
    exact ⟨cv, vv, fv, ea, wa, rfl, hi⟩
  have hf : Hid (CmFit c) := scanned_fit hw
  have hz : (⟨s.toArray⟩ : ByteArray).size = s.length := size_mk s
  have hck : ∀ (W : World) (cv vv fv ea wa : Value), CmIn 0 W c cv vv fv ea wa → Laid W → Calls Tryz.prog 12 #[.agg (cmL c cv vv fv ea wa).toArray] W fun e w' => e = .returned (.int .i64 E) ∧ Below W.heap.size W w' := by
    intro W cv vv fv ea wa hi hL
    rw [← hq]
    exact check_cmd c cv vv fv ea wa hi hf.out hL
  clear hw hE hs hq
  go_enter Tryz.func8, Tryz.ntmps8
  go_wp2_with (first | (refine wpList_alloc_blk 2 31 cmZ rfl rfl rfl Tryz.alloc31 ?_; intro W0 rb hrb k0 b0) | (refine (hsc _).mono ?_; rintro e w1 ⟨v, A, rfl, ht, b1⟩; have k1 := (b1.block rb (Array.getElem?_eq_some_iff.1 k0).1).trans k0; have L1 : Hid (Laid w1) := (hl.below b0).below b1) | (refine (hpa _ _ _ ht.out L1.out).mono ?_; rintro e w2 ⟨⟨cv, vv, fv, ea, wa, rfl, hi⟩, b2⟩; have k2 := (b2.block rb (Array.getElem?_eq_some_iff.1 k1).1).trans k1; have L2 : Hid (Laid w2) := L1.out.below b2) | (refine wpList_alloc_blk 8 31 cmZ rfl rfl rfl Tryz.alloc31 ?_; intro w4 cb hcb k4 b4; have k5 := (b4.block rb (Array.getElem?_eq_some_iff.1 k2).1).trans k2) | (refine wpList_store_whole 31 _ _ rfl rfl cb cmZ (cmL c cv vv fv ea wa) 31 rfl rfl (by exact k4) rfl Tryz.size31 (by exact hi.out.one) ?_; intro w6 k6 p6; have g6 : Hid (w4.heap.size = w6.heap.size ∧ (∀ b, b < w2.heap.size → w6.heap[b]? = w2.heap[b]?)) := g6_of hcb.out p6.out b4; have k7 : w6.heap[rb]? = some (.cells cmZ.toArray 31) := (g6.out.2 rb (Array.getElem?_eq_some_iff.1 k2).1).trans k2; have i6 : Hid (CmIn w1.heap.size w6 c cv vv fv ea wa) := hi.out.keep (by have := b4.size; have := g6.out.1; omega) (fun b _ hb => g6.out.2 b hb); have L6 : Hid (Laid w6) := L2.out.keep (by have := b4.size; have := g6.out.1; omega) (fun k hk => g6.out.2 k (Nat.lt_of_lt_of_le hk L2.out.sz))) | (refine wpList_load_whole 31 _ rfl rfl _ (cmL c cv vv fv ea wa) 31 _ rfl (by assumption) Tryz.underlying31 rfl Tryz.size31 ?_) | (refine (hck _ _ _ _ _ _ (i6.out.weak (Nat.zero_le _)) L6.out).mono ?_; rintro e w7 ⟨rfl, b7⟩; have k8 := (b7.block cb (Array.getElem?_eq_some_iff.1 k6).1).trans k6; have k9 := (b7.block rb (Array.getElem?_eq_some_iff.1 k7).1).trans k7; have i7 : Hid (CmIn w1.heap.size w7 c cv vv fv ea wa) := i6.out.keep b7.size (fun b _ hb => b7.block b hb)) | (refine wpList_store_whole 31 _ _ rfl rfl rb cmZ cmZ 31 rfl rfl (by exact k9) rfl Tryz.size31 (by exact (cmIn0 0 w7 cm0 rfl rfl rfl rfl rfl).one) ?_; intro w3 k3 p3))
  have hr := hrb.out
  have hc := hcb.out
  have B4 : Below w.heap.size w w4 := ((b0.trans (b1.mono b0.size)).trans (b2.mono (Nat.le_trans b0.size b1.size))).trans (b4.mono (Nat.le_trans (Nat.le_trans b0.size b1.size) b2.size))
  have B6 : Below w.heap.size w w6 := by
    rw [p6.out]
    exact B4.trans ⟨(putAll_misc cb _ w4 0).1, (putAll_misc cb _ w4 0).2.1, (putAll_misc cb _ w4 0).2.2, Nat.le_of_eq (putAll_size cb _ w4 0).symm, fun k hk => putAll_other cb _ w4 0 k (by have := b0.size; have := b1.size; have := b2.size; omega)⟩
  have B7 := B6.trans (b7.mono B6.size)
  have B3 : Below w.heap.size w w3 := by
    rw [p3.out]
    exact B7.trans ⟨(putAll_misc rb _ w7 0).1, (putAll_misc rb _ w7 0).2.1, (putAll_misc rb _ w7 0).2.2, Nat.le_of_eq (putAll_size rb _ w7 0).symm, fun k hk => putAll_other rb _ w7 0 k (by omega)⟩
  exact bodyPost_ret (results_whole3 _ _ rb cmZ _ _ rfl rfl rfl rfl k3) rfl ⟨rfl, B3⟩

set_option maxRecDepth 100000 in
set_option maxHeartbeats 2000000 in
theorem Parse_right {w : World} (s : List UInt8) (c : Cm) (j : Nat) (hs : s.length ≤ 9223372036854775000) (hl : Laid w) (hE : (scanS s).2.2 = 0) (hw : wholeP (scanS s).1 = .ok c j) (hq : chkC (manyC c) (rightC c) = 0) :
    Calls Tryz.prog 8 #[.string ⟨s.toArray⟩] w fun e w' => (∃ u, e = .returned (.tuple #[u, .int .i64 0, .int .i64 0]) ∧ CmAt w.heap.size w' u c) ∧ Below w.heap.size w w' := by
  have hsc := scan_ok hs hE
  have hpa : ∀ (W : World) (base : Nat) (v : Value), Tks W base v (scanS s).1 → Laid W → Calls Tryz.prog 21 #[v, .int .i64 ((s.length : Nat) : Int)] W fun e w' => (∃ cv vv fv ea wa, e = .returned (.tuple #[.agg (cmL c cv vv fv ea wa).toArray, .int .i64 0, .int .i64 0]) ∧ Hid (CmIn W.heap.size w' c cv vv fv ea wa)) ∧ Below W.heap.size W w' := by
    intro W base v ht hL
    refine (parse_any ht hL _).mono fun e w' h => ⟨?_, h.below⟩
    obtain ⟨u, rfl, cv, vv, fv, ea, wa, rfl, hi⟩ := h.ok c j hw
    exact ⟨cv, vv, fv, ea, wa, rfl, hi⟩
  have hf : Hid (CmFit c) := scanned_fit hw
  have hz : (⟨s.toArray⟩ : ByteArray).size = s.length := size_mk s
  have hck : ∀ (W : World) (cv vv fv ea wa : Value), CmIn 0 W c cv vv fv ea wa → Laid W → Calls Tryz.prog 12 #[.agg (cmL c cv vv fv ea wa).toArray] W fun e w' => e = .returned (.int .i64 0) ∧ Below W.heap.size W w' := by
    intro W cv vv fv ea wa hi hL
    rw [← hq]
    exact check_cmd c cv vv fv ea wa hi hf.out hL
  clear hw hE hs hq
  go_enter Tryz.func8, Tryz.ntmps8
  go_wp2_with (first | (refine wpList_alloc_blk 2 31 cmZ rfl rfl rfl Tryz.alloc31 ?_; intro W0 rb hrb k0 b0) | (refine (hsc _).mono ?_; rintro e w1 ⟨v, A, rfl, ht, b1⟩; have k1 := (b1.block rb (Array.getElem?_eq_some_iff.1 k0).1).trans k0; have L1 : Hid (Laid w1) := (hl.below b0).below b1) | (refine (hpa _ _ _ ht.out L1.out).mono ?_; rintro e w2 ⟨⟨cv, vv, fv, ea, wa, rfl, hi⟩, b2⟩; have k2 := (b2.block rb (Array.getElem?_eq_some_iff.1 k1).1).trans k1; have L2 : Hid (Laid w2) := L1.out.below b2) | (refine wpList_alloc_blk 8 31 cmZ rfl rfl rfl Tryz.alloc31 ?_; intro w4 cb hcb k4 b4; have k5 := (b4.block rb (Array.getElem?_eq_some_iff.1 k2).1).trans k2) | (refine wpList_store_whole 31 _ _ rfl rfl cb cmZ (cmL c cv vv fv ea wa) 31 rfl rfl (by exact k4) rfl Tryz.size31 (by exact hi.out.one) ?_; intro w6 k6 p6; have g6 : Hid (w4.heap.size = w6.heap.size ∧ (∀ b, b < w2.heap.size → w6.heap[b]? = w2.heap[b]?)) := g6_of hcb.out p6.out b4; have k7 : w6.heap[rb]? = some (.cells cmZ.toArray 31) := (g6.out.2 rb (Array.getElem?_eq_some_iff.1 k2).1).trans k2; have i6 : Hid (CmIn w1.heap.size w6 c cv vv fv ea wa) := hi.out.keep (by have := b4.size; have := g6.out.1; omega) (fun b _ hb => g6.out.2 b hb); have L6 : Hid (Laid w6) := L2.out.keep (by have := b4.size; have := g6.out.1; omega) (fun k hk => g6.out.2 k (Nat.lt_of_lt_of_le hk L2.out.sz))) | (refine wpList_load_whole 31 _ rfl rfl _ (cmL c cv vv fv ea wa) 31 _ rfl (by assumption) Tryz.underlying31 rfl Tryz.size31 ?_) | (refine (hck _ _ _ _ _ _ (i6.out.weak (Nat.zero_le _)) L6.out).mono ?_; rintro e w7 ⟨rfl, b7⟩; have k8 := (b7.block cb (Array.getElem?_eq_some_iff.1 k6).1).trans k6; have k9 := (b7.block rb (Array.getElem?_eq_some_iff.1 k7).1).trans k7; have i7 : Hid (CmIn w1.heap.size w7 c cv vv fv ea wa) := i6.out.keep b7.size (fun b _ hb => b7.block b hb)) | (refine wpList_store_whole 31 _ _ rfl rfl rb cmZ (cmL c cv vv fv ea wa) 31 rfl rfl (by exact k9) rfl Tryz.size31 (by exact i7.out.one) ?_; intro w3 k3 p3))
  have hr := hrb.out
  have hc := hcb.out
  have B4 : Below w.heap.size w w4 := ((b0.trans (b1.mono b0.size)).trans (b2.mono (Nat.le_trans b0.size b1.size))).trans (b4.mono (Nat.le_trans (Nat.le_trans b0.size b1.size) b2.size))
  have B6 : Below w.heap.size w w6 := by
    rw [p6.out]
    exact B4.trans ⟨(putAll_misc cb _ w4 0).1, (putAll_misc cb _ w4 0).2.1, (putAll_misc cb _ w4 0).2.2, Nat.le_of_eq (putAll_size cb _ w4 0).symm, fun k hk => putAll_other cb _ w4 0 k (by have := b0.size; have := b1.size; have := b2.size; omega)⟩
  have B7 := B6.trans (b7.mono B6.size)
  have B3 : Below w.heap.size w w3 := by
    rw [p3.out]
    exact B7.trans ⟨(putAll_misc rb _ w7 0).1, (putAll_misc rb _ w7 0).2.1, (putAll_misc rb _ w7 0).2.2, Nat.le_of_eq (putAll_size rb _ w7 0).symm, fun k hk => putAll_other rb _ w7 0 k (by omega)⟩
  have m3 : CmIn w1.heap.size w3 c cv vv fv ea wa := by
    rw [p3.out]
    exact i7.out.putAll (by have := (Array.getElem?_eq_some_iff.1 k1).1; omega) 0 _
  exact bodyPost_ret (results_whole3 _ _ rb (cmL c cv vv fv ea wa) _ _ rfl rfl rfl rfl k3) rfl ⟨⟨_, rfl, cv, vv, fv, ea, wa, rfl, m3.weak (Nat.le_trans b0.size b1.size)⟩, B3⟩

end Go.Proofs.YtkpeklealgicpabGreatDoor
