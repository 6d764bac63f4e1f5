/-
  isRight's region: what each operation leaves.
-/
import Derived.Test.YtkpeklealgicpabGreatDoorGd

namespace Go.Proofs.YtkpeklealgicpabGreatDoor
open Go.RowKit

def gv (p : Bool) (v : Value) : Value := if p = true then v else undef
def bitC : Nat → Int
  | 1 => 1 | 2 => 2 | 3 => 4 | 4 => 8 | 5 => 16 | 6 => 32 | 7 => 64 | 8 => 128 | 9 => 256 | 10 => 512 | 11 => 1024 | _ => 2048
def rC (c : Cm) : Nat → Bool
  | 1 => nameW c.name | 2 => nameW c.other | 3 => nameW c.column | 4 => areCols c.cols | 5 => typeB c.ty | 6 => valB c.val | 7 => areVals c.vals | 8 => c.fields.all nameW | 9 => rightE c.expr | 10 => whereB c.all c.wh
  | 11 => decide (c.order = []) || nameW c.order | _ => decide (-1 ≤ c.limit) && decide (c.limit ≤ 999999999)
def eC (c : Cm) : Nat → Bool
  | 1 => decide (c.name = []) | 2 => decide (c.other = []) | 3 => decide (c.column = []) | 4 => decide ((c.cols.length : Int) = 0) | 5 => decide (c.ty = 0) | 6 => noneV c.val | 7 => decide ((c.vals.length : Int) = 0) | 8 => decide ((c.fields.length : Int) = 0) | 9 => noneE c.expr | 10 => !c.all && noneE c.wh
  | 11 => decide (c.order = []) | _ => decide (c.limit = 0)
def Xc (m : Int) (c : Cm) (i : Nat) : Bool := if hasB m (bitC i) = true then rC c i else eC c i
def Pr (X : Nat → Bool) : Nat → Bool
  | 0 => true
  | i + 1 => Pr X i && X (i + 1)

def VV (w : World) (c : Cm) (cv vv fv ea wa : Value) (m : Int) (j : Nat) : Value := ([.bool true, .bool (Pr (Xc m c) 0), gv (Pr (Xc m c) 0) (.func (.func 71) #[] #[.pointer (some ⟨w.heap.size + 1, 0, none⟩)]), gv (Pr (Xc m c) 0) (.pointer (some ⟨w.heap.size, 1, none⟩)), gv (Pr (Xc m c) 0) (.string ⟨c.name.toArray⟩), gv (Pr (Xc m c) 0) (.bool (nameW c.name)), gv (Pr (Xc m c) 0) (.pointer (some ⟨w.heap.size, 1, none⟩)), gv (Pr (Xc m c) 0) (.string ⟨c.name.toArray⟩), gv (Pr (Xc m c) 0) (.bool (decide (c.name = []))), gv (Pr (Xc m c) 0) (.bool ((Xc m c) 1)), .bool (Pr (Xc m c) 1), .bool (Pr (Xc m c) 1), gv (Pr (Xc m c) 1) (.func (.func 71) #[] #[.pointer (some ⟨w.heap.size + 1, 0, none⟩)]), gv (Pr (Xc m c) 1) (.pointer (some ⟨w.heap.size, 2, none⟩)), gv (Pr (Xc m c) 1) (.string ⟨c.other.toArray⟩), gv (Pr (Xc m c) 1) (.bool (nameW c.other)), gv (Pr (Xc m c) 1) (.pointer (some ⟨w.heap.size, 2, none⟩)), gv (Pr (Xc m c) 1) (.string ⟨c.other.toArray⟩), gv (Pr (Xc m c) 1) (.bool (decide (c.other = []))), gv (Pr (Xc m c) 1) (.bool ((Xc m c) 2)), .bool (Pr (Xc m c) 2), .bool (Pr (Xc m c) 2), gv (Pr (Xc m c) 2) (.func (.func 71) #[] #[.pointer (some ⟨w.heap.size + 1, 0, none⟩)]), gv (Pr (Xc m c) 2) (.pointer (some ⟨w.heap.size, 3, none⟩)), gv (Pr (Xc m c) 2) (.string ⟨c.column.toArray⟩), gv (Pr (Xc m c) 2) (.bool (nameW c.column)), gv (Pr (Xc m c) 2) (.pointer (some ⟨w.heap.size, 3, none⟩)), gv (Pr (Xc m c) 2) (.string ⟨c.column.toArray⟩), gv (Pr (Xc m c) 2) (.bool (decide (c.column = []))), gv (Pr (Xc m c) 2) (.bool ((Xc m c) 3)), .bool (Pr (Xc m c) 3), .bool (Pr (Xc m c) 3), gv (Pr (Xc m c) 3) (.func (.func 71) #[] #[.pointer (some ⟨w.heap.size + 1, 0, none⟩)]), gv (Pr (Xc m c) 3) (.pointer (some ⟨w.heap.size, 4, none⟩)), gv (Pr (Xc m c) 3) (cv), gv (Pr (Xc m c) 3) (.bool (areCols c.cols)), gv (Pr (Xc m c) 3) (.pointer (some ⟨w.heap.size, 4, none⟩)), gv (Pr (Xc m c) 3) (cv), gv (Pr (Xc m c) 3) (.int .i64 (c.cols.length : Nat)), gv (Pr (Xc m c) 3) (.bool (decide ((c.cols.length : Int) = 0))), gv (Pr (Xc m c) 3) (.bool ((Xc m c) 4)), .bool (Pr (Xc m c) 4), .bool (Pr (Xc m c) 4), gv (Pr (Xc m c) 4) (.func (.func 71) #[] #[.pointer (some ⟨w.heap.size + 1, 0, none⟩)]), gv (Pr (Xc m c) 4) (.pointer (some ⟨w.heap.size, 5, none⟩)), gv (Pr (Xc m c) 4) (.int .i64 c.ty), gv (Pr (Xc m c) 4) (.bool (typeB c.ty)), gv (Pr (Xc m c) 4) (.pointer (some ⟨w.heap.size, 5, none⟩)), gv (Pr (Xc m c) 4) (.int .i64 c.ty), gv (Pr (Xc m c) 4) (.bool (decide (c.ty = 0))), gv (Pr (Xc m c) 4) (.bool ((Xc m c) 5)), .bool (Pr (Xc m c) 5), .bool (Pr (Xc m c) 5), gv (Pr (Xc m c) 5) (.func (.func 71) #[] #[.pointer (some ⟨w.heap.size + 1, 0, none⟩)]), gv (Pr (Xc m c) 5) (.pointer (some ⟨w.heap.size, 6, none⟩)), gv (Pr (Xc m c) 5) (.agg #[.int .i64 c.val.k, .int .i64 c.val.n, .string ⟨c.val.s.toArray⟩]), gv (Pr (Xc m c) 5) (.bool (valB c.val)), gv (Pr (Xc m c) 5) (.pointer (some ⟨w.heap.size, 6, none⟩)), gv (Pr (Xc m c) 5) (.agg #[.int .i64 c.val.k, .int .i64 c.val.n, .string ⟨c.val.s.toArray⟩]), gv (Pr (Xc m c) 5) (.agg #[.int .i64 0, .int .i64 0, .string ⟨#[]⟩]), gv (Pr (Xc m c) 5) (.bool (noneV c.val)), gv (Pr (Xc m c) 5) (.bool ((Xc m c) 6)), .bool (Pr (Xc m c) 6), .bool (Pr (Xc m c) 6), gv (Pr (Xc m c) 6) (.func (.func 71) #[] #[.pointer (some ⟨w.heap.size + 1, 0, none⟩)]), gv (Pr (Xc m c) 6) (.pointer (some ⟨w.heap.size, 9, none⟩)), gv (Pr (Xc m c) 6) (vv), gv (Pr (Xc m c) 6) (.bool (areVals c.vals)), gv (Pr (Xc m c) 6) (.pointer (some ⟨w.heap.size, 9, none⟩)), gv (Pr (Xc m c) 6) (vv), gv (Pr (Xc m c) 6) (.int .i64 (c.vals.length : Nat)), gv (Pr (Xc m c) 6) (.bool (decide ((c.vals.length : Int) = 0))), gv (Pr (Xc m c) 6) (.bool ((Xc m c) 7)), .bool (Pr (Xc m c) 7), .bool (Pr (Xc m c) 7), gv (Pr (Xc m c) 7) (.func (.func 71) #[] #[.pointer (some ⟨w.heap.size + 1, 0, none⟩)]), gv (Pr (Xc m c) 7) (.pointer (some ⟨w.heap.size, 10, none⟩)), gv (Pr (Xc m c) 7) (fv), gv (Pr (Xc m c) 7) (.bool (c.fields.all nameW)), gv (Pr (Xc m c) 7) (.pointer (some ⟨w.heap.size, 10, none⟩)), gv (Pr (Xc m c) 7) (fv), gv (Pr (Xc m c) 7) (.int .i64 (c.fields.length : Nat)), gv (Pr (Xc m c) 7) (.bool (decide ((c.fields.length : Int) = 0))), gv (Pr (Xc m c) 7) (.bool ((Xc m c) 8)), .bool (Pr (Xc m c) 8), .bool (Pr (Xc m c) 8), gv (Pr (Xc m c) 8) (.func (.func 71) #[] #[.pointer (some ⟨w.heap.size + 1, 0, none⟩)]), gv (Pr (Xc m c) 8) (.pointer (some ⟨w.heap.size, 11, none⟩)), gv (Pr (Xc m c) 8) (.agg #[.int .i64 c.expr.k, .int .i64 c.expr.v.k, .int .i64 c.expr.v.n, .string ⟨c.expr.v.s.toArray⟩, .string ⟨c.expr.nm.toArray⟩, ea]), gv (Pr (Xc m c) 8) (.bool (rightE c.expr)), gv (Pr (Xc m c) 8) (.pointer (some ⟨w.heap.size, 11, none⟩)), gv (Pr (Xc m c) 8) (.agg #[.int .i64 c.expr.k, .int .i64 c.expr.v.k, .int .i64 c.expr.v.n, .string ⟨c.expr.v.s.toArray⟩, .string ⟨c.expr.nm.toArray⟩, ea]), gv (Pr (Xc m c) 8) (.bool (noneE c.expr)), gv (Pr (Xc m c) 8) (.bool ((Xc m c) 9)), .bool (Pr (Xc m c) 9), .bool (Pr (Xc m c) 9), gv (Pr (Xc m c) 9) (.func (.func 71) #[] #[.pointer (some ⟨w.heap.size + 1, 0, none⟩)]), gv (Pr (Xc m c) 9) (.pointer (some ⟨w.heap.size, 17, none⟩)), gv (Pr (Xc m c) 9) (.bool c.all), gv (Pr (Xc m c) 9) (.pointer (some ⟨w.heap.size, 18, none⟩)), gv (Pr (Xc m c) 9) (.agg #[.int .i64 c.wh.k, .int .i64 c.wh.v.k, .int .i64 c.wh.v.n, .string ⟨c.wh.v.s.toArray⟩, .string ⟨c.wh.nm.toArray⟩, wa]), gv (Pr (Xc m c) 9) (.bool (whereB c.all c.wh)), gv (Pr (Xc m c) 9) (.pointer (some ⟨w.heap.size, 17, none⟩)), gv (Pr (Xc m c) 9) (.bool c.all), gv (Pr (Xc m c) 9) (.bool (!c.all)), gv (Pr (Xc m c) 9) (.bool (!c.all)), gv ((Pr (Xc m c) 9) && (!c.all)) (.pointer (some ⟨w.heap.size, 18, none⟩)), gv ((Pr (Xc m c) 9) && (!c.all)) (.agg #[.int .i64 c.wh.k, .int .i64 c.wh.v.k, .int .i64 c.wh.v.n, .string ⟨c.wh.v.s.toArray⟩, .string ⟨c.wh.nm.toArray⟩, wa]), gv ((Pr (Xc m c) 9) && (!c.all)) (.bool (noneE c.wh)), gv (Pr (Xc m c) 9) (.bool (!c.all && noneE c.wh)), gv (Pr (Xc m c) 9) (.bool ((Xc m c) 10)), .bool (Pr (Xc m c) 10), .bool (Pr (Xc m c) 10), gv (Pr (Xc m c) 10) (.func (.func 71) #[] #[.pointer (some ⟨w.heap.size + 1, 0, none⟩)]), gv (Pr (Xc m c) 10) (.pointer (some ⟨w.heap.size, 24, none⟩)), gv (Pr (Xc m c) 10) (.string ⟨c.order.toArray⟩), gv (Pr (Xc m c) 10) (.bool (decide (c.order = []))), gv (Pr (Xc m c) 10) (.bool (decide (c.order = []))), gv ((Pr (Xc m c) 10) && (!(decide (c.order = [])))) (.pointer (some ⟨w.heap.size, 24, none⟩)), gv ((Pr (Xc m c) 10) && (!(decide (c.order = [])))) (.string ⟨c.order.toArray⟩), gv ((Pr (Xc m c) 10) && (!(decide (c.order = [])))) (.bool (nameW c.order)), gv (Pr (Xc m c) 10) (.bool (decide (c.order = []) || nameW c.order)), gv (Pr (Xc m c) 10) (.pointer (some ⟨w.heap.size, 24, none⟩)), gv (Pr (Xc m c) 10) (.string ⟨c.order.toArray⟩), gv (Pr (Xc m c) 10) (.bool (decide (c.order = []))), gv (Pr (Xc m c) 10) (.bool ((Xc m c) 11)), .bool (Pr (Xc m c) 11), .bool (Pr (Xc m c) 11), gv (Pr (Xc m c) 11) (.func (.func 71) #[] #[.pointer (some ⟨w.heap.size + 1, 0, none⟩)]), gv (Pr (Xc m c) 11) (.pointer (some ⟨w.heap.size, 25, none⟩)), gv (Pr (Xc m c) 11) (.int .i64 c.limit), gv (Pr (Xc m c) 11) (.bool (decide (-1 ≤ c.limit))), gv (Pr (Xc m c) 11) (.bool (decide (-1 ≤ c.limit))), gv ((Pr (Xc m c) 11) && (decide (-1 ≤ c.limit))) (.pointer (some ⟨w.heap.size, 25, none⟩)), gv ((Pr (Xc m c) 11) && (decide (-1 ≤ c.limit))) (.int .i64 c.limit), gv ((Pr (Xc m c) 11) && (decide (-1 ≤ c.limit))) (.bool (decide (c.limit ≤ 999999999))), gv (Pr (Xc m c) 11) (.bool (decide (-1 ≤ c.limit) && decide (c.limit ≤ 999999999))), gv (Pr (Xc m c) 11) (.pointer (some ⟨w.heap.size, 25, none⟩)), gv (Pr (Xc m c) 11) (.int .i64 c.limit), gv (Pr (Xc m c) 11) (.bool (decide (c.limit = 0))), gv (Pr (Xc m c) 11) (.bool ((Xc m c) 12)), .bool (Pr (Xc m c) 12), .bool (Pr (Xc m c) 12)] : List Value).getD j undef

structure Cals (w : World) (c : Cm) (cv vv fv ea wa : Value) (m : Int) : Prop where
  q1 : ∀ W, Held w c cv vv fv ea wa m W → Calls Tryz.prog 72 #[.string ⟨c.name.toArray⟩] W fun e w' => e = .returned (.bool (nameW c.name)) ∧ Below W.heap.size W w'
  q2 : ∀ W, Held w c cv vv fv ea wa m W → Calls Tryz.prog 72 #[.string ⟨c.other.toArray⟩] W fun e w' => e = .returned (.bool (nameW c.other)) ∧ Below W.heap.size W w'
  q3 : ∀ W, Held w c cv vv fv ea wa m W → Calls Tryz.prog 72 #[.string ⟨c.column.toArray⟩] W fun e w' => e = .returned (.bool (nameW c.column)) ∧ Below W.heap.size W w'
  q4 : ∀ W, Held w c cv vv fv ea wa m W → Calls Tryz.prog 73 #[cv] W fun e w' => e = .returned (.bool (areCols c.cols)) ∧ Below W.heap.size W w'
  q5 : ∀ W, Held w c cv vv fv ea wa m W → Calls Tryz.prog 74 #[.int .i64 c.ty] W fun e w' => e = .returned (.bool (typeB c.ty)) ∧ Below W.heap.size W w'
  q6 : ∀ W, Held w c cv vv fv ea wa m W → Calls Tryz.prog 75 #[.agg #[.int .i64 c.val.k, .int .i64 c.val.n, .string ⟨c.val.s.toArray⟩]] W fun e w' => e = .returned (.bool (valB c.val)) ∧ Below W.heap.size W w'
  q7 : ∀ W, Held w c cv vv fv ea wa m W → Calls Tryz.prog 76 #[vv] W fun e w' => e = .returned (.bool (areVals c.vals)) ∧ Below W.heap.size W w'
  q8 : ∀ W, Held w c cv vv fv ea wa m W → Calls Tryz.prog 77 #[fv, .func (.func 72) #[] #[]] W fun e w' => e = .returned (.bool (c.fields.all nameW)) ∧ Below W.heap.size W w'
  q9 : ∀ W, Held w c cv vv fv ea wa m W → Calls Tryz.prog 78 #[.agg #[.int .i64 c.expr.k, .int .i64 c.expr.v.k, .int .i64 c.expr.v.n, .string ⟨c.expr.v.s.toArray⟩, .string ⟨c.expr.nm.toArray⟩, ea]] W fun e w' => e = .returned (.bool (rightE c.expr)) ∧ Below W.heap.size W w'
  n9 : ∀ W, Held w c cv vv fv ea wa m W → Calls Tryz.prog 79 #[.agg #[.int .i64 c.expr.k, .int .i64 c.expr.v.k, .int .i64 c.expr.v.n, .string ⟨c.expr.v.s.toArray⟩, .string ⟨c.expr.nm.toArray⟩, ea]] W fun e w' => e = .returned (.bool (noneE c.expr)) ∧ Below W.heap.size W w'
  q10 : ∀ W, Held w c cv vv fv ea wa m W → Calls Tryz.prog 80 #[.bool c.all, .agg #[.int .i64 c.wh.k, .int .i64 c.wh.v.k, .int .i64 c.wh.v.n, .string ⟨c.wh.v.s.toArray⟩, .string ⟨c.wh.nm.toArray⟩, wa]] W fun e w' => e = .returned (.bool (whereB c.all c.wh)) ∧ Below W.heap.size W w'
  n10 : ∀ W, Held w c cv vv fv ea wa m W → Calls Tryz.prog 79 #[.agg #[.int .i64 c.wh.k, .int .i64 c.wh.v.k, .int .i64 c.wh.v.n, .string ⟨c.wh.v.s.toArray⟩, .string ⟨c.wh.nm.toArray⟩, wa]] W fun e w' => e = .returned (.bool (noneE c.wh)) ∧ Below W.heap.size W w'
  q11 : ∀ W, Held w c cv vv fv ea wa m W → Calls Tryz.prog 72 #[.string ⟨c.order.toArray⟩] W fun e w' => e = .returned (.bool (nameW c.order)) ∧ Below W.heap.size W w'
  l4 : ∃ ao ca, cv = .slice ao c.cols.length ca
  l7 : ∃ ao ca, vv = .slice ao c.vals.length ca
  l8 : ∃ ao ca, fv = .slice ao c.fields.length ca

def Ob (w : World) (c : Cm) (cv vv fv ea wa : Value) (m : Int) (a0 : Act) (Q : Exit → Act → World → Prop) (j : Nat) : Prop :=
  ∀ o listed a W, rops[j]? = some o → RunAt rops (Array.replicate 143 false) a0 (VV w c cv vv fv ea wa m) listed a → (∀ e ∈ o.after, Region.binds .any e = true → listed.getD e.on false = true) → Held w c cv vv fv ea wa m W →
    ∀ K : Act → World → Prop, (∀ w', Held w c cv vv fv ea wa m w' → K (a.put o.dst (VV w c cv vv fv ea wa m j)) w') → wpOp Tryz.prog rops Q j K a W

set_option maxRecDepth 100000 in
theorem ob_0 {w : World} {c : Cm} {cv vv fv ea wa : Value} {m : Int} {a0 : Act} {Q : Exit → Act → World → Prop} (h4 : a0.tmps[4]? = some (.bool true)) : Ob w c cv vv fv ea wa m a0 Q 0 := by
  intro o listed a W ho hd hl hS K hK
  have eo : rops[0]? = some (opAt 0) := by kernel_rfl
  obtain rfl : o = opAt 0 := Option.some.inj (ho.symm.trans eo)
  have s1 := (hd.base 4 (by kernel_rfl)).trans h4
  refine run_quiet eo (Or.inl ⟨wanted_none (by kernel_rfl), fun W' hW' => ?_⟩) hS hK
  exact ex_move (x := .tmp 4) (by kernel_rfl) (eval_tmp s1)

set_option maxRecDepth 100000 in
theorem ob_1 {w : World} {c : Cm} {cv vv fv ea wa : Value} {m : Int} {a0 : Act} {Q : Exit → Act → World → Prop} : Ob w c cv vv fv ea wa m a0 Q 1 := by
  intro o listed a W ho hd hl hS K hK
  have eo : rops[1]? = some (opAt 1) := by kernel_rfl
  obtain rfl : o = opAt 1 := Option.some.inj (ho.symm.trans eo)
  have s1 := hd.slot hl 0 13 (by kernel_rfl) (by kernel_rfl) (by kernel_rfl)
  refine run_quiet eo (Or.inl ⟨wanted_none (by kernel_rfl), fun W' hW' => ?_⟩) hS hK
  exact ex_move (x := .tmp 13) (by kernel_rfl) (eval_tmp s1)

set_option maxRecDepth 100000 in
theorem ob_2 {w : World} {c : Cm} {cv vv fv ea wa : Value} {m : Int} {a0 : Act} {Q : Exit → Act → World → Prop} (h5 : a0.tmps[5]? = some (.func (.func 71) #[] #[.pointer (some ⟨w.heap.size + 1, 0, none⟩)])) : Ob w c cv vv fv ea wa m a0 Q 2 := by
  intro o listed a W ho hd hl hS K hK
  have eo : rops[2]? = some (opAt 2) := by kernel_rfl
  obtain rfl : o = opAt 2 := Option.some.inj (ho.symm.trans eo)
  have sg := hd.slot hl 1 14 (by kernel_rfl) (by kernel_rfl) (by kernel_rfl)
  have hw := wanted_some (o := opAt 2) (ops := rops) (g := 1) (b := true) (c := (Pr (Xc m c) 0)) (by kernel_rfl) (by kernel_rfl) sg
  cases hp : (Pr (Xc m c) 0) with
  | false =>
    rw [hp] at hw
    exact run_quiet eo (Or.inr ⟨hw, by show gv (Pr (Xc m c) 0) _ = undef; rw [hp]; rfl⟩) hS hK
  | true =>
    rw [hp] at hw
    have hV : VV w c cv vv fv ea wa m 2 = .func (.func 71) #[] #[.pointer (some ⟨w.heap.size + 1, 0, none⟩)] := by show gv (Pr (Xc m c) 0) _ = _; rw [hp]; rfl
    rw [hV] at hK
    refine run_quiet eo (Or.inl ⟨hw, fun W' hW' => ?_⟩) hS hK
    exact ex_move (x := .tmp 5) (by kernel_rfl) (eval_tmp ((hd.base 5 (by kernel_rfl)).trans h5))

set_option maxRecDepth 100000 in
theorem ob_3 {w : World} {c : Cm} {cv vv fv ea wa : Value} {m : Int} {a0 : Act} {Q : Exit → Act → World → Prop} (h1 : a0.tmps[1]? = some (.pointer (some ⟨w.heap.size, 0, none⟩))) : Ob w c cv vv fv ea wa m a0 Q 3 := by
  intro o listed a W ho hd hl hS K hK
  have eo : rops[3]? = some (opAt 3) := by kernel_rfl
  obtain rfl : o = opAt 3 := Option.some.inj (ho.symm.trans eo)
  have sg := hd.slot hl 1 14 (by kernel_rfl) (by kernel_rfl) (by kernel_rfl)
  have hw := wanted_some (o := opAt 3) (ops := rops) (g := 1) (b := true) (c := (Pr (Xc m c) 0)) (by kernel_rfl) (by kernel_rfl) sg
  cases hp : (Pr (Xc m c) 0) with
  | false =>
    rw [hp] at hw
    exact run_quiet eo (Or.inr ⟨hw, by show gv (Pr (Xc m c) 0) _ = undef; rw [hp]; rfl⟩) hS hK
  | true =>
    rw [hp] at hw
    have hV : VV w c cv vv fv ea wa m 3 = .pointer (some ⟨w.heap.size, 1, none⟩) := by show gv (Pr (Xc m c) 0) _ = _; rw [hp]; rfl
    rw [hV] at hK
    refine run_quiet eo (Or.inl ⟨hw, fun W' hW' => ?_⟩) hS hK
    exact ex_field (x := .tmp 1) (t := 31) (f := 1) (by kernel_rfl) (eval_tmp ((hd.base 1 (by kernel_rfl)).trans h1)) (fa1 W' _)

set_option maxRecDepth 100000 in
theorem ob_4 {w : World} {c : Cm} {cv vv fv ea wa : Value} {m : Int} {a0 : Act} {Q : Exit → Act → World → Prop} : Ob w c cv vv fv ea wa m a0 Q 4 := by
  intro o listed a W ho hd hl hS K hK
  have eo : rops[4]? = some (opAt 4) := by kernel_rfl
  obtain rfl : o = opAt 4 := Option.some.inj (ho.symm.trans eo)
  have sg := hd.slot hl 1 14 (by kernel_rfl) (by kernel_rfl) (by kernel_rfl)
  have hw := wanted_some (o := opAt 4) (ops := rops) (g := 1) (b := true) (c := (Pr (Xc m c) 0)) (by kernel_rfl) (by kernel_rfl) sg
  have s1 := hd.slot hl 3 16 (by kernel_rfl) (by kernel_rfl) (by kernel_rfl)
  cases hp : (Pr (Xc m c) 0) with
  | false =>
    rw [hp] at hw
    exact run_quiet eo (Or.inr ⟨hw, by show gv (Pr (Xc m c) 0) _ = undef; rw [hp]; rfl⟩) hS hK
  | true =>
    rw [hp] at hw
    have hV : VV w c cv vv fv ea wa m 4 = .string ⟨c.name.toArray⟩ := by show gv (Pr (Xc m c) 0) _ = _; rw [hp]; rfl
    rw [hV] at hK
    replace s1 : a.tmps[16]? = some (.pointer (some ⟨w.heap.size, 1, none⟩)) := s1.trans (by show some (gv (Pr (Xc m c) 0) _) = _; rw [hp]; rfl)
    refine run_quiet eo (Or.inl ⟨hw, fun W' hW' => ?_⟩) hS hK
    exact ex_load (x := .tmp 16) (t := 9) (by kernel_rfl) (eval_tmp s1) (ld9 W' _ 1 _ (hW'.1 1 _ rfl))

set_option maxRecDepth 100000 in
theorem ob_5 {w : World} {c : Cm} {cv vv fv ea wa : Value} {m : Int} {a0 : Act} {Q : Exit → Act → World → Prop} (hc : Cals w c cv vv fv ea wa m) : Ob w c cv vv fv ea wa m a0 Q 5 := by
  intro o listed a W ho hd hl hS K hK
  have eo : rops[5]? = some (opAt 5) := by kernel_rfl
  obtain rfl : o = opAt 5 := Option.some.inj (ho.symm.trans eo)
  have sg := hd.slot hl 1 14 (by kernel_rfl) (by kernel_rfl) (by kernel_rfl)
  have hw := wanted_some (o := opAt 5) (ops := rops) (g := 1) (b := true) (c := (Pr (Xc m c) 0)) (by kernel_rfl) (by kernel_rfl) sg
  have s1 := hd.slot hl 4 17 (by kernel_rfl) (by kernel_rfl) (by kernel_rfl)
  cases hp : (Pr (Xc m c) 0) with
  | false =>
    rw [hp] at hw
    exact run_quiet eo (Or.inr ⟨hw, by show gv (Pr (Xc m c) 0) _ = undef; rw [hp]; rfl⟩) hS hK
  | true =>
    rw [hp] at hw
    have hV : VV w c cv vv fv ea wa m 5 = .bool (nameW c.name) := by show gv (Pr (Xc m c) 0) _ = _; rw [hp]; rfl
    rw [hV] at hK
    replace s1 : a.tmps[17]? = some (.string ⟨c.name.toArray⟩) := s1.trans (by show some (gv (Pr (Xc m c) 0) _) = _; rw [hp]; rfl)
    exact run_call 72 #[.string ⟨c.name.toArray⟩] eo hw (ex_call1 (ts := #[9]) (x := .tmp 17) (f := 72) cf72 (by kernel_rfl) rfl (eval_tmp s1)) ((hc.q1 W hS).mono fun e w' h => ⟨h.1, hS.below h.2⟩) hK

set_option maxRecDepth 100000 in
theorem ob_6 {w : World} {c : Cm} {cv vv fv ea wa : Value} {m : Int} {a0 : Act} {Q : Exit → Act → World → Prop} (h1 : a0.tmps[1]? = some (.pointer (some ⟨w.heap.size, 0, none⟩))) : Ob w c cv vv fv ea wa m a0 Q 6 := by
  intro o listed a W ho hd hl hS K hK
  have eo : rops[6]? = some (opAt 6) := by kernel_rfl
  obtain rfl : o = opAt 6 := Option.some.inj (ho.symm.trans eo)
  have sg := hd.slot hl 1 14 (by kernel_rfl) (by kernel_rfl) (by kernel_rfl)
  have hw := wanted_some (o := opAt 6) (ops := rops) (g := 1) (b := true) (c := (Pr (Xc m c) 0)) (by kernel_rfl) (by kernel_rfl) sg
  cases hp : (Pr (Xc m c) 0) with
  | false =>
    rw [hp] at hw
    exact run_quiet eo (Or.inr ⟨hw, by show gv (Pr (Xc m c) 0) _ = undef; rw [hp]; rfl⟩) hS hK
  | true =>
    rw [hp] at hw
    have hV : VV w c cv vv fv ea wa m 6 = .pointer (some ⟨w.heap.size, 1, none⟩) := by show gv (Pr (Xc m c) 0) _ = _; rw [hp]; rfl
    rw [hV] at hK
    refine run_quiet eo (Or.inl ⟨hw, fun W' hW' => ?_⟩) hS hK
    exact ex_field (x := .tmp 1) (t := 31) (f := 1) (by kernel_rfl) (eval_tmp ((hd.base 1 (by kernel_rfl)).trans h1)) (fa1 W' _)

set_option maxRecDepth 100000 in
theorem ob_7 {w : World} {c : Cm} {cv vv fv ea wa : Value} {m : Int} {a0 : Act} {Q : Exit → Act → World → Prop} : Ob w c cv vv fv ea wa m a0 Q 7 := by
  intro o listed a W ho hd hl hS K hK
  have eo : rops[7]? = some (opAt 7) := by kernel_rfl
  obtain rfl : o = opAt 7 := Option.some.inj (ho.symm.trans eo)
  have sg := hd.slot hl 1 14 (by kernel_rfl) (by kernel_rfl) (by kernel_rfl)
  have hw := wanted_some (o := opAt 7) (ops := rops) (g := 1) (b := true) (c := (Pr (Xc m c) 0)) (by kernel_rfl) (by kernel_rfl) sg
  have s1 := hd.slot hl 6 19 (by kernel_rfl) (by kernel_rfl) (by kernel_rfl)
  cases hp : (Pr (Xc m c) 0) with
  | false =>
    rw [hp] at hw
    exact run_quiet eo (Or.inr ⟨hw, by show gv (Pr (Xc m c) 0) _ = undef; rw [hp]; rfl⟩) hS hK
  | true =>
    rw [hp] at hw
    have hV : VV w c cv vv fv ea wa m 7 = .string ⟨c.name.toArray⟩ := by show gv (Pr (Xc m c) 0) _ = _; rw [hp]; rfl
    rw [hV] at hK
    replace s1 : a.tmps[19]? = some (.pointer (some ⟨w.heap.size, 1, none⟩)) := s1.trans (by show some (gv (Pr (Xc m c) 0) _) = _; rw [hp]; rfl)
    refine run_quiet eo (Or.inl ⟨hw, fun W' hW' => ?_⟩) hS hK
    exact ex_load (x := .tmp 19) (t := 9) (by kernel_rfl) (eval_tmp s1) (ld9 W' _ 1 _ (hW'.1 1 _ rfl))

set_option maxRecDepth 100000 in
theorem ob_8 {w : World} {c : Cm} {cv vv fv ea wa : Value} {m : Int} {a0 : Act} {Q : Exit → Act → World → Prop} : Ob w c cv vv fv ea wa m a0 Q 8 := by
  intro o listed a W ho hd hl hS K hK
  have eo : rops[8]? = some (opAt 8) := by kernel_rfl
  obtain rfl : o = opAt 8 := Option.some.inj (ho.symm.trans eo)
  have sg := hd.slot hl 1 14 (by kernel_rfl) (by kernel_rfl) (by kernel_rfl)
  have hw := wanted_some (o := opAt 8) (ops := rops) (g := 1) (b := true) (c := (Pr (Xc m c) 0)) (by kernel_rfl) (by kernel_rfl) sg
  have s1 := hd.slot hl 7 20 (by kernel_rfl) (by kernel_rfl) (by kernel_rfl)
  cases hp : (Pr (Xc m c) 0) with
  | false =>
    rw [hp] at hw
    exact run_quiet eo (Or.inr ⟨hw, by show gv (Pr (Xc m c) 0) _ = undef; rw [hp]; rfl⟩) hS hK
  | true =>
    rw [hp] at hw
    have hV : VV w c cv vv fv ea wa m 8 = .bool (decide (c.name = [])) := by show gv (Pr (Xc m c) 0) _ = _; rw [hp]; rfl
    rw [hV] at hK
    replace s1 : a.tmps[20]? = some (.string ⟨c.name.toArray⟩) := s1.trans (by show some (gv (Pr (Xc m c) 0) _) = _; rw [hp]; rfl)
    refine run_quiet eo (Or.inl ⟨hw, fun W' hW' => ?_⟩) hS hK
    exact ex_bin (u := 9) (x := .tmp 20) (y := .const (.string ⟨#[]⟩)) (by kernel_rfl) (eval_tmp s1) rfl (eq9 W' _ _ _)

set_option maxRecDepth 100000 in
theorem ob_9 {w : World} {c : Cm} {cv vv fv ea wa : Value} {m : Int} {a0 : Act} {Q : Exit → Act → World → Prop} : Ob w c cv vv fv ea wa m a0 Q 9 := by
  intro o listed a W ho hd hl hS K hK
  have eo : rops[9]? = some (opAt 9) := by kernel_rfl
  obtain rfl : o = opAt 9 := Option.some.inj (ho.symm.trans eo)
  have sg := hd.slot hl 1 14 (by kernel_rfl) (by kernel_rfl) (by kernel_rfl)
  have hw := wanted_some (o := opAt 9) (ops := rops) (g := 1) (b := true) (c := (Pr (Xc m c) 0)) (by kernel_rfl) (by kernel_rfl) sg
  have s1 := hd.slot hl 2 15 (by kernel_rfl) (by kernel_rfl) (by kernel_rfl)
  have s2 := hd.slot hl 5 18 (by kernel_rfl) (by kernel_rfl) (by kernel_rfl)
  have s3 := hd.slot hl 8 21 (by kernel_rfl) (by kernel_rfl) (by kernel_rfl)
  cases hp : (Pr (Xc m c) 0) with
  | false =>
    rw [hp] at hw
    exact run_quiet eo (Or.inr ⟨hw, by show gv (Pr (Xc m c) 0) _ = undef; rw [hp]; rfl⟩) hS hK
  | true =>
    rw [hp] at hw
    have hV : VV w c cv vv fv ea wa m 9 = .bool ((Xc m c) 1) := by show gv (Pr (Xc m c) 0) _ = _; rw [hp]; rfl
    rw [hV] at hK
    replace s1 : a.tmps[15]? = some (.func (.func 71) #[] #[.pointer (some ⟨w.heap.size + 1, 0, none⟩)]) := s1.trans (by show some (gv (Pr (Xc m c) 0) _) = _; rw [hp]; rfl)
    replace s2 : a.tmps[18]? = some (.bool (nameW c.name)) := s2.trans (by show some (gv (Pr (Xc m c) 0) _) = _; rw [hp]; rfl)
    replace s3 : a.tmps[21]? = some (.bool (decide (c.name = []))) := s3.trans (by show some (gv (Pr (Xc m c) 0) _) = _; rw [hp]; rfl)
    refine run_call 71 #[.int .i64 1, .bool (nameW c.name), .bool (decide (c.name = [])), .pointer (some ⟨w.heap.size + 1, 0, none⟩)] eo hw (ex_is (ts := #[3, 4, 4]) (t := .tmp 15) (x := .const (.int .i64 1)) (y := .tmp 18) (z := .tmp 21) (f := 71) cf71 (by kernel_rfl) (eval_tmp s1) rfl (eval_tmp s2) (eval_tmp s3)) ((is_any m 1 (nameW c.name) (decide (c.name = [])) _ W hS.2.1).mono fun e w' h => ⟨h.1, h.2 ▸ hS⟩) hK

set_option maxRecDepth 100000 in
theorem ob_10 {w : World} {c : Cm} {cv vv fv ea wa : Value} {m : Int} {a0 : Act} {Q : Exit → Act → World → Prop} : Ob w c cv vv fv ea wa m a0 Q 10 := by
  intro o listed a W ho hd hl hS K hK
  have eo : rops[10]? = some (opAt 10) := by kernel_rfl
  obtain rfl : o = opAt 10 := Option.some.inj (ho.symm.trans eo)
  have s1 := hd.slot hl 1 14 (by kernel_rfl) (by kernel_rfl) (by kernel_rfl)
  have s2 := hd.slot hl 9 22 (by kernel_rfl) (by kernel_rfl) (by kernel_rfl)
  have ev : (if (Pr (Xc m c) 0) = true then a.eval (.tmp 22) else a.eval (.const (.bool false))) = .bool (Pr (Xc m c) 1) := by
    rw [eval_tmp s2]
    show (if (Pr (Xc m c) 0) = true then gv (Pr (Xc m c) 0) (.bool ((Xc m c) 1)) else .bool false) = .bool ((Pr (Xc m c) 0) && (Xc m c) 1)
    cases (Pr (Xc m c) 0) <;> rfl
  refine run_quiet eo (Or.inl ⟨wanted_none (by kernel_rfl), fun W' hW' => ?_⟩) hS hK
  rw [ex_pick (P := Tryz.prog) (ρ := a.eval) (W := W') (o := opAt 10) (c := .tmp 14) (x := .tmp 22) (y := .const (.bool false)) (b := (Pr (Xc m c) 0)) (by kernel_rfl) (eval_tmp s1), ev]; rfl

set_option maxRecDepth 100000 in
theorem ob_11 {w : World} {c : Cm} {cv vv fv ea wa : Value} {m : Int} {a0 : Act} {Q : Exit → Act → World → Prop} : Ob w c cv vv fv ea wa m a0 Q 11 := by
  intro o listed a W ho hd hl hS K hK
  have eo : rops[11]? = some (opAt 11) := by kernel_rfl
  obtain rfl : o = opAt 11 := Option.some.inj (ho.symm.trans eo)
  have s1 := hd.slot hl 10 23 (by kernel_rfl) (by kernel_rfl) (by kernel_rfl)
  refine run_quiet eo (Or.inl ⟨wanted_none (by kernel_rfl), fun W' hW' => ?_⟩) hS hK
  exact ex_move (x := .tmp 23) (by kernel_rfl) (eval_tmp s1)

set_option maxRecDepth 100000 in
theorem ob_12 {w : World} {c : Cm} {cv vv fv ea wa : Value} {m : Int} {a0 : Act} {Q : Exit → Act → World → Prop} (h5 : a0.tmps[5]? = some (.func (.func 71) #[] #[.pointer (some ⟨w.heap.size + 1, 0, none⟩)])) : Ob w c cv vv fv ea wa m a0 Q 12 := by
  intro o listed a W ho hd hl hS K hK
  have eo : rops[12]? = some (opAt 12) := by kernel_rfl
  obtain rfl : o = opAt 12 := Option.some.inj (ho.symm.trans eo)
  have sg := hd.slot hl 11 24 (by kernel_rfl) (by kernel_rfl) (by kernel_rfl)
  have hw := wanted_some (o := opAt 12) (ops := rops) (g := 11) (b := true) (c := (Pr (Xc m c) 1)) (by kernel_rfl) (by kernel_rfl) sg
  cases hp : (Pr (Xc m c) 1) with
  | false =>
    rw [hp] at hw
    exact run_quiet eo (Or.inr ⟨hw, by show gv (Pr (Xc m c) 1) _ = undef; rw [hp]; rfl⟩) hS hK
  | true =>
    rw [hp] at hw
    have hV : VV w c cv vv fv ea wa m 12 = .func (.func 71) #[] #[.pointer (some ⟨w.heap.size + 1, 0, none⟩)] := by show gv (Pr (Xc m c) 1) _ = _; rw [hp]; rfl
    rw [hV] at hK
    refine run_quiet eo (Or.inl ⟨hw, fun W' hW' => ?_⟩) hS hK
    exact ex_move (x := .tmp 5) (by kernel_rfl) (eval_tmp ((hd.base 5 (by kernel_rfl)).trans h5))

set_option maxRecDepth 100000 in
theorem ob_13 {w : World} {c : Cm} {cv vv fv ea wa : Value} {m : Int} {a0 : Act} {Q : Exit → Act → World → Prop} (h1 : a0.tmps[1]? = some (.pointer (some ⟨w.heap.size, 0, none⟩))) : Ob w c cv vv fv ea wa m a0 Q 13 := by
  intro o listed a W ho hd hl hS K hK
  have eo : rops[13]? = some (opAt 13) := by kernel_rfl
  obtain rfl : o = opAt 13 := Option.some.inj (ho.symm.trans eo)
  have sg := hd.slot hl 11 24 (by kernel_rfl) (by kernel_rfl) (by kernel_rfl)
  have hw := wanted_some (o := opAt 13) (ops := rops) (g := 11) (b := true) (c := (Pr (Xc m c) 1)) (by kernel_rfl) (by kernel_rfl) sg
  cases hp : (Pr (Xc m c) 1) with
  | false =>
    rw [hp] at hw
    exact run_quiet eo (Or.inr ⟨hw, by show gv (Pr (Xc m c) 1) _ = undef; rw [hp]; rfl⟩) hS hK
  | true =>
    rw [hp] at hw
    have hV : VV w c cv vv fv ea wa m 13 = .pointer (some ⟨w.heap.size, 2, none⟩) := by show gv (Pr (Xc m c) 1) _ = _; rw [hp]; rfl
    rw [hV] at hK
    refine run_quiet eo (Or.inl ⟨hw, fun W' hW' => ?_⟩) hS hK
    exact ex_field (x := .tmp 1) (t := 31) (f := 2) (by kernel_rfl) (eval_tmp ((hd.base 1 (by kernel_rfl)).trans h1)) (fa2 W' _)

set_option maxRecDepth 100000 in
theorem ob_14 {w : World} {c : Cm} {cv vv fv ea wa : Value} {m : Int} {a0 : Act} {Q : Exit → Act → World → Prop} : Ob w c cv vv fv ea wa m a0 Q 14 := by
  intro o listed a W ho hd hl hS K hK
  have eo : rops[14]? = some (opAt 14) := by kernel_rfl
  obtain rfl : o = opAt 14 := Option.some.inj (ho.symm.trans eo)
  have sg := hd.slot hl 11 24 (by kernel_rfl) (by kernel_rfl) (by kernel_rfl)
  have hw := wanted_some (o := opAt 14) (ops := rops) (g := 11) (b := true) (c := (Pr (Xc m c) 1)) (by kernel_rfl) (by kernel_rfl) sg
  have s1 := hd.slot hl 13 26 (by kernel_rfl) (by kernel_rfl) (by kernel_rfl)
  cases hp : (Pr (Xc m c) 1) with
  | false =>
    rw [hp] at hw
    exact run_quiet eo (Or.inr ⟨hw, by show gv (Pr (Xc m c) 1) _ = undef; rw [hp]; rfl⟩) hS hK
  | true =>
    rw [hp] at hw
    have hV : VV w c cv vv fv ea wa m 14 = .string ⟨c.other.toArray⟩ := by show gv (Pr (Xc m c) 1) _ = _; rw [hp]; rfl
    rw [hV] at hK
    replace s1 : a.tmps[26]? = some (.pointer (some ⟨w.heap.size, 2, none⟩)) := s1.trans (by show some (gv (Pr (Xc m c) 1) _) = _; rw [hp]; rfl)
    refine run_quiet eo (Or.inl ⟨hw, fun W' hW' => ?_⟩) hS hK
    exact ex_load (x := .tmp 26) (t := 9) (by kernel_rfl) (eval_tmp s1) (ld9 W' _ 2 _ (hW'.1 2 _ rfl))

set_option maxRecDepth 100000 in
theorem ob_15 {w : World} {c : Cm} {cv vv fv ea wa : Value} {m : Int} {a0 : Act} {Q : Exit → Act → World → Prop} (hc : Cals w c cv vv fv ea wa m) : Ob w c cv vv fv ea wa m a0 Q 15 := by
  intro o listed a W ho hd hl hS K hK
  have eo : rops[15]? = some (opAt 15) := by kernel_rfl
  obtain rfl : o = opAt 15 := Option.some.inj (ho.symm.trans eo)
  have sg := hd.slot hl 11 24 (by kernel_rfl) (by kernel_rfl) (by kernel_rfl)
  have hw := wanted_some (o := opAt 15) (ops := rops) (g := 11) (b := true) (c := (Pr (Xc m c) 1)) (by kernel_rfl) (by kernel_rfl) sg
  have s1 := hd.slot hl 14 27 (by kernel_rfl) (by kernel_rfl) (by kernel_rfl)
  cases hp : (Pr (Xc m c) 1) with
  | false =>
    rw [hp] at hw
    exact run_quiet eo (Or.inr ⟨hw, by show gv (Pr (Xc m c) 1) _ = undef; rw [hp]; rfl⟩) hS hK
  | true =>
    rw [hp] at hw
    have hV : VV w c cv vv fv ea wa m 15 = .bool (nameW c.other) := by show gv (Pr (Xc m c) 1) _ = _; rw [hp]; rfl
    rw [hV] at hK
    replace s1 : a.tmps[27]? = some (.string ⟨c.other.toArray⟩) := s1.trans (by show some (gv (Pr (Xc m c) 1) _) = _; rw [hp]; rfl)
    exact run_call 72 #[.string ⟨c.other.toArray⟩] eo hw (ex_call1 (ts := #[9]) (x := .tmp 27) (f := 72) cf72 (by kernel_rfl) rfl (eval_tmp s1)) ((hc.q2 W hS).mono fun e w' h => ⟨h.1, hS.below h.2⟩) hK

set_option maxRecDepth 100000 in
theorem ob_16 {w : World} {c : Cm} {cv vv fv ea wa : Value} {m : Int} {a0 : Act} {Q : Exit → Act → World → Prop} (h1 : a0.tmps[1]? = some (.pointer (some ⟨w.heap.size, 0, none⟩))) : Ob w c cv vv fv ea wa m a0 Q 16 := by
  intro o listed a W ho hd hl hS K hK
  have eo : rops[16]? = some (opAt 16) := by kernel_rfl
  obtain rfl : o = opAt 16 := Option.some.inj (ho.symm.trans eo)
  have sg := hd.slot hl 11 24 (by kernel_rfl) (by kernel_rfl) (by kernel_rfl)
  have hw := wanted_some (o := opAt 16) (ops := rops) (g := 11) (b := true) (c := (Pr (Xc m c) 1)) (by kernel_rfl) (by kernel_rfl) sg
  cases hp : (Pr (Xc m c) 1) with
  | false =>
    rw [hp] at hw
    exact run_quiet eo (Or.inr ⟨hw, by show gv (Pr (Xc m c) 1) _ = undef; rw [hp]; rfl⟩) hS hK
  | true =>
    rw [hp] at hw
    have hV : VV w c cv vv fv ea wa m 16 = .pointer (some ⟨w.heap.size, 2, none⟩) := by show gv (Pr (Xc m c) 1) _ = _; rw [hp]; rfl
    rw [hV] at hK
    refine run_quiet eo (Or.inl ⟨hw, fun W' hW' => ?_⟩) hS hK
    exact ex_field (x := .tmp 1) (t := 31) (f := 2) (by kernel_rfl) (eval_tmp ((hd.base 1 (by kernel_rfl)).trans h1)) (fa2 W' _)

set_option maxRecDepth 100000 in
theorem ob_17 {w : World} {c : Cm} {cv vv fv ea wa : Value} {m : Int} {a0 : Act} {Q : Exit → Act → World → Prop} : Ob w c cv vv fv ea wa m a0 Q 17 := by
  intro o listed a W ho hd hl hS K hK
  have eo : rops[17]? = some (opAt 17) := by kernel_rfl
  obtain rfl : o = opAt 17 := Option.some.inj (ho.symm.trans eo)
  have sg := hd.slot hl 11 24 (by kernel_rfl) (by kernel_rfl) (by kernel_rfl)
  have hw := wanted_some (o := opAt 17) (ops := rops) (g := 11) (b := true) (c := (Pr (Xc m c) 1)) (by kernel_rfl) (by kernel_rfl) sg
  have s1 := hd.slot hl 16 29 (by kernel_rfl) (by kernel_rfl) (by kernel_rfl)
  cases hp : (Pr (Xc m c) 1) with
  | false =>
    rw [hp] at hw
    exact run_quiet eo (Or.inr ⟨hw, by show gv (Pr (Xc m c) 1) _ = undef; rw [hp]; rfl⟩) hS hK
  | true =>
    rw [hp] at hw
    have hV : VV w c cv vv fv ea wa m 17 = .string ⟨c.other.toArray⟩ := by show gv (Pr (Xc m c) 1) _ = _; rw [hp]; rfl
    rw [hV] at hK
    replace s1 : a.tmps[29]? = some (.pointer (some ⟨w.heap.size, 2, none⟩)) := s1.trans (by show some (gv (Pr (Xc m c) 1) _) = _; rw [hp]; rfl)
    refine run_quiet eo (Or.inl ⟨hw, fun W' hW' => ?_⟩) hS hK
    exact ex_load (x := .tmp 29) (t := 9) (by kernel_rfl) (eval_tmp s1) (ld9 W' _ 2 _ (hW'.1 2 _ rfl))

set_option maxRecDepth 100000 in
theorem ob_18 {w : World} {c : Cm} {cv vv fv ea wa : Value} {m : Int} {a0 : Act} {Q : Exit → Act → World → Prop} : Ob w c cv vv fv ea wa m a0 Q 18 := by
  intro o listed a W ho hd hl hS K hK
  have eo : rops[18]? = some (opAt 18) := by kernel_rfl
  obtain rfl : o = opAt 18 := Option.some.inj (ho.symm.trans eo)
  have sg := hd.slot hl 11 24 (by kernel_rfl) (by kernel_rfl) (by kernel_rfl)
  have hw := wanted_some (o := opAt 18) (ops := rops) (g := 11) (b := true) (c := (Pr (Xc m c) 1)) (by kernel_rfl) (by kernel_rfl) sg
  have s1 := hd.slot hl 17 30 (by kernel_rfl) (by kernel_rfl) (by kernel_rfl)
  cases hp : (Pr (Xc m c) 1) with
  | false =>
    rw [hp] at hw
    exact run_quiet eo (Or.inr ⟨hw, by show gv (Pr (Xc m c) 1) _ = undef; rw [hp]; rfl⟩) hS hK
  | true =>
    rw [hp] at hw
    have hV : VV w c cv vv fv ea wa m 18 = .bool (decide (c.other = [])) := by show gv (Pr (Xc m c) 1) _ = _; rw [hp]; rfl
    rw [hV] at hK
    replace s1 : a.tmps[30]? = some (.string ⟨c.other.toArray⟩) := s1.trans (by show some (gv (Pr (Xc m c) 1) _) = _; rw [hp]; rfl)
    refine run_quiet eo (Or.inl ⟨hw, fun W' hW' => ?_⟩) hS hK
    exact ex_bin (u := 9) (x := .tmp 30) (y := .const (.string ⟨#[]⟩)) (by kernel_rfl) (eval_tmp s1) rfl (eq9 W' _ _ _)

set_option maxRecDepth 100000 in
theorem ob_19 {w : World} {c : Cm} {cv vv fv ea wa : Value} {m : Int} {a0 : Act} {Q : Exit → Act → World → Prop} : Ob w c cv vv fv ea wa m a0 Q 19 := by
  intro o listed a W ho hd hl hS K hK
  have eo : rops[19]? = some (opAt 19) := by kernel_rfl
  obtain rfl : o = opAt 19 := Option.some.inj (ho.symm.trans eo)
  have sg := hd.slot hl 11 24 (by kernel_rfl) (by kernel_rfl) (by kernel_rfl)
  have hw := wanted_some (o := opAt 19) (ops := rops) (g := 11) (b := true) (c := (Pr (Xc m c) 1)) (by kernel_rfl) (by kernel_rfl) sg
  have s1 := hd.slot hl 12 25 (by kernel_rfl) (by kernel_rfl) (by kernel_rfl)
  have s2 := hd.slot hl 15 28 (by kernel_rfl) (by kernel_rfl) (by kernel_rfl)
  have s3 := hd.slot hl 18 31 (by kernel_rfl) (by kernel_rfl) (by kernel_rfl)
  cases hp : (Pr (Xc m c) 1) with
  | false =>
    rw [hp] at hw
    exact run_quiet eo (Or.inr ⟨hw, by show gv (Pr (Xc m c) 1) _ = undef; rw [hp]; rfl⟩) hS hK
  | true =>
    rw [hp] at hw
    have hV : VV w c cv vv fv ea wa m 19 = .bool ((Xc m c) 2) := by show gv (Pr (Xc m c) 1) _ = _; rw [hp]; rfl
    rw [hV] at hK
    replace s1 : a.tmps[25]? = some (.func (.func 71) #[] #[.pointer (some ⟨w.heap.size + 1, 0, none⟩)]) := s1.trans (by show some (gv (Pr (Xc m c) 1) _) = _; rw [hp]; rfl)
    replace s2 : a.tmps[28]? = some (.bool (nameW c.other)) := s2.trans (by show some (gv (Pr (Xc m c) 1) _) = _; rw [hp]; rfl)
    replace s3 : a.tmps[31]? = some (.bool (decide (c.other = []))) := s3.trans (by show some (gv (Pr (Xc m c) 1) _) = _; rw [hp]; rfl)
    refine run_call 71 #[.int .i64 2, .bool (nameW c.other), .bool (decide (c.other = [])), .pointer (some ⟨w.heap.size + 1, 0, none⟩)] eo hw (ex_is (ts := #[3, 4, 4]) (t := .tmp 25) (x := .const (.int .i64 2)) (y := .tmp 28) (z := .tmp 31) (f := 71) cf71 (by kernel_rfl) (eval_tmp s1) rfl (eval_tmp s2) (eval_tmp s3)) ((is_any m 2 (nameW c.other) (decide (c.other = [])) _ W hS.2.1).mono fun e w' h => ⟨h.1, h.2 ▸ hS⟩) hK

set_option maxRecDepth 100000 in
theorem ob_20 {w : World} {c : Cm} {cv vv fv ea wa : Value} {m : Int} {a0 : Act} {Q : Exit → Act → World → Prop} : Ob w c cv vv fv ea wa m a0 Q 20 := by
  intro o listed a W ho hd hl hS K hK
  have eo : rops[20]? = some (opAt 20) := by kernel_rfl
  obtain rfl : o = opAt 20 := Option.some.inj (ho.symm.trans eo)
  have s1 := hd.slot hl 11 24 (by kernel_rfl) (by kernel_rfl) (by kernel_rfl)
  have s2 := hd.slot hl 19 32 (by kernel_rfl) (by kernel_rfl) (by kernel_rfl)
  have ev : (if (Pr (Xc m c) 1) = true then a.eval (.tmp 32) else a.eval (.const (.bool false))) = .bool (Pr (Xc m c) 2) := by
    rw [eval_tmp s2]
    show (if (Pr (Xc m c) 1) = true then gv (Pr (Xc m c) 1) (.bool ((Xc m c) 2)) else .bool false) = .bool ((Pr (Xc m c) 1) && (Xc m c) 2)
    cases (Pr (Xc m c) 1) <;> rfl
  refine run_quiet eo (Or.inl ⟨wanted_none (by kernel_rfl), fun W' hW' => ?_⟩) hS hK
  rw [ex_pick (P := Tryz.prog) (ρ := a.eval) (W := W') (o := opAt 20) (c := .tmp 24) (x := .tmp 32) (y := .const (.bool false)) (b := (Pr (Xc m c) 1)) (by kernel_rfl) (eval_tmp s1), ev]; rfl

set_option maxRecDepth 100000 in
theorem ob_21 {w : World} {c : Cm} {cv vv fv ea wa : Value} {m : Int} {a0 : Act} {Q : Exit → Act → World → Prop} : Ob w c cv vv fv ea wa m a0 Q 21 := by
  intro o listed a W ho hd hl hS K hK
  have eo : rops[21]? = some (opAt 21) := by kernel_rfl
  obtain rfl : o = opAt 21 := Option.some.inj (ho.symm.trans eo)
  have s1 := hd.slot hl 20 33 (by kernel_rfl) (by kernel_rfl) (by kernel_rfl)
  refine run_quiet eo (Or.inl ⟨wanted_none (by kernel_rfl), fun W' hW' => ?_⟩) hS hK
  exact ex_move (x := .tmp 33) (by kernel_rfl) (eval_tmp s1)

set_option maxRecDepth 100000 in
theorem ob_22 {w : World} {c : Cm} {cv vv fv ea wa : Value} {m : Int} {a0 : Act} {Q : Exit → Act → World → Prop} (h5 : a0.tmps[5]? = some (.func (.func 71) #[] #[.pointer (some ⟨w.heap.size + 1, 0, none⟩)])) : Ob w c cv vv fv ea wa m a0 Q 22 := by
  intro o listed a W ho hd hl hS K hK
  have eo : rops[22]? = some (opAt 22) := by kernel_rfl
  obtain rfl : o = opAt 22 := Option.some.inj (ho.symm.trans eo)
  have sg := hd.slot hl 21 34 (by kernel_rfl) (by kernel_rfl) (by kernel_rfl)
  have hw := wanted_some (o := opAt 22) (ops := rops) (g := 21) (b := true) (c := (Pr (Xc m c) 2)) (by kernel_rfl) (by kernel_rfl) sg
  cases hp : (Pr (Xc m c) 2) with
  | false =>
    rw [hp] at hw
    exact run_quiet eo (Or.inr ⟨hw, by show gv (Pr (Xc m c) 2) _ = undef; rw [hp]; rfl⟩) hS hK
  | true =>
    rw [hp] at hw
    have hV : VV w c cv vv fv ea wa m 22 = .func (.func 71) #[] #[.pointer (some ⟨w.heap.size + 1, 0, none⟩)] := by show gv (Pr (Xc m c) 2) _ = _; rw [hp]; rfl
    rw [hV] at hK
    refine run_quiet eo (Or.inl ⟨hw, fun W' hW' => ?_⟩) hS hK
    exact ex_move (x := .tmp 5) (by kernel_rfl) (eval_tmp ((hd.base 5 (by kernel_rfl)).trans h5))

set_option maxRecDepth 100000 in
theorem ob_23 {w : World} {c : Cm} {cv vv fv ea wa : Value} {m : Int} {a0 : Act} {Q : Exit → Act → World → Prop} (h1 : a0.tmps[1]? = some (.pointer (some ⟨w.heap.size, 0, none⟩))) : Ob w c cv vv fv ea wa m a0 Q 23 := by
  intro o listed a W ho hd hl hS K hK
  have eo : rops[23]? = some (opAt 23) := by kernel_rfl
  obtain rfl : o = opAt 23 := Option.some.inj (ho.symm.trans eo)
  have sg := hd.slot hl 21 34 (by kernel_rfl) (by kernel_rfl) (by kernel_rfl)
  have hw := wanted_some (o := opAt 23) (ops := rops) (g := 21) (b := true) (c := (Pr (Xc m c) 2)) (by kernel_rfl) (by kernel_rfl) sg
  cases hp : (Pr (Xc m c) 2) with
  | false =>
    rw [hp] at hw
    exact run_quiet eo (Or.inr ⟨hw, by show gv (Pr (Xc m c) 2) _ = undef; rw [hp]; rfl⟩) hS hK
  | true =>
    rw [hp] at hw
    have hV : VV w c cv vv fv ea wa m 23 = .pointer (some ⟨w.heap.size, 3, none⟩) := by show gv (Pr (Xc m c) 2) _ = _; rw [hp]; rfl
    rw [hV] at hK
    refine run_quiet eo (Or.inl ⟨hw, fun W' hW' => ?_⟩) hS hK
    exact ex_field (x := .tmp 1) (t := 31) (f := 3) (by kernel_rfl) (eval_tmp ((hd.base 1 (by kernel_rfl)).trans h1)) (fa3 W' _)

set_option maxRecDepth 100000 in
theorem ob_24 {w : World} {c : Cm} {cv vv fv ea wa : Value} {m : Int} {a0 : Act} {Q : Exit → Act → World → Prop} : Ob w c cv vv fv ea wa m a0 Q 24 := by
  intro o listed a W ho hd hl hS K hK
  have eo : rops[24]? = some (opAt 24) := by kernel_rfl
  obtain rfl : o = opAt 24 := Option.some.inj (ho.symm.trans eo)
  have sg := hd.slot hl 21 34 (by kernel_rfl) (by kernel_rfl) (by kernel_rfl)
  have hw := wanted_some (o := opAt 24) (ops := rops) (g := 21) (b := true) (c := (Pr (Xc m c) 2)) (by kernel_rfl) (by kernel_rfl) sg
  have s1 := hd.slot hl 23 36 (by kernel_rfl) (by kernel_rfl) (by kernel_rfl)
  cases hp : (Pr (Xc m c) 2) with
  | false =>
    rw [hp] at hw
    exact run_quiet eo (Or.inr ⟨hw, by show gv (Pr (Xc m c) 2) _ = undef; rw [hp]; rfl⟩) hS hK
  | true =>
    rw [hp] at hw
    have hV : VV w c cv vv fv ea wa m 24 = .string ⟨c.column.toArray⟩ := by show gv (Pr (Xc m c) 2) _ = _; rw [hp]; rfl
    rw [hV] at hK
    replace s1 : a.tmps[36]? = some (.pointer (some ⟨w.heap.size, 3, none⟩)) := s1.trans (by show some (gv (Pr (Xc m c) 2) _) = _; rw [hp]; rfl)
    refine run_quiet eo (Or.inl ⟨hw, fun W' hW' => ?_⟩) hS hK
    exact ex_load (x := .tmp 36) (t := 9) (by kernel_rfl) (eval_tmp s1) (ld9 W' _ 3 _ (hW'.1 3 _ rfl))

set_option maxRecDepth 100000 in
theorem ob_25 {w : World} {c : Cm} {cv vv fv ea wa : Value} {m : Int} {a0 : Act} {Q : Exit → Act → World → Prop} (hc : Cals w c cv vv fv ea wa m) : Ob w c cv vv fv ea wa m a0 Q 25 := by
  intro o listed a W ho hd hl hS K hK
  have eo : rops[25]? = some (opAt 25) := by kernel_rfl
  obtain rfl : o = opAt 25 := Option.some.inj (ho.symm.trans eo)
  have sg := hd.slot hl 21 34 (by kernel_rfl) (by kernel_rfl) (by kernel_rfl)
  have hw := wanted_some (o := opAt 25) (ops := rops) (g := 21) (b := true) (c := (Pr (Xc m c) 2)) (by kernel_rfl) (by kernel_rfl) sg
  have s1 := hd.slot hl 24 37 (by kernel_rfl) (by kernel_rfl) (by kernel_rfl)
  cases hp : (Pr (Xc m c) 2) with
  | false =>
    rw [hp] at hw
    exact run_quiet eo (Or.inr ⟨hw, by show gv (Pr (Xc m c) 2) _ = undef; rw [hp]; rfl⟩) hS hK
  | true =>
    rw [hp] at hw
    have hV : VV w c cv vv fv ea wa m 25 = .bool (nameW c.column) := by show gv (Pr (Xc m c) 2) _ = _; rw [hp]; rfl
    rw [hV] at hK
    replace s1 : a.tmps[37]? = some (.string ⟨c.column.toArray⟩) := s1.trans (by show some (gv (Pr (Xc m c) 2) _) = _; rw [hp]; rfl)
    exact run_call 72 #[.string ⟨c.column.toArray⟩] eo hw (ex_call1 (ts := #[9]) (x := .tmp 37) (f := 72) cf72 (by kernel_rfl) rfl (eval_tmp s1)) ((hc.q3 W hS).mono fun e w' h => ⟨h.1, hS.below h.2⟩) hK

set_option maxRecDepth 100000 in
theorem ob_26 {w : World} {c : Cm} {cv vv fv ea wa : Value} {m : Int} {a0 : Act} {Q : Exit → Act → World → Prop} (h1 : a0.tmps[1]? = some (.pointer (some ⟨w.heap.size, 0, none⟩))) : Ob w c cv vv fv ea wa m a0 Q 26 := by
  intro o listed a W ho hd hl hS K hK
  have eo : rops[26]? = some (opAt 26) := by kernel_rfl
  obtain rfl : o = opAt 26 := Option.some.inj (ho.symm.trans eo)
  have sg := hd.slot hl 21 34 (by kernel_rfl) (by kernel_rfl) (by kernel_rfl)
  have hw := wanted_some (o := opAt 26) (ops := rops) (g := 21) (b := true) (c := (Pr (Xc m c) 2)) (by kernel_rfl) (by kernel_rfl) sg
  cases hp : (Pr (Xc m c) 2) with
  | false =>
    rw [hp] at hw
    exact run_quiet eo (Or.inr ⟨hw, by show gv (Pr (Xc m c) 2) _ = undef; rw [hp]; rfl⟩) hS hK
  | true =>
    rw [hp] at hw
    have hV : VV w c cv vv fv ea wa m 26 = .pointer (some ⟨w.heap.size, 3, none⟩) := by show gv (Pr (Xc m c) 2) _ = _; rw [hp]; rfl
    rw [hV] at hK
    refine run_quiet eo (Or.inl ⟨hw, fun W' hW' => ?_⟩) hS hK
    exact ex_field (x := .tmp 1) (t := 31) (f := 3) (by kernel_rfl) (eval_tmp ((hd.base 1 (by kernel_rfl)).trans h1)) (fa3 W' _)

set_option maxRecDepth 100000 in
theorem ob_27 {w : World} {c : Cm} {cv vv fv ea wa : Value} {m : Int} {a0 : Act} {Q : Exit → Act → World → Prop} : Ob w c cv vv fv ea wa m a0 Q 27 := by
  intro o listed a W ho hd hl hS K hK
  have eo : rops[27]? = some (opAt 27) := by kernel_rfl
  obtain rfl : o = opAt 27 := Option.some.inj (ho.symm.trans eo)
  have sg := hd.slot hl 21 34 (by kernel_rfl) (by kernel_rfl) (by kernel_rfl)
  have hw := wanted_some (o := opAt 27) (ops := rops) (g := 21) (b := true) (c := (Pr (Xc m c) 2)) (by kernel_rfl) (by kernel_rfl) sg
  have s1 := hd.slot hl 26 39 (by kernel_rfl) (by kernel_rfl) (by kernel_rfl)
  cases hp : (Pr (Xc m c) 2) with
  | false =>
    rw [hp] at hw
    exact run_quiet eo (Or.inr ⟨hw, by show gv (Pr (Xc m c) 2) _ = undef; rw [hp]; rfl⟩) hS hK
  | true =>
    rw [hp] at hw
    have hV : VV w c cv vv fv ea wa m 27 = .string ⟨c.column.toArray⟩ := by show gv (Pr (Xc m c) 2) _ = _; rw [hp]; rfl
    rw [hV] at hK
    replace s1 : a.tmps[39]? = some (.pointer (some ⟨w.heap.size, 3, none⟩)) := s1.trans (by show some (gv (Pr (Xc m c) 2) _) = _; rw [hp]; rfl)
    refine run_quiet eo (Or.inl ⟨hw, fun W' hW' => ?_⟩) hS hK
    exact ex_load (x := .tmp 39) (t := 9) (by kernel_rfl) (eval_tmp s1) (ld9 W' _ 3 _ (hW'.1 3 _ rfl))

set_option maxRecDepth 100000 in
theorem ob_28 {w : World} {c : Cm} {cv vv fv ea wa : Value} {m : Int} {a0 : Act} {Q : Exit → Act → World → Prop} : Ob w c cv vv fv ea wa m a0 Q 28 := by
  intro o listed a W ho hd hl hS K hK
  have eo : rops[28]? = some (opAt 28) := by kernel_rfl
  obtain rfl : o = opAt 28 := Option.some.inj (ho.symm.trans eo)
  have sg := hd.slot hl 21 34 (by kernel_rfl) (by kernel_rfl) (by kernel_rfl)
  have hw := wanted_some (o := opAt 28) (ops := rops) (g := 21) (b := true) (c := (Pr (Xc m c) 2)) (by kernel_rfl) (by kernel_rfl) sg
  have s1 := hd.slot hl 27 40 (by kernel_rfl) (by kernel_rfl) (by kernel_rfl)
  cases hp : (Pr (Xc m c) 2) with
  | false =>
    rw [hp] at hw
    exact run_quiet eo (Or.inr ⟨hw, by show gv (Pr (Xc m c) 2) _ = undef; rw [hp]; rfl⟩) hS hK
  | true =>
    rw [hp] at hw
    have hV : VV w c cv vv fv ea wa m 28 = .bool (decide (c.column = [])) := by show gv (Pr (Xc m c) 2) _ = _; rw [hp]; rfl
    rw [hV] at hK
    replace s1 : a.tmps[40]? = some (.string ⟨c.column.toArray⟩) := s1.trans (by show some (gv (Pr (Xc m c) 2) _) = _; rw [hp]; rfl)
    refine run_quiet eo (Or.inl ⟨hw, fun W' hW' => ?_⟩) hS hK
    exact ex_bin (u := 9) (x := .tmp 40) (y := .const (.string ⟨#[]⟩)) (by kernel_rfl) (eval_tmp s1) rfl (eq9 W' _ _ _)

set_option maxRecDepth 100000 in
theorem ob_29 {w : World} {c : Cm} {cv vv fv ea wa : Value} {m : Int} {a0 : Act} {Q : Exit → Act → World → Prop} : Ob w c cv vv fv ea wa m a0 Q 29 := by
  intro o listed a W ho hd hl hS K hK
  have eo : rops[29]? = some (opAt 29) := by kernel_rfl
  obtain rfl : o = opAt 29 := Option.some.inj (ho.symm.trans eo)
  have sg := hd.slot hl 21 34 (by kernel_rfl) (by kernel_rfl) (by kernel_rfl)
  have hw := wanted_some (o := opAt 29) (ops := rops) (g := 21) (b := true) (c := (Pr (Xc m c) 2)) (by kernel_rfl) (by kernel_rfl) sg
  have s1 := hd.slot hl 22 35 (by kernel_rfl) (by kernel_rfl) (by kernel_rfl)
  have s2 := hd.slot hl 25 38 (by kernel_rfl) (by kernel_rfl) (by kernel_rfl)
  have s3 := hd.slot hl 28 41 (by kernel_rfl) (by kernel_rfl) (by kernel_rfl)
  cases hp : (Pr (Xc m c) 2) with
  | false =>
    rw [hp] at hw
    exact run_quiet eo (Or.inr ⟨hw, by show gv (Pr (Xc m c) 2) _ = undef; rw [hp]; rfl⟩) hS hK
  | true =>
    rw [hp] at hw
    have hV : VV w c cv vv fv ea wa m 29 = .bool ((Xc m c) 3) := by show gv (Pr (Xc m c) 2) _ = _; rw [hp]; rfl
    rw [hV] at hK
    replace s1 : a.tmps[35]? = some (.func (.func 71) #[] #[.pointer (some ⟨w.heap.size + 1, 0, none⟩)]) := s1.trans (by show some (gv (Pr (Xc m c) 2) _) = _; rw [hp]; rfl)
    replace s2 : a.tmps[38]? = some (.bool (nameW c.column)) := s2.trans (by show some (gv (Pr (Xc m c) 2) _) = _; rw [hp]; rfl)
    replace s3 : a.tmps[41]? = some (.bool (decide (c.column = []))) := s3.trans (by show some (gv (Pr (Xc m c) 2) _) = _; rw [hp]; rfl)
    refine run_call 71 #[.int .i64 4, .bool (nameW c.column), .bool (decide (c.column = [])), .pointer (some ⟨w.heap.size + 1, 0, none⟩)] eo hw (ex_is (ts := #[3, 4, 4]) (t := .tmp 35) (x := .const (.int .i64 4)) (y := .tmp 38) (z := .tmp 41) (f := 71) cf71 (by kernel_rfl) (eval_tmp s1) rfl (eval_tmp s2) (eval_tmp s3)) ((is_any m 4 (nameW c.column) (decide (c.column = [])) _ W hS.2.1).mono fun e w' h => ⟨h.1, h.2 ▸ hS⟩) hK

set_option maxRecDepth 100000 in
theorem ob_30 {w : World} {c : Cm} {cv vv fv ea wa : Value} {m : Int} {a0 : Act} {Q : Exit → Act → World → Prop} : Ob w c cv vv fv ea wa m a0 Q 30 := by
  intro o listed a W ho hd hl hS K hK
  have eo : rops[30]? = some (opAt 30) := by kernel_rfl
  obtain rfl : o = opAt 30 := Option.some.inj (ho.symm.trans eo)
  have s1 := hd.slot hl 21 34 (by kernel_rfl) (by kernel_rfl) (by kernel_rfl)
  have s2 := hd.slot hl 29 42 (by kernel_rfl) (by kernel_rfl) (by kernel_rfl)
  have ev : (if (Pr (Xc m c) 2) = true then a.eval (.tmp 42) else a.eval (.const (.bool false))) = .bool (Pr (Xc m c) 3) := by
    rw [eval_tmp s2]
    show (if (Pr (Xc m c) 2) = true then gv (Pr (Xc m c) 2) (.bool ((Xc m c) 3)) else .bool false) = .bool ((Pr (Xc m c) 2) && (Xc m c) 3)
    cases (Pr (Xc m c) 2) <;> rfl
  refine run_quiet eo (Or.inl ⟨wanted_none (by kernel_rfl), fun W' hW' => ?_⟩) hS hK
  rw [ex_pick (P := Tryz.prog) (ρ := a.eval) (W := W') (o := opAt 30) (c := .tmp 34) (x := .tmp 42) (y := .const (.bool false)) (b := (Pr (Xc m c) 2)) (by kernel_rfl) (eval_tmp s1), ev]; rfl

set_option maxRecDepth 100000 in
theorem ob_31 {w : World} {c : Cm} {cv vv fv ea wa : Value} {m : Int} {a0 : Act} {Q : Exit → Act → World → Prop} : Ob w c cv vv fv ea wa m a0 Q 31 := by
  intro o listed a W ho hd hl hS K hK
  have eo : rops[31]? = some (opAt 31) := by kernel_rfl
  obtain rfl : o = opAt 31 := Option.some.inj (ho.symm.trans eo)
  have s1 := hd.slot hl 30 43 (by kernel_rfl) (by kernel_rfl) (by kernel_rfl)
  refine run_quiet eo (Or.inl ⟨wanted_none (by kernel_rfl), fun W' hW' => ?_⟩) hS hK
  exact ex_move (x := .tmp 43) (by kernel_rfl) (eval_tmp s1)

set_option maxRecDepth 100000 in
theorem ob_32 {w : World} {c : Cm} {cv vv fv ea wa : Value} {m : Int} {a0 : Act} {Q : Exit → Act → World → Prop} (h5 : a0.tmps[5]? = some (.func (.func 71) #[] #[.pointer (some ⟨w.heap.size + 1, 0, none⟩)])) : Ob w c cv vv fv ea wa m a0 Q 32 := by
  intro o listed a W ho hd hl hS K hK
  have eo : rops[32]? = some (opAt 32) := by kernel_rfl
  obtain rfl : o = opAt 32 := Option.some.inj (ho.symm.trans eo)
  have sg := hd.slot hl 31 44 (by kernel_rfl) (by kernel_rfl) (by kernel_rfl)
  have hw := wanted_some (o := opAt 32) (ops := rops) (g := 31) (b := true) (c := (Pr (Xc m c) 3)) (by kernel_rfl) (by kernel_rfl) sg
  cases hp : (Pr (Xc m c) 3) with
  | false =>
    rw [hp] at hw
    exact run_quiet eo (Or.inr ⟨hw, by show gv (Pr (Xc m c) 3) _ = undef; rw [hp]; rfl⟩) hS hK
  | true =>
    rw [hp] at hw
    have hV : VV w c cv vv fv ea wa m 32 = .func (.func 71) #[] #[.pointer (some ⟨w.heap.size + 1, 0, none⟩)] := by show gv (Pr (Xc m c) 3) _ = _; rw [hp]; rfl
    rw [hV] at hK
    refine run_quiet eo (Or.inl ⟨hw, fun W' hW' => ?_⟩) hS hK
    exact ex_move (x := .tmp 5) (by kernel_rfl) (eval_tmp ((hd.base 5 (by kernel_rfl)).trans h5))

set_option maxRecDepth 100000 in
theorem ob_33 {w : World} {c : Cm} {cv vv fv ea wa : Value} {m : Int} {a0 : Act} {Q : Exit → Act → World → Prop} (h1 : a0.tmps[1]? = some (.pointer (some ⟨w.heap.size, 0, none⟩))) : Ob w c cv vv fv ea wa m a0 Q 33 := by
  intro o listed a W ho hd hl hS K hK
  have eo : rops[33]? = some (opAt 33) := by kernel_rfl
  obtain rfl : o = opAt 33 := Option.some.inj (ho.symm.trans eo)
  have sg := hd.slot hl 31 44 (by kernel_rfl) (by kernel_rfl) (by kernel_rfl)
  have hw := wanted_some (o := opAt 33) (ops := rops) (g := 31) (b := true) (c := (Pr (Xc m c) 3)) (by kernel_rfl) (by kernel_rfl) sg
  cases hp : (Pr (Xc m c) 3) with
  | false =>
    rw [hp] at hw
    exact run_quiet eo (Or.inr ⟨hw, by show gv (Pr (Xc m c) 3) _ = undef; rw [hp]; rfl⟩) hS hK
  | true =>
    rw [hp] at hw
    have hV : VV w c cv vv fv ea wa m 33 = .pointer (some ⟨w.heap.size, 4, none⟩) := by show gv (Pr (Xc m c) 3) _ = _; rw [hp]; rfl
    rw [hV] at hK
    refine run_quiet eo (Or.inl ⟨hw, fun W' hW' => ?_⟩) hS hK
    exact ex_field (x := .tmp 1) (t := 31) (f := 4) (by kernel_rfl) (eval_tmp ((hd.base 1 (by kernel_rfl)).trans h1)) (fa4 W' _)

set_option maxRecDepth 100000 in
theorem ob_34 {w : World} {c : Cm} {cv vv fv ea wa : Value} {m : Int} {a0 : Act} {Q : Exit → Act → World → Prop} : Ob w c cv vv fv ea wa m a0 Q 34 := by
  intro o listed a W ho hd hl hS K hK
  have eo : rops[34]? = some (opAt 34) := by kernel_rfl
  obtain rfl : o = opAt 34 := Option.some.inj (ho.symm.trans eo)
  have sg := hd.slot hl 31 44 (by kernel_rfl) (by kernel_rfl) (by kernel_rfl)
  have hw := wanted_some (o := opAt 34) (ops := rops) (g := 31) (b := true) (c := (Pr (Xc m c) 3)) (by kernel_rfl) (by kernel_rfl) sg
  have s1 := hd.slot hl 33 46 (by kernel_rfl) (by kernel_rfl) (by kernel_rfl)
  cases hp : (Pr (Xc m c) 3) with
  | false =>
    rw [hp] at hw
    exact run_quiet eo (Or.inr ⟨hw, by show gv (Pr (Xc m c) 3) _ = undef; rw [hp]; rfl⟩) hS hK
  | true =>
    rw [hp] at hw
    have hV : VV w c cv vv fv ea wa m 34 = cv := by show gv (Pr (Xc m c) 3) _ = _; rw [hp]; rfl
    rw [hV] at hK
    replace s1 : a.tmps[46]? = some (.pointer (some ⟨w.heap.size, 4, none⟩)) := s1.trans (by show some (gv (Pr (Xc m c) 3) _) = _; rw [hp]; rfl)
    refine run_quiet eo (Or.inl ⟨hw, fun W' hW' => ?_⟩) hS hK
    exact ex_load (x := .tmp 46) (t := 22) (by kernel_rfl) (eval_tmp s1) (ld22 W' _ 4 _ (hW'.1 4 _ rfl))

set_option maxRecDepth 100000 in
theorem ob_35 {w : World} {c : Cm} {cv vv fv ea wa : Value} {m : Int} {a0 : Act} {Q : Exit → Act → World → Prop} (hc : Cals w c cv vv fv ea wa m) : Ob w c cv vv fv ea wa m a0 Q 35 := by
  intro o listed a W ho hd hl hS K hK
  have eo : rops[35]? = some (opAt 35) := by kernel_rfl
  obtain rfl : o = opAt 35 := Option.some.inj (ho.symm.trans eo)
  have sg := hd.slot hl 31 44 (by kernel_rfl) (by kernel_rfl) (by kernel_rfl)
  have hw := wanted_some (o := opAt 35) (ops := rops) (g := 31) (b := true) (c := (Pr (Xc m c) 3)) (by kernel_rfl) (by kernel_rfl) sg
  have s1 := hd.slot hl 34 47 (by kernel_rfl) (by kernel_rfl) (by kernel_rfl)
  cases hp : (Pr (Xc m c) 3) with
  | false =>
    rw [hp] at hw
    exact run_quiet eo (Or.inr ⟨hw, by show gv (Pr (Xc m c) 3) _ = undef; rw [hp]; rfl⟩) hS hK
  | true =>
    rw [hp] at hw
    have hV : VV w c cv vv fv ea wa m 35 = .bool (areCols c.cols) := by show gv (Pr (Xc m c) 3) _ = _; rw [hp]; rfl
    rw [hV] at hK
    replace s1 : a.tmps[47]? = some (cv) := s1.trans (by show some (gv (Pr (Xc m c) 3) _) = _; rw [hp]; rfl)
    exact run_call 73 #[cv] eo hw (ex_call1 (ts := #[22]) (x := .tmp 47) (f := 73) cf73 (by kernel_rfl) rfl (eval_tmp s1)) ((hc.q4 W hS).mono fun e w' h => ⟨h.1, hS.below h.2⟩) hK

set_option maxRecDepth 100000 in
theorem ob_36 {w : World} {c : Cm} {cv vv fv ea wa : Value} {m : Int} {a0 : Act} {Q : Exit → Act → World → Prop} (h1 : a0.tmps[1]? = some (.pointer (some ⟨w.heap.size, 0, none⟩))) : Ob w c cv vv fv ea wa m a0 Q 36 := by
  intro o listed a W ho hd hl hS K hK
  have eo : rops[36]? = some (opAt 36) := by kernel_rfl
  obtain rfl : o = opAt 36 := Option.some.inj (ho.symm.trans eo)
  have sg := hd.slot hl 31 44 (by kernel_rfl) (by kernel_rfl) (by kernel_rfl)
  have hw := wanted_some (o := opAt 36) (ops := rops) (g := 31) (b := true) (c := (Pr (Xc m c) 3)) (by kernel_rfl) (by kernel_rfl) sg
  cases hp : (Pr (Xc m c) 3) with
  | false =>
    rw [hp] at hw
    exact run_quiet eo (Or.inr ⟨hw, by show gv (Pr (Xc m c) 3) _ = undef; rw [hp]; rfl⟩) hS hK
  | true =>
    rw [hp] at hw
    have hV : VV w c cv vv fv ea wa m 36 = .pointer (some ⟨w.heap.size, 4, none⟩) := by show gv (Pr (Xc m c) 3) _ = _; rw [hp]; rfl
    rw [hV] at hK
    refine run_quiet eo (Or.inl ⟨hw, fun W' hW' => ?_⟩) hS hK
    exact ex_field (x := .tmp 1) (t := 31) (f := 4) (by kernel_rfl) (eval_tmp ((hd.base 1 (by kernel_rfl)).trans h1)) (fa4 W' _)

set_option maxRecDepth 100000 in
theorem ob_37 {w : World} {c : Cm} {cv vv fv ea wa : Value} {m : Int} {a0 : Act} {Q : Exit → Act → World → Prop} : Ob w c cv vv fv ea wa m a0 Q 37 := by
  intro o listed a W ho hd hl hS K hK
  have eo : rops[37]? = some (opAt 37) := by kernel_rfl
  obtain rfl : o = opAt 37 := Option.some.inj (ho.symm.trans eo)
  have sg := hd.slot hl 31 44 (by kernel_rfl) (by kernel_rfl) (by kernel_rfl)
  have hw := wanted_some (o := opAt 37) (ops := rops) (g := 31) (b := true) (c := (Pr (Xc m c) 3)) (by kernel_rfl) (by kernel_rfl) sg
  have s1 := hd.slot hl 36 49 (by kernel_rfl) (by kernel_rfl) (by kernel_rfl)
  cases hp : (Pr (Xc m c) 3) with
  | false =>
    rw [hp] at hw
    exact run_quiet eo (Or.inr ⟨hw, by show gv (Pr (Xc m c) 3) _ = undef; rw [hp]; rfl⟩) hS hK
  | true =>
    rw [hp] at hw
    have hV : VV w c cv vv fv ea wa m 37 = cv := by show gv (Pr (Xc m c) 3) _ = _; rw [hp]; rfl
    rw [hV] at hK
    replace s1 : a.tmps[49]? = some (.pointer (some ⟨w.heap.size, 4, none⟩)) := s1.trans (by show some (gv (Pr (Xc m c) 3) _) = _; rw [hp]; rfl)
    refine run_quiet eo (Or.inl ⟨hw, fun W' hW' => ?_⟩) hS hK
    exact ex_load (x := .tmp 49) (t := 22) (by kernel_rfl) (eval_tmp s1) (ld22 W' _ 4 _ (hW'.1 4 _ rfl))

set_option maxRecDepth 100000 in
theorem ob_38 {w : World} {c : Cm} {cv vv fv ea wa : Value} {m : Int} {a0 : Act} {Q : Exit → Act → World → Prop} (hc : Cals w c cv vv fv ea wa m) : Ob w c cv vv fv ea wa m a0 Q 38 := by
  intro o listed a W ho hd hl hS K hK
  have eo : rops[38]? = some (opAt 38) := by kernel_rfl
  obtain rfl : o = opAt 38 := Option.some.inj (ho.symm.trans eo)
  have sg := hd.slot hl 31 44 (by kernel_rfl) (by kernel_rfl) (by kernel_rfl)
  have hw := wanted_some (o := opAt 38) (ops := rops) (g := 31) (b := true) (c := (Pr (Xc m c) 3)) (by kernel_rfl) (by kernel_rfl) sg
  have s1 := hd.slot hl 37 50 (by kernel_rfl) (by kernel_rfl) (by kernel_rfl)
  cases hp : (Pr (Xc m c) 3) with
  | false =>
    rw [hp] at hw
    exact run_quiet eo (Or.inr ⟨hw, by show gv (Pr (Xc m c) 3) _ = undef; rw [hp]; rfl⟩) hS hK
  | true =>
    rw [hp] at hw
    have hV : VV w c cv vv fv ea wa m 38 = .int .i64 (c.cols.length : Nat) := by show gv (Pr (Xc m c) 3) _ = _; rw [hp]; rfl
    rw [hV] at hK
    replace s1 : a.tmps[50]? = some (cv) := s1.trans (by show some (gv (Pr (Xc m c) 3) _) = _; rw [hp]; rfl)
    refine run_quiet eo (Or.inl ⟨hw, fun W' hW' => ?_⟩) hS hK
    obtain ⟨ao, ca, hcv⟩ := hc.l4
    exact ex_len (ts := #[22]) (x := .tmp 50) (by kernel_rfl) (fun ty => len22 W' ao c.cols.length ca ty) (eval_tmp (s1.trans (congrArg some hcv)))

set_option maxRecDepth 100000 in
theorem ob_39 {w : World} {c : Cm} {cv vv fv ea wa : Value} {m : Int} {a0 : Act} {Q : Exit → Act → World → Prop} : Ob w c cv vv fv ea wa m a0 Q 39 := by
  intro o listed a W ho hd hl hS K hK
  have eo : rops[39]? = some (opAt 39) := by kernel_rfl
  obtain rfl : o = opAt 39 := Option.some.inj (ho.symm.trans eo)
  have sg := hd.slot hl 31 44 (by kernel_rfl) (by kernel_rfl) (by kernel_rfl)
  have hw := wanted_some (o := opAt 39) (ops := rops) (g := 31) (b := true) (c := (Pr (Xc m c) 3)) (by kernel_rfl) (by kernel_rfl) sg
  have s1 := hd.slot hl 38 51 (by kernel_rfl) (by kernel_rfl) (by kernel_rfl)
  cases hp : (Pr (Xc m c) 3) with
  | false =>
    rw [hp] at hw
    exact run_quiet eo (Or.inr ⟨hw, by show gv (Pr (Xc m c) 3) _ = undef; rw [hp]; rfl⟩) hS hK
  | true =>
    rw [hp] at hw
    have hV : VV w c cv vv fv ea wa m 39 = .bool (decide ((c.cols.length : Int) = 0)) := by show gv (Pr (Xc m c) 3) _ = _; rw [hp]; rfl
    rw [hV] at hK
    replace s1 : a.tmps[51]? = some (.int .i64 (c.cols.length : Nat)) := s1.trans (by show some (gv (Pr (Xc m c) 3) _) = _; rw [hp]; rfl)
    refine run_quiet eo (Or.inl ⟨hw, fun W' hW' => ?_⟩) hS hK
    exact ex_bin (u := 3) (x := .tmp 51) (y := .const (.int .i64 0)) (by kernel_rfl) (eval_tmp s1) rfl (eq3 W' _ _ _)

set_option maxRecDepth 100000 in
theorem ob_40 {w : World} {c : Cm} {cv vv fv ea wa : Value} {m : Int} {a0 : Act} {Q : Exit → Act → World → Prop} : Ob w c cv vv fv ea wa m a0 Q 40 := by
  intro o listed a W ho hd hl hS K hK
  have eo : rops[40]? = some (opAt 40) := by kernel_rfl
  obtain rfl : o = opAt 40 := Option.some.inj (ho.symm.trans eo)
  have sg := hd.slot hl 31 44 (by kernel_rfl) (by kernel_rfl) (by kernel_rfl)
  have hw := wanted_some (o := opAt 40) (ops := rops) (g := 31) (b := true) (c := (Pr (Xc m c) 3)) (by kernel_rfl) (by kernel_rfl) sg
  have s1 := hd.slot hl 32 45 (by kernel_rfl) (by kernel_rfl) (by kernel_rfl)
  have s2 := hd.slot hl 35 48 (by kernel_rfl) (by kernel_rfl) (by kernel_rfl)
  have s3 := hd.slot hl 39 52 (by kernel_rfl) (by kernel_rfl) (by kernel_rfl)
  cases hp : (Pr (Xc m c) 3) with
  | false =>
    rw [hp] at hw
    exact run_quiet eo (Or.inr ⟨hw, by show gv (Pr (Xc m c) 3) _ = undef; rw [hp]; rfl⟩) hS hK
  | true =>
    rw [hp] at hw
    have hV : VV w c cv vv fv ea wa m 40 = .bool ((Xc m c) 4) := by show gv (Pr (Xc m c) 3) _ = _; rw [hp]; rfl
    rw [hV] at hK
    replace s1 : a.tmps[45]? = some (.func (.func 71) #[] #[.pointer (some ⟨w.heap.size + 1, 0, none⟩)]) := s1.trans (by show some (gv (Pr (Xc m c) 3) _) = _; rw [hp]; rfl)
    replace s2 : a.tmps[48]? = some (.bool (areCols c.cols)) := s2.trans (by show some (gv (Pr (Xc m c) 3) _) = _; rw [hp]; rfl)
    replace s3 : a.tmps[52]? = some (.bool (decide ((c.cols.length : Int) = 0))) := s3.trans (by show some (gv (Pr (Xc m c) 3) _) = _; rw [hp]; rfl)
    refine run_call 71 #[.int .i64 8, .bool (areCols c.cols), .bool (decide ((c.cols.length : Int) = 0)), .pointer (some ⟨w.heap.size + 1, 0, none⟩)] eo hw (ex_is (ts := #[3, 4, 4]) (t := .tmp 45) (x := .const (.int .i64 8)) (y := .tmp 48) (z := .tmp 52) (f := 71) cf71 (by kernel_rfl) (eval_tmp s1) rfl (eval_tmp s2) (eval_tmp s3)) ((is_any m 8 (areCols c.cols) (decide ((c.cols.length : Int) = 0)) _ W hS.2.1).mono fun e w' h => ⟨h.1, h.2 ▸ hS⟩) hK

set_option maxRecDepth 100000 in
theorem ob_41 {w : World} {c : Cm} {cv vv fv ea wa : Value} {m : Int} {a0 : Act} {Q : Exit → Act → World → Prop} : Ob w c cv vv fv ea wa m a0 Q 41 := by
  intro o listed a W ho hd hl hS K hK
  have eo : rops[41]? = some (opAt 41) := by kernel_rfl
  obtain rfl : o = opAt 41 := Option.some.inj (ho.symm.trans eo)
  have s1 := hd.slot hl 31 44 (by kernel_rfl) (by kernel_rfl) (by kernel_rfl)
  have s2 := hd.slot hl 40 53 (by kernel_rfl) (by kernel_rfl) (by kernel_rfl)
  have ev : (if (Pr (Xc m c) 3) = true then a.eval (.tmp 53) else a.eval (.const (.bool false))) = .bool (Pr (Xc m c) 4) := by
    rw [eval_tmp s2]
    show (if (Pr (Xc m c) 3) = true then gv (Pr (Xc m c) 3) (.bool ((Xc m c) 4)) else .bool false) = .bool ((Pr (Xc m c) 3) && (Xc m c) 4)
    cases (Pr (Xc m c) 3) <;> rfl
  refine run_quiet eo (Or.inl ⟨wanted_none (by kernel_rfl), fun W' hW' => ?_⟩) hS hK
  rw [ex_pick (P := Tryz.prog) (ρ := a.eval) (W := W') (o := opAt 41) (c := .tmp 44) (x := .tmp 53) (y := .const (.bool false)) (b := (Pr (Xc m c) 3)) (by kernel_rfl) (eval_tmp s1), ev]; rfl

set_option maxRecDepth 100000 in
theorem ob_42 {w : World} {c : Cm} {cv vv fv ea wa : Value} {m : Int} {a0 : Act} {Q : Exit → Act → World → Prop} : Ob w c cv vv fv ea wa m a0 Q 42 := by
  intro o listed a W ho hd hl hS K hK
  have eo : rops[42]? = some (opAt 42) := by kernel_rfl
  obtain rfl : o = opAt 42 := Option.some.inj (ho.symm.trans eo)
  have s1 := hd.slot hl 41 54 (by kernel_rfl) (by kernel_rfl) (by kernel_rfl)
  refine run_quiet eo (Or.inl ⟨wanted_none (by kernel_rfl), fun W' hW' => ?_⟩) hS hK
  exact ex_move (x := .tmp 54) (by kernel_rfl) (eval_tmp s1)

set_option maxRecDepth 100000 in
theorem ob_43 {w : World} {c : Cm} {cv vv fv ea wa : Value} {m : Int} {a0 : Act} {Q : Exit → Act → World → Prop} (h5 : a0.tmps[5]? = some (.func (.func 71) #[] #[.pointer (some ⟨w.heap.size + 1, 0, none⟩)])) : Ob w c cv vv fv ea wa m a0 Q 43 := by
  intro o listed a W ho hd hl hS K hK
  have eo : rops[43]? = some (opAt 43) := by kernel_rfl
  obtain rfl : o = opAt 43 := Option.some.inj (ho.symm.trans eo)
  have sg := hd.slot hl 42 55 (by kernel_rfl) (by kernel_rfl) (by kernel_rfl)
  have hw := wanted_some (o := opAt 43) (ops := rops) (g := 42) (b := true) (c := (Pr (Xc m c) 4)) (by kernel_rfl) (by kernel_rfl) sg
  cases hp : (Pr (Xc m c) 4) with
  | false =>
    rw [hp] at hw
    exact run_quiet eo (Or.inr ⟨hw, by show gv (Pr (Xc m c) 4) _ = undef; rw [hp]; rfl⟩) hS hK
  | true =>
    rw [hp] at hw
    have hV : VV w c cv vv fv ea wa m 43 = .func (.func 71) #[] #[.pointer (some ⟨w.heap.size + 1, 0, none⟩)] := by show gv (Pr (Xc m c) 4) _ = _; rw [hp]; rfl
    rw [hV] at hK
    refine run_quiet eo (Or.inl ⟨hw, fun W' hW' => ?_⟩) hS hK
    exact ex_move (x := .tmp 5) (by kernel_rfl) (eval_tmp ((hd.base 5 (by kernel_rfl)).trans h5))

set_option maxRecDepth 100000 in
theorem ob_44 {w : World} {c : Cm} {cv vv fv ea wa : Value} {m : Int} {a0 : Act} {Q : Exit → Act → World → Prop} (h1 : a0.tmps[1]? = some (.pointer (some ⟨w.heap.size, 0, none⟩))) : Ob w c cv vv fv ea wa m a0 Q 44 := by
  intro o listed a W ho hd hl hS K hK
  have eo : rops[44]? = some (opAt 44) := by kernel_rfl
  obtain rfl : o = opAt 44 := Option.some.inj (ho.symm.trans eo)
  have sg := hd.slot hl 42 55 (by kernel_rfl) (by kernel_rfl) (by kernel_rfl)
  have hw := wanted_some (o := opAt 44) (ops := rops) (g := 42) (b := true) (c := (Pr (Xc m c) 4)) (by kernel_rfl) (by kernel_rfl) sg
  cases hp : (Pr (Xc m c) 4) with
  | false =>
    rw [hp] at hw
    exact run_quiet eo (Or.inr ⟨hw, by show gv (Pr (Xc m c) 4) _ = undef; rw [hp]; rfl⟩) hS hK
  | true =>
    rw [hp] at hw
    have hV : VV w c cv vv fv ea wa m 44 = .pointer (some ⟨w.heap.size, 5, none⟩) := by show gv (Pr (Xc m c) 4) _ = _; rw [hp]; rfl
    rw [hV] at hK
    refine run_quiet eo (Or.inl ⟨hw, fun W' hW' => ?_⟩) hS hK
    exact ex_field (x := .tmp 1) (t := 31) (f := 5) (by kernel_rfl) (eval_tmp ((hd.base 1 (by kernel_rfl)).trans h1)) (fa5 W' _)

set_option maxRecDepth 100000 in
theorem ob_45 {w : World} {c : Cm} {cv vv fv ea wa : Value} {m : Int} {a0 : Act} {Q : Exit → Act → World → Prop} : Ob w c cv vv fv ea wa m a0 Q 45 := by
  intro o listed a W ho hd hl hS K hK
  have eo : rops[45]? = some (opAt 45) := by kernel_rfl
  obtain rfl : o = opAt 45 := Option.some.inj (ho.symm.trans eo)
  have sg := hd.slot hl 42 55 (by kernel_rfl) (by kernel_rfl) (by kernel_rfl)
  have hw := wanted_some (o := opAt 45) (ops := rops) (g := 42) (b := true) (c := (Pr (Xc m c) 4)) (by kernel_rfl) (by kernel_rfl) sg
  have s1 := hd.slot hl 44 57 (by kernel_rfl) (by kernel_rfl) (by kernel_rfl)
  cases hp : (Pr (Xc m c) 4) with
  | false =>
    rw [hp] at hw
    exact run_quiet eo (Or.inr ⟨hw, by show gv (Pr (Xc m c) 4) _ = undef; rw [hp]; rfl⟩) hS hK
  | true =>
    rw [hp] at hw
    have hV : VV w c cv vv fv ea wa m 45 = .int .i64 c.ty := by show gv (Pr (Xc m c) 4) _ = _; rw [hp]; rfl
    rw [hV] at hK
    replace s1 : a.tmps[57]? = some (.pointer (some ⟨w.heap.size, 5, none⟩)) := s1.trans (by show some (gv (Pr (Xc m c) 4) _) = _; rw [hp]; rfl)
    refine run_quiet eo (Or.inl ⟨hw, fun W' hW' => ?_⟩) hS hK
    exact ex_load (x := .tmp 57) (t := 3) (by kernel_rfl) (eval_tmp s1) (ld3 W' _ 5 _ (hW'.1 5 _ rfl))

set_option maxRecDepth 100000 in
theorem ob_46 {w : World} {c : Cm} {cv vv fv ea wa : Value} {m : Int} {a0 : Act} {Q : Exit → Act → World → Prop} (hc : Cals w c cv vv fv ea wa m) : Ob w c cv vv fv ea wa m a0 Q 46 := by
  intro o listed a W ho hd hl hS K hK
  have eo : rops[46]? = some (opAt 46) := by kernel_rfl
  obtain rfl : o = opAt 46 := Option.some.inj (ho.symm.trans eo)
  have sg := hd.slot hl 42 55 (by kernel_rfl) (by kernel_rfl) (by kernel_rfl)
  have hw := wanted_some (o := opAt 46) (ops := rops) (g := 42) (b := true) (c := (Pr (Xc m c) 4)) (by kernel_rfl) (by kernel_rfl) sg
  have s1 := hd.slot hl 45 58 (by kernel_rfl) (by kernel_rfl) (by kernel_rfl)
  cases hp : (Pr (Xc m c) 4) with
  | false =>
    rw [hp] at hw
    exact run_quiet eo (Or.inr ⟨hw, by show gv (Pr (Xc m c) 4) _ = undef; rw [hp]; rfl⟩) hS hK
  | true =>
    rw [hp] at hw
    have hV : VV w c cv vv fv ea wa m 46 = .bool (typeB c.ty) := by show gv (Pr (Xc m c) 4) _ = _; rw [hp]; rfl
    rw [hV] at hK
    replace s1 : a.tmps[58]? = some (.int .i64 c.ty) := s1.trans (by show some (gv (Pr (Xc m c) 4) _) = _; rw [hp]; rfl)
    exact run_call 74 #[.int .i64 c.ty] eo hw (ex_call1 (ts := #[3]) (x := .tmp 58) (f := 74) cf74 (by kernel_rfl) rfl (eval_tmp s1)) ((hc.q5 W hS).mono fun e w' h => ⟨h.1, hS.below h.2⟩) hK

set_option maxRecDepth 100000 in
theorem ob_47 {w : World} {c : Cm} {cv vv fv ea wa : Value} {m : Int} {a0 : Act} {Q : Exit → Act → World → Prop} (h1 : a0.tmps[1]? = some (.pointer (some ⟨w.heap.size, 0, none⟩))) : Ob w c cv vv fv ea wa m a0 Q 47 := by
  intro o listed a W ho hd hl hS K hK
  have eo : rops[47]? = some (opAt 47) := by kernel_rfl
  obtain rfl : o = opAt 47 := Option.some.inj (ho.symm.trans eo)
  have sg := hd.slot hl 42 55 (by kernel_rfl) (by kernel_rfl) (by kernel_rfl)
  have hw := wanted_some (o := opAt 47) (ops := rops) (g := 42) (b := true) (c := (Pr (Xc m c) 4)) (by kernel_rfl) (by kernel_rfl) sg
  cases hp : (Pr (Xc m c) 4) with
  | false =>
    rw [hp] at hw
    exact run_quiet eo (Or.inr ⟨hw, by show gv (Pr (Xc m c) 4) _ = undef; rw [hp]; rfl⟩) hS hK
  | true =>
    rw [hp] at hw
    have hV : VV w c cv vv fv ea wa m 47 = .pointer (some ⟨w.heap.size, 5, none⟩) := by show gv (Pr (Xc m c) 4) _ = _; rw [hp]; rfl
    rw [hV] at hK
    refine run_quiet eo (Or.inl ⟨hw, fun W' hW' => ?_⟩) hS hK
    exact ex_field (x := .tmp 1) (t := 31) (f := 5) (by kernel_rfl) (eval_tmp ((hd.base 1 (by kernel_rfl)).trans h1)) (fa5 W' _)

set_option maxRecDepth 100000 in
theorem ob_48 {w : World} {c : Cm} {cv vv fv ea wa : Value} {m : Int} {a0 : Act} {Q : Exit → Act → World → Prop} : Ob w c cv vv fv ea wa m a0 Q 48 := by
  intro o listed a W ho hd hl hS K hK
  have eo : rops[48]? = some (opAt 48) := by kernel_rfl
  obtain rfl : o = opAt 48 := Option.some.inj (ho.symm.trans eo)
  have sg := hd.slot hl 42 55 (by kernel_rfl) (by kernel_rfl) (by kernel_rfl)
  have hw := wanted_some (o := opAt 48) (ops := rops) (g := 42) (b := true) (c := (Pr (Xc m c) 4)) (by kernel_rfl) (by kernel_rfl) sg
  have s1 := hd.slot hl 47 60 (by kernel_rfl) (by kernel_rfl) (by kernel_rfl)
  cases hp : (Pr (Xc m c) 4) with
  | false =>
    rw [hp] at hw
    exact run_quiet eo (Or.inr ⟨hw, by show gv (Pr (Xc m c) 4) _ = undef; rw [hp]; rfl⟩) hS hK
  | true =>
    rw [hp] at hw
    have hV : VV w c cv vv fv ea wa m 48 = .int .i64 c.ty := by show gv (Pr (Xc m c) 4) _ = _; rw [hp]; rfl
    rw [hV] at hK
    replace s1 : a.tmps[60]? = some (.pointer (some ⟨w.heap.size, 5, none⟩)) := s1.trans (by show some (gv (Pr (Xc m c) 4) _) = _; rw [hp]; rfl)
    refine run_quiet eo (Or.inl ⟨hw, fun W' hW' => ?_⟩) hS hK
    exact ex_load (x := .tmp 60) (t := 3) (by kernel_rfl) (eval_tmp s1) (ld3 W' _ 5 _ (hW'.1 5 _ rfl))

set_option maxRecDepth 100000 in
theorem ob_49 {w : World} {c : Cm} {cv vv fv ea wa : Value} {m : Int} {a0 : Act} {Q : Exit → Act → World → Prop} : Ob w c cv vv fv ea wa m a0 Q 49 := by
  intro o listed a W ho hd hl hS K hK
  have eo : rops[49]? = some (opAt 49) := by kernel_rfl
  obtain rfl : o = opAt 49 := Option.some.inj (ho.symm.trans eo)
  have sg := hd.slot hl 42 55 (by kernel_rfl) (by kernel_rfl) (by kernel_rfl)
  have hw := wanted_some (o := opAt 49) (ops := rops) (g := 42) (b := true) (c := (Pr (Xc m c) 4)) (by kernel_rfl) (by kernel_rfl) sg
  have s1 := hd.slot hl 48 61 (by kernel_rfl) (by kernel_rfl) (by kernel_rfl)
  cases hp : (Pr (Xc m c) 4) with
  | false =>
    rw [hp] at hw
    exact run_quiet eo (Or.inr ⟨hw, by show gv (Pr (Xc m c) 4) _ = undef; rw [hp]; rfl⟩) hS hK
  | true =>
    rw [hp] at hw
    have hV : VV w c cv vv fv ea wa m 49 = .bool (decide (c.ty = 0)) := by show gv (Pr (Xc m c) 4) _ = _; rw [hp]; rfl
    rw [hV] at hK
    replace s1 : a.tmps[61]? = some (.int .i64 c.ty) := s1.trans (by show some (gv (Pr (Xc m c) 4) _) = _; rw [hp]; rfl)
    refine run_quiet eo (Or.inl ⟨hw, fun W' hW' => ?_⟩) hS hK
    exact ex_bin (u := 3) (x := .tmp 61) (y := .const (.int .i64 0)) (by kernel_rfl) (eval_tmp s1) rfl (eq3 W' _ _ _)

set_option maxRecDepth 100000 in
theorem ob_50 {w : World} {c : Cm} {cv vv fv ea wa : Value} {m : Int} {a0 : Act} {Q : Exit → Act → World → Prop} : Ob w c cv vv fv ea wa m a0 Q 50 := by
  intro o listed a W ho hd hl hS K hK
  have eo : rops[50]? = some (opAt 50) := by kernel_rfl
  obtain rfl : o = opAt 50 := Option.some.inj (ho.symm.trans eo)
  have sg := hd.slot hl 42 55 (by kernel_rfl) (by kernel_rfl) (by kernel_rfl)
  have hw := wanted_some (o := opAt 50) (ops := rops) (g := 42) (b := true) (c := (Pr (Xc m c) 4)) (by kernel_rfl) (by kernel_rfl) sg
  have s1 := hd.slot hl 43 56 (by kernel_rfl) (by kernel_rfl) (by kernel_rfl)
  have s2 := hd.slot hl 46 59 (by kernel_rfl) (by kernel_rfl) (by kernel_rfl)
  have s3 := hd.slot hl 49 62 (by kernel_rfl) (by kernel_rfl) (by kernel_rfl)
  cases hp : (Pr (Xc m c) 4) with
  | false =>
    rw [hp] at hw
    exact run_quiet eo (Or.inr ⟨hw, by show gv (Pr (Xc m c) 4) _ = undef; rw [hp]; rfl⟩) hS hK
  | true =>
    rw [hp] at hw
    have hV : VV w c cv vv fv ea wa m 50 = .bool ((Xc m c) 5) := by show gv (Pr (Xc m c) 4) _ = _; rw [hp]; rfl
    rw [hV] at hK
    replace s1 : a.tmps[56]? = some (.func (.func 71) #[] #[.pointer (some ⟨w.heap.size + 1, 0, none⟩)]) := s1.trans (by show some (gv (Pr (Xc m c) 4) _) = _; rw [hp]; rfl)
    replace s2 : a.tmps[59]? = some (.bool (typeB c.ty)) := s2.trans (by show some (gv (Pr (Xc m c) 4) _) = _; rw [hp]; rfl)
    replace s3 : a.tmps[62]? = some (.bool (decide (c.ty = 0))) := s3.trans (by show some (gv (Pr (Xc m c) 4) _) = _; rw [hp]; rfl)
    refine run_call 71 #[.int .i64 16, .bool (typeB c.ty), .bool (decide (c.ty = 0)), .pointer (some ⟨w.heap.size + 1, 0, none⟩)] eo hw (ex_is (ts := #[3, 4, 4]) (t := .tmp 56) (x := .const (.int .i64 16)) (y := .tmp 59) (z := .tmp 62) (f := 71) cf71 (by kernel_rfl) (eval_tmp s1) rfl (eval_tmp s2) (eval_tmp s3)) ((is_any m 16 (typeB c.ty) (decide (c.ty = 0)) _ W hS.2.1).mono fun e w' h => ⟨h.1, h.2 ▸ hS⟩) hK

set_option maxRecDepth 100000 in
theorem ob_51 {w : World} {c : Cm} {cv vv fv ea wa : Value} {m : Int} {a0 : Act} {Q : Exit → Act → World → Prop} : Ob w c cv vv fv ea wa m a0 Q 51 := by
  intro o listed a W ho hd hl hS K hK
  have eo : rops[51]? = some (opAt 51) := by kernel_rfl
  obtain rfl : o = opAt 51 := Option.some.inj (ho.symm.trans eo)
  have s1 := hd.slot hl 42 55 (by kernel_rfl) (by kernel_rfl) (by kernel_rfl)
  have s2 := hd.slot hl 50 63 (by kernel_rfl) (by kernel_rfl) (by kernel_rfl)
  have ev : (if (Pr (Xc m c) 4) = true then a.eval (.tmp 63) else a.eval (.const (.bool false))) = .bool (Pr (Xc m c) 5) := by
    rw [eval_tmp s2]
    show (if (Pr (Xc m c) 4) = true then gv (Pr (Xc m c) 4) (.bool ((Xc m c) 5)) else .bool false) = .bool ((Pr (Xc m c) 4) && (Xc m c) 5)
    cases (Pr (Xc m c) 4) <;> rfl
  refine run_quiet eo (Or.inl ⟨wanted_none (by kernel_rfl), fun W' hW' => ?_⟩) hS hK
  rw [ex_pick (P := Tryz.prog) (ρ := a.eval) (W := W') (o := opAt 51) (c := .tmp 55) (x := .tmp 63) (y := .const (.bool false)) (b := (Pr (Xc m c) 4)) (by kernel_rfl) (eval_tmp s1), ev]; rfl

set_option maxRecDepth 100000 in
theorem ob_52 {w : World} {c : Cm} {cv vv fv ea wa : Value} {m : Int} {a0 : Act} {Q : Exit → Act → World → Prop} : Ob w c cv vv fv ea wa m a0 Q 52 := by
  intro o listed a W ho hd hl hS K hK
  have eo : rops[52]? = some (opAt 52) := by kernel_rfl
  obtain rfl : o = opAt 52 := Option.some.inj (ho.symm.trans eo)
  have s1 := hd.slot hl 51 64 (by kernel_rfl) (by kernel_rfl) (by kernel_rfl)
  refine run_quiet eo (Or.inl ⟨wanted_none (by kernel_rfl), fun W' hW' => ?_⟩) hS hK
  exact ex_move (x := .tmp 64) (by kernel_rfl) (eval_tmp s1)

set_option maxRecDepth 100000 in
theorem ob_53 {w : World} {c : Cm} {cv vv fv ea wa : Value} {m : Int} {a0 : Act} {Q : Exit → Act → World → Prop} (h5 : a0.tmps[5]? = some (.func (.func 71) #[] #[.pointer (some ⟨w.heap.size + 1, 0, none⟩)])) : Ob w c cv vv fv ea wa m a0 Q 53 := by
  intro o listed a W ho hd hl hS K hK
  have eo : rops[53]? = some (opAt 53) := by kernel_rfl
  obtain rfl : o = opAt 53 := Option.some.inj (ho.symm.trans eo)
  have sg := hd.slot hl 52 65 (by kernel_rfl) (by kernel_rfl) (by kernel_rfl)
  have hw := wanted_some (o := opAt 53) (ops := rops) (g := 52) (b := true) (c := (Pr (Xc m c) 5)) (by kernel_rfl) (by kernel_rfl) sg
  cases hp : (Pr (Xc m c) 5) with
  | false =>
    rw [hp] at hw
    exact run_quiet eo (Or.inr ⟨hw, by show gv (Pr (Xc m c) 5) _ = undef; rw [hp]; rfl⟩) hS hK
  | true =>
    rw [hp] at hw
    have hV : VV w c cv vv fv ea wa m 53 = .func (.func 71) #[] #[.pointer (some ⟨w.heap.size + 1, 0, none⟩)] := by show gv (Pr (Xc m c) 5) _ = _; rw [hp]; rfl
    rw [hV] at hK
    refine run_quiet eo (Or.inl ⟨hw, fun W' hW' => ?_⟩) hS hK
    exact ex_move (x := .tmp 5) (by kernel_rfl) (eval_tmp ((hd.base 5 (by kernel_rfl)).trans h5))

set_option maxRecDepth 100000 in
theorem ob_54 {w : World} {c : Cm} {cv vv fv ea wa : Value} {m : Int} {a0 : Act} {Q : Exit → Act → World → Prop} (h1 : a0.tmps[1]? = some (.pointer (some ⟨w.heap.size, 0, none⟩))) : Ob w c cv vv fv ea wa m a0 Q 54 := by
  intro o listed a W ho hd hl hS K hK
  have eo : rops[54]? = some (opAt 54) := by kernel_rfl
  obtain rfl : o = opAt 54 := Option.some.inj (ho.symm.trans eo)
  have sg := hd.slot hl 52 65 (by kernel_rfl) (by kernel_rfl) (by kernel_rfl)
  have hw := wanted_some (o := opAt 54) (ops := rops) (g := 52) (b := true) (c := (Pr (Xc m c) 5)) (by kernel_rfl) (by kernel_rfl) sg
  cases hp : (Pr (Xc m c) 5) with
  | false =>
    rw [hp] at hw
    exact run_quiet eo (Or.inr ⟨hw, by show gv (Pr (Xc m c) 5) _ = undef; rw [hp]; rfl⟩) hS hK
  | true =>
    rw [hp] at hw
    have hV : VV w c cv vv fv ea wa m 54 = .pointer (some ⟨w.heap.size, 6, none⟩) := by show gv (Pr (Xc m c) 5) _ = _; rw [hp]; rfl
    rw [hV] at hK
    refine run_quiet eo (Or.inl ⟨hw, fun W' hW' => ?_⟩) hS hK
    exact ex_field (x := .tmp 1) (t := 31) (f := 6) (by kernel_rfl) (eval_tmp ((hd.base 1 (by kernel_rfl)).trans h1)) (fa6 W' _)

set_option maxRecDepth 100000 in
theorem ob_55 {w : World} {c : Cm} {cv vv fv ea wa : Value} {m : Int} {a0 : Act} {Q : Exit → Act → World → Prop} : Ob w c cv vv fv ea wa m a0 Q 55 := by
  intro o listed a W ho hd hl hS K hK
  have eo : rops[55]? = some (opAt 55) := by kernel_rfl
  obtain rfl : o = opAt 55 := Option.some.inj (ho.symm.trans eo)
  have sg := hd.slot hl 52 65 (by kernel_rfl) (by kernel_rfl) (by kernel_rfl)
  have hw := wanted_some (o := opAt 55) (ops := rops) (g := 52) (b := true) (c := (Pr (Xc m c) 5)) (by kernel_rfl) (by kernel_rfl) sg
  have s1 := hd.slot hl 54 67 (by kernel_rfl) (by kernel_rfl) (by kernel_rfl)
  cases hp : (Pr (Xc m c) 5) with
  | false =>
    rw [hp] at hw
    exact run_quiet eo (Or.inr ⟨hw, by show gv (Pr (Xc m c) 5) _ = undef; rw [hp]; rfl⟩) hS hK
  | true =>
    rw [hp] at hw
    have hV : VV w c cv vv fv ea wa m 55 = .agg #[.int .i64 c.val.k, .int .i64 c.val.n, .string ⟨c.val.s.toArray⟩] := by show gv (Pr (Xc m c) 5) _ = _; rw [hp]; rfl
    rw [hV] at hK
    replace s1 : a.tmps[67]? = some (.pointer (some ⟨w.heap.size, 6, none⟩)) := s1.trans (by show some (gv (Pr (Xc m c) 5) _) = _; rw [hp]; rfl)
    refine run_quiet eo (Or.inl ⟨hw, fun W' hW' => ?_⟩) hS hK
    exact ex_load (x := .tmp 67) (t := 24) (by kernel_rfl) (eval_tmp s1) (ld24 W' _ 6 _ _ _ (hW'.1 6 _ rfl) (hW'.1 7 _ rfl) (hW'.1 8 _ rfl))

set_option maxRecDepth 100000 in
theorem ob_56 {w : World} {c : Cm} {cv vv fv ea wa : Value} {m : Int} {a0 : Act} {Q : Exit → Act → World → Prop} (hc : Cals w c cv vv fv ea wa m) : Ob w c cv vv fv ea wa m a0 Q 56 := by
  intro o listed a W ho hd hl hS K hK
  have eo : rops[56]? = some (opAt 56) := by kernel_rfl
  obtain rfl : o = opAt 56 := Option.some.inj (ho.symm.trans eo)
  have sg := hd.slot hl 52 65 (by kernel_rfl) (by kernel_rfl) (by kernel_rfl)
  have hw := wanted_some (o := opAt 56) (ops := rops) (g := 52) (b := true) (c := (Pr (Xc m c) 5)) (by kernel_rfl) (by kernel_rfl) sg
  have s1 := hd.slot hl 55 68 (by kernel_rfl) (by kernel_rfl) (by kernel_rfl)
  cases hp : (Pr (Xc m c) 5) with
  | false =>
    rw [hp] at hw
    exact run_quiet eo (Or.inr ⟨hw, by show gv (Pr (Xc m c) 5) _ = undef; rw [hp]; rfl⟩) hS hK
  | true =>
    rw [hp] at hw
    have hV : VV w c cv vv fv ea wa m 56 = .bool (valB c.val) := by show gv (Pr (Xc m c) 5) _ = _; rw [hp]; rfl
    rw [hV] at hK
    replace s1 : a.tmps[68]? = some (.agg #[.int .i64 c.val.k, .int .i64 c.val.n, .string ⟨c.val.s.toArray⟩]) := s1.trans (by show some (gv (Pr (Xc m c) 5) _) = _; rw [hp]; rfl)
    exact run_call 75 #[.agg #[.int .i64 c.val.k, .int .i64 c.val.n, .string ⟨c.val.s.toArray⟩]] eo hw (ex_call1 (ts := #[24]) (x := .tmp 68) (f := 75) cf75 (by kernel_rfl) rfl (eval_tmp s1)) ((hc.q6 W hS).mono fun e w' h => ⟨h.1, hS.below h.2⟩) hK

set_option maxRecDepth 100000 in
theorem ob_57 {w : World} {c : Cm} {cv vv fv ea wa : Value} {m : Int} {a0 : Act} {Q : Exit → Act → World → Prop} (h1 : a0.tmps[1]? = some (.pointer (some ⟨w.heap.size, 0, none⟩))) : Ob w c cv vv fv ea wa m a0 Q 57 := by
  intro o listed a W ho hd hl hS K hK
  have eo : rops[57]? = some (opAt 57) := by kernel_rfl
  obtain rfl : o = opAt 57 := Option.some.inj (ho.symm.trans eo)
  have sg := hd.slot hl 52 65 (by kernel_rfl) (by kernel_rfl) (by kernel_rfl)
  have hw := wanted_some (o := opAt 57) (ops := rops) (g := 52) (b := true) (c := (Pr (Xc m c) 5)) (by kernel_rfl) (by kernel_rfl) sg
  cases hp : (Pr (Xc m c) 5) with
  | false =>
    rw [hp] at hw
    exact run_quiet eo (Or.inr ⟨hw, by show gv (Pr (Xc m c) 5) _ = undef; rw [hp]; rfl⟩) hS hK
  | true =>
    rw [hp] at hw
    have hV : VV w c cv vv fv ea wa m 57 = .pointer (some ⟨w.heap.size, 6, none⟩) := by show gv (Pr (Xc m c) 5) _ = _; rw [hp]; rfl
    rw [hV] at hK
    refine run_quiet eo (Or.inl ⟨hw, fun W' hW' => ?_⟩) hS hK
    exact ex_field (x := .tmp 1) (t := 31) (f := 6) (by kernel_rfl) (eval_tmp ((hd.base 1 (by kernel_rfl)).trans h1)) (fa6 W' _)

set_option maxRecDepth 100000 in
theorem ob_58 {w : World} {c : Cm} {cv vv fv ea wa : Value} {m : Int} {a0 : Act} {Q : Exit → Act → World → Prop} : Ob w c cv vv fv ea wa m a0 Q 58 := by
  intro o listed a W ho hd hl hS K hK
  have eo : rops[58]? = some (opAt 58) := by kernel_rfl
  obtain rfl : o = opAt 58 := Option.some.inj (ho.symm.trans eo)
  have sg := hd.slot hl 52 65 (by kernel_rfl) (by kernel_rfl) (by kernel_rfl)
  have hw := wanted_some (o := opAt 58) (ops := rops) (g := 52) (b := true) (c := (Pr (Xc m c) 5)) (by kernel_rfl) (by kernel_rfl) sg
  have s1 := hd.slot hl 57 70 (by kernel_rfl) (by kernel_rfl) (by kernel_rfl)
  cases hp : (Pr (Xc m c) 5) with
  | false =>
    rw [hp] at hw
    exact run_quiet eo (Or.inr ⟨hw, by show gv (Pr (Xc m c) 5) _ = undef; rw [hp]; rfl⟩) hS hK
  | true =>
    rw [hp] at hw
    have hV : VV w c cv vv fv ea wa m 58 = .agg #[.int .i64 c.val.k, .int .i64 c.val.n, .string ⟨c.val.s.toArray⟩] := by show gv (Pr (Xc m c) 5) _ = _; rw [hp]; rfl
    rw [hV] at hK
    replace s1 : a.tmps[70]? = some (.pointer (some ⟨w.heap.size, 6, none⟩)) := s1.trans (by show some (gv (Pr (Xc m c) 5) _) = _; rw [hp]; rfl)
    refine run_quiet eo (Or.inl ⟨hw, fun W' hW' => ?_⟩) hS hK
    exact ex_load (x := .tmp 70) (t := 24) (by kernel_rfl) (eval_tmp s1) (ld24 W' _ 6 _ _ _ (hW'.1 6 _ rfl) (hW'.1 7 _ rfl) (hW'.1 8 _ rfl))

set_option maxRecDepth 100000 in
theorem ob_59 {w : World} {c : Cm} {cv vv fv ea wa : Value} {m : Int} {a0 : Act} {Q : Exit → Act → World → Prop} : Ob w c cv vv fv ea wa m a0 Q 59 := by
  intro o listed a W ho hd hl hS K hK
  have eo : rops[59]? = some (opAt 59) := by kernel_rfl
  obtain rfl : o = opAt 59 := Option.some.inj (ho.symm.trans eo)
  have sg := hd.slot hl 52 65 (by kernel_rfl) (by kernel_rfl) (by kernel_rfl)
  have hw := wanted_some (o := opAt 59) (ops := rops) (g := 52) (b := true) (c := (Pr (Xc m c) 5)) (by kernel_rfl) (by kernel_rfl) sg
  cases hp : (Pr (Xc m c) 5) with
  | false =>
    rw [hp] at hw
    exact run_quiet eo (Or.inr ⟨hw, by show gv (Pr (Xc m c) 5) _ = undef; rw [hp]; rfl⟩) hS hK
  | true =>
    rw [hp] at hw
    have hV : VV w c cv vv fv ea wa m 59 = .agg #[.int .i64 0, .int .i64 0, .string ⟨#[]⟩] := by show gv (Pr (Xc m c) 5) _ = _; rw [hp]; rfl
    rw [hV] at hK
    refine run_quiet eo (Or.inl ⟨hw, fun W' hW' => ?_⟩) hS hK
    exact ex_build24 (by kernel_rfl)

set_option maxRecDepth 100000 in
theorem ob_60 {w : World} {c : Cm} {cv vv fv ea wa : Value} {m : Int} {a0 : Act} {Q : Exit → Act → World → Prop} : Ob w c cv vv fv ea wa m a0 Q 60 := by
  intro o listed a W ho hd hl hS K hK
  have eo : rops[60]? = some (opAt 60) := by kernel_rfl
  obtain rfl : o = opAt 60 := Option.some.inj (ho.symm.trans eo)
  have sg := hd.slot hl 52 65 (by kernel_rfl) (by kernel_rfl) (by kernel_rfl)
  have hw := wanted_some (o := opAt 60) (ops := rops) (g := 52) (b := true) (c := (Pr (Xc m c) 5)) (by kernel_rfl) (by kernel_rfl) sg
  have s1 := hd.slot hl 58 71 (by kernel_rfl) (by kernel_rfl) (by kernel_rfl)
  have s2 := hd.slot hl 59 72 (by kernel_rfl) (by kernel_rfl) (by kernel_rfl)
  cases hp : (Pr (Xc m c) 5) with
  | false =>
    rw [hp] at hw
    exact run_quiet eo (Or.inr ⟨hw, by show gv (Pr (Xc m c) 5) _ = undef; rw [hp]; rfl⟩) hS hK
  | true =>
    rw [hp] at hw
    have hV : VV w c cv vv fv ea wa m 60 = .bool (noneV c.val) := by show gv (Pr (Xc m c) 5) _ = _; rw [hp]; rfl
    rw [hV] at hK
    replace s1 : a.tmps[71]? = some (.agg #[.int .i64 c.val.k, .int .i64 c.val.n, .string ⟨c.val.s.toArray⟩]) := s1.trans (by show some (gv (Pr (Xc m c) 5) _) = _; rw [hp]; rfl)
    replace s2 : a.tmps[72]? = some (.agg #[.int .i64 0, .int .i64 0, .string ⟨#[]⟩]) := s2.trans (by show some (gv (Pr (Xc m c) 5) _) = _; rw [hp]; rfl)
    refine run_quiet eo (Or.inl ⟨hw, fun W' hW' => ?_⟩) hS hK
    exact ex_bin (u := 24) (x := .tmp 71) (y := .tmp 72) (by kernel_rfl) (eval_tmp s1) (eval_tmp s2) (eq24 W' _ _ _)

set_option maxRecDepth 100000 in
theorem ob_61 {w : World} {c : Cm} {cv vv fv ea wa : Value} {m : Int} {a0 : Act} {Q : Exit → Act → World → Prop} : Ob w c cv vv fv ea wa m a0 Q 61 := by
  intro o listed a W ho hd hl hS K hK
  have eo : rops[61]? = some (opAt 61) := by kernel_rfl
  obtain rfl : o = opAt 61 := Option.some.inj (ho.symm.trans eo)
  have sg := hd.slot hl 52 65 (by kernel_rfl) (by kernel_rfl) (by kernel_rfl)
  have hw := wanted_some (o := opAt 61) (ops := rops) (g := 52) (b := true) (c := (Pr (Xc m c) 5)) (by kernel_rfl) (by kernel_rfl) sg
  have s1 := hd.slot hl 53 66 (by kernel_rfl) (by kernel_rfl) (by kernel_rfl)
  have s2 := hd.slot hl 56 69 (by kernel_rfl) (by kernel_rfl) (by kernel_rfl)
  have s3 := hd.slot hl 60 73 (by kernel_rfl) (by kernel_rfl) (by kernel_rfl)
  cases hp : (Pr (Xc m c) 5) with
  | false =>
    rw [hp] at hw
    exact run_quiet eo (Or.inr ⟨hw, by show gv (Pr (Xc m c) 5) _ = undef; rw [hp]; rfl⟩) hS hK
  | true =>
    rw [hp] at hw
    have hV : VV w c cv vv fv ea wa m 61 = .bool ((Xc m c) 6) := by show gv (Pr (Xc m c) 5) _ = _; rw [hp]; rfl
    rw [hV] at hK
    replace s1 : a.tmps[66]? = some (.func (.func 71) #[] #[.pointer (some ⟨w.heap.size + 1, 0, none⟩)]) := s1.trans (by show some (gv (Pr (Xc m c) 5) _) = _; rw [hp]; rfl)
    replace s2 : a.tmps[69]? = some (.bool (valB c.val)) := s2.trans (by show some (gv (Pr (Xc m c) 5) _) = _; rw [hp]; rfl)
    replace s3 : a.tmps[73]? = some (.bool (noneV c.val)) := s3.trans (by show some (gv (Pr (Xc m c) 5) _) = _; rw [hp]; rfl)
    refine run_call 71 #[.int .i64 32, .bool (valB c.val), .bool (noneV c.val), .pointer (some ⟨w.heap.size + 1, 0, none⟩)] eo hw (ex_is (ts := #[3, 4, 4]) (t := .tmp 66) (x := .const (.int .i64 32)) (y := .tmp 69) (z := .tmp 73) (f := 71) cf71 (by kernel_rfl) (eval_tmp s1) rfl (eval_tmp s2) (eval_tmp s3)) ((is_any m 32 (valB c.val) (noneV c.val) _ W hS.2.1).mono fun e w' h => ⟨h.1, h.2 ▸ hS⟩) hK

set_option maxRecDepth 100000 in
theorem ob_62 {w : World} {c : Cm} {cv vv fv ea wa : Value} {m : Int} {a0 : Act} {Q : Exit → Act → World → Prop} : Ob w c cv vv fv ea wa m a0 Q 62 := by
  intro o listed a W ho hd hl hS K hK
  have eo : rops[62]? = some (opAt 62) := by kernel_rfl
  obtain rfl : o = opAt 62 := Option.some.inj (ho.symm.trans eo)
  have s1 := hd.slot hl 52 65 (by kernel_rfl) (by kernel_rfl) (by kernel_rfl)
  have s2 := hd.slot hl 61 74 (by kernel_rfl) (by kernel_rfl) (by kernel_rfl)
  have ev : (if (Pr (Xc m c) 5) = true then a.eval (.tmp 74) else a.eval (.const (.bool false))) = .bool (Pr (Xc m c) 6) := by
    rw [eval_tmp s2]
    show (if (Pr (Xc m c) 5) = true then gv (Pr (Xc m c) 5) (.bool ((Xc m c) 6)) else .bool false) = .bool ((Pr (Xc m c) 5) && (Xc m c) 6)
    cases (Pr (Xc m c) 5) <;> rfl
  refine run_quiet eo (Or.inl ⟨wanted_none (by kernel_rfl), fun W' hW' => ?_⟩) hS hK
  rw [ex_pick (P := Tryz.prog) (ρ := a.eval) (W := W') (o := opAt 62) (c := .tmp 65) (x := .tmp 74) (y := .const (.bool false)) (b := (Pr (Xc m c) 5)) (by kernel_rfl) (eval_tmp s1), ev]; rfl

set_option maxRecDepth 100000 in
theorem ob_63 {w : World} {c : Cm} {cv vv fv ea wa : Value} {m : Int} {a0 : Act} {Q : Exit → Act → World → Prop} : Ob w c cv vv fv ea wa m a0 Q 63 := by
  intro o listed a W ho hd hl hS K hK
  have eo : rops[63]? = some (opAt 63) := by kernel_rfl
  obtain rfl : o = opAt 63 := Option.some.inj (ho.symm.trans eo)
  have s1 := hd.slot hl 62 75 (by kernel_rfl) (by kernel_rfl) (by kernel_rfl)
  refine run_quiet eo (Or.inl ⟨wanted_none (by kernel_rfl), fun W' hW' => ?_⟩) hS hK
  exact ex_move (x := .tmp 75) (by kernel_rfl) (eval_tmp s1)

set_option maxRecDepth 100000 in
theorem ob_64 {w : World} {c : Cm} {cv vv fv ea wa : Value} {m : Int} {a0 : Act} {Q : Exit → Act → World → Prop} (h5 : a0.tmps[5]? = some (.func (.func 71) #[] #[.pointer (some ⟨w.heap.size + 1, 0, none⟩)])) : Ob w c cv vv fv ea wa m a0 Q 64 := by
  intro o listed a W ho hd hl hS K hK
  have eo : rops[64]? = some (opAt 64) := by kernel_rfl
  obtain rfl : o = opAt 64 := Option.some.inj (ho.symm.trans eo)
  have sg := hd.slot hl 63 76 (by kernel_rfl) (by kernel_rfl) (by kernel_rfl)
  have hw := wanted_some (o := opAt 64) (ops := rops) (g := 63) (b := true) (c := (Pr (Xc m c) 6)) (by kernel_rfl) (by kernel_rfl) sg
  cases hp : (Pr (Xc m c) 6) with
  | false =>
    rw [hp] at hw
    exact run_quiet eo (Or.inr ⟨hw, by show gv (Pr (Xc m c) 6) _ = undef; rw [hp]; rfl⟩) hS hK
  | true =>
    rw [hp] at hw
    have hV : VV w c cv vv fv ea wa m 64 = .func (.func 71) #[] #[.pointer (some ⟨w.heap.size + 1, 0, none⟩)] := by show gv (Pr (Xc m c) 6) _ = _; rw [hp]; rfl
    rw [hV] at hK
    refine run_quiet eo (Or.inl ⟨hw, fun W' hW' => ?_⟩) hS hK
    exact ex_move (x := .tmp 5) (by kernel_rfl) (eval_tmp ((hd.base 5 (by kernel_rfl)).trans h5))

set_option maxRecDepth 100000 in
theorem ob_65 {w : World} {c : Cm} {cv vv fv ea wa : Value} {m : Int} {a0 : Act} {Q : Exit → Act → World → Prop} (h1 : a0.tmps[1]? = some (.pointer (some ⟨w.heap.size, 0, none⟩))) : Ob w c cv vv fv ea wa m a0 Q 65 := by
  intro o listed a W ho hd hl hS K hK
  have eo : rops[65]? = some (opAt 65) := by kernel_rfl
  obtain rfl : o = opAt 65 := Option.some.inj (ho.symm.trans eo)
  have sg := hd.slot hl 63 76 (by kernel_rfl) (by kernel_rfl) (by kernel_rfl)
  have hw := wanted_some (o := opAt 65) (ops := rops) (g := 63) (b := true) (c := (Pr (Xc m c) 6)) (by kernel_rfl) (by kernel_rfl) sg
  cases hp : (Pr (Xc m c) 6) with
  | false =>
    rw [hp] at hw
    exact run_quiet eo (Or.inr ⟨hw, by show gv (Pr (Xc m c) 6) _ = undef; rw [hp]; rfl⟩) hS hK
  | true =>
    rw [hp] at hw
    have hV : VV w c cv vv fv ea wa m 65 = .pointer (some ⟨w.heap.size, 9, none⟩) := by show gv (Pr (Xc m c) 6) _ = _; rw [hp]; rfl
    rw [hV] at hK
    refine run_quiet eo (Or.inl ⟨hw, fun W' hW' => ?_⟩) hS hK
    exact ex_field (x := .tmp 1) (t := 31) (f := 7) (by kernel_rfl) (eval_tmp ((hd.base 1 (by kernel_rfl)).trans h1)) (fa7 W' _)

set_option maxRecDepth 100000 in
theorem ob_66 {w : World} {c : Cm} {cv vv fv ea wa : Value} {m : Int} {a0 : Act} {Q : Exit → Act → World → Prop} : Ob w c cv vv fv ea wa m a0 Q 66 := by
  intro o listed a W ho hd hl hS K hK
  have eo : rops[66]? = some (opAt 66) := by kernel_rfl
  obtain rfl : o = opAt 66 := Option.some.inj (ho.symm.trans eo)
  have sg := hd.slot hl 63 76 (by kernel_rfl) (by kernel_rfl) (by kernel_rfl)
  have hw := wanted_some (o := opAt 66) (ops := rops) (g := 63) (b := true) (c := (Pr (Xc m c) 6)) (by kernel_rfl) (by kernel_rfl) sg
  have s1 := hd.slot hl 65 78 (by kernel_rfl) (by kernel_rfl) (by kernel_rfl)
  cases hp : (Pr (Xc m c) 6) with
  | false =>
    rw [hp] at hw
    exact run_quiet eo (Or.inr ⟨hw, by show gv (Pr (Xc m c) 6) _ = undef; rw [hp]; rfl⟩) hS hK
  | true =>
    rw [hp] at hw
    have hV : VV w c cv vv fv ea wa m 66 = vv := by show gv (Pr (Xc m c) 6) _ = _; rw [hp]; rfl
    rw [hV] at hK
    replace s1 : a.tmps[78]? = some (.pointer (some ⟨w.heap.size, 9, none⟩)) := s1.trans (by show some (gv (Pr (Xc m c) 6) _) = _; rw [hp]; rfl)
    refine run_quiet eo (Or.inl ⟨hw, fun W' hW' => ?_⟩) hS hK
    exact ex_load (x := .tmp 78) (t := 25) (by kernel_rfl) (eval_tmp s1) (ld25 W' _ 9 _ (hW'.1 9 _ rfl))

set_option maxRecDepth 100000 in
theorem ob_67 {w : World} {c : Cm} {cv vv fv ea wa : Value} {m : Int} {a0 : Act} {Q : Exit → Act → World → Prop} (hc : Cals w c cv vv fv ea wa m) : Ob w c cv vv fv ea wa m a0 Q 67 := by
  intro o listed a W ho hd hl hS K hK
  have eo : rops[67]? = some (opAt 67) := by kernel_rfl
  obtain rfl : o = opAt 67 := Option.some.inj (ho.symm.trans eo)
  have sg := hd.slot hl 63 76 (by kernel_rfl) (by kernel_rfl) (by kernel_rfl)
  have hw := wanted_some (o := opAt 67) (ops := rops) (g := 63) (b := true) (c := (Pr (Xc m c) 6)) (by kernel_rfl) (by kernel_rfl) sg
  have s1 := hd.slot hl 66 79 (by kernel_rfl) (by kernel_rfl) (by kernel_rfl)
  cases hp : (Pr (Xc m c) 6) with
  | false =>
    rw [hp] at hw
    exact run_quiet eo (Or.inr ⟨hw, by show gv (Pr (Xc m c) 6) _ = undef; rw [hp]; rfl⟩) hS hK
  | true =>
    rw [hp] at hw
    have hV : VV w c cv vv fv ea wa m 67 = .bool (areVals c.vals) := by show gv (Pr (Xc m c) 6) _ = _; rw [hp]; rfl
    rw [hV] at hK
    replace s1 : a.tmps[79]? = some (vv) := s1.trans (by show some (gv (Pr (Xc m c) 6) _) = _; rw [hp]; rfl)
    exact run_call 76 #[vv] eo hw (ex_call1 (ts := #[25]) (x := .tmp 79) (f := 76) cf76 (by kernel_rfl) rfl (eval_tmp s1)) ((hc.q7 W hS).mono fun e w' h => ⟨h.1, hS.below h.2⟩) hK

set_option maxRecDepth 100000 in
theorem ob_68 {w : World} {c : Cm} {cv vv fv ea wa : Value} {m : Int} {a0 : Act} {Q : Exit → Act → World → Prop} (h1 : a0.tmps[1]? = some (.pointer (some ⟨w.heap.size, 0, none⟩))) : Ob w c cv vv fv ea wa m a0 Q 68 := by
  intro o listed a W ho hd hl hS K hK
  have eo : rops[68]? = some (opAt 68) := by kernel_rfl
  obtain rfl : o = opAt 68 := Option.some.inj (ho.symm.trans eo)
  have sg := hd.slot hl 63 76 (by kernel_rfl) (by kernel_rfl) (by kernel_rfl)
  have hw := wanted_some (o := opAt 68) (ops := rops) (g := 63) (b := true) (c := (Pr (Xc m c) 6)) (by kernel_rfl) (by kernel_rfl) sg
  cases hp : (Pr (Xc m c) 6) with
  | false =>
    rw [hp] at hw
    exact run_quiet eo (Or.inr ⟨hw, by show gv (Pr (Xc m c) 6) _ = undef; rw [hp]; rfl⟩) hS hK
  | true =>
    rw [hp] at hw
    have hV : VV w c cv vv fv ea wa m 68 = .pointer (some ⟨w.heap.size, 9, none⟩) := by show gv (Pr (Xc m c) 6) _ = _; rw [hp]; rfl
    rw [hV] at hK
    refine run_quiet eo (Or.inl ⟨hw, fun W' hW' => ?_⟩) hS hK
    exact ex_field (x := .tmp 1) (t := 31) (f := 7) (by kernel_rfl) (eval_tmp ((hd.base 1 (by kernel_rfl)).trans h1)) (fa7 W' _)

set_option maxRecDepth 100000 in
theorem ob_69 {w : World} {c : Cm} {cv vv fv ea wa : Value} {m : Int} {a0 : Act} {Q : Exit → Act → World → Prop} : Ob w c cv vv fv ea wa m a0 Q 69 := by
  intro o listed a W ho hd hl hS K hK
  have eo : rops[69]? = some (opAt 69) := by kernel_rfl
  obtain rfl : o = opAt 69 := Option.some.inj (ho.symm.trans eo)
  have sg := hd.slot hl 63 76 (by kernel_rfl) (by kernel_rfl) (by kernel_rfl)
  have hw := wanted_some (o := opAt 69) (ops := rops) (g := 63) (b := true) (c := (Pr (Xc m c) 6)) (by kernel_rfl) (by kernel_rfl) sg
  have s1 := hd.slot hl 68 81 (by kernel_rfl) (by kernel_rfl) (by kernel_rfl)
  cases hp : (Pr (Xc m c) 6) with
  | false =>
    rw [hp] at hw
    exact run_quiet eo (Or.inr ⟨hw, by show gv (Pr (Xc m c) 6) _ = undef; rw [hp]; rfl⟩) hS hK
  | true =>
    rw [hp] at hw
    have hV : VV w c cv vv fv ea wa m 69 = vv := by show gv (Pr (Xc m c) 6) _ = _; rw [hp]; rfl
    rw [hV] at hK
    replace s1 : a.tmps[81]? = some (.pointer (some ⟨w.heap.size, 9, none⟩)) := s1.trans (by show some (gv (Pr (Xc m c) 6) _) = _; rw [hp]; rfl)
    refine run_quiet eo (Or.inl ⟨hw, fun W' hW' => ?_⟩) hS hK
    exact ex_load (x := .tmp 81) (t := 25) (by kernel_rfl) (eval_tmp s1) (ld25 W' _ 9 _ (hW'.1 9 _ rfl))

set_option maxRecDepth 100000 in
theorem ob_70 {w : World} {c : Cm} {cv vv fv ea wa : Value} {m : Int} {a0 : Act} {Q : Exit → Act → World → Prop} (hc : Cals w c cv vv fv ea wa m) : Ob w c cv vv fv ea wa m a0 Q 70 := by
  intro o listed a W ho hd hl hS K hK
  have eo : rops[70]? = some (opAt 70) := by kernel_rfl
  obtain rfl : o = opAt 70 := Option.some.inj (ho.symm.trans eo)
  have sg := hd.slot hl 63 76 (by kernel_rfl) (by kernel_rfl) (by kernel_rfl)
  have hw := wanted_some (o := opAt 70) (ops := rops) (g := 63) (b := true) (c := (Pr (Xc m c) 6)) (by kernel_rfl) (by kernel_rfl) sg
  have s1 := hd.slot hl 69 82 (by kernel_rfl) (by kernel_rfl) (by kernel_rfl)
  cases hp : (Pr (Xc m c) 6) with
  | false =>
    rw [hp] at hw
    exact run_quiet eo (Or.inr ⟨hw, by show gv (Pr (Xc m c) 6) _ = undef; rw [hp]; rfl⟩) hS hK
  | true =>
    rw [hp] at hw
    have hV : VV w c cv vv fv ea wa m 70 = .int .i64 (c.vals.length : Nat) := by show gv (Pr (Xc m c) 6) _ = _; rw [hp]; rfl
    rw [hV] at hK
    replace s1 : a.tmps[82]? = some (vv) := s1.trans (by show some (gv (Pr (Xc m c) 6) _) = _; rw [hp]; rfl)
    refine run_quiet eo (Or.inl ⟨hw, fun W' hW' => ?_⟩) hS hK
    obtain ⟨ao, ca, hcv⟩ := hc.l7
    exact ex_len (ts := #[25]) (x := .tmp 82) (by kernel_rfl) (fun ty => len25 W' ao c.vals.length ca ty) (eval_tmp (s1.trans (congrArg some hcv)))

set_option maxRecDepth 100000 in
theorem ob_71 {w : World} {c : Cm} {cv vv fv ea wa : Value} {m : Int} {a0 : Act} {Q : Exit → Act → World → Prop} : Ob w c cv vv fv ea wa m a0 Q 71 := by
  intro o listed a W ho hd hl hS K hK
  have eo : rops[71]? = some (opAt 71) := by kernel_rfl
  obtain rfl : o = opAt 71 := Option.some.inj (ho.symm.trans eo)
  have sg := hd.slot hl 63 76 (by kernel_rfl) (by kernel_rfl) (by kernel_rfl)
  have hw := wanted_some (o := opAt 71) (ops := rops) (g := 63) (b := true) (c := (Pr (Xc m c) 6)) (by kernel_rfl) (by kernel_rfl) sg
  have s1 := hd.slot hl 70 83 (by kernel_rfl) (by kernel_rfl) (by kernel_rfl)
  cases hp : (Pr (Xc m c) 6) with
  | false =>
    rw [hp] at hw
    exact run_quiet eo (Or.inr ⟨hw, by show gv (Pr (Xc m c) 6) _ = undef; rw [hp]; rfl⟩) hS hK
  | true =>
    rw [hp] at hw
    have hV : VV w c cv vv fv ea wa m 71 = .bool (decide ((c.vals.length : Int) = 0)) := by show gv (Pr (Xc m c) 6) _ = _; rw [hp]; rfl
    rw [hV] at hK
    replace s1 : a.tmps[83]? = some (.int .i64 (c.vals.length : Nat)) := s1.trans (by show some (gv (Pr (Xc m c) 6) _) = _; rw [hp]; rfl)
    refine run_quiet eo (Or.inl ⟨hw, fun W' hW' => ?_⟩) hS hK
    exact ex_bin (u := 3) (x := .tmp 83) (y := .const (.int .i64 0)) (by kernel_rfl) (eval_tmp s1) rfl (eq3 W' _ _ _)

set_option maxRecDepth 100000 in
theorem ob_72 {w : World} {c : Cm} {cv vv fv ea wa : Value} {m : Int} {a0 : Act} {Q : Exit → Act → World → Prop} : Ob w c cv vv fv ea wa m a0 Q 72 := by
  intro o listed a W ho hd hl hS K hK
  have eo : rops[72]? = some (opAt 72) := by kernel_rfl
  obtain rfl : o = opAt 72 := Option.some.inj (ho.symm.trans eo)
  have sg := hd.slot hl 63 76 (by kernel_rfl) (by kernel_rfl) (by kernel_rfl)
  have hw := wanted_some (o := opAt 72) (ops := rops) (g := 63) (b := true) (c := (Pr (Xc m c) 6)) (by kernel_rfl) (by kernel_rfl) sg
  have s1 := hd.slot hl 64 77 (by kernel_rfl) (by kernel_rfl) (by kernel_rfl)
  have s2 := hd.slot hl 67 80 (by kernel_rfl) (by kernel_rfl) (by kernel_rfl)
  have s3 := hd.slot hl 71 84 (by kernel_rfl) (by kernel_rfl) (by kernel_rfl)
  cases hp : (Pr (Xc m c) 6) with
  | false =>
    rw [hp] at hw
    exact run_quiet eo (Or.inr ⟨hw, by show gv (Pr (Xc m c) 6) _ = undef; rw [hp]; rfl⟩) hS hK
  | true =>
    rw [hp] at hw
    have hV : VV w c cv vv fv ea wa m 72 = .bool ((Xc m c) 7) := by show gv (Pr (Xc m c) 6) _ = _; rw [hp]; rfl
    rw [hV] at hK
    replace s1 : a.tmps[77]? = some (.func (.func 71) #[] #[.pointer (some ⟨w.heap.size + 1, 0, none⟩)]) := s1.trans (by show some (gv (Pr (Xc m c) 6) _) = _; rw [hp]; rfl)
    replace s2 : a.tmps[80]? = some (.bool (areVals c.vals)) := s2.trans (by show some (gv (Pr (Xc m c) 6) _) = _; rw [hp]; rfl)
    replace s3 : a.tmps[84]? = some (.bool (decide ((c.vals.length : Int) = 0))) := s3.trans (by show some (gv (Pr (Xc m c) 6) _) = _; rw [hp]; rfl)
    refine run_call 71 #[.int .i64 64, .bool (areVals c.vals), .bool (decide ((c.vals.length : Int) = 0)), .pointer (some ⟨w.heap.size + 1, 0, none⟩)] eo hw (ex_is (ts := #[3, 4, 4]) (t := .tmp 77) (x := .const (.int .i64 64)) (y := .tmp 80) (z := .tmp 84) (f := 71) cf71 (by kernel_rfl) (eval_tmp s1) rfl (eval_tmp s2) (eval_tmp s3)) ((is_any m 64 (areVals c.vals) (decide ((c.vals.length : Int) = 0)) _ W hS.2.1).mono fun e w' h => ⟨h.1, h.2 ▸ hS⟩) hK

set_option maxRecDepth 100000 in
theorem ob_73 {w : World} {c : Cm} {cv vv fv ea wa : Value} {m : Int} {a0 : Act} {Q : Exit → Act → World → Prop} : Ob w c cv vv fv ea wa m a0 Q 73 := by
  intro o listed a W ho hd hl hS K hK
  have eo : rops[73]? = some (opAt 73) := by kernel_rfl
  obtain rfl : o = opAt 73 := Option.some.inj (ho.symm.trans eo)
  have s1 := hd.slot hl 63 76 (by kernel_rfl) (by kernel_rfl) (by kernel_rfl)
  have s2 := hd.slot hl 72 85 (by kernel_rfl) (by kernel_rfl) (by kernel_rfl)
  have ev : (if (Pr (Xc m c) 6) = true then a.eval (.tmp 85) else a.eval (.const (.bool false))) = .bool (Pr (Xc m c) 7) := by
    rw [eval_tmp s2]
    show (if (Pr (Xc m c) 6) = true then gv (Pr (Xc m c) 6) (.bool ((Xc m c) 7)) else .bool false) = .bool ((Pr (Xc m c) 6) && (Xc m c) 7)
    cases (Pr (Xc m c) 6) <;> rfl
  refine run_quiet eo (Or.inl ⟨wanted_none (by kernel_rfl), fun W' hW' => ?_⟩) hS hK
  rw [ex_pick (P := Tryz.prog) (ρ := a.eval) (W := W') (o := opAt 73) (c := .tmp 76) (x := .tmp 85) (y := .const (.bool false)) (b := (Pr (Xc m c) 6)) (by kernel_rfl) (eval_tmp s1), ev]; rfl

set_option maxRecDepth 100000 in
theorem ob_74 {w : World} {c : Cm} {cv vv fv ea wa : Value} {m : Int} {a0 : Act} {Q : Exit → Act → World → Prop} : Ob w c cv vv fv ea wa m a0 Q 74 := by
  intro o listed a W ho hd hl hS K hK
  have eo : rops[74]? = some (opAt 74) := by kernel_rfl
  obtain rfl : o = opAt 74 := Option.some.inj (ho.symm.trans eo)
  have s1 := hd.slot hl 73 86 (by kernel_rfl) (by kernel_rfl) (by kernel_rfl)
  refine run_quiet eo (Or.inl ⟨wanted_none (by kernel_rfl), fun W' hW' => ?_⟩) hS hK
  exact ex_move (x := .tmp 86) (by kernel_rfl) (eval_tmp s1)

set_option maxRecDepth 100000 in
theorem ob_75 {w : World} {c : Cm} {cv vv fv ea wa : Value} {m : Int} {a0 : Act} {Q : Exit → Act → World → Prop} (h5 : a0.tmps[5]? = some (.func (.func 71) #[] #[.pointer (some ⟨w.heap.size + 1, 0, none⟩)])) : Ob w c cv vv fv ea wa m a0 Q 75 := by
  intro o listed a W ho hd hl hS K hK
  have eo : rops[75]? = some (opAt 75) := by kernel_rfl
  obtain rfl : o = opAt 75 := Option.some.inj (ho.symm.trans eo)
  have sg := hd.slot hl 74 87 (by kernel_rfl) (by kernel_rfl) (by kernel_rfl)
  have hw := wanted_some (o := opAt 75) (ops := rops) (g := 74) (b := true) (c := (Pr (Xc m c) 7)) (by kernel_rfl) (by kernel_rfl) sg
  cases hp : (Pr (Xc m c) 7) with
  | false =>
    rw [hp] at hw
    exact run_quiet eo (Or.inr ⟨hw, by show gv (Pr (Xc m c) 7) _ = undef; rw [hp]; rfl⟩) hS hK
  | true =>
    rw [hp] at hw
    have hV : VV w c cv vv fv ea wa m 75 = .func (.func 71) #[] #[.pointer (some ⟨w.heap.size + 1, 0, none⟩)] := by show gv (Pr (Xc m c) 7) _ = _; rw [hp]; rfl
    rw [hV] at hK
    refine run_quiet eo (Or.inl ⟨hw, fun W' hW' => ?_⟩) hS hK
    exact ex_move (x := .tmp 5) (by kernel_rfl) (eval_tmp ((hd.base 5 (by kernel_rfl)).trans h5))

set_option maxRecDepth 100000 in
theorem ob_76 {w : World} {c : Cm} {cv vv fv ea wa : Value} {m : Int} {a0 : Act} {Q : Exit → Act → World → Prop} (h1 : a0.tmps[1]? = some (.pointer (some ⟨w.heap.size, 0, none⟩))) : Ob w c cv vv fv ea wa m a0 Q 76 := by
  intro o listed a W ho hd hl hS K hK
  have eo : rops[76]? = some (opAt 76) := by kernel_rfl
  obtain rfl : o = opAt 76 := Option.some.inj (ho.symm.trans eo)
  have sg := hd.slot hl 74 87 (by kernel_rfl) (by kernel_rfl) (by kernel_rfl)
  have hw := wanted_some (o := opAt 76) (ops := rops) (g := 74) (b := true) (c := (Pr (Xc m c) 7)) (by kernel_rfl) (by kernel_rfl) sg
  cases hp : (Pr (Xc m c) 7) with
  | false =>
    rw [hp] at hw
    exact run_quiet eo (Or.inr ⟨hw, by show gv (Pr (Xc m c) 7) _ = undef; rw [hp]; rfl⟩) hS hK
  | true =>
    rw [hp] at hw
    have hV : VV w c cv vv fv ea wa m 76 = .pointer (some ⟨w.heap.size, 10, none⟩) := by show gv (Pr (Xc m c) 7) _ = _; rw [hp]; rfl
    rw [hV] at hK
    refine run_quiet eo (Or.inl ⟨hw, fun W' hW' => ?_⟩) hS hK
    exact ex_field (x := .tmp 1) (t := 31) (f := 8) (by kernel_rfl) (eval_tmp ((hd.base 1 (by kernel_rfl)).trans h1)) (fa8 W' _)

set_option maxRecDepth 100000 in
theorem ob_77 {w : World} {c : Cm} {cv vv fv ea wa : Value} {m : Int} {a0 : Act} {Q : Exit → Act → World → Prop} : Ob w c cv vv fv ea wa m a0 Q 77 := by
  intro o listed a W ho hd hl hS K hK
  have eo : rops[77]? = some (opAt 77) := by kernel_rfl
  obtain rfl : o = opAt 77 := Option.some.inj (ho.symm.trans eo)
  have sg := hd.slot hl 74 87 (by kernel_rfl) (by kernel_rfl) (by kernel_rfl)
  have hw := wanted_some (o := opAt 77) (ops := rops) (g := 74) (b := true) (c := (Pr (Xc m c) 7)) (by kernel_rfl) (by kernel_rfl) sg
  have s1 := hd.slot hl 76 89 (by kernel_rfl) (by kernel_rfl) (by kernel_rfl)
  cases hp : (Pr (Xc m c) 7) with
  | false =>
    rw [hp] at hw
    exact run_quiet eo (Or.inr ⟨hw, by show gv (Pr (Xc m c) 7) _ = undef; rw [hp]; rfl⟩) hS hK
  | true =>
    rw [hp] at hw
    have hV : VV w c cv vv fv ea wa m 77 = fv := by show gv (Pr (Xc m c) 7) _ = _; rw [hp]; rfl
    rw [hV] at hK
    replace s1 : a.tmps[89]? = some (.pointer (some ⟨w.heap.size, 10, none⟩)) := s1.trans (by show some (gv (Pr (Xc m c) 7) _) = _; rw [hp]; rfl)
    refine run_quiet eo (Or.inl ⟨hw, fun W' hW' => ?_⟩) hS hK
    exact ex_load (x := .tmp 89) (t := 26) (by kernel_rfl) (eval_tmp s1) (ld26 W' _ 10 _ (hW'.1 10 _ rfl))

set_option maxRecDepth 100000 in
theorem ob_78 {w : World} {c : Cm} {cv vv fv ea wa : Value} {m : Int} {a0 : Act} {Q : Exit → Act → World → Prop} (hc : Cals w c cv vv fv ea wa m) : Ob w c cv vv fv ea wa m a0 Q 78 := by
  intro o listed a W ho hd hl hS K hK
  have eo : rops[78]? = some (opAt 78) := by kernel_rfl
  obtain rfl : o = opAt 78 := Option.some.inj (ho.symm.trans eo)
  have sg := hd.slot hl 74 87 (by kernel_rfl) (by kernel_rfl) (by kernel_rfl)
  have hw := wanted_some (o := opAt 78) (ops := rops) (g := 74) (b := true) (c := (Pr (Xc m c) 7)) (by kernel_rfl) (by kernel_rfl) sg
  have s1 := hd.slot hl 77 90 (by kernel_rfl) (by kernel_rfl) (by kernel_rfl)
  cases hp : (Pr (Xc m c) 7) with
  | false =>
    rw [hp] at hw
    exact run_quiet eo (Or.inr ⟨hw, by show gv (Pr (Xc m c) 7) _ = undef; rw [hp]; rfl⟩) hS hK
  | true =>
    rw [hp] at hw
    have hV : VV w c cv vv fv ea wa m 78 = .bool (c.fields.all nameW) := by show gv (Pr (Xc m c) 7) _ = _; rw [hp]; rfl
    rw [hV] at hK
    replace s1 : a.tmps[90]? = some (fv) := s1.trans (by show some (gv (Pr (Xc m c) 7) _) = _; rw [hp]; rfl)
    exact run_call 77 #[fv, .func (.func 72) #[] #[]] eo hw (ex_call2 (ts := #[26, 37]) (x := .tmp 90) (y := .func 72) (f := 77) cf77 (by kernel_rfl) rfl (eval_tmp s1) rfl) ((hc.q8 W hS).mono fun e w' h => ⟨h.1, hS.below h.2⟩) hK

set_option maxRecDepth 100000 in
theorem ob_79 {w : World} {c : Cm} {cv vv fv ea wa : Value} {m : Int} {a0 : Act} {Q : Exit → Act → World → Prop} (h1 : a0.tmps[1]? = some (.pointer (some ⟨w.heap.size, 0, none⟩))) : Ob w c cv vv fv ea wa m a0 Q 79 := by
  intro o listed a W ho hd hl hS K hK
  have eo : rops[79]? = some (opAt 79) := by kernel_rfl
  obtain rfl : o = opAt 79 := Option.some.inj (ho.symm.trans eo)
  have sg := hd.slot hl 74 87 (by kernel_rfl) (by kernel_rfl) (by kernel_rfl)
  have hw := wanted_some (o := opAt 79) (ops := rops) (g := 74) (b := true) (c := (Pr (Xc m c) 7)) (by kernel_rfl) (by kernel_rfl) sg
  cases hp : (Pr (Xc m c) 7) with
  | false =>
    rw [hp] at hw
    exact run_quiet eo (Or.inr ⟨hw, by show gv (Pr (Xc m c) 7) _ = undef; rw [hp]; rfl⟩) hS hK
  | true =>
    rw [hp] at hw
    have hV : VV w c cv vv fv ea wa m 79 = .pointer (some ⟨w.heap.size, 10, none⟩) := by show gv (Pr (Xc m c) 7) _ = _; rw [hp]; rfl
    rw [hV] at hK
    refine run_quiet eo (Or.inl ⟨hw, fun W' hW' => ?_⟩) hS hK
    exact ex_field (x := .tmp 1) (t := 31) (f := 8) (by kernel_rfl) (eval_tmp ((hd.base 1 (by kernel_rfl)).trans h1)) (fa8 W' _)

set_option maxRecDepth 100000 in
theorem ob_80 {w : World} {c : Cm} {cv vv fv ea wa : Value} {m : Int} {a0 : Act} {Q : Exit → Act → World → Prop} : Ob w c cv vv fv ea wa m a0 Q 80 := by
  intro o listed a W ho hd hl hS K hK
  have eo : rops[80]? = some (opAt 80) := by kernel_rfl
  obtain rfl : o = opAt 80 := Option.some.inj (ho.symm.trans eo)
  have sg := hd.slot hl 74 87 (by kernel_rfl) (by kernel_rfl) (by kernel_rfl)
  have hw := wanted_some (o := opAt 80) (ops := rops) (g := 74) (b := true) (c := (Pr (Xc m c) 7)) (by kernel_rfl) (by kernel_rfl) sg
  have s1 := hd.slot hl 79 92 (by kernel_rfl) (by kernel_rfl) (by kernel_rfl)
  cases hp : (Pr (Xc m c) 7) with
  | false =>
    rw [hp] at hw
    exact run_quiet eo (Or.inr ⟨hw, by show gv (Pr (Xc m c) 7) _ = undef; rw [hp]; rfl⟩) hS hK
  | true =>
    rw [hp] at hw
    have hV : VV w c cv vv fv ea wa m 80 = fv := by show gv (Pr (Xc m c) 7) _ = _; rw [hp]; rfl
    rw [hV] at hK
    replace s1 : a.tmps[92]? = some (.pointer (some ⟨w.heap.size, 10, none⟩)) := s1.trans (by show some (gv (Pr (Xc m c) 7) _) = _; rw [hp]; rfl)
    refine run_quiet eo (Or.inl ⟨hw, fun W' hW' => ?_⟩) hS hK
    exact ex_load (x := .tmp 92) (t := 26) (by kernel_rfl) (eval_tmp s1) (ld26 W' _ 10 _ (hW'.1 10 _ rfl))

set_option maxRecDepth 100000 in
theorem ob_81 {w : World} {c : Cm} {cv vv fv ea wa : Value} {m : Int} {a0 : Act} {Q : Exit → Act → World → Prop} (hc : Cals w c cv vv fv ea wa m) : Ob w c cv vv fv ea wa m a0 Q 81 := by
  intro o listed a W ho hd hl hS K hK
  have eo : rops[81]? = some (opAt 81) := by kernel_rfl
  obtain rfl : o = opAt 81 := Option.some.inj (ho.symm.trans eo)
  have sg := hd.slot hl 74 87 (by kernel_rfl) (by kernel_rfl) (by kernel_rfl)
  have hw := wanted_some (o := opAt 81) (ops := rops) (g := 74) (b := true) (c := (Pr (Xc m c) 7)) (by kernel_rfl) (by kernel_rfl) sg
  have s1 := hd.slot hl 80 93 (by kernel_rfl) (by kernel_rfl) (by kernel_rfl)
  cases hp : (Pr (Xc m c) 7) with
  | false =>
    rw [hp] at hw
    exact run_quiet eo (Or.inr ⟨hw, by show gv (Pr (Xc m c) 7) _ = undef; rw [hp]; rfl⟩) hS hK
  | true =>
    rw [hp] at hw
    have hV : VV w c cv vv fv ea wa m 81 = .int .i64 (c.fields.length : Nat) := by show gv (Pr (Xc m c) 7) _ = _; rw [hp]; rfl
    rw [hV] at hK
    replace s1 : a.tmps[93]? = some (fv) := s1.trans (by show some (gv (Pr (Xc m c) 7) _) = _; rw [hp]; rfl)
    refine run_quiet eo (Or.inl ⟨hw, fun W' hW' => ?_⟩) hS hK
    obtain ⟨ao, ca, hcv⟩ := hc.l8
    exact ex_len (ts := #[26]) (x := .tmp 93) (by kernel_rfl) (fun ty => len26 W' ao c.fields.length ca ty) (eval_tmp (s1.trans (congrArg some hcv)))

set_option maxRecDepth 100000 in
theorem ob_82 {w : World} {c : Cm} {cv vv fv ea wa : Value} {m : Int} {a0 : Act} {Q : Exit → Act → World → Prop} : Ob w c cv vv fv ea wa m a0 Q 82 := by
  intro o listed a W ho hd hl hS K hK
  have eo : rops[82]? = some (opAt 82) := by kernel_rfl
  obtain rfl : o = opAt 82 := Option.some.inj (ho.symm.trans eo)
  have sg := hd.slot hl 74 87 (by kernel_rfl) (by kernel_rfl) (by kernel_rfl)
  have hw := wanted_some (o := opAt 82) (ops := rops) (g := 74) (b := true) (c := (Pr (Xc m c) 7)) (by kernel_rfl) (by kernel_rfl) sg
  have s1 := hd.slot hl 81 94 (by kernel_rfl) (by kernel_rfl) (by kernel_rfl)
  cases hp : (Pr (Xc m c) 7) with
  | false =>
    rw [hp] at hw
    exact run_quiet eo (Or.inr ⟨hw, by show gv (Pr (Xc m c) 7) _ = undef; rw [hp]; rfl⟩) hS hK
  | true =>
    rw [hp] at hw
    have hV : VV w c cv vv fv ea wa m 82 = .bool (decide ((c.fields.length : Int) = 0)) := by show gv (Pr (Xc m c) 7) _ = _; rw [hp]; rfl
    rw [hV] at hK
    replace s1 : a.tmps[94]? = some (.int .i64 (c.fields.length : Nat)) := s1.trans (by show some (gv (Pr (Xc m c) 7) _) = _; rw [hp]; rfl)
    refine run_quiet eo (Or.inl ⟨hw, fun W' hW' => ?_⟩) hS hK
    exact ex_bin (u := 3) (x := .tmp 94) (y := .const (.int .i64 0)) (by kernel_rfl) (eval_tmp s1) rfl (eq3 W' _ _ _)

set_option maxRecDepth 100000 in
theorem ob_83 {w : World} {c : Cm} {cv vv fv ea wa : Value} {m : Int} {a0 : Act} {Q : Exit → Act → World → Prop} : Ob w c cv vv fv ea wa m a0 Q 83 := by
  intro o listed a W ho hd hl hS K hK
  have eo : rops[83]? = some (opAt 83) := by kernel_rfl
  obtain rfl : o = opAt 83 := Option.some.inj (ho.symm.trans eo)
  have sg := hd.slot hl 74 87 (by kernel_rfl) (by kernel_rfl) (by kernel_rfl)
  have hw := wanted_some (o := opAt 83) (ops := rops) (g := 74) (b := true) (c := (Pr (Xc m c) 7)) (by kernel_rfl) (by kernel_rfl) sg
  have s1 := hd.slot hl 75 88 (by kernel_rfl) (by kernel_rfl) (by kernel_rfl)
  have s2 := hd.slot hl 78 91 (by kernel_rfl) (by kernel_rfl) (by kernel_rfl)
  have s3 := hd.slot hl 82 95 (by kernel_rfl) (by kernel_rfl) (by kernel_rfl)
  cases hp : (Pr (Xc m c) 7) with
  | false =>
    rw [hp] at hw
    exact run_quiet eo (Or.inr ⟨hw, by show gv (Pr (Xc m c) 7) _ = undef; rw [hp]; rfl⟩) hS hK
  | true =>
    rw [hp] at hw
    have hV : VV w c cv vv fv ea wa m 83 = .bool ((Xc m c) 8) := by show gv (Pr (Xc m c) 7) _ = _; rw [hp]; rfl
    rw [hV] at hK
    replace s1 : a.tmps[88]? = some (.func (.func 71) #[] #[.pointer (some ⟨w.heap.size + 1, 0, none⟩)]) := s1.trans (by show some (gv (Pr (Xc m c) 7) _) = _; rw [hp]; rfl)
    replace s2 : a.tmps[91]? = some (.bool (c.fields.all nameW)) := s2.trans (by show some (gv (Pr (Xc m c) 7) _) = _; rw [hp]; rfl)
    replace s3 : a.tmps[95]? = some (.bool (decide ((c.fields.length : Int) = 0))) := s3.trans (by show some (gv (Pr (Xc m c) 7) _) = _; rw [hp]; rfl)
    refine run_call 71 #[.int .i64 128, .bool (c.fields.all nameW), .bool (decide ((c.fields.length : Int) = 0)), .pointer (some ⟨w.heap.size + 1, 0, none⟩)] eo hw (ex_is (ts := #[3, 4, 4]) (t := .tmp 88) (x := .const (.int .i64 128)) (y := .tmp 91) (z := .tmp 95) (f := 71) cf71 (by kernel_rfl) (eval_tmp s1) rfl (eval_tmp s2) (eval_tmp s3)) ((is_any m 128 (c.fields.all nameW) (decide ((c.fields.length : Int) = 0)) _ W hS.2.1).mono fun e w' h => ⟨h.1, h.2 ▸ hS⟩) hK

set_option maxRecDepth 100000 in
theorem ob_84 {w : World} {c : Cm} {cv vv fv ea wa : Value} {m : Int} {a0 : Act} {Q : Exit → Act → World → Prop} : Ob w c cv vv fv ea wa m a0 Q 84 := by
  intro o listed a W ho hd hl hS K hK
  have eo : rops[84]? = some (opAt 84) := by kernel_rfl
  obtain rfl : o = opAt 84 := Option.some.inj (ho.symm.trans eo)
  have s1 := hd.slot hl 74 87 (by kernel_rfl) (by kernel_rfl) (by kernel_rfl)
  have s2 := hd.slot hl 83 96 (by kernel_rfl) (by kernel_rfl) (by kernel_rfl)
  have ev : (if (Pr (Xc m c) 7) = true then a.eval (.tmp 96) else a.eval (.const (.bool false))) = .bool (Pr (Xc m c) 8) := by
    rw [eval_tmp s2]
    show (if (Pr (Xc m c) 7) = true then gv (Pr (Xc m c) 7) (.bool ((Xc m c) 8)) else .bool false) = .bool ((Pr (Xc m c) 7) && (Xc m c) 8)
    cases (Pr (Xc m c) 7) <;> rfl
  refine run_quiet eo (Or.inl ⟨wanted_none (by kernel_rfl), fun W' hW' => ?_⟩) hS hK
  rw [ex_pick (P := Tryz.prog) (ρ := a.eval) (W := W') (o := opAt 84) (c := .tmp 87) (x := .tmp 96) (y := .const (.bool false)) (b := (Pr (Xc m c) 7)) (by kernel_rfl) (eval_tmp s1), ev]; rfl

set_option maxRecDepth 100000 in
theorem ob_85 {w : World} {c : Cm} {cv vv fv ea wa : Value} {m : Int} {a0 : Act} {Q : Exit → Act → World → Prop} : Ob w c cv vv fv ea wa m a0 Q 85 := by
  intro o listed a W ho hd hl hS K hK
  have eo : rops[85]? = some (opAt 85) := by kernel_rfl
  obtain rfl : o = opAt 85 := Option.some.inj (ho.symm.trans eo)
  have s1 := hd.slot hl 84 97 (by kernel_rfl) (by kernel_rfl) (by kernel_rfl)
  refine run_quiet eo (Or.inl ⟨wanted_none (by kernel_rfl), fun W' hW' => ?_⟩) hS hK
  exact ex_move (x := .tmp 97) (by kernel_rfl) (eval_tmp s1)

set_option maxRecDepth 100000 in
theorem ob_86 {w : World} {c : Cm} {cv vv fv ea wa : Value} {m : Int} {a0 : Act} {Q : Exit → Act → World → Prop} (h5 : a0.tmps[5]? = some (.func (.func 71) #[] #[.pointer (some ⟨w.heap.size + 1, 0, none⟩)])) : Ob w c cv vv fv ea wa m a0 Q 86 := by
  intro o listed a W ho hd hl hS K hK
  have eo : rops[86]? = some (opAt 86) := by kernel_rfl
  obtain rfl : o = opAt 86 := Option.some.inj (ho.symm.trans eo)
  have sg := hd.slot hl 85 98 (by kernel_rfl) (by kernel_rfl) (by kernel_rfl)
  have hw := wanted_some (o := opAt 86) (ops := rops) (g := 85) (b := true) (c := (Pr (Xc m c) 8)) (by kernel_rfl) (by kernel_rfl) sg
  cases hp : (Pr (Xc m c) 8) with
  | false =>
    rw [hp] at hw
    exact run_quiet eo (Or.inr ⟨hw, by show gv (Pr (Xc m c) 8) _ = undef; rw [hp]; rfl⟩) hS hK
  | true =>
    rw [hp] at hw
    have hV : VV w c cv vv fv ea wa m 86 = .func (.func 71) #[] #[.pointer (some ⟨w.heap.size + 1, 0, none⟩)] := by show gv (Pr (Xc m c) 8) _ = _; rw [hp]; rfl
    rw [hV] at hK
    refine run_quiet eo (Or.inl ⟨hw, fun W' hW' => ?_⟩) hS hK
    exact ex_move (x := .tmp 5) (by kernel_rfl) (eval_tmp ((hd.base 5 (by kernel_rfl)).trans h5))

set_option maxRecDepth 100000 in
theorem ob_87 {w : World} {c : Cm} {cv vv fv ea wa : Value} {m : Int} {a0 : Act} {Q : Exit → Act → World → Prop} (h1 : a0.tmps[1]? = some (.pointer (some ⟨w.heap.size, 0, none⟩))) : Ob w c cv vv fv ea wa m a0 Q 87 := by
  intro o listed a W ho hd hl hS K hK
  have eo : rops[87]? = some (opAt 87) := by kernel_rfl
  obtain rfl : o = opAt 87 := Option.some.inj (ho.symm.trans eo)
  have sg := hd.slot hl 85 98 (by kernel_rfl) (by kernel_rfl) (by kernel_rfl)
  have hw := wanted_some (o := opAt 87) (ops := rops) (g := 85) (b := true) (c := (Pr (Xc m c) 8)) (by kernel_rfl) (by kernel_rfl) sg
  cases hp : (Pr (Xc m c) 8) with
  | false =>
    rw [hp] at hw
    exact run_quiet eo (Or.inr ⟨hw, by show gv (Pr (Xc m c) 8) _ = undef; rw [hp]; rfl⟩) hS hK
  | true =>
    rw [hp] at hw
    have hV : VV w c cv vv fv ea wa m 87 = .pointer (some ⟨w.heap.size, 11, none⟩) := by show gv (Pr (Xc m c) 8) _ = _; rw [hp]; rfl
    rw [hV] at hK
    refine run_quiet eo (Or.inl ⟨hw, fun W' hW' => ?_⟩) hS hK
    exact ex_field (x := .tmp 1) (t := 31) (f := 9) (by kernel_rfl) (eval_tmp ((hd.base 1 (by kernel_rfl)).trans h1)) (fa9 W' _)

set_option maxRecDepth 100000 in
theorem ob_88 {w : World} {c : Cm} {cv vv fv ea wa : Value} {m : Int} {a0 : Act} {Q : Exit → Act → World → Prop} : Ob w c cv vv fv ea wa m a0 Q 88 := by
  intro o listed a W ho hd hl hS K hK
  have eo : rops[88]? = some (opAt 88) := by kernel_rfl
  obtain rfl : o = opAt 88 := Option.some.inj (ho.symm.trans eo)
  have sg := hd.slot hl 85 98 (by kernel_rfl) (by kernel_rfl) (by kernel_rfl)
  have hw := wanted_some (o := opAt 88) (ops := rops) (g := 85) (b := true) (c := (Pr (Xc m c) 8)) (by kernel_rfl) (by kernel_rfl) sg
  have s1 := hd.slot hl 87 100 (by kernel_rfl) (by kernel_rfl) (by kernel_rfl)
  cases hp : (Pr (Xc m c) 8) with
  | false =>
    rw [hp] at hw
    exact run_quiet eo (Or.inr ⟨hw, by show gv (Pr (Xc m c) 8) _ = undef; rw [hp]; rfl⟩) hS hK
  | true =>
    rw [hp] at hw
    have hV : VV w c cv vv fv ea wa m 88 = .agg #[.int .i64 c.expr.k, .int .i64 c.expr.v.k, .int .i64 c.expr.v.n, .string ⟨c.expr.v.s.toArray⟩, .string ⟨c.expr.nm.toArray⟩, ea] := by show gv (Pr (Xc m c) 8) _ = _; rw [hp]; rfl
    rw [hV] at hK
    replace s1 : a.tmps[100]? = some (.pointer (some ⟨w.heap.size, 11, none⟩)) := s1.trans (by show some (gv (Pr (Xc m c) 8) _) = _; rw [hp]; rfl)
    refine run_quiet eo (Or.inl ⟨hw, fun W' hW' => ?_⟩) hS hK
    exact ex_load (x := .tmp 100) (t := 29) (by kernel_rfl) (eval_tmp s1) (ld29 W' _ 11 _ _ _ _ _ _ (hW'.1 11 _ rfl) (hW'.1 12 _ rfl) (hW'.1 13 _ rfl) (hW'.1 14 _ rfl) (hW'.1 15 _ rfl) (hW'.1 16 _ rfl))

set_option maxRecDepth 100000 in
theorem ob_89 {w : World} {c : Cm} {cv vv fv ea wa : Value} {m : Int} {a0 : Act} {Q : Exit → Act → World → Prop} (hc : Cals w c cv vv fv ea wa m) : Ob w c cv vv fv ea wa m a0 Q 89 := by
  intro o listed a W ho hd hl hS K hK
  have eo : rops[89]? = some (opAt 89) := by kernel_rfl
  obtain rfl : o = opAt 89 := Option.some.inj (ho.symm.trans eo)
  have sg := hd.slot hl 85 98 (by kernel_rfl) (by kernel_rfl) (by kernel_rfl)
  have hw := wanted_some (o := opAt 89) (ops := rops) (g := 85) (b := true) (c := (Pr (Xc m c) 8)) (by kernel_rfl) (by kernel_rfl) sg
  have s1 := hd.slot hl 88 101 (by kernel_rfl) (by kernel_rfl) (by kernel_rfl)
  cases hp : (Pr (Xc m c) 8) with
  | false =>
    rw [hp] at hw
    exact run_quiet eo (Or.inr ⟨hw, by show gv (Pr (Xc m c) 8) _ = undef; rw [hp]; rfl⟩) hS hK
  | true =>
    rw [hp] at hw
    have hV : VV w c cv vv fv ea wa m 89 = .bool (rightE c.expr) := by show gv (Pr (Xc m c) 8) _ = _; rw [hp]; rfl
    rw [hV] at hK
    replace s1 : a.tmps[101]? = some (.agg #[.int .i64 c.expr.k, .int .i64 c.expr.v.k, .int .i64 c.expr.v.n, .string ⟨c.expr.v.s.toArray⟩, .string ⟨c.expr.nm.toArray⟩, ea]) := s1.trans (by show some (gv (Pr (Xc m c) 8) _) = _; rw [hp]; rfl)
    exact run_call 78 #[.agg #[.int .i64 c.expr.k, .int .i64 c.expr.v.k, .int .i64 c.expr.v.n, .string ⟨c.expr.v.s.toArray⟩, .string ⟨c.expr.nm.toArray⟩, ea]] eo hw (ex_call1 (ts := #[29]) (x := .tmp 101) (f := 78) cf78 (by kernel_rfl) rfl (eval_tmp s1)) ((hc.q9 W hS).mono fun e w' h => ⟨h.1, hS.below h.2⟩) hK

set_option maxRecDepth 100000 in
theorem ob_90 {w : World} {c : Cm} {cv vv fv ea wa : Value} {m : Int} {a0 : Act} {Q : Exit → Act → World → Prop} (h1 : a0.tmps[1]? = some (.pointer (some ⟨w.heap.size, 0, none⟩))) : Ob w c cv vv fv ea wa m a0 Q 90 := by
  intro o listed a W ho hd hl hS K hK
  have eo : rops[90]? = some (opAt 90) := by kernel_rfl
  obtain rfl : o = opAt 90 := Option.some.inj (ho.symm.trans eo)
  have sg := hd.slot hl 85 98 (by kernel_rfl) (by kernel_rfl) (by kernel_rfl)
  have hw := wanted_some (o := opAt 90) (ops := rops) (g := 85) (b := true) (c := (Pr (Xc m c) 8)) (by kernel_rfl) (by kernel_rfl) sg
  cases hp : (Pr (Xc m c) 8) with
  | false =>
    rw [hp] at hw
    exact run_quiet eo (Or.inr ⟨hw, by show gv (Pr (Xc m c) 8) _ = undef; rw [hp]; rfl⟩) hS hK
  | true =>
    rw [hp] at hw
    have hV : VV w c cv vv fv ea wa m 90 = .pointer (some ⟨w.heap.size, 11, none⟩) := by show gv (Pr (Xc m c) 8) _ = _; rw [hp]; rfl
    rw [hV] at hK
    refine run_quiet eo (Or.inl ⟨hw, fun W' hW' => ?_⟩) hS hK
    exact ex_field (x := .tmp 1) (t := 31) (f := 9) (by kernel_rfl) (eval_tmp ((hd.base 1 (by kernel_rfl)).trans h1)) (fa9 W' _)

set_option maxRecDepth 100000 in
theorem ob_91 {w : World} {c : Cm} {cv vv fv ea wa : Value} {m : Int} {a0 : Act} {Q : Exit → Act → World → Prop} : Ob w c cv vv fv ea wa m a0 Q 91 := by
  intro o listed a W ho hd hl hS K hK
  have eo : rops[91]? = some (opAt 91) := by kernel_rfl
  obtain rfl : o = opAt 91 := Option.some.inj (ho.symm.trans eo)
  have sg := hd.slot hl 85 98 (by kernel_rfl) (by kernel_rfl) (by kernel_rfl)
  have hw := wanted_some (o := opAt 91) (ops := rops) (g := 85) (b := true) (c := (Pr (Xc m c) 8)) (by kernel_rfl) (by kernel_rfl) sg
  have s1 := hd.slot hl 90 103 (by kernel_rfl) (by kernel_rfl) (by kernel_rfl)
  cases hp : (Pr (Xc m c) 8) with
  | false =>
    rw [hp] at hw
    exact run_quiet eo (Or.inr ⟨hw, by show gv (Pr (Xc m c) 8) _ = undef; rw [hp]; rfl⟩) hS hK
  | true =>
    rw [hp] at hw
    have hV : VV w c cv vv fv ea wa m 91 = .agg #[.int .i64 c.expr.k, .int .i64 c.expr.v.k, .int .i64 c.expr.v.n, .string ⟨c.expr.v.s.toArray⟩, .string ⟨c.expr.nm.toArray⟩, ea] := by show gv (Pr (Xc m c) 8) _ = _; rw [hp]; rfl
    rw [hV] at hK
    replace s1 : a.tmps[103]? = some (.pointer (some ⟨w.heap.size, 11, none⟩)) := s1.trans (by show some (gv (Pr (Xc m c) 8) _) = _; rw [hp]; rfl)
    refine run_quiet eo (Or.inl ⟨hw, fun W' hW' => ?_⟩) hS hK
    exact ex_load (x := .tmp 103) (t := 29) (by kernel_rfl) (eval_tmp s1) (ld29 W' _ 11 _ _ _ _ _ _ (hW'.1 11 _ rfl) (hW'.1 12 _ rfl) (hW'.1 13 _ rfl) (hW'.1 14 _ rfl) (hW'.1 15 _ rfl) (hW'.1 16 _ rfl))

set_option maxRecDepth 100000 in
theorem ob_92 {w : World} {c : Cm} {cv vv fv ea wa : Value} {m : Int} {a0 : Act} {Q : Exit → Act → World → Prop} (hc : Cals w c cv vv fv ea wa m) : Ob w c cv vv fv ea wa m a0 Q 92 := by
  intro o listed a W ho hd hl hS K hK
  have eo : rops[92]? = some (opAt 92) := by kernel_rfl
  obtain rfl : o = opAt 92 := Option.some.inj (ho.symm.trans eo)
  have sg := hd.slot hl 85 98 (by kernel_rfl) (by kernel_rfl) (by kernel_rfl)
  have hw := wanted_some (o := opAt 92) (ops := rops) (g := 85) (b := true) (c := (Pr (Xc m c) 8)) (by kernel_rfl) (by kernel_rfl) sg
  have s1 := hd.slot hl 91 104 (by kernel_rfl) (by kernel_rfl) (by kernel_rfl)
  cases hp : (Pr (Xc m c) 8) with
  | false =>
    rw [hp] at hw
    exact run_quiet eo (Or.inr ⟨hw, by show gv (Pr (Xc m c) 8) _ = undef; rw [hp]; rfl⟩) hS hK
  | true =>
    rw [hp] at hw
    have hV : VV w c cv vv fv ea wa m 92 = .bool (noneE c.expr) := by show gv (Pr (Xc m c) 8) _ = _; rw [hp]; rfl
    rw [hV] at hK
    replace s1 : a.tmps[104]? = some (.agg #[.int .i64 c.expr.k, .int .i64 c.expr.v.k, .int .i64 c.expr.v.n, .string ⟨c.expr.v.s.toArray⟩, .string ⟨c.expr.nm.toArray⟩, ea]) := s1.trans (by show some (gv (Pr (Xc m c) 8) _) = _; rw [hp]; rfl)
    exact run_call 79 #[.agg #[.int .i64 c.expr.k, .int .i64 c.expr.v.k, .int .i64 c.expr.v.n, .string ⟨c.expr.v.s.toArray⟩, .string ⟨c.expr.nm.toArray⟩, ea]] eo hw (ex_call1 (ts := #[29]) (x := .tmp 104) (f := 79) cf79 (by kernel_rfl) rfl (eval_tmp s1)) ((hc.n9 W hS).mono fun e w' h => ⟨h.1, hS.below h.2⟩) hK

set_option maxRecDepth 100000 in
theorem ob_93 {w : World} {c : Cm} {cv vv fv ea wa : Value} {m : Int} {a0 : Act} {Q : Exit → Act → World → Prop} : Ob w c cv vv fv ea wa m a0 Q 93 := by
  intro o listed a W ho hd hl hS K hK
  have eo : rops[93]? = some (opAt 93) := by kernel_rfl
  obtain rfl : o = opAt 93 := Option.some.inj (ho.symm.trans eo)
  have sg := hd.slot hl 85 98 (by kernel_rfl) (by kernel_rfl) (by kernel_rfl)
  have hw := wanted_some (o := opAt 93) (ops := rops) (g := 85) (b := true) (c := (Pr (Xc m c) 8)) (by kernel_rfl) (by kernel_rfl) sg
  have s1 := hd.slot hl 86 99 (by kernel_rfl) (by kernel_rfl) (by kernel_rfl)
  have s2 := hd.slot hl 89 102 (by kernel_rfl) (by kernel_rfl) (by kernel_rfl)
  have s3 := hd.slot hl 92 105 (by kernel_rfl) (by kernel_rfl) (by kernel_rfl)
  cases hp : (Pr (Xc m c) 8) with
  | false =>
    rw [hp] at hw
    exact run_quiet eo (Or.inr ⟨hw, by show gv (Pr (Xc m c) 8) _ = undef; rw [hp]; rfl⟩) hS hK
  | true =>
    rw [hp] at hw
    have hV : VV w c cv vv fv ea wa m 93 = .bool ((Xc m c) 9) := by show gv (Pr (Xc m c) 8) _ = _; rw [hp]; rfl
    rw [hV] at hK
    replace s1 : a.tmps[99]? = some (.func (.func 71) #[] #[.pointer (some ⟨w.heap.size + 1, 0, none⟩)]) := s1.trans (by show some (gv (Pr (Xc m c) 8) _) = _; rw [hp]; rfl)
    replace s2 : a.tmps[102]? = some (.bool (rightE c.expr)) := s2.trans (by show some (gv (Pr (Xc m c) 8) _) = _; rw [hp]; rfl)
    replace s3 : a.tmps[105]? = some (.bool (noneE c.expr)) := s3.trans (by show some (gv (Pr (Xc m c) 8) _) = _; rw [hp]; rfl)
    refine run_call 71 #[.int .i64 256, .bool (rightE c.expr), .bool (noneE c.expr), .pointer (some ⟨w.heap.size + 1, 0, none⟩)] eo hw (ex_is (ts := #[3, 4, 4]) (t := .tmp 99) (x := .const (.int .i64 256)) (y := .tmp 102) (z := .tmp 105) (f := 71) cf71 (by kernel_rfl) (eval_tmp s1) rfl (eval_tmp s2) (eval_tmp s3)) ((is_any m 256 (rightE c.expr) (noneE c.expr) _ W hS.2.1).mono fun e w' h => ⟨h.1, h.2 ▸ hS⟩) hK

set_option maxRecDepth 100000 in
theorem ob_94 {w : World} {c : Cm} {cv vv fv ea wa : Value} {m : Int} {a0 : Act} {Q : Exit → Act → World → Prop} : Ob w c cv vv fv ea wa m a0 Q 94 := by
  intro o listed a W ho hd hl hS K hK
  have eo : rops[94]? = some (opAt 94) := by kernel_rfl
  obtain rfl : o = opAt 94 := Option.some.inj (ho.symm.trans eo)
  have s1 := hd.slot hl 85 98 (by kernel_rfl) (by kernel_rfl) (by kernel_rfl)
  have s2 := hd.slot hl 93 106 (by kernel_rfl) (by kernel_rfl) (by kernel_rfl)
  have ev : (if (Pr (Xc m c) 8) = true then a.eval (.tmp 106) else a.eval (.const (.bool false))) = .bool (Pr (Xc m c) 9) := by
    rw [eval_tmp s2]
    show (if (Pr (Xc m c) 8) = true then gv (Pr (Xc m c) 8) (.bool ((Xc m c) 9)) else .bool false) = .bool ((Pr (Xc m c) 8) && (Xc m c) 9)
    cases (Pr (Xc m c) 8) <;> rfl
  refine run_quiet eo (Or.inl ⟨wanted_none (by kernel_rfl), fun W' hW' => ?_⟩) hS hK
  rw [ex_pick (P := Tryz.prog) (ρ := a.eval) (W := W') (o := opAt 94) (c := .tmp 98) (x := .tmp 106) (y := .const (.bool false)) (b := (Pr (Xc m c) 8)) (by kernel_rfl) (eval_tmp s1), ev]; rfl

set_option maxRecDepth 100000 in
theorem ob_95 {w : World} {c : Cm} {cv vv fv ea wa : Value} {m : Int} {a0 : Act} {Q : Exit → Act → World → Prop} : Ob w c cv vv fv ea wa m a0 Q 95 := by
  intro o listed a W ho hd hl hS K hK
  have eo : rops[95]? = some (opAt 95) := by kernel_rfl
  obtain rfl : o = opAt 95 := Option.some.inj (ho.symm.trans eo)
  have s1 := hd.slot hl 94 107 (by kernel_rfl) (by kernel_rfl) (by kernel_rfl)
  refine run_quiet eo (Or.inl ⟨wanted_none (by kernel_rfl), fun W' hW' => ?_⟩) hS hK
  exact ex_move (x := .tmp 107) (by kernel_rfl) (eval_tmp s1)

set_option maxRecDepth 100000 in
theorem ob_96 {w : World} {c : Cm} {cv vv fv ea wa : Value} {m : Int} {a0 : Act} {Q : Exit → Act → World → Prop} (h5 : a0.tmps[5]? = some (.func (.func 71) #[] #[.pointer (some ⟨w.heap.size + 1, 0, none⟩)])) : Ob w c cv vv fv ea wa m a0 Q 96 := by
  intro o listed a W ho hd hl hS K hK
  have eo : rops[96]? = some (opAt 96) := by kernel_rfl
  obtain rfl : o = opAt 96 := Option.some.inj (ho.symm.trans eo)
  have sg := hd.slot hl 95 108 (by kernel_rfl) (by kernel_rfl) (by kernel_rfl)
  have hw := wanted_some (o := opAt 96) (ops := rops) (g := 95) (b := true) (c := (Pr (Xc m c) 9)) (by kernel_rfl) (by kernel_rfl) sg
  cases hp : (Pr (Xc m c) 9) with
  | false =>
    rw [hp] at hw
    exact run_quiet eo (Or.inr ⟨hw, by show gv (Pr (Xc m c) 9) _ = undef; rw [hp]; rfl⟩) hS hK
  | true =>
    rw [hp] at hw
    have hV : VV w c cv vv fv ea wa m 96 = .func (.func 71) #[] #[.pointer (some ⟨w.heap.size + 1, 0, none⟩)] := by show gv (Pr (Xc m c) 9) _ = _; rw [hp]; rfl
    rw [hV] at hK
    refine run_quiet eo (Or.inl ⟨hw, fun W' hW' => ?_⟩) hS hK
    exact ex_move (x := .tmp 5) (by kernel_rfl) (eval_tmp ((hd.base 5 (by kernel_rfl)).trans h5))

set_option maxRecDepth 100000 in
theorem ob_97 {w : World} {c : Cm} {cv vv fv ea wa : Value} {m : Int} {a0 : Act} {Q : Exit → Act → World → Prop} (h1 : a0.tmps[1]? = some (.pointer (some ⟨w.heap.size, 0, none⟩))) : Ob w c cv vv fv ea wa m a0 Q 97 := by
  intro o listed a W ho hd hl hS K hK
  have eo : rops[97]? = some (opAt 97) := by kernel_rfl
  obtain rfl : o = opAt 97 := Option.some.inj (ho.symm.trans eo)
  have sg := hd.slot hl 95 108 (by kernel_rfl) (by kernel_rfl) (by kernel_rfl)
  have hw := wanted_some (o := opAt 97) (ops := rops) (g := 95) (b := true) (c := (Pr (Xc m c) 9)) (by kernel_rfl) (by kernel_rfl) sg
  cases hp : (Pr (Xc m c) 9) with
  | false =>
    rw [hp] at hw
    exact run_quiet eo (Or.inr ⟨hw, by show gv (Pr (Xc m c) 9) _ = undef; rw [hp]; rfl⟩) hS hK
  | true =>
    rw [hp] at hw
    have hV : VV w c cv vv fv ea wa m 97 = .pointer (some ⟨w.heap.size, 17, none⟩) := by show gv (Pr (Xc m c) 9) _ = _; rw [hp]; rfl
    rw [hV] at hK
    refine run_quiet eo (Or.inl ⟨hw, fun W' hW' => ?_⟩) hS hK
    exact ex_field (x := .tmp 1) (t := 31) (f := 10) (by kernel_rfl) (eval_tmp ((hd.base 1 (by kernel_rfl)).trans h1)) (fa10 W' _)

set_option maxRecDepth 100000 in
theorem ob_98 {w : World} {c : Cm} {cv vv fv ea wa : Value} {m : Int} {a0 : Act} {Q : Exit → Act → World → Prop} : Ob w c cv vv fv ea wa m a0 Q 98 := by
  intro o listed a W ho hd hl hS K hK
  have eo : rops[98]? = some (opAt 98) := by kernel_rfl
  obtain rfl : o = opAt 98 := Option.some.inj (ho.symm.trans eo)
  have sg := hd.slot hl 95 108 (by kernel_rfl) (by kernel_rfl) (by kernel_rfl)
  have hw := wanted_some (o := opAt 98) (ops := rops) (g := 95) (b := true) (c := (Pr (Xc m c) 9)) (by kernel_rfl) (by kernel_rfl) sg
  have s1 := hd.slot hl 97 110 (by kernel_rfl) (by kernel_rfl) (by kernel_rfl)
  cases hp : (Pr (Xc m c) 9) with
  | false =>
    rw [hp] at hw
    exact run_quiet eo (Or.inr ⟨hw, by show gv (Pr (Xc m c) 9) _ = undef; rw [hp]; rfl⟩) hS hK
  | true =>
    rw [hp] at hw
    have hV : VV w c cv vv fv ea wa m 98 = .bool c.all := by show gv (Pr (Xc m c) 9) _ = _; rw [hp]; rfl
    rw [hV] at hK
    replace s1 : a.tmps[110]? = some (.pointer (some ⟨w.heap.size, 17, none⟩)) := s1.trans (by show some (gv (Pr (Xc m c) 9) _) = _; rw [hp]; rfl)
    refine run_quiet eo (Or.inl ⟨hw, fun W' hW' => ?_⟩) hS hK
    exact ex_load (x := .tmp 110) (t := 4) (by kernel_rfl) (eval_tmp s1) (ld4 W' _ 17 _ (hW'.1 17 _ rfl))

set_option maxRecDepth 100000 in
theorem ob_99 {w : World} {c : Cm} {cv vv fv ea wa : Value} {m : Int} {a0 : Act} {Q : Exit → Act → World → Prop} (h1 : a0.tmps[1]? = some (.pointer (some ⟨w.heap.size, 0, none⟩))) : Ob w c cv vv fv ea wa m a0 Q 99 := by
  intro o listed a W ho hd hl hS K hK
  have eo : rops[99]? = some (opAt 99) := by kernel_rfl
  obtain rfl : o = opAt 99 := Option.some.inj (ho.symm.trans eo)
  have sg := hd.slot hl 95 108 (by kernel_rfl) (by kernel_rfl) (by kernel_rfl)
  have hw := wanted_some (o := opAt 99) (ops := rops) (g := 95) (b := true) (c := (Pr (Xc m c) 9)) (by kernel_rfl) (by kernel_rfl) sg
  cases hp : (Pr (Xc m c) 9) with
  | false =>
    rw [hp] at hw
    exact run_quiet eo (Or.inr ⟨hw, by show gv (Pr (Xc m c) 9) _ = undef; rw [hp]; rfl⟩) hS hK
  | true =>
    rw [hp] at hw
    have hV : VV w c cv vv fv ea wa m 99 = .pointer (some ⟨w.heap.size, 18, none⟩) := by show gv (Pr (Xc m c) 9) _ = _; rw [hp]; rfl
    rw [hV] at hK
    refine run_quiet eo (Or.inl ⟨hw, fun W' hW' => ?_⟩) hS hK
    exact ex_field (x := .tmp 1) (t := 31) (f := 11) (by kernel_rfl) (eval_tmp ((hd.base 1 (by kernel_rfl)).trans h1)) (fa11 W' _)

set_option maxRecDepth 100000 in
theorem ob_100 {w : World} {c : Cm} {cv vv fv ea wa : Value} {m : Int} {a0 : Act} {Q : Exit → Act → World → Prop} : Ob w c cv vv fv ea wa m a0 Q 100 := by
  intro o listed a W ho hd hl hS K hK
  have eo : rops[100]? = some (opAt 100) := by kernel_rfl
  obtain rfl : o = opAt 100 := Option.some.inj (ho.symm.trans eo)
  have sg := hd.slot hl 95 108 (by kernel_rfl) (by kernel_rfl) (by kernel_rfl)
  have hw := wanted_some (o := opAt 100) (ops := rops) (g := 95) (b := true) (c := (Pr (Xc m c) 9)) (by kernel_rfl) (by kernel_rfl) sg
  have s1 := hd.slot hl 99 112 (by kernel_rfl) (by kernel_rfl) (by kernel_rfl)
  cases hp : (Pr (Xc m c) 9) with
  | false =>
    rw [hp] at hw
    exact run_quiet eo (Or.inr ⟨hw, by show gv (Pr (Xc m c) 9) _ = undef; rw [hp]; rfl⟩) hS hK
  | true =>
    rw [hp] at hw
    have hV : VV w c cv vv fv ea wa m 100 = .agg #[.int .i64 c.wh.k, .int .i64 c.wh.v.k, .int .i64 c.wh.v.n, .string ⟨c.wh.v.s.toArray⟩, .string ⟨c.wh.nm.toArray⟩, wa] := by show gv (Pr (Xc m c) 9) _ = _; rw [hp]; rfl
    rw [hV] at hK
    replace s1 : a.tmps[112]? = some (.pointer (some ⟨w.heap.size, 18, none⟩)) := s1.trans (by show some (gv (Pr (Xc m c) 9) _) = _; rw [hp]; rfl)
    refine run_quiet eo (Or.inl ⟨hw, fun W' hW' => ?_⟩) hS hK
    exact ex_load (x := .tmp 112) (t := 29) (by kernel_rfl) (eval_tmp s1) (ld29 W' _ 18 _ _ _ _ _ _ (hW'.1 18 _ rfl) (hW'.1 19 _ rfl) (hW'.1 20 _ rfl) (hW'.1 21 _ rfl) (hW'.1 22 _ rfl) (hW'.1 23 _ rfl))

set_option maxRecDepth 100000 in
theorem ob_101 {w : World} {c : Cm} {cv vv fv ea wa : Value} {m : Int} {a0 : Act} {Q : Exit → Act → World → Prop} (hc : Cals w c cv vv fv ea wa m) : Ob w c cv vv fv ea wa m a0 Q 101 := by
  intro o listed a W ho hd hl hS K hK
  have eo : rops[101]? = some (opAt 101) := by kernel_rfl
  obtain rfl : o = opAt 101 := Option.some.inj (ho.symm.trans eo)
  have sg := hd.slot hl 95 108 (by kernel_rfl) (by kernel_rfl) (by kernel_rfl)
  have hw := wanted_some (o := opAt 101) (ops := rops) (g := 95) (b := true) (c := (Pr (Xc m c) 9)) (by kernel_rfl) (by kernel_rfl) sg
  have s1 := hd.slot hl 98 111 (by kernel_rfl) (by kernel_rfl) (by kernel_rfl)
  have s2 := hd.slot hl 100 113 (by kernel_rfl) (by kernel_rfl) (by kernel_rfl)
  cases hp : (Pr (Xc m c) 9) with
  | false =>
    rw [hp] at hw
    exact run_quiet eo (Or.inr ⟨hw, by show gv (Pr (Xc m c) 9) _ = undef; rw [hp]; rfl⟩) hS hK
  | true =>
    rw [hp] at hw
    have hV : VV w c cv vv fv ea wa m 101 = .bool (whereB c.all c.wh) := by show gv (Pr (Xc m c) 9) _ = _; rw [hp]; rfl
    rw [hV] at hK
    replace s1 : a.tmps[111]? = some (.bool c.all) := s1.trans (by show some (gv (Pr (Xc m c) 9) _) = _; rw [hp]; rfl)
    replace s2 : a.tmps[113]? = some (.agg #[.int .i64 c.wh.k, .int .i64 c.wh.v.k, .int .i64 c.wh.v.n, .string ⟨c.wh.v.s.toArray⟩, .string ⟨c.wh.nm.toArray⟩, wa]) := s2.trans (by show some (gv (Pr (Xc m c) 9) _) = _; rw [hp]; rfl)
    exact run_call 80 #[.bool c.all, .agg #[.int .i64 c.wh.k, .int .i64 c.wh.v.k, .int .i64 c.wh.v.n, .string ⟨c.wh.v.s.toArray⟩, .string ⟨c.wh.nm.toArray⟩, wa]] eo hw (ex_call2 (ts := #[4, 29]) (x := .tmp 111) (y := .tmp 113) (f := 80) cf80 (by kernel_rfl) rfl (eval_tmp s1) (eval_tmp s2)) ((hc.q10 W hS).mono fun e w' h => ⟨h.1, hS.below h.2⟩) hK

set_option maxRecDepth 100000 in
theorem ob_102 {w : World} {c : Cm} {cv vv fv ea wa : Value} {m : Int} {a0 : Act} {Q : Exit → Act → World → Prop} (h1 : a0.tmps[1]? = some (.pointer (some ⟨w.heap.size, 0, none⟩))) : Ob w c cv vv fv ea wa m a0 Q 102 := by
  intro o listed a W ho hd hl hS K hK
  have eo : rops[102]? = some (opAt 102) := by kernel_rfl
  obtain rfl : o = opAt 102 := Option.some.inj (ho.symm.trans eo)
  have sg := hd.slot hl 95 108 (by kernel_rfl) (by kernel_rfl) (by kernel_rfl)
  have hw := wanted_some (o := opAt 102) (ops := rops) (g := 95) (b := true) (c := (Pr (Xc m c) 9)) (by kernel_rfl) (by kernel_rfl) sg
  cases hp : (Pr (Xc m c) 9) with
  | false =>
    rw [hp] at hw
    exact run_quiet eo (Or.inr ⟨hw, by show gv (Pr (Xc m c) 9) _ = undef; rw [hp]; rfl⟩) hS hK
  | true =>
    rw [hp] at hw
    have hV : VV w c cv vv fv ea wa m 102 = .pointer (some ⟨w.heap.size, 17, none⟩) := by show gv (Pr (Xc m c) 9) _ = _; rw [hp]; rfl
    rw [hV] at hK
    refine run_quiet eo (Or.inl ⟨hw, fun W' hW' => ?_⟩) hS hK
    exact ex_field (x := .tmp 1) (t := 31) (f := 10) (by kernel_rfl) (eval_tmp ((hd.base 1 (by kernel_rfl)).trans h1)) (fa10 W' _)

set_option maxRecDepth 100000 in
theorem ob_103 {w : World} {c : Cm} {cv vv fv ea wa : Value} {m : Int} {a0 : Act} {Q : Exit → Act → World → Prop} : Ob w c cv vv fv ea wa m a0 Q 103 := by
  intro o listed a W ho hd hl hS K hK
  have eo : rops[103]? = some (opAt 103) := by kernel_rfl
  obtain rfl : o = opAt 103 := Option.some.inj (ho.symm.trans eo)
  have sg := hd.slot hl 95 108 (by kernel_rfl) (by kernel_rfl) (by kernel_rfl)
  have hw := wanted_some (o := opAt 103) (ops := rops) (g := 95) (b := true) (c := (Pr (Xc m c) 9)) (by kernel_rfl) (by kernel_rfl) sg
  have s1 := hd.slot hl 102 115 (by kernel_rfl) (by kernel_rfl) (by kernel_rfl)
  cases hp : (Pr (Xc m c) 9) with
  | false =>
    rw [hp] at hw
    exact run_quiet eo (Or.inr ⟨hw, by show gv (Pr (Xc m c) 9) _ = undef; rw [hp]; rfl⟩) hS hK
  | true =>
    rw [hp] at hw
    have hV : VV w c cv vv fv ea wa m 103 = .bool c.all := by show gv (Pr (Xc m c) 9) _ = _; rw [hp]; rfl
    rw [hV] at hK
    replace s1 : a.tmps[115]? = some (.pointer (some ⟨w.heap.size, 17, none⟩)) := s1.trans (by show some (gv (Pr (Xc m c) 9) _) = _; rw [hp]; rfl)
    refine run_quiet eo (Or.inl ⟨hw, fun W' hW' => ?_⟩) hS hK
    exact ex_load (x := .tmp 115) (t := 4) (by kernel_rfl) (eval_tmp s1) (ld4 W' _ 17 _ (hW'.1 17 _ rfl))

set_option maxRecDepth 100000 in
theorem ob_104 {w : World} {c : Cm} {cv vv fv ea wa : Value} {m : Int} {a0 : Act} {Q : Exit → Act → World → Prop} : Ob w c cv vv fv ea wa m a0 Q 104 := by
  intro o listed a W ho hd hl hS K hK
  have eo : rops[104]? = some (opAt 104) := by kernel_rfl
  obtain rfl : o = opAt 104 := Option.some.inj (ho.symm.trans eo)
  have sg := hd.slot hl 95 108 (by kernel_rfl) (by kernel_rfl) (by kernel_rfl)
  have hw := wanted_some (o := opAt 104) (ops := rops) (g := 95) (b := true) (c := (Pr (Xc m c) 9)) (by kernel_rfl) (by kernel_rfl) sg
  have s1 := hd.slot hl 103 116 (by kernel_rfl) (by kernel_rfl) (by kernel_rfl)
  cases hp : (Pr (Xc m c) 9) with
  | false =>
    rw [hp] at hw
    exact run_quiet eo (Or.inr ⟨hw, by show gv (Pr (Xc m c) 9) _ = undef; rw [hp]; rfl⟩) hS hK
  | true =>
    rw [hp] at hw
    have hV : VV w c cv vv fv ea wa m 104 = .bool (!c.all) := by show gv (Pr (Xc m c) 9) _ = _; rw [hp]; rfl
    rw [hV] at hK
    replace s1 : a.tmps[116]? = some (.bool c.all) := s1.trans (by show some (gv (Pr (Xc m c) 9) _) = _; rw [hp]; rfl)
    refine run_quiet eo (Or.inl ⟨hw, fun W' hW' => ?_⟩) hS hK
    exact ex_un (x := .tmp 116) (t := 4) (op := .not) (by kernel_rfl) (eval_tmp s1) (not4 W' _)

set_option maxRecDepth 100000 in
theorem ob_105 {w : World} {c : Cm} {cv vv fv ea wa : Value} {m : Int} {a0 : Act} {Q : Exit → Act → World → Prop} : Ob w c cv vv fv ea wa m a0 Q 105 := by
  intro o listed a W ho hd hl hS K hK
  have eo : rops[105]? = some (opAt 105) := by kernel_rfl
  obtain rfl : o = opAt 105 := Option.some.inj (ho.symm.trans eo)
  have sg := hd.slot hl 95 108 (by kernel_rfl) (by kernel_rfl) (by kernel_rfl)
  have hw := wanted_some (o := opAt 105) (ops := rops) (g := 95) (b := true) (c := (Pr (Xc m c) 9)) (by kernel_rfl) (by kernel_rfl) sg
  have s1 := hd.slot hl 104 117 (by kernel_rfl) (by kernel_rfl) (by kernel_rfl)
  cases hp : (Pr (Xc m c) 9) with
  | false =>
    rw [hp] at hw
    exact run_quiet eo (Or.inr ⟨hw, by show gv (Pr (Xc m c) 9) _ = undef; rw [hp]; rfl⟩) hS hK
  | true =>
    rw [hp] at hw
    have hV : VV w c cv vv fv ea wa m 105 = .bool (!c.all) := by show gv (Pr (Xc m c) 9) _ = _; rw [hp]; rfl
    rw [hV] at hK
    replace s1 : a.tmps[117]? = some (.bool (!c.all)) := s1.trans (by show some (gv (Pr (Xc m c) 9) _) = _; rw [hp]; rfl)
    refine run_quiet eo (Or.inl ⟨hw, fun W' hW' => ?_⟩) hS hK
    exact ex_move (x := .tmp 117) (by kernel_rfl) (eval_tmp s1)

set_option maxRecDepth 100000 in
theorem ob_106 {w : World} {c : Cm} {cv vv fv ea wa : Value} {m : Int} {a0 : Act} {Q : Exit → Act → World → Prop} (h1 : a0.tmps[1]? = some (.pointer (some ⟨w.heap.size, 0, none⟩))) : Ob w c cv vv fv ea wa m a0 Q 106 := by
  intro o listed a W ho hd hl hS K hK
  have eo : rops[106]? = some (opAt 106) := by kernel_rfl
  obtain rfl : o = opAt 106 := Option.some.inj (ho.symm.trans eo)
  have sg := hd.slot hl 105 118 (by kernel_rfl) (by kernel_rfl) (by kernel_rfl)
  cases hp : (Pr (Xc m c) 9) with
  | false =>
    have hw := wanted_undef (o := opAt 106) (ops := rops) (g := 105) (b := true) (by kernel_rfl) (by kernel_rfl) (sg.trans (by show some (gv (Pr (Xc m c) 9) _) = _; rw [hp]; rfl))
    exact run_quiet eo (Or.inr ⟨hw, by show gv ((Pr (Xc m c) 9) && (!c.all)) _ = undef; rw [hp]; rfl⟩) hS hK
  | true =>
    have hw := wanted_some (o := opAt 106) (ops := rops) (g := 105) (b := true) (c := (!c.all)) (by kernel_rfl) (by kernel_rfl) (sg.trans (by show some (gv (Pr (Xc m c) 9) _) = _; rw [hp]; rfl))
    by_cases hj : (!c.all) = true
    case neg =>
      have hj' : (!c.all) = false := by simpa using hj
      rw [hj'] at hw
      exact run_quiet eo (Or.inr ⟨hw, by show gv ((Pr (Xc m c) 9) && (!c.all)) _ = undef; rw [hp, hj']; rfl⟩) hS hK
    case pos =>
    rw [hj] at hw
    have hV : VV w c cv vv fv ea wa m 106 = .pointer (some ⟨w.heap.size, 18, none⟩) := by show gv ((Pr (Xc m c) 9) && (!c.all)) _ = _; rw [hp, hj]; rfl
    rw [hV] at hK
    refine run_quiet eo (Or.inl ⟨hw, fun W' hW' => ?_⟩) hS hK
    exact ex_field (x := .tmp 1) (t := 31) (f := 11) (by kernel_rfl) (eval_tmp ((hd.base 1 (by kernel_rfl)).trans h1)) (fa11 W' _)

set_option maxRecDepth 100000 in
theorem ob_107 {w : World} {c : Cm} {cv vv fv ea wa : Value} {m : Int} {a0 : Act} {Q : Exit → Act → World → Prop} : Ob w c cv vv fv ea wa m a0 Q 107 := by
  intro o listed a W ho hd hl hS K hK
  have eo : rops[107]? = some (opAt 107) := by kernel_rfl
  obtain rfl : o = opAt 107 := Option.some.inj (ho.symm.trans eo)
  have sg := hd.slot hl 105 118 (by kernel_rfl) (by kernel_rfl) (by kernel_rfl)
  have s1 := hd.slot hl 106 119 (by kernel_rfl) (by kernel_rfl) (by kernel_rfl)
  cases hp : (Pr (Xc m c) 9) with
  | false =>
    have hw := wanted_undef (o := opAt 107) (ops := rops) (g := 105) (b := true) (by kernel_rfl) (by kernel_rfl) (sg.trans (by show some (gv (Pr (Xc m c) 9) _) = _; rw [hp]; rfl))
    exact run_quiet eo (Or.inr ⟨hw, by show gv ((Pr (Xc m c) 9) && (!c.all)) _ = undef; rw [hp]; rfl⟩) hS hK
  | true =>
    have hw := wanted_some (o := opAt 107) (ops := rops) (g := 105) (b := true) (c := (!c.all)) (by kernel_rfl) (by kernel_rfl) (sg.trans (by show some (gv (Pr (Xc m c) 9) _) = _; rw [hp]; rfl))
    by_cases hj : (!c.all) = true
    case neg =>
      have hj' : (!c.all) = false := by simpa using hj
      rw [hj'] at hw
      exact run_quiet eo (Or.inr ⟨hw, by show gv ((Pr (Xc m c) 9) && (!c.all)) _ = undef; rw [hp, hj']; rfl⟩) hS hK
    case pos =>
    rw [hj] at hw
    have hV : VV w c cv vv fv ea wa m 107 = .agg #[.int .i64 c.wh.k, .int .i64 c.wh.v.k, .int .i64 c.wh.v.n, .string ⟨c.wh.v.s.toArray⟩, .string ⟨c.wh.nm.toArray⟩, wa] := by show gv ((Pr (Xc m c) 9) && (!c.all)) _ = _; rw [hp, hj]; rfl
    rw [hV] at hK
    replace s1 : a.tmps[119]? = some (.pointer (some ⟨w.heap.size, 18, none⟩)) := s1.trans (by show some (gv ((Pr (Xc m c) 9) && (!c.all)) _) = _; rw [hp, hj]; rfl)
    refine run_quiet eo (Or.inl ⟨hw, fun W' hW' => ?_⟩) hS hK
    exact ex_load (x := .tmp 119) (t := 29) (by kernel_rfl) (eval_tmp s1) (ld29 W' _ 18 _ _ _ _ _ _ (hW'.1 18 _ rfl) (hW'.1 19 _ rfl) (hW'.1 20 _ rfl) (hW'.1 21 _ rfl) (hW'.1 22 _ rfl) (hW'.1 23 _ rfl))

set_option maxRecDepth 100000 in
theorem ob_108 {w : World} {c : Cm} {cv vv fv ea wa : Value} {m : Int} {a0 : Act} {Q : Exit → Act → World → Prop} (hc : Cals w c cv vv fv ea wa m) : Ob w c cv vv fv ea wa m a0 Q 108 := by
  intro o listed a W ho hd hl hS K hK
  have eo : rops[108]? = some (opAt 108) := by kernel_rfl
  obtain rfl : o = opAt 108 := Option.some.inj (ho.symm.trans eo)
  have sg := hd.slot hl 105 118 (by kernel_rfl) (by kernel_rfl) (by kernel_rfl)
  have s1 := hd.slot hl 107 120 (by kernel_rfl) (by kernel_rfl) (by kernel_rfl)
  cases hp : (Pr (Xc m c) 9) with
  | false =>
    have hw := wanted_undef (o := opAt 108) (ops := rops) (g := 105) (b := true) (by kernel_rfl) (by kernel_rfl) (sg.trans (by show some (gv (Pr (Xc m c) 9) _) = _; rw [hp]; rfl))
    exact run_quiet eo (Or.inr ⟨hw, by show gv ((Pr (Xc m c) 9) && (!c.all)) _ = undef; rw [hp]; rfl⟩) hS hK
  | true =>
    have hw := wanted_some (o := opAt 108) (ops := rops) (g := 105) (b := true) (c := (!c.all)) (by kernel_rfl) (by kernel_rfl) (sg.trans (by show some (gv (Pr (Xc m c) 9) _) = _; rw [hp]; rfl))
    by_cases hj : (!c.all) = true
    case neg =>
      have hj' : (!c.all) = false := by simpa using hj
      rw [hj'] at hw
      exact run_quiet eo (Or.inr ⟨hw, by show gv ((Pr (Xc m c) 9) && (!c.all)) _ = undef; rw [hp, hj']; rfl⟩) hS hK
    case pos =>
    rw [hj] at hw
    have hV : VV w c cv vv fv ea wa m 108 = .bool (noneE c.wh) := by show gv ((Pr (Xc m c) 9) && (!c.all)) _ = _; rw [hp, hj]; rfl
    rw [hV] at hK
    replace s1 : a.tmps[120]? = some (.agg #[.int .i64 c.wh.k, .int .i64 c.wh.v.k, .int .i64 c.wh.v.n, .string ⟨c.wh.v.s.toArray⟩, .string ⟨c.wh.nm.toArray⟩, wa]) := s1.trans (by show some (gv ((Pr (Xc m c) 9) && (!c.all)) _) = _; rw [hp, hj]; rfl)
    exact run_call 79 #[.agg #[.int .i64 c.wh.k, .int .i64 c.wh.v.k, .int .i64 c.wh.v.n, .string ⟨c.wh.v.s.toArray⟩, .string ⟨c.wh.nm.toArray⟩, wa]] eo hw (ex_call1 (ts := #[29]) (x := .tmp 120) (f := 79) cf79 (by kernel_rfl) rfl (eval_tmp s1)) ((hc.n10 W hS).mono fun e w' h => ⟨h.1, hS.below h.2⟩) hK

set_option maxRecDepth 100000 in
theorem ob_109 {w : World} {c : Cm} {cv vv fv ea wa : Value} {m : Int} {a0 : Act} {Q : Exit → Act → World → Prop} : Ob w c cv vv fv ea wa m a0 Q 109 := by
  intro o listed a W ho hd hl hS K hK
  have eo : rops[109]? = some (opAt 109) := by kernel_rfl
  obtain rfl : o = opAt 109 := Option.some.inj (ho.symm.trans eo)
  have sg := hd.slot hl 95 108 (by kernel_rfl) (by kernel_rfl) (by kernel_rfl)
  have hw := wanted_some (o := opAt 109) (ops := rops) (g := 95) (b := true) (c := (Pr (Xc m c) 9)) (by kernel_rfl) (by kernel_rfl) sg
  have s1 := hd.slot hl 105 118 (by kernel_rfl) (by kernel_rfl) (by kernel_rfl)
  have s2 := hd.slot hl 108 121 (by kernel_rfl) (by kernel_rfl) (by kernel_rfl)
  cases hp : (Pr (Xc m c) 9) with
  | false =>
    rw [hp] at hw
    exact run_quiet eo (Or.inr ⟨hw, by show gv (Pr (Xc m c) 9) _ = undef; rw [hp]; rfl⟩) hS hK
  | true =>
    rw [hp] at hw
    have hV : VV w c cv vv fv ea wa m 109 = .bool (!c.all && noneE c.wh) := by show gv (Pr (Xc m c) 9) _ = _; rw [hp]; rfl
    rw [hV] at hK
    replace s1 : a.tmps[118]? = some (.bool (!c.all)) := s1.trans (by show some (gv (Pr (Xc m c) 9) _) = _; rw [hp]; rfl)
    refine run_quiet eo (Or.inl ⟨hw, fun W' hW' => ?_⟩) hS hK
    have ev : (if (!c.all) = true then a.eval (.tmp 121) else a.eval (.const (.bool false))) = .bool (!c.all && noneE c.wh) := by
      rw [eval_tmp (s2.trans (show some (gv ((Pr (Xc m c) 9) && (!c.all)) (.bool (noneE c.wh))) = some (gv (!c.all) (.bool (noneE c.wh))) by rw [hp]; rfl))]
      cases c.all <;> rfl
    rw [ex_pick (P := Tryz.prog) (ρ := a.eval) (W := W') (o := opAt 109) (c := .tmp 118) (x := .tmp 121) (y := .const (.bool false)) (b := (!c.all)) (by kernel_rfl) (eval_tmp s1), ev]

set_option maxRecDepth 100000 in
theorem ob_110 {w : World} {c : Cm} {cv vv fv ea wa : Value} {m : Int} {a0 : Act} {Q : Exit → Act → World → Prop} : Ob w c cv vv fv ea wa m a0 Q 110 := by
  intro o listed a W ho hd hl hS K hK
  have eo : rops[110]? = some (opAt 110) := by kernel_rfl
  obtain rfl : o = opAt 110 := Option.some.inj (ho.symm.trans eo)
  have sg := hd.slot hl 95 108 (by kernel_rfl) (by kernel_rfl) (by kernel_rfl)
  have hw := wanted_some (o := opAt 110) (ops := rops) (g := 95) (b := true) (c := (Pr (Xc m c) 9)) (by kernel_rfl) (by kernel_rfl) sg
  have s1 := hd.slot hl 96 109 (by kernel_rfl) (by kernel_rfl) (by kernel_rfl)
  have s2 := hd.slot hl 101 114 (by kernel_rfl) (by kernel_rfl) (by kernel_rfl)
  have s3 := hd.slot hl 109 122 (by kernel_rfl) (by kernel_rfl) (by kernel_rfl)
  cases hp : (Pr (Xc m c) 9) with
  | false =>
    rw [hp] at hw
    exact run_quiet eo (Or.inr ⟨hw, by show gv (Pr (Xc m c) 9) _ = undef; rw [hp]; rfl⟩) hS hK
  | true =>
    rw [hp] at hw
    have hV : VV w c cv vv fv ea wa m 110 = .bool ((Xc m c) 10) := by show gv (Pr (Xc m c) 9) _ = _; rw [hp]; rfl
    rw [hV] at hK
    replace s1 : a.tmps[109]? = some (.func (.func 71) #[] #[.pointer (some ⟨w.heap.size + 1, 0, none⟩)]) := s1.trans (by show some (gv (Pr (Xc m c) 9) _) = _; rw [hp]; rfl)
    replace s2 : a.tmps[114]? = some (.bool (whereB c.all c.wh)) := s2.trans (by show some (gv (Pr (Xc m c) 9) _) = _; rw [hp]; rfl)
    replace s3 : a.tmps[122]? = some (.bool (!c.all && noneE c.wh)) := s3.trans (by show some (gv (Pr (Xc m c) 9) _) = _; rw [hp]; rfl)
    refine run_call 71 #[.int .i64 512, .bool (whereB c.all c.wh), .bool (!c.all && noneE c.wh), .pointer (some ⟨w.heap.size + 1, 0, none⟩)] eo hw (ex_is (ts := #[3, 4, 4]) (t := .tmp 109) (x := .const (.int .i64 512)) (y := .tmp 114) (z := .tmp 122) (f := 71) cf71 (by kernel_rfl) (eval_tmp s1) rfl (eval_tmp s2) (eval_tmp s3)) ((is_any m 512 (whereB c.all c.wh) (!c.all && noneE c.wh) _ W hS.2.1).mono fun e w' h => ⟨h.1, h.2 ▸ hS⟩) hK

set_option maxRecDepth 100000 in
theorem ob_111 {w : World} {c : Cm} {cv vv fv ea wa : Value} {m : Int} {a0 : Act} {Q : Exit → Act → World → Prop} : Ob w c cv vv fv ea wa m a0 Q 111 := by
  intro o listed a W ho hd hl hS K hK
  have eo : rops[111]? = some (opAt 111) := by kernel_rfl
  obtain rfl : o = opAt 111 := Option.some.inj (ho.symm.trans eo)
  have s1 := hd.slot hl 95 108 (by kernel_rfl) (by kernel_rfl) (by kernel_rfl)
  have s2 := hd.slot hl 110 123 (by kernel_rfl) (by kernel_rfl) (by kernel_rfl)
  have ev : (if (Pr (Xc m c) 9) = true then a.eval (.tmp 123) else a.eval (.const (.bool false))) = .bool (Pr (Xc m c) 10) := by
    rw [eval_tmp s2]
    show (if (Pr (Xc m c) 9) = true then gv (Pr (Xc m c) 9) (.bool ((Xc m c) 10)) else .bool false) = .bool ((Pr (Xc m c) 9) && (Xc m c) 10)
    cases (Pr (Xc m c) 9) <;> rfl
  refine run_quiet eo (Or.inl ⟨wanted_none (by kernel_rfl), fun W' hW' => ?_⟩) hS hK
  rw [ex_pick (P := Tryz.prog) (ρ := a.eval) (W := W') (o := opAt 111) (c := .tmp 108) (x := .tmp 123) (y := .const (.bool false)) (b := (Pr (Xc m c) 9)) (by kernel_rfl) (eval_tmp s1), ev]; rfl

set_option maxRecDepth 100000 in
theorem ob_112 {w : World} {c : Cm} {cv vv fv ea wa : Value} {m : Int} {a0 : Act} {Q : Exit → Act → World → Prop} : Ob w c cv vv fv ea wa m a0 Q 112 := by
  intro o listed a W ho hd hl hS K hK
  have eo : rops[112]? = some (opAt 112) := by kernel_rfl
  obtain rfl : o = opAt 112 := Option.some.inj (ho.symm.trans eo)
  have s1 := hd.slot hl 111 124 (by kernel_rfl) (by kernel_rfl) (by kernel_rfl)
  refine run_quiet eo (Or.inl ⟨wanted_none (by kernel_rfl), fun W' hW' => ?_⟩) hS hK
  exact ex_move (x := .tmp 124) (by kernel_rfl) (eval_tmp s1)

set_option maxRecDepth 100000 in
theorem ob_113 {w : World} {c : Cm} {cv vv fv ea wa : Value} {m : Int} {a0 : Act} {Q : Exit → Act → World → Prop} (h5 : a0.tmps[5]? = some (.func (.func 71) #[] #[.pointer (some ⟨w.heap.size + 1, 0, none⟩)])) : Ob w c cv vv fv ea wa m a0 Q 113 := by
  intro o listed a W ho hd hl hS K hK
  have eo : rops[113]? = some (opAt 113) := by kernel_rfl
  obtain rfl : o = opAt 113 := Option.some.inj (ho.symm.trans eo)
  have sg := hd.slot hl 112 125 (by kernel_rfl) (by kernel_rfl) (by kernel_rfl)
  have hw := wanted_some (o := opAt 113) (ops := rops) (g := 112) (b := true) (c := (Pr (Xc m c) 10)) (by kernel_rfl) (by kernel_rfl) sg
  cases hp : (Pr (Xc m c) 10) with
  | false =>
    rw [hp] at hw
    exact run_quiet eo (Or.inr ⟨hw, by show gv (Pr (Xc m c) 10) _ = undef; rw [hp]; rfl⟩) hS hK
  | true =>
    rw [hp] at hw
    have hV : VV w c cv vv fv ea wa m 113 = .func (.func 71) #[] #[.pointer (some ⟨w.heap.size + 1, 0, none⟩)] := by show gv (Pr (Xc m c) 10) _ = _; rw [hp]; rfl
    rw [hV] at hK
    refine run_quiet eo (Or.inl ⟨hw, fun W' hW' => ?_⟩) hS hK
    exact ex_move (x := .tmp 5) (by kernel_rfl) (eval_tmp ((hd.base 5 (by kernel_rfl)).trans h5))

set_option maxRecDepth 100000 in
theorem ob_114 {w : World} {c : Cm} {cv vv fv ea wa : Value} {m : Int} {a0 : Act} {Q : Exit → Act → World → Prop} (h1 : a0.tmps[1]? = some (.pointer (some ⟨w.heap.size, 0, none⟩))) : Ob w c cv vv fv ea wa m a0 Q 114 := by
  intro o listed a W ho hd hl hS K hK
  have eo : rops[114]? = some (opAt 114) := by kernel_rfl
  obtain rfl : o = opAt 114 := Option.some.inj (ho.symm.trans eo)
  have sg := hd.slot hl 112 125 (by kernel_rfl) (by kernel_rfl) (by kernel_rfl)
  have hw := wanted_some (o := opAt 114) (ops := rops) (g := 112) (b := true) (c := (Pr (Xc m c) 10)) (by kernel_rfl) (by kernel_rfl) sg
  cases hp : (Pr (Xc m c) 10) with
  | false =>
    rw [hp] at hw
    exact run_quiet eo (Or.inr ⟨hw, by show gv (Pr (Xc m c) 10) _ = undef; rw [hp]; rfl⟩) hS hK
  | true =>
    rw [hp] at hw
    have hV : VV w c cv vv fv ea wa m 114 = .pointer (some ⟨w.heap.size, 24, none⟩) := by show gv (Pr (Xc m c) 10) _ = _; rw [hp]; rfl
    rw [hV] at hK
    refine run_quiet eo (Or.inl ⟨hw, fun W' hW' => ?_⟩) hS hK
    exact ex_field (x := .tmp 1) (t := 31) (f := 12) (by kernel_rfl) (eval_tmp ((hd.base 1 (by kernel_rfl)).trans h1)) (fa12 W' _)

set_option maxRecDepth 100000 in
theorem ob_115 {w : World} {c : Cm} {cv vv fv ea wa : Value} {m : Int} {a0 : Act} {Q : Exit → Act → World → Prop} : Ob w c cv vv fv ea wa m a0 Q 115 := by
  intro o listed a W ho hd hl hS K hK
  have eo : rops[115]? = some (opAt 115) := by kernel_rfl
  obtain rfl : o = opAt 115 := Option.some.inj (ho.symm.trans eo)
  have sg := hd.slot hl 112 125 (by kernel_rfl) (by kernel_rfl) (by kernel_rfl)
  have hw := wanted_some (o := opAt 115) (ops := rops) (g := 112) (b := true) (c := (Pr (Xc m c) 10)) (by kernel_rfl) (by kernel_rfl) sg
  have s1 := hd.slot hl 114 127 (by kernel_rfl) (by kernel_rfl) (by kernel_rfl)
  cases hp : (Pr (Xc m c) 10) with
  | false =>
    rw [hp] at hw
    exact run_quiet eo (Or.inr ⟨hw, by show gv (Pr (Xc m c) 10) _ = undef; rw [hp]; rfl⟩) hS hK
  | true =>
    rw [hp] at hw
    have hV : VV w c cv vv fv ea wa m 115 = .string ⟨c.order.toArray⟩ := by show gv (Pr (Xc m c) 10) _ = _; rw [hp]; rfl
    rw [hV] at hK
    replace s1 : a.tmps[127]? = some (.pointer (some ⟨w.heap.size, 24, none⟩)) := s1.trans (by show some (gv (Pr (Xc m c) 10) _) = _; rw [hp]; rfl)
    refine run_quiet eo (Or.inl ⟨hw, fun W' hW' => ?_⟩) hS hK
    exact ex_load (x := .tmp 127) (t := 9) (by kernel_rfl) (eval_tmp s1) (ld9 W' _ 24 _ (hW'.1 24 _ rfl))

set_option maxRecDepth 100000 in
theorem ob_116 {w : World} {c : Cm} {cv vv fv ea wa : Value} {m : Int} {a0 : Act} {Q : Exit → Act → World → Prop} : Ob w c cv vv fv ea wa m a0 Q 116 := by
  intro o listed a W ho hd hl hS K hK
  have eo : rops[116]? = some (opAt 116) := by kernel_rfl
  obtain rfl : o = opAt 116 := Option.some.inj (ho.symm.trans eo)
  have sg := hd.slot hl 112 125 (by kernel_rfl) (by kernel_rfl) (by kernel_rfl)
  have hw := wanted_some (o := opAt 116) (ops := rops) (g := 112) (b := true) (c := (Pr (Xc m c) 10)) (by kernel_rfl) (by kernel_rfl) sg
  have s1 := hd.slot hl 115 128 (by kernel_rfl) (by kernel_rfl) (by kernel_rfl)
  cases hp : (Pr (Xc m c) 10) with
  | false =>
    rw [hp] at hw
    exact run_quiet eo (Or.inr ⟨hw, by show gv (Pr (Xc m c) 10) _ = undef; rw [hp]; rfl⟩) hS hK
  | true =>
    rw [hp] at hw
    have hV : VV w c cv vv fv ea wa m 116 = .bool (decide (c.order = [])) := by show gv (Pr (Xc m c) 10) _ = _; rw [hp]; rfl
    rw [hV] at hK
    replace s1 : a.tmps[128]? = some (.string ⟨c.order.toArray⟩) := s1.trans (by show some (gv (Pr (Xc m c) 10) _) = _; rw [hp]; rfl)
    refine run_quiet eo (Or.inl ⟨hw, fun W' hW' => ?_⟩) hS hK
    exact ex_bin (u := 9) (x := .tmp 128) (y := .const (.string ⟨#[]⟩)) (by kernel_rfl) (eval_tmp s1) rfl (eq9 W' _ _ _)

set_option maxRecDepth 100000 in
theorem ob_117 {w : World} {c : Cm} {cv vv fv ea wa : Value} {m : Int} {a0 : Act} {Q : Exit → Act → World → Prop} : Ob w c cv vv fv ea wa m a0 Q 117 := by
  intro o listed a W ho hd hl hS K hK
  have eo : rops[117]? = some (opAt 117) := by kernel_rfl
  obtain rfl : o = opAt 117 := Option.some.inj (ho.symm.trans eo)
  have sg := hd.slot hl 112 125 (by kernel_rfl) (by kernel_rfl) (by kernel_rfl)
  have hw := wanted_some (o := opAt 117) (ops := rops) (g := 112) (b := true) (c := (Pr (Xc m c) 10)) (by kernel_rfl) (by kernel_rfl) sg
  have s1 := hd.slot hl 116 129 (by kernel_rfl) (by kernel_rfl) (by kernel_rfl)
  cases hp : (Pr (Xc m c) 10) with
  | false =>
    rw [hp] at hw
    exact run_quiet eo (Or.inr ⟨hw, by show gv (Pr (Xc m c) 10) _ = undef; rw [hp]; rfl⟩) hS hK
  | true =>
    rw [hp] at hw
    have hV : VV w c cv vv fv ea wa m 117 = .bool (decide (c.order = [])) := by show gv (Pr (Xc m c) 10) _ = _; rw [hp]; rfl
    rw [hV] at hK
    replace s1 : a.tmps[129]? = some (.bool (decide (c.order = []))) := s1.trans (by show some (gv (Pr (Xc m c) 10) _) = _; rw [hp]; rfl)
    refine run_quiet eo (Or.inl ⟨hw, fun W' hW' => ?_⟩) hS hK
    exact ex_move (x := .tmp 129) (by kernel_rfl) (eval_tmp s1)

set_option maxRecDepth 100000 in
theorem ob_118 {w : World} {c : Cm} {cv vv fv ea wa : Value} {m : Int} {a0 : Act} {Q : Exit → Act → World → Prop} (h1 : a0.tmps[1]? = some (.pointer (some ⟨w.heap.size, 0, none⟩))) : Ob w c cv vv fv ea wa m a0 Q 118 := by
  intro o listed a W ho hd hl hS K hK
  have eo : rops[118]? = some (opAt 118) := by kernel_rfl
  obtain rfl : o = opAt 118 := Option.some.inj (ho.symm.trans eo)
  have sg := hd.slot hl 117 130 (by kernel_rfl) (by kernel_rfl) (by kernel_rfl)
  cases hp : (Pr (Xc m c) 10) with
  | false =>
    have hw := wanted_undef (o := opAt 118) (ops := rops) (g := 117) (b := false) (by kernel_rfl) (by kernel_rfl) (sg.trans (by show some (gv (Pr (Xc m c) 10) _) = _; rw [hp]; rfl))
    exact run_quiet eo (Or.inr ⟨hw, by show gv ((Pr (Xc m c) 10) && (!(decide (c.order = [])))) _ = undef; rw [hp]; rfl⟩) hS hK
  | true =>
    have hw := wanted_some (o := opAt 118) (ops := rops) (g := 117) (b := false) (c := (decide (c.order = []))) (by kernel_rfl) (by kernel_rfl) (sg.trans (by show some (gv (Pr (Xc m c) 10) _) = _; rw [hp]; rfl))
    by_cases hj : (decide (c.order = [])) = false
    case neg =>
      have hj' : (decide (c.order = [])) = true := by simpa using hj
      rw [hj'] at hw
      exact run_quiet eo (Or.inr ⟨hw, by show gv ((Pr (Xc m c) 10) && (!(decide (c.order = [])))) _ = undef; rw [hp, hj']; rfl⟩) hS hK
    case pos =>
    rw [hj] at hw
    have hV : VV w c cv vv fv ea wa m 118 = .pointer (some ⟨w.heap.size, 24, none⟩) := by show gv ((Pr (Xc m c) 10) && (!(decide (c.order = [])))) _ = _; rw [hp, hj]; rfl
    rw [hV] at hK
    refine run_quiet eo (Or.inl ⟨hw, fun W' hW' => ?_⟩) hS hK
    exact ex_field (x := .tmp 1) (t := 31) (f := 12) (by kernel_rfl) (eval_tmp ((hd.base 1 (by kernel_rfl)).trans h1)) (fa12 W' _)

set_option maxRecDepth 100000 in
theorem ob_119 {w : World} {c : Cm} {cv vv fv ea wa : Value} {m : Int} {a0 : Act} {Q : Exit → Act → World → Prop} : Ob w c cv vv fv ea wa m a0 Q 119 := by
  intro o listed a W ho hd hl hS K hK
  have eo : rops[119]? = some (opAt 119) := by kernel_rfl
  obtain rfl : o = opAt 119 := Option.some.inj (ho.symm.trans eo)
  have sg := hd.slot hl 117 130 (by kernel_rfl) (by kernel_rfl) (by kernel_rfl)
  have s1 := hd.slot hl 118 131 (by kernel_rfl) (by kernel_rfl) (by kernel_rfl)
  cases hp : (Pr (Xc m c) 10) with
  | false =>
    have hw := wanted_undef (o := opAt 119) (ops := rops) (g := 117) (b := false) (by kernel_rfl) (by kernel_rfl) (sg.trans (by show some (gv (Pr (Xc m c) 10) _) = _; rw [hp]; rfl))
    exact run_quiet eo (Or.inr ⟨hw, by show gv ((Pr (Xc m c) 10) && (!(decide (c.order = [])))) _ = undef; rw [hp]; rfl⟩) hS hK
  | true =>
    have hw := wanted_some (o := opAt 119) (ops := rops) (g := 117) (b := false) (c := (decide (c.order = []))) (by kernel_rfl) (by kernel_rfl) (sg.trans (by show some (gv (Pr (Xc m c) 10) _) = _; rw [hp]; rfl))
    by_cases hj : (decide (c.order = [])) = false
    case neg =>
      have hj' : (decide (c.order = [])) = true := by simpa using hj
      rw [hj'] at hw
      exact run_quiet eo (Or.inr ⟨hw, by show gv ((Pr (Xc m c) 10) && (!(decide (c.order = [])))) _ = undef; rw [hp, hj']; rfl⟩) hS hK
    case pos =>
    rw [hj] at hw
    have hV : VV w c cv vv fv ea wa m 119 = .string ⟨c.order.toArray⟩ := by show gv ((Pr (Xc m c) 10) && (!(decide (c.order = [])))) _ = _; rw [hp, hj]; rfl
    rw [hV] at hK
    replace s1 : a.tmps[131]? = some (.pointer (some ⟨w.heap.size, 24, none⟩)) := s1.trans (by show some (gv ((Pr (Xc m c) 10) && (!(decide (c.order = [])))) _) = _; rw [hp, hj]; rfl)
    refine run_quiet eo (Or.inl ⟨hw, fun W' hW' => ?_⟩) hS hK
    exact ex_load (x := .tmp 131) (t := 9) (by kernel_rfl) (eval_tmp s1) (ld9 W' _ 24 _ (hW'.1 24 _ rfl))

set_option maxRecDepth 100000 in
theorem ob_120 {w : World} {c : Cm} {cv vv fv ea wa : Value} {m : Int} {a0 : Act} {Q : Exit → Act → World → Prop} (hc : Cals w c cv vv fv ea wa m) : Ob w c cv vv fv ea wa m a0 Q 120 := by
  intro o listed a W ho hd hl hS K hK
  have eo : rops[120]? = some (opAt 120) := by kernel_rfl
  obtain rfl : o = opAt 120 := Option.some.inj (ho.symm.trans eo)
  have sg := hd.slot hl 117 130 (by kernel_rfl) (by kernel_rfl) (by kernel_rfl)
  have s1 := hd.slot hl 119 132 (by kernel_rfl) (by kernel_rfl) (by kernel_rfl)
  cases hp : (Pr (Xc m c) 10) with
  | false =>
    have hw := wanted_undef (o := opAt 120) (ops := rops) (g := 117) (b := false) (by kernel_rfl) (by kernel_rfl) (sg.trans (by show some (gv (Pr (Xc m c) 10) _) = _; rw [hp]; rfl))
    exact run_quiet eo (Or.inr ⟨hw, by show gv ((Pr (Xc m c) 10) && (!(decide (c.order = [])))) _ = undef; rw [hp]; rfl⟩) hS hK
  | true =>
    have hw := wanted_some (o := opAt 120) (ops := rops) (g := 117) (b := false) (c := (decide (c.order = []))) (by kernel_rfl) (by kernel_rfl) (sg.trans (by show some (gv (Pr (Xc m c) 10) _) = _; rw [hp]; rfl))
    by_cases hj : (decide (c.order = [])) = false
    case neg =>
      have hj' : (decide (c.order = [])) = true := by simpa using hj
      rw [hj'] at hw
      exact run_quiet eo (Or.inr ⟨hw, by show gv ((Pr (Xc m c) 10) && (!(decide (c.order = [])))) _ = undef; rw [hp, hj']; rfl⟩) hS hK
    case pos =>
    rw [hj] at hw
    have hV : VV w c cv vv fv ea wa m 120 = .bool (nameW c.order) := by show gv ((Pr (Xc m c) 10) && (!(decide (c.order = [])))) _ = _; rw [hp, hj]; rfl
    rw [hV] at hK
    replace s1 : a.tmps[132]? = some (.string ⟨c.order.toArray⟩) := s1.trans (by show some (gv ((Pr (Xc m c) 10) && (!(decide (c.order = [])))) _) = _; rw [hp, hj]; rfl)
    exact run_call 72 #[.string ⟨c.order.toArray⟩] eo hw (ex_call1 (ts := #[9]) (x := .tmp 132) (f := 72) cf72 (by kernel_rfl) rfl (eval_tmp s1)) ((hc.q11 W hS).mono fun e w' h => ⟨h.1, hS.below h.2⟩) hK

set_option maxRecDepth 100000 in
theorem ob_121 {w : World} {c : Cm} {cv vv fv ea wa : Value} {m : Int} {a0 : Act} {Q : Exit → Act → World → Prop} : Ob w c cv vv fv ea wa m a0 Q 121 := by
  intro o listed a W ho hd hl hS K hK
  have eo : rops[121]? = some (opAt 121) := by kernel_rfl
  obtain rfl : o = opAt 121 := Option.some.inj (ho.symm.trans eo)
  have sg := hd.slot hl 112 125 (by kernel_rfl) (by kernel_rfl) (by kernel_rfl)
  have hw := wanted_some (o := opAt 121) (ops := rops) (g := 112) (b := true) (c := (Pr (Xc m c) 10)) (by kernel_rfl) (by kernel_rfl) sg
  have s1 := hd.slot hl 117 130 (by kernel_rfl) (by kernel_rfl) (by kernel_rfl)
  have s2 := hd.slot hl 120 133 (by kernel_rfl) (by kernel_rfl) (by kernel_rfl)
  cases hp : (Pr (Xc m c) 10) with
  | false =>
    rw [hp] at hw
    exact run_quiet eo (Or.inr ⟨hw, by show gv (Pr (Xc m c) 10) _ = undef; rw [hp]; rfl⟩) hS hK
  | true =>
    rw [hp] at hw
    have hV : VV w c cv vv fv ea wa m 121 = .bool (decide (c.order = []) || nameW c.order) := by show gv (Pr (Xc m c) 10) _ = _; rw [hp]; rfl
    rw [hV] at hK
    replace s1 : a.tmps[130]? = some (.bool (decide (c.order = []))) := s1.trans (by show some (gv (Pr (Xc m c) 10) _) = _; rw [hp]; rfl)
    refine run_quiet eo (Or.inl ⟨hw, fun W' hW' => ?_⟩) hS hK
    have ev : (if (decide (c.order = [])) = true then a.eval (.const (.bool true)) else a.eval (.tmp 133)) = .bool (decide (c.order = []) || nameW c.order) := by
      rw [eval_tmp (s2.trans (show some (gv ((Pr (Xc m c) 10) && (!(decide (c.order = [])))) (.bool (nameW c.order))) = some (gv (!(decide (c.order = []))) (.bool (nameW c.order))) by rw [hp]; rfl))]
      cases (decide (c.order = [])) <;> rfl
    rw [ex_pick (P := Tryz.prog) (ρ := a.eval) (W := W') (o := opAt 121) (c := .tmp 130) (x := .const (.bool true)) (y := .tmp 133) (b := (decide (c.order = []))) (by kernel_rfl) (eval_tmp s1), ev]

set_option maxRecDepth 100000 in
theorem ob_122 {w : World} {c : Cm} {cv vv fv ea wa : Value} {m : Int} {a0 : Act} {Q : Exit → Act → World → Prop} (h1 : a0.tmps[1]? = some (.pointer (some ⟨w.heap.size, 0, none⟩))) : Ob w c cv vv fv ea wa m a0 Q 122 := by
  intro o listed a W ho hd hl hS K hK
  have eo : rops[122]? = some (opAt 122) := by kernel_rfl
  obtain rfl : o = opAt 122 := Option.some.inj (ho.symm.trans eo)
  have sg := hd.slot hl 112 125 (by kernel_rfl) (by kernel_rfl) (by kernel_rfl)
  have hw := wanted_some (o := opAt 122) (ops := rops) (g := 112) (b := true) (c := (Pr (Xc m c) 10)) (by kernel_rfl) (by kernel_rfl) sg
  cases hp : (Pr (Xc m c) 10) with
  | false =>
    rw [hp] at hw
    exact run_quiet eo (Or.inr ⟨hw, by show gv (Pr (Xc m c) 10) _ = undef; rw [hp]; rfl⟩) hS hK
  | true =>
    rw [hp] at hw
    have hV : VV w c cv vv fv ea wa m 122 = .pointer (some ⟨w.heap.size, 24, none⟩) := by show gv (Pr (Xc m c) 10) _ = _; rw [hp]; rfl
    rw [hV] at hK
    refine run_quiet eo (Or.inl ⟨hw, fun W' hW' => ?_⟩) hS hK
    exact ex_field (x := .tmp 1) (t := 31) (f := 12) (by kernel_rfl) (eval_tmp ((hd.base 1 (by kernel_rfl)).trans h1)) (fa12 W' _)

set_option maxRecDepth 100000 in
theorem ob_123 {w : World} {c : Cm} {cv vv fv ea wa : Value} {m : Int} {a0 : Act} {Q : Exit → Act → World → Prop} : Ob w c cv vv fv ea wa m a0 Q 123 := by
  intro o listed a W ho hd hl hS K hK
  have eo : rops[123]? = some (opAt 123) := by kernel_rfl
  obtain rfl : o = opAt 123 := Option.some.inj (ho.symm.trans eo)
  have sg := hd.slot hl 112 125 (by kernel_rfl) (by kernel_rfl) (by kernel_rfl)
  have hw := wanted_some (o := opAt 123) (ops := rops) (g := 112) (b := true) (c := (Pr (Xc m c) 10)) (by kernel_rfl) (by kernel_rfl) sg
  have s1 := hd.slot hl 122 135 (by kernel_rfl) (by kernel_rfl) (by kernel_rfl)
  cases hp : (Pr (Xc m c) 10) with
  | false =>
    rw [hp] at hw
    exact run_quiet eo (Or.inr ⟨hw, by show gv (Pr (Xc m c) 10) _ = undef; rw [hp]; rfl⟩) hS hK
  | true =>
    rw [hp] at hw
    have hV : VV w c cv vv fv ea wa m 123 = .string ⟨c.order.toArray⟩ := by show gv (Pr (Xc m c) 10) _ = _; rw [hp]; rfl
    rw [hV] at hK
    replace s1 : a.tmps[135]? = some (.pointer (some ⟨w.heap.size, 24, none⟩)) := s1.trans (by show some (gv (Pr (Xc m c) 10) _) = _; rw [hp]; rfl)
    refine run_quiet eo (Or.inl ⟨hw, fun W' hW' => ?_⟩) hS hK
    exact ex_load (x := .tmp 135) (t := 9) (by kernel_rfl) (eval_tmp s1) (ld9 W' _ 24 _ (hW'.1 24 _ rfl))

set_option maxRecDepth 100000 in
theorem ob_124 {w : World} {c : Cm} {cv vv fv ea wa : Value} {m : Int} {a0 : Act} {Q : Exit → Act → World → Prop} : Ob w c cv vv fv ea wa m a0 Q 124 := by
  intro o listed a W ho hd hl hS K hK
  have eo : rops[124]? = some (opAt 124) := by kernel_rfl
  obtain rfl : o = opAt 124 := Option.some.inj (ho.symm.trans eo)
  have sg := hd.slot hl 112 125 (by kernel_rfl) (by kernel_rfl) (by kernel_rfl)
  have hw := wanted_some (o := opAt 124) (ops := rops) (g := 112) (b := true) (c := (Pr (Xc m c) 10)) (by kernel_rfl) (by kernel_rfl) sg
  have s1 := hd.slot hl 123 136 (by kernel_rfl) (by kernel_rfl) (by kernel_rfl)
  cases hp : (Pr (Xc m c) 10) with
  | false =>
    rw [hp] at hw
    exact run_quiet eo (Or.inr ⟨hw, by show gv (Pr (Xc m c) 10) _ = undef; rw [hp]; rfl⟩) hS hK
  | true =>
    rw [hp] at hw
    have hV : VV w c cv vv fv ea wa m 124 = .bool (decide (c.order = [])) := by show gv (Pr (Xc m c) 10) _ = _; rw [hp]; rfl
    rw [hV] at hK
    replace s1 : a.tmps[136]? = some (.string ⟨c.order.toArray⟩) := s1.trans (by show some (gv (Pr (Xc m c) 10) _) = _; rw [hp]; rfl)
    refine run_quiet eo (Or.inl ⟨hw, fun W' hW' => ?_⟩) hS hK
    exact ex_bin (u := 9) (x := .tmp 136) (y := .const (.string ⟨#[]⟩)) (by kernel_rfl) (eval_tmp s1) rfl (eq9 W' _ _ _)

set_option maxRecDepth 100000 in
theorem ob_125 {w : World} {c : Cm} {cv vv fv ea wa : Value} {m : Int} {a0 : Act} {Q : Exit → Act → World → Prop} : Ob w c cv vv fv ea wa m a0 Q 125 := by
  intro o listed a W ho hd hl hS K hK
  have eo : rops[125]? = some (opAt 125) := by kernel_rfl
  obtain rfl : o = opAt 125 := Option.some.inj (ho.symm.trans eo)
  have sg := hd.slot hl 112 125 (by kernel_rfl) (by kernel_rfl) (by kernel_rfl)
  have hw := wanted_some (o := opAt 125) (ops := rops) (g := 112) (b := true) (c := (Pr (Xc m c) 10)) (by kernel_rfl) (by kernel_rfl) sg
  have s1 := hd.slot hl 113 126 (by kernel_rfl) (by kernel_rfl) (by kernel_rfl)
  have s2 := hd.slot hl 121 134 (by kernel_rfl) (by kernel_rfl) (by kernel_rfl)
  have s3 := hd.slot hl 124 137 (by kernel_rfl) (by kernel_rfl) (by kernel_rfl)
  cases hp : (Pr (Xc m c) 10) with
  | false =>
    rw [hp] at hw
    exact run_quiet eo (Or.inr ⟨hw, by show gv (Pr (Xc m c) 10) _ = undef; rw [hp]; rfl⟩) hS hK
  | true =>
    rw [hp] at hw
    have hV : VV w c cv vv fv ea wa m 125 = .bool ((Xc m c) 11) := by show gv (Pr (Xc m c) 10) _ = _; rw [hp]; rfl
    rw [hV] at hK
    replace s1 : a.tmps[126]? = some (.func (.func 71) #[] #[.pointer (some ⟨w.heap.size + 1, 0, none⟩)]) := s1.trans (by show some (gv (Pr (Xc m c) 10) _) = _; rw [hp]; rfl)
    replace s2 : a.tmps[134]? = some (.bool (decide (c.order = []) || nameW c.order)) := s2.trans (by show some (gv (Pr (Xc m c) 10) _) = _; rw [hp]; rfl)
    replace s3 : a.tmps[137]? = some (.bool (decide (c.order = []))) := s3.trans (by show some (gv (Pr (Xc m c) 10) _) = _; rw [hp]; rfl)
    refine run_call 71 #[.int .i64 1024, .bool (decide (c.order = []) || nameW c.order), .bool (decide (c.order = [])), .pointer (some ⟨w.heap.size + 1, 0, none⟩)] eo hw (ex_is (ts := #[3, 4, 4]) (t := .tmp 126) (x := .const (.int .i64 1024)) (y := .tmp 134) (z := .tmp 137) (f := 71) cf71 (by kernel_rfl) (eval_tmp s1) rfl (eval_tmp s2) (eval_tmp s3)) ((is_any m 1024 (decide (c.order = []) || nameW c.order) (decide (c.order = [])) _ W hS.2.1).mono fun e w' h => ⟨h.1, h.2 ▸ hS⟩) hK

set_option maxRecDepth 100000 in
theorem ob_126 {w : World} {c : Cm} {cv vv fv ea wa : Value} {m : Int} {a0 : Act} {Q : Exit → Act → World → Prop} : Ob w c cv vv fv ea wa m a0 Q 126 := by
  intro o listed a W ho hd hl hS K hK
  have eo : rops[126]? = some (opAt 126) := by kernel_rfl
  obtain rfl : o = opAt 126 := Option.some.inj (ho.symm.trans eo)
  have s1 := hd.slot hl 112 125 (by kernel_rfl) (by kernel_rfl) (by kernel_rfl)
  have s2 := hd.slot hl 125 138 (by kernel_rfl) (by kernel_rfl) (by kernel_rfl)
  have ev : (if (Pr (Xc m c) 10) = true then a.eval (.tmp 138) else a.eval (.const (.bool false))) = .bool (Pr (Xc m c) 11) := by
    rw [eval_tmp s2]
    show (if (Pr (Xc m c) 10) = true then gv (Pr (Xc m c) 10) (.bool ((Xc m c) 11)) else .bool false) = .bool ((Pr (Xc m c) 10) && (Xc m c) 11)
    cases (Pr (Xc m c) 10) <;> rfl
  refine run_quiet eo (Or.inl ⟨wanted_none (by kernel_rfl), fun W' hW' => ?_⟩) hS hK
  rw [ex_pick (P := Tryz.prog) (ρ := a.eval) (W := W') (o := opAt 126) (c := .tmp 125) (x := .tmp 138) (y := .const (.bool false)) (b := (Pr (Xc m c) 10)) (by kernel_rfl) (eval_tmp s1), ev]; rfl

set_option maxRecDepth 100000 in
theorem ob_127 {w : World} {c : Cm} {cv vv fv ea wa : Value} {m : Int} {a0 : Act} {Q : Exit → Act → World → Prop} : Ob w c cv vv fv ea wa m a0 Q 127 := by
  intro o listed a W ho hd hl hS K hK
  have eo : rops[127]? = some (opAt 127) := by kernel_rfl
  obtain rfl : o = opAt 127 := Option.some.inj (ho.symm.trans eo)
  have s1 := hd.slot hl 126 139 (by kernel_rfl) (by kernel_rfl) (by kernel_rfl)
  refine run_quiet eo (Or.inl ⟨wanted_none (by kernel_rfl), fun W' hW' => ?_⟩) hS hK
  exact ex_move (x := .tmp 139) (by kernel_rfl) (eval_tmp s1)

set_option maxRecDepth 100000 in
theorem ob_128 {w : World} {c : Cm} {cv vv fv ea wa : Value} {m : Int} {a0 : Act} {Q : Exit → Act → World → Prop} (h5 : a0.tmps[5]? = some (.func (.func 71) #[] #[.pointer (some ⟨w.heap.size + 1, 0, none⟩)])) : Ob w c cv vv fv ea wa m a0 Q 128 := by
  intro o listed a W ho hd hl hS K hK
  have eo : rops[128]? = some (opAt 128) := by kernel_rfl
  obtain rfl : o = opAt 128 := Option.some.inj (ho.symm.trans eo)
  have sg := hd.slot hl 127 140 (by kernel_rfl) (by kernel_rfl) (by kernel_rfl)
  have hw := wanted_some (o := opAt 128) (ops := rops) (g := 127) (b := true) (c := (Pr (Xc m c) 11)) (by kernel_rfl) (by kernel_rfl) sg
  cases hp : (Pr (Xc m c) 11) with
  | false =>
    rw [hp] at hw
    exact run_quiet eo (Or.inr ⟨hw, by show gv (Pr (Xc m c) 11) _ = undef; rw [hp]; rfl⟩) hS hK
  | true =>
    rw [hp] at hw
    have hV : VV w c cv vv fv ea wa m 128 = .func (.func 71) #[] #[.pointer (some ⟨w.heap.size + 1, 0, none⟩)] := by show gv (Pr (Xc m c) 11) _ = _; rw [hp]; rfl
    rw [hV] at hK
    refine run_quiet eo (Or.inl ⟨hw, fun W' hW' => ?_⟩) hS hK
    exact ex_move (x := .tmp 5) (by kernel_rfl) (eval_tmp ((hd.base 5 (by kernel_rfl)).trans h5))

set_option maxRecDepth 100000 in
theorem ob_129 {w : World} {c : Cm} {cv vv fv ea wa : Value} {m : Int} {a0 : Act} {Q : Exit → Act → World → Prop} (h1 : a0.tmps[1]? = some (.pointer (some ⟨w.heap.size, 0, none⟩))) : Ob w c cv vv fv ea wa m a0 Q 129 := by
  intro o listed a W ho hd hl hS K hK
  have eo : rops[129]? = some (opAt 129) := by kernel_rfl
  obtain rfl : o = opAt 129 := Option.some.inj (ho.symm.trans eo)
  have sg := hd.slot hl 127 140 (by kernel_rfl) (by kernel_rfl) (by kernel_rfl)
  have hw := wanted_some (o := opAt 129) (ops := rops) (g := 127) (b := true) (c := (Pr (Xc m c) 11)) (by kernel_rfl) (by kernel_rfl) sg
  cases hp : (Pr (Xc m c) 11) with
  | false =>
    rw [hp] at hw
    exact run_quiet eo (Or.inr ⟨hw, by show gv (Pr (Xc m c) 11) _ = undef; rw [hp]; rfl⟩) hS hK
  | true =>
    rw [hp] at hw
    have hV : VV w c cv vv fv ea wa m 129 = .pointer (some ⟨w.heap.size, 25, none⟩) := by show gv (Pr (Xc m c) 11) _ = _; rw [hp]; rfl
    rw [hV] at hK
    refine run_quiet eo (Or.inl ⟨hw, fun W' hW' => ?_⟩) hS hK
    exact ex_field (x := .tmp 1) (t := 31) (f := 13) (by kernel_rfl) (eval_tmp ((hd.base 1 (by kernel_rfl)).trans h1)) (fa13 W' _)

set_option maxRecDepth 100000 in
theorem ob_130 {w : World} {c : Cm} {cv vv fv ea wa : Value} {m : Int} {a0 : Act} {Q : Exit → Act → World → Prop} : Ob w c cv vv fv ea wa m a0 Q 130 := by
  intro o listed a W ho hd hl hS K hK
  have eo : rops[130]? = some (opAt 130) := by kernel_rfl
  obtain rfl : o = opAt 130 := Option.some.inj (ho.symm.trans eo)
  have sg := hd.slot hl 127 140 (by kernel_rfl) (by kernel_rfl) (by kernel_rfl)
  have hw := wanted_some (o := opAt 130) (ops := rops) (g := 127) (b := true) (c := (Pr (Xc m c) 11)) (by kernel_rfl) (by kernel_rfl) sg
  have s1 := hd.slot hl 129 142 (by kernel_rfl) (by kernel_rfl) (by kernel_rfl)
  cases hp : (Pr (Xc m c) 11) with
  | false =>
    rw [hp] at hw
    exact run_quiet eo (Or.inr ⟨hw, by show gv (Pr (Xc m c) 11) _ = undef; rw [hp]; rfl⟩) hS hK
  | true =>
    rw [hp] at hw
    have hV : VV w c cv vv fv ea wa m 130 = .int .i64 c.limit := by show gv (Pr (Xc m c) 11) _ = _; rw [hp]; rfl
    rw [hV] at hK
    replace s1 : a.tmps[142]? = some (.pointer (some ⟨w.heap.size, 25, none⟩)) := s1.trans (by show some (gv (Pr (Xc m c) 11) _) = _; rw [hp]; rfl)
    refine run_quiet eo (Or.inl ⟨hw, fun W' hW' => ?_⟩) hS hK
    exact ex_load (x := .tmp 142) (t := 3) (by kernel_rfl) (eval_tmp s1) (ld3 W' _ 25 _ (hW'.1 25 _ rfl))

set_option maxRecDepth 100000 in
theorem ob_131 {w : World} {c : Cm} {cv vv fv ea wa : Value} {m : Int} {a0 : Act} {Q : Exit → Act → World → Prop} : Ob w c cv vv fv ea wa m a0 Q 131 := by
  intro o listed a W ho hd hl hS K hK
  have eo : rops[131]? = some (opAt 131) := by kernel_rfl
  obtain rfl : o = opAt 131 := Option.some.inj (ho.symm.trans eo)
  have sg := hd.slot hl 127 140 (by kernel_rfl) (by kernel_rfl) (by kernel_rfl)
  have hw := wanted_some (o := opAt 131) (ops := rops) (g := 127) (b := true) (c := (Pr (Xc m c) 11)) (by kernel_rfl) (by kernel_rfl) sg
  have s1 := hd.slot hl 130 143 (by kernel_rfl) (by kernel_rfl) (by kernel_rfl)
  cases hp : (Pr (Xc m c) 11) with
  | false =>
    rw [hp] at hw
    exact run_quiet eo (Or.inr ⟨hw, by show gv (Pr (Xc m c) 11) _ = undef; rw [hp]; rfl⟩) hS hK
  | true =>
    rw [hp] at hw
    have hV : VV w c cv vv fv ea wa m 131 = .bool (decide (-1 ≤ c.limit)) := by show gv (Pr (Xc m c) 11) _ = _; rw [hp]; rfl
    rw [hV] at hK
    replace s1 : a.tmps[143]? = some (.int .i64 c.limit) := s1.trans (by show some (gv (Pr (Xc m c) 11) _) = _; rw [hp]; rfl)
    refine run_quiet eo (Or.inl ⟨hw, fun W' hW' => ?_⟩) hS hK
    exact ex_bin (u := 3) (x := .tmp 143) (y := .const (.int .i64 (-1))) (by kernel_rfl) (eval_tmp s1) rfl (geq3 W' _ _ _)

set_option maxRecDepth 100000 in
theorem ob_132 {w : World} {c : Cm} {cv vv fv ea wa : Value} {m : Int} {a0 : Act} {Q : Exit → Act → World → Prop} : Ob w c cv vv fv ea wa m a0 Q 132 := by
  intro o listed a W ho hd hl hS K hK
  have eo : rops[132]? = some (opAt 132) := by kernel_rfl
  obtain rfl : o = opAt 132 := Option.some.inj (ho.symm.trans eo)
  have sg := hd.slot hl 127 140 (by kernel_rfl) (by kernel_rfl) (by kernel_rfl)
  have hw := wanted_some (o := opAt 132) (ops := rops) (g := 127) (b := true) (c := (Pr (Xc m c) 11)) (by kernel_rfl) (by kernel_rfl) sg
  have s1 := hd.slot hl 131 144 (by kernel_rfl) (by kernel_rfl) (by kernel_rfl)
  cases hp : (Pr (Xc m c) 11) with
  | false =>
    rw [hp] at hw
    exact run_quiet eo (Or.inr ⟨hw, by show gv (Pr (Xc m c) 11) _ = undef; rw [hp]; rfl⟩) hS hK
  | true =>
    rw [hp] at hw
    have hV : VV w c cv vv fv ea wa m 132 = .bool (decide (-1 ≤ c.limit)) := by show gv (Pr (Xc m c) 11) _ = _; rw [hp]; rfl
    rw [hV] at hK
    replace s1 : a.tmps[144]? = some (.bool (decide (-1 ≤ c.limit))) := s1.trans (by show some (gv (Pr (Xc m c) 11) _) = _; rw [hp]; rfl)
    refine run_quiet eo (Or.inl ⟨hw, fun W' hW' => ?_⟩) hS hK
    exact ex_move (x := .tmp 144) (by kernel_rfl) (eval_tmp s1)

set_option maxRecDepth 100000 in
theorem ob_133 {w : World} {c : Cm} {cv vv fv ea wa : Value} {m : Int} {a0 : Act} {Q : Exit → Act → World → Prop} (h1 : a0.tmps[1]? = some (.pointer (some ⟨w.heap.size, 0, none⟩))) : Ob w c cv vv fv ea wa m a0 Q 133 := by
  intro o listed a W ho hd hl hS K hK
  have eo : rops[133]? = some (opAt 133) := by kernel_rfl
  obtain rfl : o = opAt 133 := Option.some.inj (ho.symm.trans eo)
  have sg := hd.slot hl 132 145 (by kernel_rfl) (by kernel_rfl) (by kernel_rfl)
  cases hp : (Pr (Xc m c) 11) with
  | false =>
    have hw := wanted_undef (o := opAt 133) (ops := rops) (g := 132) (b := true) (by kernel_rfl) (by kernel_rfl) (sg.trans (by show some (gv (Pr (Xc m c) 11) _) = _; rw [hp]; rfl))
    exact run_quiet eo (Or.inr ⟨hw, by show gv ((Pr (Xc m c) 11) && (decide (-1 ≤ c.limit))) _ = undef; rw [hp]; rfl⟩) hS hK
  | true =>
    have hw := wanted_some (o := opAt 133) (ops := rops) (g := 132) (b := true) (c := (decide (-1 ≤ c.limit))) (by kernel_rfl) (by kernel_rfl) (sg.trans (by show some (gv (Pr (Xc m c) 11) _) = _; rw [hp]; rfl))
    by_cases hj : (decide (-1 ≤ c.limit)) = true
    case neg =>
      have hj' : (decide (-1 ≤ c.limit)) = false := by simpa using hj
      rw [hj'] at hw
      exact run_quiet eo (Or.inr ⟨hw, by show gv ((Pr (Xc m c) 11) && (decide (-1 ≤ c.limit))) _ = undef; rw [hp, hj']; rfl⟩) hS hK
    case pos =>
    rw [hj] at hw
    have hV : VV w c cv vv fv ea wa m 133 = .pointer (some ⟨w.heap.size, 25, none⟩) := by show gv ((Pr (Xc m c) 11) && (decide (-1 ≤ c.limit))) _ = _; rw [hp, hj]; rfl
    rw [hV] at hK
    refine run_quiet eo (Or.inl ⟨hw, fun W' hW' => ?_⟩) hS hK
    exact ex_field (x := .tmp 1) (t := 31) (f := 13) (by kernel_rfl) (eval_tmp ((hd.base 1 (by kernel_rfl)).trans h1)) (fa13 W' _)

set_option maxRecDepth 100000 in
theorem ob_134 {w : World} {c : Cm} {cv vv fv ea wa : Value} {m : Int} {a0 : Act} {Q : Exit → Act → World → Prop} : Ob w c cv vv fv ea wa m a0 Q 134 := by
  intro o listed a W ho hd hl hS K hK
  have eo : rops[134]? = some (opAt 134) := by kernel_rfl
  obtain rfl : o = opAt 134 := Option.some.inj (ho.symm.trans eo)
  have sg := hd.slot hl 132 145 (by kernel_rfl) (by kernel_rfl) (by kernel_rfl)
  have s1 := hd.slot hl 133 146 (by kernel_rfl) (by kernel_rfl) (by kernel_rfl)
  cases hp : (Pr (Xc m c) 11) with
  | false =>
    have hw := wanted_undef (o := opAt 134) (ops := rops) (g := 132) (b := true) (by kernel_rfl) (by kernel_rfl) (sg.trans (by show some (gv (Pr (Xc m c) 11) _) = _; rw [hp]; rfl))
    exact run_quiet eo (Or.inr ⟨hw, by show gv ((Pr (Xc m c) 11) && (decide (-1 ≤ c.limit))) _ = undef; rw [hp]; rfl⟩) hS hK
  | true =>
    have hw := wanted_some (o := opAt 134) (ops := rops) (g := 132) (b := true) (c := (decide (-1 ≤ c.limit))) (by kernel_rfl) (by kernel_rfl) (sg.trans (by show some (gv (Pr (Xc m c) 11) _) = _; rw [hp]; rfl))
    by_cases hj : (decide (-1 ≤ c.limit)) = true
    case neg =>
      have hj' : (decide (-1 ≤ c.limit)) = false := by simpa using hj
      rw [hj'] at hw
      exact run_quiet eo (Or.inr ⟨hw, by show gv ((Pr (Xc m c) 11) && (decide (-1 ≤ c.limit))) _ = undef; rw [hp, hj']; rfl⟩) hS hK
    case pos =>
    rw [hj] at hw
    have hV : VV w c cv vv fv ea wa m 134 = .int .i64 c.limit := by show gv ((Pr (Xc m c) 11) && (decide (-1 ≤ c.limit))) _ = _; rw [hp, hj]; rfl
    rw [hV] at hK
    replace s1 : a.tmps[146]? = some (.pointer (some ⟨w.heap.size, 25, none⟩)) := s1.trans (by show some (gv ((Pr (Xc m c) 11) && (decide (-1 ≤ c.limit))) _) = _; rw [hp, hj]; rfl)
    refine run_quiet eo (Or.inl ⟨hw, fun W' hW' => ?_⟩) hS hK
    exact ex_load (x := .tmp 146) (t := 3) (by kernel_rfl) (eval_tmp s1) (ld3 W' _ 25 _ (hW'.1 25 _ rfl))

set_option maxRecDepth 100000 in
theorem ob_135 {w : World} {c : Cm} {cv vv fv ea wa : Value} {m : Int} {a0 : Act} {Q : Exit → Act → World → Prop} : Ob w c cv vv fv ea wa m a0 Q 135 := by
  intro o listed a W ho hd hl hS K hK
  have eo : rops[135]? = some (opAt 135) := by kernel_rfl
  obtain rfl : o = opAt 135 := Option.some.inj (ho.symm.trans eo)
  have sg := hd.slot hl 132 145 (by kernel_rfl) (by kernel_rfl) (by kernel_rfl)
  have s1 := hd.slot hl 134 147 (by kernel_rfl) (by kernel_rfl) (by kernel_rfl)
  cases hp : (Pr (Xc m c) 11) with
  | false =>
    have hw := wanted_undef (o := opAt 135) (ops := rops) (g := 132) (b := true) (by kernel_rfl) (by kernel_rfl) (sg.trans (by show some (gv (Pr (Xc m c) 11) _) = _; rw [hp]; rfl))
    exact run_quiet eo (Or.inr ⟨hw, by show gv ((Pr (Xc m c) 11) && (decide (-1 ≤ c.limit))) _ = undef; rw [hp]; rfl⟩) hS hK
  | true =>
    have hw := wanted_some (o := opAt 135) (ops := rops) (g := 132) (b := true) (c := (decide (-1 ≤ c.limit))) (by kernel_rfl) (by kernel_rfl) (sg.trans (by show some (gv (Pr (Xc m c) 11) _) = _; rw [hp]; rfl))
    by_cases hj : (decide (-1 ≤ c.limit)) = true
    case neg =>
      have hj' : (decide (-1 ≤ c.limit)) = false := by simpa using hj
      rw [hj'] at hw
      exact run_quiet eo (Or.inr ⟨hw, by show gv ((Pr (Xc m c) 11) && (decide (-1 ≤ c.limit))) _ = undef; rw [hp, hj']; rfl⟩) hS hK
    case pos =>
    rw [hj] at hw
    have hV : VV w c cv vv fv ea wa m 135 = .bool (decide (c.limit ≤ 999999999)) := by show gv ((Pr (Xc m c) 11) && (decide (-1 ≤ c.limit))) _ = _; rw [hp, hj]; rfl
    rw [hV] at hK
    replace s1 : a.tmps[147]? = some (.int .i64 c.limit) := s1.trans (by show some (gv ((Pr (Xc m c) 11) && (decide (-1 ≤ c.limit))) _) = _; rw [hp, hj]; rfl)
    refine run_quiet eo (Or.inl ⟨hw, fun W' hW' => ?_⟩) hS hK
    exact ex_bin (u := 3) (x := .tmp 147) (y := .const (.int .i64 999999999)) (by kernel_rfl) (eval_tmp s1) rfl (leq3 W' _ _ _)

set_option maxRecDepth 100000 in
theorem ob_136 {w : World} {c : Cm} {cv vv fv ea wa : Value} {m : Int} {a0 : Act} {Q : Exit → Act → World → Prop} : Ob w c cv vv fv ea wa m a0 Q 136 := by
  intro o listed a W ho hd hl hS K hK
  have eo : rops[136]? = some (opAt 136) := by kernel_rfl
  obtain rfl : o = opAt 136 := Option.some.inj (ho.symm.trans eo)
  have sg := hd.slot hl 127 140 (by kernel_rfl) (by kernel_rfl) (by kernel_rfl)
  have hw := wanted_some (o := opAt 136) (ops := rops) (g := 127) (b := true) (c := (Pr (Xc m c) 11)) (by kernel_rfl) (by kernel_rfl) sg
  have s1 := hd.slot hl 132 145 (by kernel_rfl) (by kernel_rfl) (by kernel_rfl)
  have s2 := hd.slot hl 135 148 (by kernel_rfl) (by kernel_rfl) (by kernel_rfl)
  cases hp : (Pr (Xc m c) 11) with
  | false =>
    rw [hp] at hw
    exact run_quiet eo (Or.inr ⟨hw, by show gv (Pr (Xc m c) 11) _ = undef; rw [hp]; rfl⟩) hS hK
  | true =>
    rw [hp] at hw
    have hV : VV w c cv vv fv ea wa m 136 = .bool (decide (-1 ≤ c.limit) && decide (c.limit ≤ 999999999)) := by show gv (Pr (Xc m c) 11) _ = _; rw [hp]; rfl
    rw [hV] at hK
    replace s1 : a.tmps[145]? = some (.bool (decide (-1 ≤ c.limit))) := s1.trans (by show some (gv (Pr (Xc m c) 11) _) = _; rw [hp]; rfl)
    refine run_quiet eo (Or.inl ⟨hw, fun W' hW' => ?_⟩) hS hK
    have ev : (if (decide (-1 ≤ c.limit)) = true then a.eval (.tmp 148) else a.eval (.const (.bool false))) = .bool (decide (-1 ≤ c.limit) && decide (c.limit ≤ 999999999)) := by
      rw [eval_tmp (s2.trans (show some (gv ((Pr (Xc m c) 11) && (decide (-1 ≤ c.limit))) (.bool (decide (c.limit ≤ 999999999)))) = some (gv (decide (-1 ≤ c.limit)) (.bool (decide (c.limit ≤ 999999999)))) by rw [hp]; rfl))]
      cases (decide (-1 ≤ c.limit)) <;> rfl
    rw [ex_pick (P := Tryz.prog) (ρ := a.eval) (W := W') (o := opAt 136) (c := .tmp 145) (x := .tmp 148) (y := .const (.bool false)) (b := (decide (-1 ≤ c.limit))) (by kernel_rfl) (eval_tmp s1), ev]

set_option maxRecDepth 100000 in
theorem ob_137 {w : World} {c : Cm} {cv vv fv ea wa : Value} {m : Int} {a0 : Act} {Q : Exit → Act → World → Prop} (h1 : a0.tmps[1]? = some (.pointer (some ⟨w.heap.size, 0, none⟩))) : Ob w c cv vv fv ea wa m a0 Q 137 := by
  intro o listed a W ho hd hl hS K hK
  have eo : rops[137]? = some (opAt 137) := by kernel_rfl
  obtain rfl : o = opAt 137 := Option.some.inj (ho.symm.trans eo)
  have sg := hd.slot hl 127 140 (by kernel_rfl) (by kernel_rfl) (by kernel_rfl)
  have hw := wanted_some (o := opAt 137) (ops := rops) (g := 127) (b := true) (c := (Pr (Xc m c) 11)) (by kernel_rfl) (by kernel_rfl) sg
  cases hp : (Pr (Xc m c) 11) with
  | false =>
    rw [hp] at hw
    exact run_quiet eo (Or.inr ⟨hw, by show gv (Pr (Xc m c) 11) _ = undef; rw [hp]; rfl⟩) hS hK
  | true =>
    rw [hp] at hw
    have hV : VV w c cv vv fv ea wa m 137 = .pointer (some ⟨w.heap.size, 25, none⟩) := by show gv (Pr (Xc m c) 11) _ = _; rw [hp]; rfl
    rw [hV] at hK
    refine run_quiet eo (Or.inl ⟨hw, fun W' hW' => ?_⟩) hS hK
    exact ex_field (x := .tmp 1) (t := 31) (f := 13) (by kernel_rfl) (eval_tmp ((hd.base 1 (by kernel_rfl)).trans h1)) (fa13 W' _)

set_option maxRecDepth 100000 in
theorem ob_138 {w : World} {c : Cm} {cv vv fv ea wa : Value} {m : Int} {a0 : Act} {Q : Exit → Act → World → Prop} : Ob w c cv vv fv ea wa m a0 Q 138 := by
  intro o listed a W ho hd hl hS K hK
  have eo : rops[138]? = some (opAt 138) := by kernel_rfl
  obtain rfl : o = opAt 138 := Option.some.inj (ho.symm.trans eo)
  have sg := hd.slot hl 127 140 (by kernel_rfl) (by kernel_rfl) (by kernel_rfl)
  have hw := wanted_some (o := opAt 138) (ops := rops) (g := 127) (b := true) (c := (Pr (Xc m c) 11)) (by kernel_rfl) (by kernel_rfl) sg
  have s1 := hd.slot hl 137 150 (by kernel_rfl) (by kernel_rfl) (by kernel_rfl)
  cases hp : (Pr (Xc m c) 11) with
  | false =>
    rw [hp] at hw
    exact run_quiet eo (Or.inr ⟨hw, by show gv (Pr (Xc m c) 11) _ = undef; rw [hp]; rfl⟩) hS hK
  | true =>
    rw [hp] at hw
    have hV : VV w c cv vv fv ea wa m 138 = .int .i64 c.limit := by show gv (Pr (Xc m c) 11) _ = _; rw [hp]; rfl
    rw [hV] at hK
    replace s1 : a.tmps[150]? = some (.pointer (some ⟨w.heap.size, 25, none⟩)) := s1.trans (by show some (gv (Pr (Xc m c) 11) _) = _; rw [hp]; rfl)
    refine run_quiet eo (Or.inl ⟨hw, fun W' hW' => ?_⟩) hS hK
    exact ex_load (x := .tmp 150) (t := 3) (by kernel_rfl) (eval_tmp s1) (ld3 W' _ 25 _ (hW'.1 25 _ rfl))

set_option maxRecDepth 100000 in
theorem ob_139 {w : World} {c : Cm} {cv vv fv ea wa : Value} {m : Int} {a0 : Act} {Q : Exit → Act → World → Prop} : Ob w c cv vv fv ea wa m a0 Q 139 := by
  intro o listed a W ho hd hl hS K hK
  have eo : rops[139]? = some (opAt 139) := by kernel_rfl
  obtain rfl : o = opAt 139 := Option.some.inj (ho.symm.trans eo)
  have sg := hd.slot hl 127 140 (by kernel_rfl) (by kernel_rfl) (by kernel_rfl)
  have hw := wanted_some (o := opAt 139) (ops := rops) (g := 127) (b := true) (c := (Pr (Xc m c) 11)) (by kernel_rfl) (by kernel_rfl) sg
  have s1 := hd.slot hl 138 151 (by kernel_rfl) (by kernel_rfl) (by kernel_rfl)
  cases hp : (Pr (Xc m c) 11) with
  | false =>
    rw [hp] at hw
    exact run_quiet eo (Or.inr ⟨hw, by show gv (Pr (Xc m c) 11) _ = undef; rw [hp]; rfl⟩) hS hK
  | true =>
    rw [hp] at hw
    have hV : VV w c cv vv fv ea wa m 139 = .bool (decide (c.limit = 0)) := by show gv (Pr (Xc m c) 11) _ = _; rw [hp]; rfl
    rw [hV] at hK
    replace s1 : a.tmps[151]? = some (.int .i64 c.limit) := s1.trans (by show some (gv (Pr (Xc m c) 11) _) = _; rw [hp]; rfl)
    refine run_quiet eo (Or.inl ⟨hw, fun W' hW' => ?_⟩) hS hK
    exact ex_bin (u := 3) (x := .tmp 151) (y := .const (.int .i64 0)) (by kernel_rfl) (eval_tmp s1) rfl (eq3 W' _ _ _)

set_option maxRecDepth 100000 in
theorem ob_140 {w : World} {c : Cm} {cv vv fv ea wa : Value} {m : Int} {a0 : Act} {Q : Exit → Act → World → Prop} : Ob w c cv vv fv ea wa m a0 Q 140 := by
  intro o listed a W ho hd hl hS K hK
  have eo : rops[140]? = some (opAt 140) := by kernel_rfl
  obtain rfl : o = opAt 140 := Option.some.inj (ho.symm.trans eo)
  have sg := hd.slot hl 127 140 (by kernel_rfl) (by kernel_rfl) (by kernel_rfl)
  have hw := wanted_some (o := opAt 140) (ops := rops) (g := 127) (b := true) (c := (Pr (Xc m c) 11)) (by kernel_rfl) (by kernel_rfl) sg
  have s1 := hd.slot hl 128 141 (by kernel_rfl) (by kernel_rfl) (by kernel_rfl)
  have s2 := hd.slot hl 136 149 (by kernel_rfl) (by kernel_rfl) (by kernel_rfl)
  have s3 := hd.slot hl 139 152 (by kernel_rfl) (by kernel_rfl) (by kernel_rfl)
  cases hp : (Pr (Xc m c) 11) with
  | false =>
    rw [hp] at hw
    exact run_quiet eo (Or.inr ⟨hw, by show gv (Pr (Xc m c) 11) _ = undef; rw [hp]; rfl⟩) hS hK
  | true =>
    rw [hp] at hw
    have hV : VV w c cv vv fv ea wa m 140 = .bool ((Xc m c) 12) := by show gv (Pr (Xc m c) 11) _ = _; rw [hp]; rfl
    rw [hV] at hK
    replace s1 : a.tmps[141]? = some (.func (.func 71) #[] #[.pointer (some ⟨w.heap.size + 1, 0, none⟩)]) := s1.trans (by show some (gv (Pr (Xc m c) 11) _) = _; rw [hp]; rfl)
    replace s2 : a.tmps[149]? = some (.bool (decide (-1 ≤ c.limit) && decide (c.limit ≤ 999999999))) := s2.trans (by show some (gv (Pr (Xc m c) 11) _) = _; rw [hp]; rfl)
    replace s3 : a.tmps[152]? = some (.bool (decide (c.limit = 0))) := s3.trans (by show some (gv (Pr (Xc m c) 11) _) = _; rw [hp]; rfl)
    refine run_call 71 #[.int .i64 2048, .bool (decide (-1 ≤ c.limit) && decide (c.limit ≤ 999999999)), .bool (decide (c.limit = 0)), .pointer (some ⟨w.heap.size + 1, 0, none⟩)] eo hw (ex_is (ts := #[3, 4, 4]) (t := .tmp 141) (x := .const (.int .i64 2048)) (y := .tmp 149) (z := .tmp 152) (f := 71) cf71 (by kernel_rfl) (eval_tmp s1) rfl (eval_tmp s2) (eval_tmp s3)) ((is_any m 2048 (decide (-1 ≤ c.limit) && decide (c.limit ≤ 999999999)) (decide (c.limit = 0)) _ W hS.2.1).mono fun e w' h => ⟨h.1, h.2 ▸ hS⟩) hK

set_option maxRecDepth 100000 in
theorem ob_141 {w : World} {c : Cm} {cv vv fv ea wa : Value} {m : Int} {a0 : Act} {Q : Exit → Act → World → Prop} : Ob w c cv vv fv ea wa m a0 Q 141 := by
  intro o listed a W ho hd hl hS K hK
  have eo : rops[141]? = some (opAt 141) := by kernel_rfl
  obtain rfl : o = opAt 141 := Option.some.inj (ho.symm.trans eo)
  have s1 := hd.slot hl 127 140 (by kernel_rfl) (by kernel_rfl) (by kernel_rfl)
  have s2 := hd.slot hl 140 153 (by kernel_rfl) (by kernel_rfl) (by kernel_rfl)
  have ev : (if (Pr (Xc m c) 11) = true then a.eval (.tmp 153) else a.eval (.const (.bool false))) = .bool (Pr (Xc m c) 12) := by
    rw [eval_tmp s2]
    show (if (Pr (Xc m c) 11) = true then gv (Pr (Xc m c) 11) (.bool ((Xc m c) 12)) else .bool false) = .bool ((Pr (Xc m c) 11) && (Xc m c) 12)
    cases (Pr (Xc m c) 11) <;> rfl
  refine run_quiet eo (Or.inl ⟨wanted_none (by kernel_rfl), fun W' hW' => ?_⟩) hS hK
  rw [ex_pick (P := Tryz.prog) (ρ := a.eval) (W := W') (o := opAt 141) (c := .tmp 140) (x := .tmp 153) (y := .const (.bool false)) (b := (Pr (Xc m c) 11)) (by kernel_rfl) (eval_tmp s1), ev]; rfl

set_option maxRecDepth 100000 in
theorem ob_142 {w : World} {c : Cm} {cv vv fv ea wa : Value} {m : Int} {a0 : Act} {Q : Exit → Act → World → Prop} : Ob w c cv vv fv ea wa m a0 Q 142 := by
  intro o listed a W ho hd hl hS K hK
  have eo : rops[142]? = some (opAt 142) := by kernel_rfl
  obtain rfl : o = opAt 142 := Option.some.inj (ho.symm.trans eo)
  have s1 := hd.slot hl 141 154 (by kernel_rfl) (by kernel_rfl) (by kernel_rfl)
  refine run_quiet eo (Or.inl ⟨wanted_none (by kernel_rfl), fun W' hW' => ?_⟩) hS hK
  exact ex_assign (x := .tmp 154) (by kernel_rfl) (eval_tmp s1)


end Go.Proofs.YtkpeklealgicpabGreatDoor
