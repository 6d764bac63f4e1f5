/-
  Regions by rows: what single operations do, for disks.
-/
import Derived.Test.YtppgkhcmdajolaaRgw
namespace Go.Proofs.Ytppgkhcmdajolaa
open Go.RowKit

theorem ld25 (W : World) (b o : Nat) (x y : Value) (h : W.cell? ⟨b, o, none⟩ = some x) (h1 : W.cell? ⟨b, o + 1, none⟩ = some y) : (Instr.loadAt 25 (.pointer (some ⟨b, o, none⟩))).run Try.prog W = .ok (.agg #[x, y]) W := by go_simp
theorem ld23 (W : World) (b o : Nat) (v : Value) (h : W.cell? ⟨b, o, none⟩ = some v) : (Instr.loadAt 23 (.pointer (some ⟨b, o, none⟩))).run Try.prog W = .ok v W := by go_simp
theorem ld22 (W : World) (b o : Nat) (v : Value) (h : W.cell? ⟨b, o, none⟩ = some v) : (Instr.loadAt 22 (.pointer (some ⟨b, o, none⟩))).run Try.prog W = .ok v W := by go_simp
theorem ld9 (W : World) (b o : Nat) (v : Value) (h : W.cell? ⟨b, o, none⟩ = some v) : (Instr.loadAt 9 (.pointer (some ⟨b, o, none⟩))).run Try.prog W = .ok v W := by go_simp
theorem fd0 (W : World) (b : Nat) : (Instr.fieldAt 25 (.pointer (some ⟨b, 0, none⟩)) 0).run Try.prog W = .ok (.pointer (some ⟨b, 0, none⟩)) W := by go_simp
theorem fd1 (W : World) (b : Nat) : (Instr.fieldAt 25 (.pointer (some ⟨b, 0, none⟩)) 1).run Try.prog W = .ok (.pointer (some ⟨b, 1, none⟩)) W := by go_simp
theorem ix22 (W : World) (g o n c i : Nat) (h : i < n) : (Instr.indexAt 22 (.slice (some ⟨g, o, none⟩) n c) (.int .i64 (i : Int))).run Try.prog W = .ok (.pointer (some ⟨g, o + i, none⟩)) W := by
  have h' : (i : Int) < (n : Int) := by omega
  go_simp
theorem len22 (W : World) (a : Option Addr) (n c : Nat) (ty : TypeId) : (Builtin.len_ #[22] ty #[.slice a n c]).run Try.prog W = .ok (.int .i64 (n : Int)) W := by go_simp
theorem len23 (W : World) (a : Option Addr) (n c : Nat) (ty : TypeId) : (Builtin.len_ #[23] ty #[.slice a n c]).run Try.prog W = .ok (.int .i64 (n : Int)) W := by go_simp
theorem eq27c (W : World) (x y : Operand) (n m : Int) : (do eqGuard .eql 27 x y (.int .i64 n) (.int .i64 m); binOp .eql 27 (.int .i64 n) (.int .i64 m) : Sem Value).run Try.prog W = .ok (.bool (decide (n = m))) W := by
  have e : (n == m) = decide (n = m) := by rw [Bool.eq_iff_iff]; simp
  rw [← e]
  go_simp
theorem ne27c (W : World) (x y : Operand) (n m : Int) : (do eqGuard .neq 27 x y (.int .i64 n) (.int .i64 m); binOp .neq 27 (.int .i64 n) (.int .i64 m) : Sem Value).run Try.prog W = .ok (.bool (!decide (n = m))) W := by
  have e : (n == m) = decide (n = m) := by rw [Bool.eq_iff_iff]; simp
  rw [← e]
  go_simp
  try (cases (n == m) <;> rfl)
theorem eq3c (W : World) (x y : Operand) (n m : Int) : (do eqGuard .eql 3 x y (.int .i64 n) (.int .i64 m); binOp .eql 3 (.int .i64 n) (.int .i64 m) : Sem Value).run Try.prog W = .ok (.bool (decide (n = m))) W := by
  have e : (n == m) = decide (n = m) := by rw [Bool.eq_iff_iff]; simp
  rw [← e]
  go_simp
theorem geq3c (W : World) (x y : Operand) (n m : Int) : (do eqGuard .geq 3 x y (.int .i64 n) (.int .i64 m); binOp .geq 3 (.int .i64 n) (.int .i64 m) : Sem Value).run Try.prog W = .ok (.bool (decide (m ≤ n))) W := by go_simp
theorem lss3c (W : World) (x y : Operand) (n m : Int) : (do eqGuard .lss 3 x y (.int .i64 n) (.int .i64 m); binOp .lss 3 (.int .i64 n) (.int .i64 m) : Sem Value).run Try.prog W = .ok (.bool (decide (n < m))) W := by go_simp
theorem eq9c (W : World) (x y : Operand) (n m : ByteArray) : (do eqGuard .eql 9 x y (.string n) (.string m); binOp .eql 9 (.string n) (.string m) : Sem Value).run Try.prog W = .ok (.bool (decide (n = m))) W := by
  by_cases h : n = m
  · subst h
    go_simp
  · have h1 : (n.toList == m.toList) = false := beq_eq_false_iff_ne.2 fun e => h ((bytes_iff n m).1 e)
    go_simp
theorem cf16 (args : Array Value) (W : World) : (callFunc 16 args).run Try.prog W = .ok (.enter 16 args) W := by go_simp
theorem cf18 (args : Array Value) (W : World) : (callFunc 18 args).run Try.prog W = .ok (.enter 18 args) W := by go_simp
theorem cf35 (args : Array Value) (W : World) : (callFunc 35 args).run Try.prog W = .ok (.enter 35 args) W := by go_simp

end Go.Proofs.Ytppgkhcmdajolaa
