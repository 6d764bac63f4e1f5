/-
  'partFault' of package expr.
-/
import Derived.Test.YtjmhkeooiimpfaaGreatIlo
import Derived.Laws.StructEq
import Derived.Deep.MidRow
namespace Go.Proofs.YtjmhkeooiimpfaaGreat
open Go.RowKit

theorem Tryz.fields25 : (Tryz.prog.fieldsOf 25).toList.map (fun f => (f.name, f.type, f.offset)) = [("Kind", 3, 0), ("N", 3, 1), ("S", 9, 2)] := by kernel_rfl
theorem Tryz.under25 : Tryz.prog.underlying 25 = some (.struct (Tryz.prog.fieldsOf 25)) := by kernel_rfl
theorem Tryz.stood25 : Tryz.prog.stoodInHeld 25 = false := by kernel_rfl

theorem neq25 (k a k' a' : Int) (t t' : ByteArray) (w : World) :
    (binOp .neq 25 (.agg #[.int .i64 k, .int .i64 a, .string t]) (.agg #[.int .i64 k', .int .i64 a', .string t'])).run Tryz.prog w = .ok (.bool (!sameTk k a t k' a' t')) w := by
  rw [run_neq_struct, run_equalIn_struct w 9999 25 _ _ Tryz.under25 Tryz.stood25]
  obtain ⟨f0, f1, f2, hf, n0, t0, o0, n1, t1, o1, n2, t2, o2⟩ := fields_three Tryz.fields25
  rw [hf]
  simp [Op.eqFields, n0, t0, o0, n1, t1, o1, n2, t2, o2, go_sem]
  unfold sameTk
  by_cases h1 : k = k' <;> by_cases h2 : a = a' <;> by_cases h3 : t.toList = t'.toList <;> simp [h1, h2, h3]

theorem same0 (x : Vl) : sameTk x.k x.n ⟨x.s.toArray⟩ 0 0 ⟨#[]⟩ = decide (x = vl0) := by
  obtain ⟨k, n, s⟩ := x
  unfold sameTk vl0
  have e1 : (⟨s.toArray⟩ : ByteArray).toList = s := by rw [Lib.toList_data]
  have e2 : (⟨#[]⟩ : ByteArray).toList = [] := by rw [Lib.toList_data]
  simp only [e1, e2]
  rw [Bool.eq_iff_iff]
  simp [and_assoc]

theorem checkX (x : Vl) (hs : x.s.length ≤ 140737488355328) (W : World) : Calls Tryz.prog 8 #[.agg #[.int .i64 x.k, .int .i64 x.n, .string ⟨x.s.toArray⟩]] W fun e w' => e = .returned (.int .i64 (chkV x.k x.n x.s : Nat)) ∧ Below W.heap.size W w' := by
  have h := check_any x.k x.n ⟨x.s.toArray⟩ W (by rw [size_mk]; exact hs)
  have e0 : (⟨x.s.toArray⟩ : ByteArray).data.toList = x.s := by simp
  rw [e0] at h
  exact h

abbrev exL (k : Int) (x : Vl) (nm : List UInt8) (a : Value) : Value := .agg #[.int .i64 k, .int .i64 x.k, .int .i64 x.n, .string ⟨x.s.toArray⟩, .string ⟨nm.toArray⟩, a]

set_option maxRecDepth 100000 in
set_option maxHeartbeats 1600000 in
theorem pf_no (cv : Value) (k : Int) (x : Vl) (nm : List UInt8) (ao : Option Addr) (n ca : Nat) (w : World)
    (hsh : ∀ W, Calls Tryz.prog 25 #[.int .i64 k] W fun e w' => e = .returned (.tuple #[.agg #[.int .i64 0, .int .i64 0, .int .i64 0], .bool false]) ∧ Below W.heap.size W w') :
    Calls Tryz.prog 23 #[cv, exL k x nm (.slice ao n ca)] w fun e w' => e = .returned (.int .i64 7) ∧ Below w.heap.size w w' := by
  go_enter Tryz.func23, Tryz.ntmps23
  go_wp2_with (go_at_call 25; refine (hsh _).mono ?_; rintro e w1 ⟨rfl, b1⟩)
  go_ret
  exact ⟨rfl, (((Below.refl _ _).alloc (Nat.le_refl _) _).trans (b1.mono (by simp))).alloc (by have := b1.size; simp at this; omega) _⟩








set_option maxRecDepth 100000 in
set_option maxHeartbeats 1600000 in
theorem pf_1bad (cv : Value) (x : Vl) (nm : List UInt8) (ao : Option Addr) (n ca : Nat) (w : World) (A M I : Int) (hb : ¬ (n : Int) = A ∨ ((n : Int) = A ∧ nm.isEmpty = false))
    (hsh : ∀ W, Calls Tryz.prog 25 #[.int .i64 1] W fun e w' => e = .returned (.tuple #[.agg #[.int .i64 A, .int .i64 M, .int .i64 I], .bool true]) ∧ Below W.heap.size W w') :
    Calls Tryz.prog 23 #[cv, exL 1 x nm (.slice ao n ca)] w fun e w' => e = .returned (.int .i64 1) ∧ Below w.heap.size w w' := by
  have hq := neq25
  rcases hb with hb | ⟨hb, hb2⟩
  all_goals
    go_enter Tryz.func23, Tryz.ntmps23
    go_wp2_with (first | (go_at_call 25; refine (hsh _).mono ?_; rintro e w1 ⟨rfl, b1⟩; have z1 : w.heap.size < w1.heap.size := (by have := b1.size; simp at this; omega); have d0 := (b1.cell (p := ⟨w.heap.size, 0, none⟩) (by simp)).trans (by simp : _ = some (.int .i64 1)); have d1 := (b1.cell (p := ⟨w.heap.size, 1, none⟩) (by simp)).trans (by simp : _ = some (.int .i64 x.k)); have d2 := (b1.cell (p := ⟨w.heap.size, 2, none⟩) (by simp)).trans (by simp : _ = some (.int .i64 x.n)); have d3 := (b1.cell (p := ⟨w.heap.size, 3, none⟩) (by simp)).trans (by simp : _ = some (.string ⟨x.s.toArray⟩)); have d4 := (b1.cell (p := ⟨w.heap.size, 4, none⟩) (by simp)).trans (by simp : _ = some (.string ⟨nm.toArray⟩)); have d5 := (b1.cell (p := ⟨w.heap.size, 5, none⟩) (by simp)).trans (by simp : _ = some (.slice ao n ca)); have q1 : Below w.heap.size w w1 := ((Below.refl _ _).alloc (Nat.le_refl _) _).trans (b1.mono (by simp)); clear hsh b1))
    all_goals go_ret
    all_goals exact ⟨rfl, q1.alloc (by omega) _⟩

set_option maxRecDepth 100000 in
set_option maxHeartbeats 1600000 in
theorem pf_1ok (cv : Value) (x : Vl) (nm : List UInt8) (ao : Option Addr) (n ca : Nat) (w : World) (A M I : Int) (hb : (n : Int) = A) (hb2 : nm.isEmpty = true)
    (hsh : ∀ W, Calls Tryz.prog 25 #[.int .i64 1] W fun e w' => e = .returned (.tuple #[.agg #[.int .i64 A, .int .i64 M, .int .i64 I], .bool true]) ∧ Below W.heap.size W w') (c : Nat) (hc : ∀ W, Calls Tryz.prog 8 #[.agg #[.int .i64 x.k, .int .i64 x.n, .string ⟨x.s.toArray⟩]] W fun e w' => e = .returned (.int .i64 (c : Nat)) ∧ Below W.heap.size W w') :
    Calls Tryz.prog 23 #[cv, exL 1 x nm (.slice ao n ca)] w fun e w' => e = .returned (.int .i64 (c : Nat)) ∧ Below w.heap.size w w' := by
  have hq := neq25
  go_enter Tryz.func23, Tryz.ntmps23
  go_wp2_with (first | (go_at_call 25; refine (hsh _).mono ?_; rintro e w1 ⟨rfl, b1⟩; have z1 : w.heap.size < w1.heap.size := (by have := b1.size; simp at this; omega); have d0 := (b1.cell (p := ⟨w.heap.size, 0, none⟩) (by simp)).trans (by simp : _ = some (.int .i64 1)); have d1 := (b1.cell (p := ⟨w.heap.size, 1, none⟩) (by simp)).trans (by simp : _ = some (.int .i64 x.k)); have d2 := (b1.cell (p := ⟨w.heap.size, 2, none⟩) (by simp)).trans (by simp : _ = some (.int .i64 x.n)); have d3 := (b1.cell (p := ⟨w.heap.size, 3, none⟩) (by simp)).trans (by simp : _ = some (.string ⟨x.s.toArray⟩)); have d4 := (b1.cell (p := ⟨w.heap.size, 4, none⟩) (by simp)).trans (by simp : _ = some (.string ⟨nm.toArray⟩)); have d5 := (b1.cell (p := ⟨w.heap.size, 5, none⟩) (by simp)).trans (by simp : _ = some (.slice ao n ca)); have q1 : Below w.heap.size w w1 := ((Below.refl _ _).alloc (Nat.le_refl _) _).trans (b1.mono (by simp)); clear hsh b1) | (go_at_call 8; refine (hc _).mono ?_; rintro e w3 ⟨rfl, b3⟩))
  all_goals go_ret
  all_goals exact ⟨rfl, (q1.alloc (by omega) _).trans (b3.mono (by simp; omega))⟩

set_option maxRecDepth 100000 in
set_option maxHeartbeats 1600000 in
theorem pf_2bad (cv : Value) (x : Vl) (nm : List UInt8) (ao : Option Addr) (n ca : Nat) (w : World) (A M I : Int) (hb : ¬ (n : Int) = A ∨ ((n : Int) = A ∧ sameTk x.k x.n ⟨x.s.toArray⟩ 0 0 ⟨#[]⟩ = false))
    (hsh : ∀ W, Calls Tryz.prog 25 #[.int .i64 2] W fun e w' => e = .returned (.tuple #[.agg #[.int .i64 A, .int .i64 M, .int .i64 I], .bool true]) ∧ Below W.heap.size W w') :
    Calls Tryz.prog 23 #[cv, exL 2 x nm (.slice ao n ca)] w fun e w' => e = .returned (.int .i64 1) ∧ Below w.heap.size w w' := by
  have hq := neq25
  rcases hb with hb | ⟨hb, hb2⟩
  all_goals
    go_enter Tryz.func23, Tryz.ntmps23
    go_wp2_with (first | (go_at_call 25; refine (hsh _).mono ?_; rintro e w1 ⟨rfl, b1⟩; have z1 : w.heap.size < w1.heap.size := (by have := b1.size; simp at this; omega); have d0 := (b1.cell (p := ⟨w.heap.size, 0, none⟩) (by simp)).trans (by simp : _ = some (.int .i64 2)); have d1 := (b1.cell (p := ⟨w.heap.size, 1, none⟩) (by simp)).trans (by simp : _ = some (.int .i64 x.k)); have d2 := (b1.cell (p := ⟨w.heap.size, 2, none⟩) (by simp)).trans (by simp : _ = some (.int .i64 x.n)); have d3 := (b1.cell (p := ⟨w.heap.size, 3, none⟩) (by simp)).trans (by simp : _ = some (.string ⟨x.s.toArray⟩)); have d4 := (b1.cell (p := ⟨w.heap.size, 4, none⟩) (by simp)).trans (by simp : _ = some (.string ⟨nm.toArray⟩)); have d5 := (b1.cell (p := ⟨w.heap.size, 5, none⟩) (by simp)).trans (by simp : _ = some (.slice ao n ca)); have q1 : Below w.heap.size w w1 := ((Below.refl _ _).alloc (Nat.le_refl _) _).trans (b1.mono (by simp)); clear hsh b1))
    all_goals go_ret
    all_goals exact ⟨rfl, q1.alloc (by omega) _⟩

set_option maxRecDepth 100000 in
set_option maxHeartbeats 1600000 in
theorem pf_2none (cv : Value) (x : Vl) (nm : List UInt8) (ao : Option Addr) (n ca : Nat) (w : World) (A M I : Int) (hb : (n : Int) = A) (hb2 : sameTk x.k x.n ⟨x.s.toArray⟩ 0 0 ⟨#[]⟩ = true)
    (hsh : ∀ W, Calls Tryz.prog 25 #[.int .i64 2] W fun e w' => e = .returned (.tuple #[.agg #[.int .i64 A, .int .i64 M, .int .i64 I], .bool true]) ∧ Below W.heap.size W w') (P : Int) (hP : P < 0) (hp : ∀ W, Below w.heap.size w W → Calls Tryz.prog 24 #[cv, .string ⟨nm.toArray⟩] W fun e w' => e = .returned (.int .i64 P) ∧ Below W.heap.size W w') :
    Calls Tryz.prog 23 #[cv, exL 2 x nm (.slice ao n ca)] w fun e w' => e = .returned (.int .i64 5) ∧ Below w.heap.size w w' := by
  have hq := neq25
  go_enter Tryz.func23, Tryz.ntmps23
  go_wp2_with (first | (go_at_call 25; refine (hsh _).mono ?_; rintro e w1 ⟨rfl, b1⟩; have z1 : w.heap.size < w1.heap.size := (by have := b1.size; simp at this; omega); have d0 := (b1.cell (p := ⟨w.heap.size, 0, none⟩) (by simp)).trans (by simp : _ = some (.int .i64 2)); have d1 := (b1.cell (p := ⟨w.heap.size, 1, none⟩) (by simp)).trans (by simp : _ = some (.int .i64 x.k)); have d2 := (b1.cell (p := ⟨w.heap.size, 2, none⟩) (by simp)).trans (by simp : _ = some (.int .i64 x.n)); have d3 := (b1.cell (p := ⟨w.heap.size, 3, none⟩) (by simp)).trans (by simp : _ = some (.string ⟨x.s.toArray⟩)); have d4 := (b1.cell (p := ⟨w.heap.size, 4, none⟩) (by simp)).trans (by simp : _ = some (.string ⟨nm.toArray⟩)); have d5 := (b1.cell (p := ⟨w.heap.size, 5, none⟩) (by simp)).trans (by simp : _ = some (.slice ao n ca)); have q1 : Below w.heap.size w w1 := ((Below.refl _ _).alloc (Nat.le_refl _) _).trans (b1.mono (by simp)); clear hsh b1) | (go_at_call 24; refine (hp _ (q1.alloc (by omega) _)).mono ?_; rintro e w2 ⟨rfl, b2⟩; have e1 := (b2.cell (p := ⟨w.heap.size, 1, none⟩) (by simp; omega)).trans ((World.cell?_alloc_past _ _ _ (by omega)).trans d1); have e2 := (b2.cell (p := ⟨w.heap.size, 2, none⟩) (by simp; omega)).trans ((World.cell?_alloc_past _ _ _ (by omega)).trans d2); have e3 := (b2.cell (p := ⟨w.heap.size, 3, none⟩) (by simp; omega)).trans ((World.cell?_alloc_past _ _ _ (by omega)).trans d3); have q2 : Below w.heap.size w w2 := (q1.alloc (by omega) _).trans (b2.mono (by simp; omega)); clear hp b2 d0 d1 d2 d3 d4 d5))
  all_goals go_ret
  all_goals exact ⟨rfl, q2⟩

set_option maxRecDepth 100000 in
set_option maxHeartbeats 1600000 in
theorem pf_2some (cv : Value) (x : Vl) (nm : List UInt8) (ao : Option Addr) (n ca : Nat) (w : World) (A M I : Int) (hb : (n : Int) = A) (hb2 : sameTk x.k x.n ⟨x.s.toArray⟩ 0 0 ⟨#[]⟩ = true)
    (hsh : ∀ W, Calls Tryz.prog 25 #[.int .i64 2] W fun e w' => e = .returned (.tuple #[.agg #[.int .i64 A, .int .i64 M, .int .i64 I], .bool true]) ∧ Below W.heap.size W w') (P : Int) (hP : ¬ P < 0) (hp : ∀ W, Below w.heap.size w W → Calls Tryz.prog 24 #[cv, .string ⟨nm.toArray⟩] W fun e w' => e = .returned (.int .i64 P) ∧ Below W.heap.size W w') (c : Nat) (hc : ∀ W, Calls Tryz.prog 8 #[.agg #[.int .i64 x.k, .int .i64 x.n, .string ⟨x.s.toArray⟩]] W fun e w' => e = .returned (.int .i64 (c : Nat)) ∧ Below W.heap.size W w') :
    Calls Tryz.prog 23 #[cv, exL 2 x nm (.slice ao n ca)] w fun e w' => e = .returned (.int .i64 (c : Nat)) ∧ Below w.heap.size w w' := by
  have hq := neq25
  go_enter Tryz.func23, Tryz.ntmps23
  go_wp2_with (first | (go_at_call 25; refine (hsh _).mono ?_; rintro e w1 ⟨rfl, b1⟩; have z1 : w.heap.size < w1.heap.size := (by have := b1.size; simp at this; omega); have d0 := (b1.cell (p := ⟨w.heap.size, 0, none⟩) (by simp)).trans (by simp : _ = some (.int .i64 2)); have d1 := (b1.cell (p := ⟨w.heap.size, 1, none⟩) (by simp)).trans (by simp : _ = some (.int .i64 x.k)); have d2 := (b1.cell (p := ⟨w.heap.size, 2, none⟩) (by simp)).trans (by simp : _ = some (.int .i64 x.n)); have d3 := (b1.cell (p := ⟨w.heap.size, 3, none⟩) (by simp)).trans (by simp : _ = some (.string ⟨x.s.toArray⟩)); have d4 := (b1.cell (p := ⟨w.heap.size, 4, none⟩) (by simp)).trans (by simp : _ = some (.string ⟨nm.toArray⟩)); have d5 := (b1.cell (p := ⟨w.heap.size, 5, none⟩) (by simp)).trans (by simp : _ = some (.slice ao n ca)); have q1 : Below w.heap.size w w1 := ((Below.refl _ _).alloc (Nat.le_refl _) _).trans (b1.mono (by simp)); clear hsh b1) | (go_at_call 24; refine (hp _ (q1.alloc (by omega) _)).mono ?_; rintro e w2 ⟨rfl, b2⟩; have e1 := (b2.cell (p := ⟨w.heap.size, 1, none⟩) (by simp; omega)).trans ((World.cell?_alloc_past _ _ _ (by omega)).trans d1); have e2 := (b2.cell (p := ⟨w.heap.size, 2, none⟩) (by simp; omega)).trans ((World.cell?_alloc_past _ _ _ (by omega)).trans d2); have e3 := (b2.cell (p := ⟨w.heap.size, 3, none⟩) (by simp; omega)).trans ((World.cell?_alloc_past _ _ _ (by omega)).trans d3); have q2 : Below w.heap.size w w2 := (q1.alloc (by omega) _).trans (b2.mono (by simp; omega)); clear hp b2 d0 d1 d2 d3 d4 d5) | (go_at_call 8; refine (hc _).mono ?_; rintro e w3 ⟨rfl, b3⟩))
  all_goals go_ret
  all_goals exact ⟨rfl, q2.trans (b3.mono (by exact q2.size))⟩

set_option maxRecDepth 100000 in
set_option maxHeartbeats 1600000 in
theorem pf_obad (cv : Value) (k : Int) (x : Vl) (nm : List UInt8) (ao : Option Addr) (n ca : Nat) (w : World) (A M I : Int) (h3 : (k != 1) = true) (h4 : (k != 2) = true) (hb : ¬ (n : Int) = A ∨ ((n : Int) = A ∧ sameTk x.k x.n ⟨x.s.toArray⟩ 0 0 ⟨#[]⟩ = false) ∨ ((n : Int) = A ∧ sameTk x.k x.n ⟨x.s.toArray⟩ 0 0 ⟨#[]⟩ = true ∧ nm.isEmpty = false))
    (hsh : ∀ W, Calls Tryz.prog 25 #[.int .i64 k] W fun e w' => e = .returned (.tuple #[.agg #[.int .i64 A, .int .i64 M, .int .i64 I], .bool true]) ∧ Below W.heap.size W w') :
    Calls Tryz.prog 23 #[cv, exL k x nm (.slice ao n ca)] w fun e w' => e = .returned (.int .i64 1) ∧ Below w.heap.size w w' := by
  have hq := neq25
  rcases hb with hb | ⟨hb, hb2⟩ | ⟨hb, hb2, hb3⟩
  all_goals
    go_enter Tryz.func23, Tryz.ntmps23
    go_wp2_with (first | (go_at_call 25; refine (hsh _).mono ?_; rintro e w1 ⟨rfl, b1⟩; have z1 : w.heap.size < w1.heap.size := (by have := b1.size; simp at this; omega); have d0 := (b1.cell (p := ⟨w.heap.size, 0, none⟩) (by simp)).trans (by simp : _ = some (.int .i64 k)); have d1 := (b1.cell (p := ⟨w.heap.size, 1, none⟩) (by simp)).trans (by simp : _ = some (.int .i64 x.k)); have d2 := (b1.cell (p := ⟨w.heap.size, 2, none⟩) (by simp)).trans (by simp : _ = some (.int .i64 x.n)); have d3 := (b1.cell (p := ⟨w.heap.size, 3, none⟩) (by simp)).trans (by simp : _ = some (.string ⟨x.s.toArray⟩)); have d4 := (b1.cell (p := ⟨w.heap.size, 4, none⟩) (by simp)).trans (by simp : _ = some (.string ⟨nm.toArray⟩)); have d5 := (b1.cell (p := ⟨w.heap.size, 5, none⟩) (by simp)).trans (by simp : _ = some (.slice ao n ca)); have q1 : Below w.heap.size w w1 := ((Below.refl _ _).alloc (Nat.le_refl _) _).trans (b1.mono (by simp)); clear hsh b1))
    all_goals go_ret
    all_goals exact ⟨rfl, q1.alloc (by omega) _⟩

set_option maxRecDepth 100000 in
set_option maxHeartbeats 1600000 in
theorem pf_ook (cv : Value) (k : Int) (x : Vl) (nm : List UInt8) (ao : Option Addr) (n ca : Nat) (w : World) (A M I : Int) (h2 : (k == 2) = false) (h3 : (k != 1) = true) (h4 : (k != 2) = true) (hb : (n : Int) = A) (hb2 : sameTk x.k x.n ⟨x.s.toArray⟩ 0 0 ⟨#[]⟩ = true) (hb3 : nm.isEmpty = true)
    (hsh : ∀ W, Calls Tryz.prog 25 #[.int .i64 k] W fun e w' => e = .returned (.tuple #[.agg #[.int .i64 A, .int .i64 M, .int .i64 I], .bool true]) ∧ Below W.heap.size W w') (c : Nat) (hc : ∀ W, Calls Tryz.prog 8 #[.agg #[.int .i64 x.k, .int .i64 x.n, .string ⟨x.s.toArray⟩]] W fun e w' => e = .returned (.int .i64 (c : Nat)) ∧ Below W.heap.size W w') :
    Calls Tryz.prog 23 #[cv, exL k x nm (.slice ao n ca)] w fun e w' => e = .returned (.int .i64 (c : Nat)) ∧ Below w.heap.size w w' := by
  have hq := neq25
  go_enter Tryz.func23, Tryz.ntmps23
  go_wp2_with (first | (go_at_call 25; refine (hsh _).mono ?_; rintro e w1 ⟨rfl, b1⟩; have z1 : w.heap.size < w1.heap.size := (by have := b1.size; simp at this; omega); have d0 := (b1.cell (p := ⟨w.heap.size, 0, none⟩) (by simp)).trans (by simp : _ = some (.int .i64 k)); have d1 := (b1.cell (p := ⟨w.heap.size, 1, none⟩) (by simp)).trans (by simp : _ = some (.int .i64 x.k)); have d2 := (b1.cell (p := ⟨w.heap.size, 2, none⟩) (by simp)).trans (by simp : _ = some (.int .i64 x.n)); have d3 := (b1.cell (p := ⟨w.heap.size, 3, none⟩) (by simp)).trans (by simp : _ = some (.string ⟨x.s.toArray⟩)); have d4 := (b1.cell (p := ⟨w.heap.size, 4, none⟩) (by simp)).trans (by simp : _ = some (.string ⟨nm.toArray⟩)); have d5 := (b1.cell (p := ⟨w.heap.size, 5, none⟩) (by simp)).trans (by simp : _ = some (.slice ao n ca)); have q1 : Below w.heap.size w w1 := ((Below.refl _ _).alloc (Nat.le_refl _) _).trans (b1.mono (by simp)); clear hsh b1) | (go_at_call 8; refine (hc _).mono ?_; rintro e w3 ⟨rfl, b3⟩))
  all_goals go_ret
  all_goals exact ⟨rfl, (q1.alloc (by omega) _).trans (b3.mono (by simp; omega))⟩

theorem shape_call (k : Int) (hk : isKind k = true) (W : World) : Calls Tryz.prog 25 #[.int .i64 k] W fun e w' => e = .returned (.tuple #[.agg #[.int .i64 (argsS k : Nat), .int .i64 (madeS k), .int .i64 (isG k)], .bool true]) ∧ Below W.heap.size W w' := by
  have h := shapeOf_any k W
  rw [shV, hk, if_pos rfl] at h
  exact h

theorem partF_mk (L : List Cl) (k : Int) (v : Vl) (nm : List UInt8) (args : List Ex) : partF L (.mk k v nm args) = if k < 1 ∨ 11 < k then 7
  else if args.length ≠ argsS k ∨ (k ≠ 1 ∧ v ≠ vl0) ∨ (k ≠ 2 ∧ nm ≠ []) then 1
  else if k = 2 ∧ placeC L nm = none then 5
  else chkV v.k v.n v.s := rfl

theorem partFault_any (L : List Cl) (cv : Value) {B : Nat} {w0 w : World} {u : Value} {x : Ex} (hC : CsAt w cv L) (h : ExAt B w0 u x) (hf : Fit x) :
    Calls Tryz.prog 23 #[cv, u] w fun e w' => e = .returned (.int .i64 (partF L x : Nat)) ∧ Below w.heap.size w w' := by
  obtain ⟨ao, ca, rfl⟩ := h.len
  obtain ⟨k, v, nm, args⟩ := x
  clear h
  have hv : v.s.length ≤ 140737488355328 := by cases hf; assumption
  have hc := checkX v hv
  have h0 := same0 v
  have hp := fun W (hW : Below w.heap.size w W) => place_any L cv nm W (hC.below hW)
  have hem : nm.isEmpty = decide (nm = []) := by cases nm <;> rfl
  simp only [Ex.k, Ex.v, Ex.nm, Ex.args, exV]
  rw [partF_mk]
  by_cases hk : k < 1 ∨ 11 < k
  · rw [if_pos hk]
    have e1 : isKind k = false := decide_eq_false (by omega)
    refine pf_no cv k v nm ao args.length ca w fun W => ?_
    have h := shapeOf_any k W
    rw [shV, e1] at h
    exact h
  rw [if_neg hk]
  have hs := shape_call k (decide_eq_true (by omega))
  by_cases hl : args.length ≠ argsS k
  · have hl' : ¬ (args.length : Int) = (argsS k : Nat) := by omega
    rw [if_pos (.inl hl)]
    by_cases h1 : k = 1
    · subst h1; exact pf_1bad cv v nm ao _ ca w _ _ _ (.inl hl') hs
    by_cases h2 : k = 2
    · subst h2; exact pf_2bad cv v nm ao _ ca w _ _ _ (.inl hl') hs
    exact pf_obad cv k v nm ao _ ca w _ _ _ (by simpa using h1) (by simpa using h2) (.inl hl') hs
  replace hl := Classical.not_not.1 hl
  have hl' : (args.length : Int) = (argsS k : Nat) := by omega
  by_cases h1 : k = 1
  · subst h1
    by_cases hn : nm = []
    · rw [if_neg (by simp [hl, hn]), if_neg (by simp)]
      exact pf_1ok cv v nm ao _ ca w _ _ _ hl' (by rw [hem, decide_eq_true hn]) hs _ hc
    · rw [if_pos (.inr (.inr ⟨by decide, hn⟩))]
      exact pf_1bad cv v nm ao _ ca w _ _ _ (.inr ⟨hl', by rw [hem, decide_eq_false hn]⟩) hs
  by_cases hv0 : v ≠ vl0
  · rw [if_pos (.inr (.inl ⟨h1, hv0⟩))]
    have hq : sameTk v.k v.n ⟨v.s.toArray⟩ 0 0 ⟨#[]⟩ = false := by rw [h0, decide_eq_false hv0]
    by_cases h2 : k = 2
    · subst h2; exact pf_2bad cv v nm ao _ ca w _ _ _ (.inr ⟨hl', hq⟩) hs
    exact pf_obad cv k v nm ao _ ca w _ _ _ (by simpa using h1) (by simpa using h2) (.inr (.inl ⟨hl', hq⟩)) hs
  replace hv0 := Classical.not_not.1 hv0
  have hq : sameTk v.k v.n ⟨v.s.toArray⟩ 0 0 ⟨#[]⟩ = true := by rw [h0, decide_eq_true hv0]
  by_cases h2 : k = 2
  · subst h2
    rw [if_neg (by simp [hl, hv0])]
    cases hpl : placeC L nm with
    | none =>
      rw [if_pos ⟨rfl, rfl⟩]
      exact pf_2none cv v nm ao _ ca w _ _ _ hl' hq hs (placeI L nm) (by rw [placeI_none hpl]; decide) hp
    | some i =>
      rw [if_neg (by simp)]
      exact pf_2some cv v nm ao _ ca w _ _ _ hl' hq hs (placeI L nm) (by rw [placeI_some hpl]; omega) hp _ hc
  by_cases hn : nm = []
  · rw [if_neg (by simp [hl, hv0, hn]), if_neg (by simp [h2])]
    exact pf_ook cv k v nm ao _ ca w _ _ _ (by simpa using h2) (by simpa using h1) (by simpa using h2) hl' hq (by rw [hem, decide_eq_true hn]) hs _ hc
  · rw [if_pos (.inr (.inr ⟨h2, hn⟩))]
    exact pf_obad cv k v nm ao _ ca w _ _ _ (by simpa using h1) (by simpa using h2) (.inr (.inr ⟨hl', hq, by rw [hem, decide_eq_false hn]⟩)) hs

end Go.Proofs.YtjmhkeooiimpfaaGreat
