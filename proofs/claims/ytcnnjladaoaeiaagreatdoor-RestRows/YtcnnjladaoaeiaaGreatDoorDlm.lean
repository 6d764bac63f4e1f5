/-
  Deltas in memory; 'formFault' and 'widthBehind' of package delta.
-/
import Derived.Test.YtcnnjladaoaeiaaGreatDoorDltP
import Derived.Laws.StructEq
import Derived.Deep.MidRow
namespace Go.Proofs.YtcnnjladaoaeiaaGreatDoor
open Go.RowKit

theorem Tryz.fields35 : (Tryz.prog.fieldsOf 49).toList.map (fun f => (f.name, f.type, f.offset)) = [("Kind", 3, 0), ("N", 3, 1), ("S", 9, 2)] := by kernel_rfl
theorem Tryz.under35 : Tryz.prog.underlying 49 = some (.struct (Tryz.prog.fieldsOf 49)) := by kernel_rfl
theorem Tryz.stood35 : Tryz.prog.stoodInHeld 49 = false := by kernel_rfl

theorem neq35 (k a k' a' : Int) (t t' : ByteArray) (w : World) :
    (binOp .neq 49 (.agg #[.int .i64 k, .int .i64 a, .string t]) (.agg #[.int .i64 k', .int .i64 a', .string t'])).run Tryz.prog w = .ok (.bool (!sameTk k a t k' a' t')) w := by
  rw [run_neq_struct, run_equalIn_struct w 9999 49 _ _ Tryz.under35 Tryz.stood35]
  obtain ⟨f0, f1, f2, hf, n0, t0, o0, n1, t1, o1, n2, t2, o2⟩ := fields_three Tryz.fields35
  rw [hf]
  simp [Op.eqFields, n0, t0, o0, n1, t1, o1, n2, t2, o2, go_sem]
  unfold sameTk
  by_cases h1 : k = k' <;> by_cases h2 : a = a' <;> by_cases h3 : t.toList = t'.toList <;> simp [h1, h2, h3]

theorem same0 (x : Vl) : sameTk x.k x.n ⟨x.s.toArray⟩ 0 0 ⟨#[]⟩ = decide (x = vl0) := by
  obtain ⟨k, n, s⟩ := x
  unfold sameTk vl0
  have e1 : (⟨s.toArray⟩ : ByteArray).toList = s := by rw [Lib.toList_data]
  have e2 : (⟨#[]⟩ : ByteArray).toList = [] := by rw [Lib.toList_data]
  simp only [e1, e2]
  rw [Bool.eq_iff_iff]
  simp [and_assoc]

set_option maxRecDepth 100000 in
set_option maxHeartbeats 1600000 in
theorem form_1n (a ty : Int) (x : Vl) (w : World) (h : ¬ a = 0 ∨ (a = 0 ∧ ¬ ty = 0)) :
    Calls Tryz.prog 150 #[.agg #[.int .i64 1, .int .i64 a, .int .i64 ty, .int .i64 x.k, .int .i64 x.n, .string ⟨x.s.toArray⟩]] w fun e w' => e = .returned (.int .i64 (1)) ∧ Below w.heap.size w w' := by
  rcases h with h | ⟨rfl, h⟩
  all_goals
    go_enter Tryz.func150, Tryz.ntmps150
    go_wp2
    go_ret
    exact ⟨rfl, (Below.refl _ _).alloc (Nat.le_refl _) _⟩

set_option maxRecDepth 100000 in
set_option maxHeartbeats 1600000 in
theorem form_1y (x : Vl) (w : World) (c : Nat) (hc : ∀ W, Calls Tryz.prog 124 #[.agg #[.int .i64 x.k, .int .i64 x.n, .string ⟨x.s.toArray⟩]] W fun e w' => e = .returned (.int .i64 (c : Nat)) ∧ Below W.heap.size W w') :
    Calls Tryz.prog 150 #[.agg #[.int .i64 1, .int .i64 0, .int .i64 0, .int .i64 x.k, .int .i64 x.n, .string ⟨x.s.toArray⟩]] w fun e w' => e = .returned (.int .i64 ((c : Nat))) ∧ Below w.heap.size w w' := by
  go_enter Tryz.func150, Tryz.ntmps150
  go_wp2_with (go_at_call 124; refine (hc _).mono ?_; rintro e w1 ⟨rfl, b1⟩)
  go_ret
  exact ⟨rfl, ((Below.refl _ _).alloc (Nat.le_refl _) _).trans (b1.mono (by simp))⟩

set_option maxRecDepth 100000 in
set_option maxHeartbeats 1600000 in
theorem form_2n (a ty : Int) (x : Vl) (w : World) (h : ¬ ty = 0 ∨ (ty = 0 ∧ sameTk x.k x.n ⟨x.s.toArray⟩ 0 0 ⟨#[]⟩ = false)) :
    Calls Tryz.prog 150 #[.agg #[.int .i64 2, .int .i64 a, .int .i64 ty, .int .i64 x.k, .int .i64 x.n, .string ⟨x.s.toArray⟩]] w fun e w' => e = .returned (.int .i64 (1)) ∧ Below w.heap.size w w' := by
  have hq := neq35
  rcases h with h | ⟨rfl, h⟩
  all_goals
    go_enter Tryz.func150, Tryz.ntmps150
    go_wp2
    go_ret
    exact ⟨rfl, (Below.refl _ _).alloc (Nat.le_refl _) _⟩

set_option maxRecDepth 100000 in
set_option maxHeartbeats 1600000 in
theorem form_2y (a : Int) (x : Vl) (w : World) (h : sameTk x.k x.n ⟨x.s.toArray⟩ 0 0 ⟨#[]⟩ = true) (c : Nat) (hc : ∀ W, Calls Tryz.prog 124 #[.agg #[.int .i64 x.k, .int .i64 x.n, .string ⟨x.s.toArray⟩]] W fun e w' => e = .returned (.int .i64 (c : Nat)) ∧ Below W.heap.size W w') :
    Calls Tryz.prog 150 #[.agg #[.int .i64 2, .int .i64 a, .int .i64 0, .int .i64 x.k, .int .i64 x.n, .string ⟨x.s.toArray⟩]] w fun e w' => e = .returned (.int .i64 ((c : Nat))) ∧ Below w.heap.size w w' := by
  have hq := neq35
  go_enter Tryz.func150, Tryz.ntmps150
  go_wp2_with (go_at_call 124; refine (hc _).mono ?_; rintro e w1 ⟨rfl, b1⟩)
  go_ret
  exact ⟨rfl, ((Below.refl _ _).alloc (Nat.le_refl _) _).trans (b1.mono (by simp))⟩

set_option maxRecDepth 100000 in
set_option maxHeartbeats 1600000 in
theorem form_3n (a ty : Int) (x : Vl) (w : World) (h : sameTk x.k x.n ⟨x.s.toArray⟩ 0 0 ⟨#[]⟩ = false) :
    Calls Tryz.prog 150 #[.agg #[.int .i64 3, .int .i64 a, .int .i64 ty, .int .i64 x.k, .int .i64 x.n, .string ⟨x.s.toArray⟩]] w fun e w' => e = .returned (.int .i64 (1)) ∧ Below w.heap.size w w' := by
  have hq := neq35
  go_enter Tryz.func150, Tryz.ntmps150
  go_wp2
  go_ret
  exact ⟨rfl, (Below.refl _ _).alloc (Nat.le_refl _) _⟩

set_option maxRecDepth 100000 in
set_option maxHeartbeats 1600000 in
theorem form_3y (a ty : Int) (x : Vl) (w : World) (h : sameTk x.k x.n ⟨x.s.toArray⟩ 0 0 ⟨#[]⟩ = true) (c : Nat) (hc : ∀ W, Calls Tryz.prog 124 #[.agg #[.int .i64 x.k, .int .i64 x.n, .string ⟨x.s.toArray⟩]] W fun e w' => e = .returned (.int .i64 (c : Nat)) ∧ Below W.heap.size W w') :
    Calls Tryz.prog 150 #[.agg #[.int .i64 3, .int .i64 a, .int .i64 ty, .int .i64 x.k, .int .i64 x.n, .string ⟨x.s.toArray⟩]] w fun e w' => e = .returned (.int .i64 ((c : Nat))) ∧ Below w.heap.size w w' := by
  have hq := neq35
  go_enter Tryz.func150, Tryz.ntmps150
  go_wp2_with (go_at_call 124; refine (hc _).mono ?_; rintro e w1 ⟨rfl, b1⟩)
  go_ret
  exact ⟨rfl, ((Below.refl _ _).alloc (Nat.le_refl _) _).trans (b1.mono (by simp))⟩

set_option maxRecDepth 100000 in
set_option maxHeartbeats 1600000 in
theorem form_o (k a ty : Int) (x : Vl) (w : World) (h1 : (k == 1) = false) (h2 : (k == 2) = false) (h3 : (k == 3) = false) :
    Calls Tryz.prog 150 #[.agg #[.int .i64 k, .int .i64 a, .int .i64 ty, .int .i64 x.k, .int .i64 x.n, .string ⟨x.s.toArray⟩]] w fun e w' => e = .returned (.int .i64 7) ∧ Below w.heap.size w w' := by
  go_enter Tryz.func150, Tryz.ntmps150
  go_wp2
  go_ret
  exact ⟨rfl, (Below.refl _ _).alloc (Nat.le_refl _) _⟩

abbrev dlV (d : Dl) : Value := .agg #[.int .i64 d.k, .int .i64 d.a, .int .i64 d.ty, .int .i64 d.v.k, .int .i64 d.v.n, .string ⟨d.v.s.toArray⟩]

theorem checkX (x : Vl) (hs : x.s.length ≤ 140737488355328) (W : World) : Calls Tryz.prog 124 #[.agg #[.int .i64 x.k, .int .i64 x.n, .string ⟨x.s.toArray⟩]] W fun e w' => e = .returned (.int .i64 (chkV x.k x.n x.s : Nat)) ∧ Below W.heap.size W w' := by
  have h := check_any x.k x.n ⟨x.s.toArray⟩ W (by rw [size_mk]; exact hs)
  have e0 : (⟨x.s.toArray⟩ : ByteArray).data.toList = x.s := by simp
  rw [e0] at h
  exact h

theorem form_any (d : Dl) (w : World) (hs : d.v.s.length ≤ 140737488355328) : Calls Tryz.prog 150 #[dlV d] w fun e w' => e = .returned (.int .i64 (formF d : Nat)) ∧ Below w.heap.size w w' := by
  obtain ⟨k, a, ty, x⟩ := d
  have hc := checkX x hs
  have h0 := same0 x
  unfold formF
  by_cases h1 : k = 1
  · subst h1
    by_cases h : a ≠ 0 ∨ ty ≠ 0
    · simp only [if_true, if_pos h]
      exact form_1n a ty x w (by omega)
    · simp only [if_true, if_neg h]
      obtain rfl : a = 0 := by omega
      obtain rfl : ty = 0 := by omega
      exact form_1y x w _ hc
  simp only [h1, if_false]
  by_cases h2 : k = 2
  · subst h2
    by_cases h : ty ≠ 0 ∨ x ≠ vl0
    · simp only [if_true, if_pos h]
      refine form_2n a ty x w ?_
      by_cases ht : ty = 0
      · right; refine ⟨ht, ?_⟩
        rw [h0, decide_eq_false_iff_not]
        rcases h with h | h
        · exact absurd ht h
        · exact h
      · exact .inl ht
    · simp only [if_true, if_neg h]
      obtain rfl : ty = 0 := by
        apply Classical.byContradiction; intro hh; exact h (.inl hh)
      obtain rfl : x = vl0 := by
        apply Classical.byContradiction; intro hh; exact h (.inr hh)
      exact form_2y a vl0 w (by rw [h0]; rfl) _ hc
  simp only [h2, if_false]
  by_cases h3 : k = 3
  · subst h3
    by_cases h : x ≠ vl0
    · simp only [if_true, if_pos h]
      exact form_3n a ty x w (by rw [h0, decide_eq_false_iff_not]; exact h)
    · simp only [if_true, if_neg h]
      obtain rfl : x = vl0 := Classical.not_not.1 h
      exact form_3y a ty vl0 w (by rw [h0]; rfl) _ hc
  simp only [h3, if_false]
  exact form_o k a ty x w (by simpa using h1) (by simpa using h2) (by simpa using h3)

end Go.Proofs.YtcnnjladaoaeiaaGreatDoor
