/-
  Deltas in memory; 'formFault' and 'widthBehind' of package delta.
  'widthBehind' of package delta.
  'Check' of package delta, with its search.
  'Check' of package delta, whole.
  slices.Clone of values, and what 'append' makes of a row of one's own.
  slices.Delete of one value out of a row of one's own.
  slices.Delete of one value out of a row of one's own: the walk.
  'rowBehind' of package delta.
  'rowBehind' of package delta: a column that is cast.
  'Apply' of package delta.
  Out of my texts Refs Dcd Rbg Opn: what is wanted here.
  Columns in memory; the place of one.
-/
import Derived.Laws.StructEq
import Derived.Deep.MidRow
import Derived.Deep.QuietTactic
import Derived.BigQuiet
import Derived.Lib.SliceRun
import Derived.Deep.RegionLaw
import Derived.Shelf.RegionOpenPlain
import Derived.Deep.AppendLies
import Derived.ProofKit
import Derived.Deep.Slices
import Derived.Deep.Strs
import Derived.SizedLaws
import Derived.ChangeOld
import Derived.Lib.SmallJoins
import Derived.Deep.RegionHeld3
import Derived.Test.YtcnnjladaoaeiaaGreatDoorGa
import Derived.Test.YtcnnjladaoaeiaaGreatDoorGc

set_option maxRecDepth 100000
set_option maxHeartbeats 25600000
namespace Go.Proofs.YtcnnjladaoaeiaaGreatDoor
open Go.RowKit
theorem Tryz.fields35 : (Tryz.prog.fieldsOf 49).toList.map (fun f => (f.name, f.type, f.offset)) = [("Kind", 3, 0), ("N", 3, 1), ("S", 9, 2)] := by kernel_rfl
theorem Tryz.under35 : Tryz.prog.underlying 49 = some (.struct (Tryz.prog.fieldsOf 49)) := by kernel_rfl
theorem Tryz.stood35 : Tryz.prog.stoodInHeld 49 = false := by kernel_rfl
theorem neq35 (k a k' a' : Int) (t t' : ByteArray) (w : World) :
    (binOp .neq 49 (.agg #[.int .i64 k, .int .i64 a, .string t]) (.agg #[.int .i64 k', .int .i64 a', .string t'])).run Tryz.prog w = .ok (.bool (!sameTk k a t k' a' t')) w := by
  rw [run_neq_struct, run_equalIn_struct w 9999 49 _ _ Tryz.under35 Tryz.stood35]
  obtain ⟨f0, f1, f2, hf, n0, t0, o0, n1, t1, o1, n2, t2, o2⟩ := fields_three Tryz.fields35
  rw [hf]
  simp [Op.eqFields, n0, t0, o0, n1, t1, o1, n2, t2, o2, go_sem]
  unfold sameTk
  by_cases h1 : k = k' <;> by_cases h2 : a = a' <;> by_cases h3 : t.toList = t'.toList <;> simp [h1, h2, h3]
theorem same0 (x : Vl) : sameTk x.k x.n ⟨x.s.toArray⟩ 0 0 ⟨#[]⟩ = decide (x = vl0) := by
  obtain ⟨k, n, s⟩ := x
  unfold sameTk vl0
  have e1 : (⟨s.toArray⟩ : ByteArray).toList = s := by rw [Lib.toList_data]
  have e2 : (⟨#[]⟩ : ByteArray).toList = [] := by rw [Lib.toList_data]
  simp only [e1, e2]
  rw [Bool.eq_iff_iff]
  simp [and_assoc]
theorem form_1n (a ty : Int) (x : Vl) (w : World) (h : ¬ a = 0 ∨ (a = 0 ∧ ¬ ty = 0)) :
    Calls Tryz.prog 150 #[.agg #[.int .i64 1, .int .i64 a, .int .i64 ty, .int .i64 x.k, .int .i64 x.n, .string ⟨x.s.toArray⟩]] w fun e w' => e = .returned (.int .i64 (1)) ∧ Below w.heap.size w w' := by
  rcases h with h | ⟨rfl, h⟩
  all_goals
    go_enter Tryz.func150, Tryz.ntmps150
    go_wp2
    go_ret
    exact ⟨rfl, (Below.refl _ _).alloc (Nat.le_refl _) _⟩
theorem form_1y (x : Vl) (w : World) (c : Nat) (hc : ∀ W, Calls Tryz.prog 124 #[.agg #[.int .i64 x.k, .int .i64 x.n, .string ⟨x.s.toArray⟩]] W fun e w' => e = .returned (.int .i64 (c : Nat)) ∧ Below W.heap.size W w') :
    Calls Tryz.prog 150 #[.agg #[.int .i64 1, .int .i64 0, .int .i64 0, .int .i64 x.k, .int .i64 x.n, .string ⟨x.s.toArray⟩]] w fun e w' => e = .returned (.int .i64 ((c : Nat))) ∧ Below w.heap.size w w' := by
  go_enter Tryz.func150, Tryz.ntmps150
  go_wp2_with (go_at_call 124; refine (hc _).mono ?_; rintro e w1 ⟨rfl, b1⟩)
  go_ret
  exact ⟨rfl, ((Below.refl _ _).alloc (Nat.le_refl _) _).trans (b1.mono (by simp))⟩
theorem form_2n (a ty : Int) (x : Vl) (w : World) (h : ¬ ty = 0 ∨ (ty = 0 ∧ sameTk x.k x.n ⟨x.s.toArray⟩ 0 0 ⟨#[]⟩ = false)) :
    Calls Tryz.prog 150 #[.agg #[.int .i64 2, .int .i64 a, .int .i64 ty, .int .i64 x.k, .int .i64 x.n, .string ⟨x.s.toArray⟩]] w fun e w' => e = .returned (.int .i64 (1)) ∧ Below w.heap.size w w' := by
  have hq := neq35
  rcases h with h | ⟨rfl, h⟩
  all_goals
    go_enter Tryz.func150, Tryz.ntmps150
    go_wp2
    go_ret
    exact ⟨rfl, (Below.refl _ _).alloc (Nat.le_refl _) _⟩
theorem form_2y (a : Int) (x : Vl) (w : World) (h : sameTk x.k x.n ⟨x.s.toArray⟩ 0 0 ⟨#[]⟩ = true) (c : Nat) (hc : ∀ W, Calls Tryz.prog 124 #[.agg #[.int .i64 x.k, .int .i64 x.n, .string ⟨x.s.toArray⟩]] W fun e w' => e = .returned (.int .i64 (c : Nat)) ∧ Below W.heap.size W w') :
    Calls Tryz.prog 150 #[.agg #[.int .i64 2, .int .i64 a, .int .i64 0, .int .i64 x.k, .int .i64 x.n, .string ⟨x.s.toArray⟩]] w fun e w' => e = .returned (.int .i64 ((c : Nat))) ∧ Below w.heap.size w w' := by
  have hq := neq35
  go_enter Tryz.func150, Tryz.ntmps150
  go_wp2_with (go_at_call 124; refine (hc _).mono ?_; rintro e w1 ⟨rfl, b1⟩)
  go_ret
  exact ⟨rfl, ((Below.refl _ _).alloc (Nat.le_refl _) _).trans (b1.mono (by simp))⟩
theorem form_3n (a ty : Int) (x : Vl) (w : World) (h : sameTk x.k x.n ⟨x.s.toArray⟩ 0 0 ⟨#[]⟩ = false) :
    Calls Tryz.prog 150 #[.agg #[.int .i64 3, .int .i64 a, .int .i64 ty, .int .i64 x.k, .int .i64 x.n, .string ⟨x.s.toArray⟩]] w fun e w' => e = .returned (.int .i64 (1)) ∧ Below w.heap.size w w' := by
  have hq := neq35
  go_enter Tryz.func150, Tryz.ntmps150
  go_wp2
  go_ret
  exact ⟨rfl, (Below.refl _ _).alloc (Nat.le_refl _) _⟩
theorem form_3y (a ty : Int) (x : Vl) (w : World) (h : sameTk x.k x.n ⟨x.s.toArray⟩ 0 0 ⟨#[]⟩ = true) (c : Nat) (hc : ∀ W, Calls Tryz.prog 124 #[.agg #[.int .i64 x.k, .int .i64 x.n, .string ⟨x.s.toArray⟩]] W fun e w' => e = .returned (.int .i64 (c : Nat)) ∧ Below W.heap.size W w') :
    Calls Tryz.prog 150 #[.agg #[.int .i64 3, .int .i64 a, .int .i64 ty, .int .i64 x.k, .int .i64 x.n, .string ⟨x.s.toArray⟩]] w fun e w' => e = .returned (.int .i64 ((c : Nat))) ∧ Below w.heap.size w w' := by
  have hq := neq35
  go_enter Tryz.func150, Tryz.ntmps150
  go_wp2_with (go_at_call 124; refine (hc _).mono ?_; rintro e w1 ⟨rfl, b1⟩)
  go_ret
  exact ⟨rfl, ((Below.refl _ _).alloc (Nat.le_refl _) _).trans (b1.mono (by simp))⟩
theorem form_o (k a ty : Int) (x : Vl) (w : World) (h1 : (k == 1) = false) (h2 : (k == 2) = false) (h3 : (k == 3) = false) :
    Calls Tryz.prog 150 #[.agg #[.int .i64 k, .int .i64 a, .int .i64 ty, .int .i64 x.k, .int .i64 x.n, .string ⟨x.s.toArray⟩]] w fun e w' => e = .returned (.int .i64 7) ∧ Below w.heap.size w w' := by
  go_enter Tryz.func150, Tryz.ntmps150
  go_wp2
  go_ret
  exact ⟨rfl, (Below.refl _ _).alloc (Nat.le_refl _) _⟩
abbrev dlV (d : Dl) : Value := .agg #[.int .i64 d.k, .int .i64 d.a, .int .i64 d.ty, .int .i64 d.v.k, .int .i64 d.v.n, .string ⟨d.v.s.toArray⟩]
theorem checkX (x : Vl) (hs : x.s.length ≤ 140737488355328) (W : World) : Calls Tryz.prog 124 #[.agg #[.int .i64 x.k, .int .i64 x.n, .string ⟨x.s.toArray⟩]] W fun e w' => e = .returned (.int .i64 (chkV x.k x.n x.s : Nat)) ∧ Below W.heap.size W w' := by
  have h := check_any x.k x.n ⟨x.s.toArray⟩ W (by rw [size_mk]; exact hs)
  have e0 : (⟨x.s.toArray⟩ : ByteArray).data.toList = x.s := by simp
  rw [e0] at h
  exact h
theorem form_any (d : Dl) (w : World) (hs : d.v.s.length ≤ 140737488355328) : Calls Tryz.prog 150 #[dlV d] w fun e w' => e = .returned (.int .i64 (formF d : Nat)) ∧ Below w.heap.size w w' := by
  obtain ⟨k, a, ty, x⟩ := d
  have hc := checkX x hs
  have h0 := same0 x
  unfold formF
  by_cases h1 : k = 1
  · subst h1
    by_cases h : a ≠ 0 ∨ ty ≠ 0
    · simp only [if_true, if_pos h]
      exact form_1n a ty x w (by omega)
    · simp only [if_true, if_neg h]
      obtain rfl : a = 0 := by omega
      obtain rfl : ty = 0 := by omega
      exact form_1y x w _ hc
  simp only [h1, if_false]
  by_cases h2 : k = 2
  · subst h2
    by_cases h : ty ≠ 0 ∨ x ≠ vl0
    · simp only [if_true, if_pos h]
      refine form_2n a ty x w ?_
      by_cases ht : ty = 0
      · right; refine ⟨ht, ?_⟩
        rw [h0, decide_eq_false_iff_not]
        rcases h with h | h
        · exact absurd ht h
        · exact h
      · exact .inl ht
    · simp only [if_true, if_neg h]
      obtain rfl : ty = 0 := by
        apply Classical.byContradiction; intro hh; exact h (.inl hh)
      obtain rfl : x = vl0 := by
        apply Classical.byContradiction; intro hh; exact h (.inr hh)
      exact form_2y a vl0 w (by rw [h0]; rfl) _ hc
  simp only [h2, if_false]
  by_cases h3 : k = 3
  · subst h3
    by_cases h : x ≠ vl0
    · simp only [if_true, if_pos h]
      exact form_3n a ty x w (by rw [h0, decide_eq_false_iff_not]; exact h)
    · simp only [if_true, if_neg h]
      obtain rfl : x = vl0 := Classical.not_not.1 h
      exact form_3y a ty vl0 w (by rw [h0]; rfl) _ hc
  simp only [h3, if_false]
  exact form_o k a ty x w (by simpa using h1) (by simpa using h2) (by simpa using h3)
theorem wid_err (wd : Int) (d : Dl) (w : World) (F : Nat) (hF : ((F : Int) != 0) = true) (hf : ∀ W, Calls Tryz.prog 150 #[dlV d] W fun e w' => e = .returned (.int .i64 (F : Nat)) ∧ Below W.heap.size W w') :
    Calls Tryz.prog 120 #[.int .i64 wd, dlV d] w fun e w' => e = .returned (.tuple #[.int .i64 0, .int .i64 (F : Nat)]) ∧ Below w.heap.size w w' := by
  go_enter Tryz.func120, Tryz.ntmps120
  go_wp2_with (go_at_call 150; refine (hf _).mono ?_; rintro e w1 ⟨rfl, b1⟩)
  go_ret2
  exact ⟨rfl, ((Below.refl _ _).alloc (Nat.le_refl _) _).trans (b1.mono (by simp))⟩
theorem wid_1 (wd a ty : Int) (x : Vl) (w : World) (h0 : 0 ≤ wd) (h5 : wd ≤ 5) (hf : ∀ W, Calls Tryz.prog 150 #[dlV ⟨1, a, ty, x⟩] W fun e w' => e = .returned (.int .i64 0) ∧ Below W.heap.size W w') :
    Calls Tryz.prog 120 #[.int .i64 wd, dlV ⟨1, a, ty, x⟩] w fun e w' => e = .returned (.tuple #[.int .i64 (if wd = 5 then 0 else wd + 1), .int .i64 (if wd = 5 then 2 else 0)]) ∧ Below w.heap.size w w' := by
  by_cases hB : wd = 5
  · subst hB
    simp only [if_true]
    go_enter Tryz.func120, Tryz.ntmps120
    go_wp2_with fail
    refine (hf _).mono ?_
    rintro e w1 ⟨rfl, b1⟩
    have c0 : w1.cell? ⟨w.heap.size, 0, none⟩ = some (.int .i64 1) := (b1.cell (by simp)).trans (by simp)
    have c1 : w1.cell? ⟨w.heap.size, 1, none⟩ = some (.int .i64 a) := (b1.cell (by simp)).trans (by simp)
    have q1 : Below w.heap.size w w1 := ((Below.refl _ _).alloc (Nat.le_refl _) _).trans (b1.mono (by simp))
    clear b1 hf
    go_wp2
    go_ret2
    exact ⟨rfl, q1⟩
  · simp only [hB, if_false]
    go_enter Tryz.func120, Tryz.ntmps120
    go_wp2_with fail
    refine (hf _).mono ?_
    rintro e w1 ⟨rfl, b1⟩
    have c0 : w1.cell? ⟨w.heap.size, 0, none⟩ = some (.int .i64 1) := (b1.cell (by simp)).trans (by simp)
    have c1 : w1.cell? ⟨w.heap.size, 1, none⟩ = some (.int .i64 a) := (b1.cell (by simp)).trans (by simp)
    have q1 : Below w.heap.size w w1 := ((Below.refl _ _).alloc (Nat.le_refl _) _).trans (b1.mono (by simp))
    clear b1 hf
    go_wp2
    go_ret2
    exact ⟨rfl, q1⟩
theorem wid_n (wd k a ty : Int) (x : Vl) (w : World) (hk : (k == 1) = false) (ha : a < 0 ∨ (¬ a < 0 ∧ wd ≤ a)) (hf : ∀ W, Calls Tryz.prog 150 #[dlV ⟨k, a, ty, x⟩] W fun e w' => e = .returned (.int .i64 0) ∧ Below W.heap.size W w') :
    Calls Tryz.prog 120 #[.int .i64 wd, dlV ⟨k, a, ty, x⟩] w fun e w' => e = .returned (.tuple #[.int .i64 0, .int .i64 5]) ∧ Below w.heap.size w w' := by
  rcases ha with ha | ⟨ha, ha'⟩
  all_goals
    go_enter Tryz.func120, Tryz.ntmps120
    go_wp2_with fail
    refine (hf _).mono ?_
    rintro e w1 ⟨rfl, b1⟩
    have c0 : w1.cell? ⟨w.heap.size, 0, none⟩ = some (.int .i64 k) := (b1.cell (by simp)).trans (by simp)
    have c1 : w1.cell? ⟨w.heap.size, 1, none⟩ = some (.int .i64 a) := (b1.cell (by simp)).trans (by simp)
    have q1 : Below w.heap.size w w1 := ((Below.refl _ _).alloc (Nat.le_refl _) _).trans (b1.mono (by simp))
    clear b1 hf
    go_wp2
    go_ret2
    exact ⟨rfl, q1⟩
theorem wid_2 (wd a ty : Int) (x : Vl) (w : World) (h0 : 0 ≤ wd) (h5 : wd ≤ 5) (ha : ¬ a < 0) (ha' : ¬ wd ≤ a) (hf : ∀ W, Calls Tryz.prog 150 #[dlV ⟨2, a, ty, x⟩] W fun e w' => e = .returned (.int .i64 0) ∧ Below W.heap.size W w') :
    Calls Tryz.prog 120 #[.int .i64 wd, dlV ⟨2, a, ty, x⟩] w fun e w' => e = .returned (.tuple #[.int .i64 (wd - 1), .int .i64 0]) ∧ Below w.heap.size w w' := by
  go_enter Tryz.func120, Tryz.ntmps120
  go_wp2_with fail
  refine (hf _).mono ?_
  rintro e w1 ⟨rfl, b1⟩
  have c0 : w1.cell? ⟨w.heap.size, 0, none⟩ = some (.int .i64 2) := (b1.cell (by simp)).trans (by simp)
  have c1 : w1.cell? ⟨w.heap.size, 1, none⟩ = some (.int .i64 a) := (b1.cell (by simp)).trans (by simp)
  have q1 : Below w.heap.size w w1 := ((Below.refl _ _).alloc (Nat.le_refl _) _).trans (b1.mono (by simp))
  clear b1 hf
  go_wp2
  go_ret2
  exact ⟨rfl, q1⟩
theorem wid_3 (wd a ty : Int) (x : Vl) (w : World) (ha : ¬ a < 0) (ha' : ¬ wd ≤ a) (s : ByteArray) (E : Bool) (hE : (s.toList == []) = E) (hE' : s.toList.isEmpty = E) (ht : ∀ W, Calls Tryz.prog 86 #[.int .i64 ty] W fun e w' => e = .returned (.string s) ∧ Below W.heap.size W w') (hf : ∀ W, Calls Tryz.prog 150 #[dlV ⟨3, a, ty, x⟩] W fun e w' => e = .returned (.int .i64 0) ∧ Below W.heap.size W w') :
    Calls Tryz.prog 120 #[.int .i64 wd, dlV ⟨3, a, ty, x⟩] w fun e w' => e = .returned (.tuple #[.int .i64 (if E = true then 0 else wd), .int .i64 (if E = true then 7 else 0)]) ∧ Below w.heap.size w w' := by
  cases E
  all_goals
    go_enter Tryz.func120, Tryz.ntmps120
    go_wp2_with fail
    refine (hf _).mono ?_
    rintro e w1 ⟨rfl, b1⟩
    have c0 : w1.cell? ⟨w.heap.size, 0, none⟩ = some (.int .i64 3) := (b1.cell (by simp)).trans (by simp)
    have c1 : w1.cell? ⟨w.heap.size, 1, none⟩ = some (.int .i64 a) := (b1.cell (by simp)).trans (by simp)
    have c2 : w1.cell? ⟨w.heap.size, 2, none⟩ = some (.int .i64 ty) := (b1.cell (by simp)).trans (by simp)
    have q1 : Below w.heap.size w w1 := ((Below.refl _ _).alloc (Nat.le_refl _) _).trans (b1.mono (by simp))
    have z1 : w.heap.size < w1.heap.size := by have := b1.size; simp at this; omega
    clear b1 hf
    go_wp2_with fail
    refine (ht _).mono ?_
    rintro e w2 ⟨rfl, b2⟩
    have d0 := (b2.cell (p := ⟨w.heap.size, 0, none⟩) z1).trans c0
    have q2 : Below w.heap.size w w2 := q1.trans (b2.mono q1.size)
    clear b2 c0 c1 c2 ht
    go_wp2
    go_ret2
    exact ⟨rfl, q2⟩
theorem wid_any (wd : Int) (d : Dl) (w : World) (h0 : 0 ≤ wd) (h5 : wd ≤ 5) (hs : d.v.s.length ≤ 140737488355328) :
    Calls Tryz.prog 120 #[.int .i64 wd, dlV d] w fun e w' => e = .returned (.tuple #[.int .i64 (widB wd d).1, .int .i64 ((widB wd d).2 : Nat)]) ∧ Below w.heap.size w w' := by
  have hf := fun W => form_any d W hs
  unfold widB
  by_cases hF : formF d = 0
  · rw [if_neg (by simpa using hF)]
    rw [hF] at hf
    obtain ⟨k, a, ty, x⟩ := d
    by_cases h1 : k = 1
    · subst h1
      have := wid_1 wd a ty x w h0 h5 hf
      by_cases h : wd = 5
      · simpa [h] using this
      · simpa [h] using this
    · simp only [h1, if_false]
      by_cases ha : a < 0 ∨ wd ≤ a
      · rw [if_pos ha]
        exact wid_n wd k a ty x w (by simpa using h1) (by omega) hf
      rw [if_neg ha]
      by_cases h2 : k = 2
      · subst h2
        rw [if_pos rfl]
        exact wid_2 wd a ty x w h0 h5 (by omega) (by omega) hf
      rw [if_neg h2]
      have h3 : k = 3 := by
        unfold formF at hF
        simp only [h1, h2, if_false] at hF
        by_cases h3 : k = 3
        · exact h3
        · rw [if_neg h3] at hF; cases hF
      subst h3
      have hE' : (⟨(atL typesL ty).toArray⟩ : ByteArray).toList.isEmpty = decide (atL typesL ty = []) := by
        rw [Lib.toList_data]; cases atL typesL ty <;> simp
      have := wid_3 wd a ty x w (by omega) (by omega) _ _ (ne_empty (atL typesL ty)) hE' (fun W => ofType_any ty W) hf
      by_cases ht : 1 ≤ ty ∧ ty ≤ 3
      · have e : decide (atL typesL ty = []) = false := by
          rw [decide_eq_false_iff_not, isType_iff]; exact fun h => h ht
        rw [e] at this
        rw [if_pos ht]
        exact this
      · have e : decide (atL typesL ty = []) = true := by
          rw [decide_eq_true_eq, isType_iff]; exact ht
        rw [e] at this
        rw [if_neg ht]
        exact this
  · rw [if_pos hF]
    exact wid_err wd d w _ (by simpa using hF) hf
structure Dc (w : World) (g o : Nat) (d : Dl) : Prop where
  c0 : w.cell? ⟨g, o, none⟩ = some (.int .i64 d.k)
  c1 : w.cell? ⟨g, o + 1, none⟩ = some (.int .i64 d.a)
  c2 : w.cell? ⟨g, o + 2, none⟩ = some (.int .i64 d.ty)
  c3 : w.cell? ⟨g, o + 3, none⟩ = some (.int .i64 d.v.k)
  c4 : w.cell? ⟨g, o + 4, none⟩ = some (.int .i64 d.v.n)
  c5 : w.cell? ⟨g, o + 5, none⟩ = some (.string ⟨d.v.s.toArray⟩)
theorem Dc.keep {w w' : World} {g o : Nat} {d : Dl} (h : Dc w g o d) (hg : w'.heap[g]? = w.heap[g]?) : Dc w' g o d := by
  have e : ∀ j, w'.cell? ⟨g, j, none⟩ = w.cell? ⟨g, j, none⟩ := fun j => World.cell?_of_block (w := w) hg
  exact ⟨(e _).trans h.c0, (e _).trans h.c1, (e _).trans h.c2, (e _).trans h.c3, (e _).trans h.c4, (e _).trans h.c5⟩
def DsAt (w : World) (u : Value) (L : List Dl) : Prop :=
  ∃ ao cap, u = .slice ao L.length cap ∧ L.length ≤ cap ∧ cap ≤ 9223372036854775807 ∧ L.length * 56 ≤ 140737488355328 ∧ (∀ x ∈ L, x.v.s.length ≤ 140737488355328) ∧
    (L ≠ [] → ∃ g o, ao = some ⟨g, o, none⟩ ∧ g < w.heap.size ∧ ∀ i x, L[i]? = some x → Dc w g (o + i * 6) x)
theorem DsAt.below {w w' : World} {u : Value} {L : List Dl} (h : DsAt w u L) (hb : Below w.heap.size w w') : DsAt w' u L := by
  obtain ⟨ao, cap, h1, h2, h3, h4, h5, h6⟩ := h
  refine ⟨ao, cap, h1, h2, h3, h4, h5, fun hn => ?_⟩
  obtain ⟨g, o, e, hg, hc⟩ := h6 hn
  exact ⟨g, o, e, Nat.lt_of_lt_of_le hg hb.size, fun i x hx => (hc i x hx).keep (hb.block g hg)⟩
theorem one_put {W : World} {b : Nat} {x : Value} {t : TypeId} (h : W.heap[b]? = some (.cells #[x] t)) (x' : Value) : (W.setCell ⟨b, 0, none⟩ x').heap[b]? = some (.cells #[x'] t) :=
  heap_setCell_same _ b 0 _ t x' h
theorem wrong_any (d : Dl) (wd e0 : Int) (W : World) (p q : Nat) (hp : W.heap[p]? = some (.cells #[.int .i64 wd] 3)) (hq : W.heap[q]? = some (.cells #[.int .i64 e0] 30)) (ne : p ≠ q) (h0 : 0 ≤ wd) (h5 : wd ≤ 5) (hs : d.v.s.length ≤ 140737488355328) :
    Calls Tryz.prog 119 #[dlV d, .pointer (some ⟨p, 0, none⟩), .pointer (some ⟨q, 0, none⟩)] W fun e W' => e = .returned (.bool (decide ((widB wd d).2 ≠ 0))) ∧ W'.heap[p]? = some (.cells #[.int .i64 (widB wd d).1] 3) ∧ W'.heap[q]? = some (.cells #[.int .i64 ((widB wd d).2 : Nat)] 30) ∧
      ∀ B, B ≤ p → B ≤ q → B ≤ W.heap.size → Below B W W' := by
  have hw := fun W' => wid_any wd d W' h0 h5 hs
  have lp := (ltS hp)
  have lq := (ltS hq)
  have a0 : W.cell? ⟨p, 0, none⟩ = some (.int .i64 wd) := Lib.cell_of_heap hp 0
  have b0 := (Below.refl W.heap.size W).alloc (Nat.le_refl _) (.cells #[.int .i64 d.k, .int .i64 d.a, .int .i64 d.ty, .int .i64 d.v.k, .int .i64 d.v.n, .string ⟨d.v.s.toArray⟩] 51)
  have a1 := (b0.cell (p := ⟨p, 0, none⟩) lp).trans a0
  generalize (widB wd d).1 = X at hw ⊢
  generalize (widB wd d).2 = Y at hw ⊢
  clear a0
  go_enter Tryz.func119, Tryz.ntmps119
  go_wp2_with fail
  refine (hw _).mono ?_
  rintro e w1 ⟨rfl, b1⟩
  have q1 : Below W.heap.size W w1 := b0.trans (b1.mono (by simp))
  have kp := (q1.block p lp).trans hp
  have kq := (q1.block q lq).trans hq
  have ep : w1.cell? ⟨p, 0, none⟩ = some (.int .i64 wd) := Lib.cell_of_heap kp 0
  have eq : w1.cell? ⟨q, 0, none⟩ = some (.int .i64 e0) := Lib.cell_of_heap kq 0
  have fp := Lib.frozen_of_heap kp 0
  have fq := Lib.frozen_of_heap kq 0
  have kp2 := one_put kp (.int .i64 X)
  have kq2 : (w1.setCell ⟨p, 0, none⟩ (.int .i64 X)).heap[q]? = some (.cells #[.int .i64 e0] 30) := (heap_setCell_other w1 _ q _ (by simp only; omega)).trans kq
  have fq2 := Lib.frozen_of_heap kq2 0
  have kq3 := one_put kq2 (.int .i64 (Y : Int))
  have kp3 : ((w1.setCell ⟨p, 0, none⟩ (.int .i64 X)).setCell ⟨q, 0, none⟩ (.int .i64 (Y : Int))).heap[p]? = some (.cells #[.int .i64 X] 3) := (heap_setCell_other _ _ p _ (by simp only; omega)).trans kp2
  have d0 : ((w1.setCell ⟨p, 0, none⟩ (.int .i64 X)).setCell ⟨q, 0, none⟩ (.int .i64 (Y : Int))).cell? ⟨q, 0, none⟩ = some (.int .i64 (Y : Int)) := Lib.cell_of_heap kq3 0
  have hB : ∀ B, B ≤ p → B ≤ q → B ≤ W.heap.size → Below B W ((w1.setCell ⟨p, 0, none⟩ (.int .i64 X)).setCell ⟨q, 0, none⟩ (.int .i64 (Y : Int))) := fun B h1 h2 h3 => ((q1.mono h3).setCell h1 _).setCell h2 _
  have KP := hide kp3
  have KQ := hide kq3
  have HB := hide hB
  clear hw b0 b1 a1 hp hq kp kq kp2 kq2 kq3 kp3 hB lp lq
  go_wp2
  go_ret
  refine ⟨ret_bool ?_, KP.out, KQ.out, HB.out⟩
  rw [Bool.eq_iff_iff]; simp
def DixPost (w : World) (L : List Dl) (wd : Int) (p q : Nat) (e : Ending) (W' : World) : Prop :=
  (∃ i : Int, e = .returned (.int .i64 i) ∧ (0 ≤ i ↔ (ckD wd L).2 ≠ 0)) ∧ W'.heap[p]? = some (.cells #[.int .i64 (ckD wd L).1] 3) ∧ W'.heap[q]? = some (.cells #[.int .i64 ((ckD wd L).2 : Nat)] 30) ∧ Below w.heap.size w W'
theorem dix_any (L : List Dl) (u : Value) (w W : World) (h : DsAt w u L) (hb : Below w.heap.size w W) (p q : Nat) (np : w.heap.size ≤ p) (nq : w.heap.size ≤ q) (ne : p ≠ q) (wd : Int) (hp : W.heap[p]? = some (.cells #[.int .i64 wd] 3)) (hq : W.heap[q]? = some (.cells #[.int .i64 0] 30)) (h0 : 0 ≤ wd) (h5 : wd ≤ 5) :
    Calls Tryz.prog 151 #[u, .func (.func 119) #[] #[.pointer (some ⟨p, 0, none⟩), .pointer (some ⟨q, 0, none⟩)]] W fun e W' => DixPost w L wd p q e W' := by
  obtain ⟨ao, cap, rfl, hcap, hcm, hl, hs, hc⟩ := h
  obtain ⟨n, hn⟩ : ∃ n, L.length = n := ⟨_, rfl⟩
  rw [hn] at hl hcap ⊢
  have HC : Hid (L ≠ [] → ∃ g o, ao = some ⟨g, o, none⟩ ∧ g < w.heap.size ∧ ∀ i x, L[i]? = some x → Dc w g (o + i * 6) x) := hc
  have HS : Hid (∀ x ∈ L, x.v.s.length ≤ 140737488355328) := hs
  have HP : Hid (W.heap[p]? = some (.cells #[.int .i64 wd] 3)) := hp
  have HQ : Hid (W.heap[q]? = some (.cells #[.int .i64 0] 30)) := hq
  clear hc hs hp hq
  go_enter Tryz.func151, Tryz.ntmps151
  go_wp2
  go_loopw [8] (fun i wl => ∃ (k : Nat) (wk : Int), k ≤ n ∧ i = .int .i64 k ∧ Hid (0 ≤ wk ∧ wk ≤ 5) ∧ Hid (wl.heap[p]? = some (.cells #[.int .i64 wk] 3)) ∧ Hid (wl.heap[q]? = some (.cells #[.int .i64 0] 30)) ∧ Below w.heap.size w wl ∧ Hid (ckD wd L = ckD wk (L.drop k))) (fun i _ => n - (intOf i).toNat)
  case atStart => exact ⟨0, wd, Nat.zero_le _, rfl, ⟨h0, h5⟩, HP, HQ, hb, rfl⟩
  case round =>
    obtain ⟨k, wk, hk, rfl, HK, KP, KQ, hnx, HD⟩ := hrel
    by_cases hlt : k < n
    · obtain ⟨x, hx⟩ : ∃ x, L[k]? = some x := ⟨L[k], List.getElem?_eq_getElem (by omega)⟩
      obtain ⟨g, o, rfl, hg, hcc⟩ := HC.out (by intro e; rw [e] at hx; cases hx)
      obtain ⟨a0, a1, a2, a3, a4, a5⟩ := (hcc k x hx).keep (hnx.block g hg)
      have hlt' : (k : Int) < (n : Int) := by omega
      have hf := wrong_any x wk 0 wr p q KP.out KQ.out ne HK.out.1 HK.out.2 (HS.out x (List.mem_of_getElem? hx))
      have HDr : Hid (L.drop k = x :: L.drop (k + 1)) := by
        obtain ⟨hi, rfl⟩ := List.getElem?_eq_some_iff.1 hx
        exact List.drop_eq_getElem_cons hi
      have hsz := hnx.size
      clear hcc hx HC HS HP HQ KP KQ
      by_cases hB : (widB wk x).2 = 0
      · have HB := hide hB
        have hdn : decide ((widB wk x).2 ≠ 0) = false := by rw [hB]; rfl
        rw [hdn, hB] at hf
        have HW := hide (widB_fit hB HK.out.1 HK.out.2)
        have HD2 : Hid (ckD wd L = ckD (widB wk x).1 (L.drop (k + 1))) := by
          rw [Hid, HD.out, HDr.out, ckD, if_pos hB]
        generalize (widB wk x).1 = wk2 at hf HW HD2
        clear hB hdn HB HD HDr HK
        go_wp2_with (go_at_call 119; refine hf.mono ?_; rintro e w2 ⟨rfl, kp2, kq2, hb2⟩; have KP2 := hide kp2; have KQ2 := hide kq2; have b2 := hnx.trans (hb2 _ np nq hsz); clear kp2 kq2 hb2)
        go_roundw
        case rel => exact ⟨k + 1, wk2, by omega, by go_num, HW, KP2, KQ2, b2, HD2⟩
        case measure => simp [intOf]; omega
      · have hdn : decide ((widB wk x).2 ≠ 0) = true := decide_eq_true hB
        rw [hdn] at hf
        have HE : Hid ((widB wk x).1 = 0) := widB_err wk x hB
        have HD2 : Hid (ckD wd L = (0, (widB wk x).2)) := by rw [Hid, HD.out, HDr.out, ckD, if_neg hB]
        rw [HE.out] at hf
        have HB := hide hB
        generalize (widB wk x).2 = F at hf HD2 HB
        clear hB hdn HD HDr HK
        go_wp2_with (go_at_call 119; refine hf.mono ?_; rintro e w2 ⟨rfl, kp2, kq2, hb2⟩; have KP2 := hide kp2; have KQ2 := hide kq2; have b2 := hnx.trans (hb2 _ np nq hsz); clear kp2 kq2 hb2)
        go_ret
        refine ⟨⟨k, rfl, ?_⟩, ?_, ?_, b2⟩
        · rw [HD2.out]; exact ⟨fun _ => HB.out, fun _ => by omega⟩
        · rw [HD2.out]; exact KP2.out
        · rw [HD2.out]; exact KQ2.out
    · have hkn : k = n := by omega
      have HD2 : Hid (ckD wd L = (wk, 0)) := by
        rw [Hid, HD.out, hkn, ← hn, List.drop_length]; rfl
      clear HC HS HP HQ HD
      go_wp2
      go_ret
      refine ⟨⟨-1, rfl, ?_⟩, ?_, ?_, hnx⟩
      · rw [HD2.out]; exact ⟨fun h => absurd h (by decide), fun h => absurd rfl h⟩
      · rw [HD2.out]; exact KP.out
      · rw [HD2.out]; exact KQ.out
def ConPost (w : World) (L : List Dl) (wd : Int) (p q : Nat) (e : Ending) (W' : World) : Prop :=
  e = .returned (.bool (decide ((ckD wd L).2 ≠ 0))) ∧ W'.heap[p]? = some (.cells #[.int .i64 (ckD wd L).1] 3) ∧ W'.heap[q]? = some (.cells #[.int .i64 ((ckD wd L).2 : Nat)] 30) ∧ Below w.heap.size w W'
theorem con_any (L : List Dl) (u : Value) (w W : World) (h : DsAt w u L) (hb : Below w.heap.size w W) (p q : Nat) (np : w.heap.size ≤ p) (nq : w.heap.size ≤ q) (ne : p ≠ q) (wd : Int) (hp : W.heap[p]? = some (.cells #[.int .i64 wd] 3)) (hq : W.heap[q]? = some (.cells #[.int .i64 0] 30)) (h0 : 0 ≤ wd) (h5 : wd ≤ 5) :
    Calls Tryz.prog 121 #[u, .func (.func 119) #[] #[.pointer (some ⟨p, 0, none⟩), .pointer (some ⟨q, 0, none⟩)]] W fun e W' => ConPost w L wd p q e W' := by
  have hi := dix_any L u w W h hb p q np nq ne wd hp hq h0 h5
  obtain ⟨ao, cap, rfl, -⟩ := h
  have HQ : ∀ (i : Int) (W' : World), (0 ≤ i ↔ (ckD wd L).2 ≠ 0) → W'.heap[p]? = some (.cells #[.int .i64 (ckD wd L).1] 3) ∧ W'.heap[q]? = some (.cells #[.int .i64 ((ckD wd L).2 : Nat)] 30) ∧ Below w.heap.size w W' → ConPost w L wd p q (.returned (.bool (decide (0 ≤ i)))) W' := fun i W' h1 h2 => ⟨ret_bool (by rw [Bool.eq_iff_iff, decide_eq_true_eq, decide_eq_true_eq]; exact h1), h2⟩
  have HH := hide HQ
  clear HQ hp hq hb
  unfold DixPost at hi
  generalize ConPost w L wd p q = CP at HH ⊢
  go_enter Tryz.func121, Tryz.ntmps121
  go_wp2_with fail
  refine hi.mono ?_
  rintro e W1 ⟨⟨i, rfl, hie⟩, hrest⟩
  have H1 := hide hie
  have H2 := hide hrest
  clear hi hie hrest
  go_wp2
  exact HH.out i W1 H1.out H2.out
theorem check_out (wd : Int) (ao : Option Addr) (n cap : Nat) (w : World) (h : wd < 0 ∨ (¬ wd < 0 ∧ 5 < wd)) :
    Calls Tryz.prog 73 #[.int .i64 wd, .slice ao n cap] w fun e w' => e = .returned (.tuple #[.int .i64 0, .int .i64 3]) ∧ Below w.heap.size w w' := by
  rcases h with h | ⟨h, h'⟩
  all_goals
    go_enter Tryz.func73, Tryz.ntmps73
    go_wp2
    go_ret2
    exact ⟨rfl, (Below.refl _ _).alloc (Nat.le_refl _) _⟩
theorem check_in (L : List Dl) (u : Value) (wd : Int) (w : World) (h : DsAt w u L) (h0 : 0 ≤ wd) (h5 : wd ≤ 5) :
    Calls Tryz.prog 73 #[.int .i64 wd, u] w fun e w' => e = .returned (.tuple #[.int .i64 (ckD wd L).1, .int .i64 ((ckD wd L).2 : Nat)]) ∧ Below w.heap.size w w' := by
  have z1 : (w.alloc (.cells #[.int .i64 wd] 3)).heap.size = w.heap.size + 1 := by simp
  have hp : ((w.alloc (.cells #[.int .i64 wd] 3)).alloc (.cells #[.int .i64 0] 30)).heap[w.heap.size]? = some (.cells #[.int .i64 wd] 3) := (Below.heap_alloc _ _ _ (by omega)).trans (heap_alloc_new _ _)
  have hq : ((w.alloc (.cells #[.int .i64 wd] 3)).alloc (.cells #[.int .i64 0] 30)).heap[w.heap.size + 1]? = some (.cells #[.int .i64 0] 30) := by rw [← z1]; exact heap_alloc_new _ _
  have hc := con_any L u w _ h (((Below.refl _ _).alloc (Nat.le_refl _) _).alloc (by simp) _) w.heap.size (w.heap.size + 1) (Nat.le_refl _) (by omega) (by omega) wd hp hq h0 h5
  have hE := ckD_err L wd
  obtain ⟨ao, cap, rfl, -⟩ := h
  unfold ConPost at hc
  generalize (ckD wd L).1 = X at hc hE ⊢
  generalize (ckD wd L).2 = Y at hc hE ⊢
  clear hp hq z1
  by_cases hY : Y = 0
  · subst hY
    clear hE
    go_enter Tryz.func73, Tryz.ntmps73
    go_wp2_with fail
    refine hc.mono ?_
    rintro e w1 ⟨rfl, hp, hq, b1⟩
    have c0 : w1.cell? ⟨w.heap.size, 0, none⟩ = some (.int .i64 X) := Lib.cell_of_heap hp 0
    clear hc hp hq
    go_wp2
    go_ret2
    exact ⟨rfl, b1⟩
  · obtain rfl := hE hY
    have hd : decide (Y ≠ 0) = true := decide_eq_true hY
    rw [hd] at hc
    clear hd hE
    go_enter Tryz.func73, Tryz.ntmps73
    go_wp2_with fail
    refine hc.mono ?_
    rintro e w1 ⟨rfl, hp, hq, b1⟩
    have c0 : w1.cell? ⟨w.heap.size + 1, 0, none⟩ = some (.int .i64 (Y : Int)) := Lib.cell_of_heap hq 0
    clear hc hp hq hY
    go_wp2_with fail
    go_quiet (fail)
    go_wp2
    go_ret2
    exact ⟨rfl, below_drewN b1 _⟩
theorem checkD_any (L : List Dl) (u : Value) (wd : Int) (w : World) (h : DsAt w u L) :
    Calls Tryz.prog 73 #[.int .i64 wd, u] w fun e w' => e = .returned (.tuple #[.int .i64 (checkD wd L).1, .int .i64 ((checkD wd L).2 : Nat)]) ∧ Below w.heap.size w w' := by
  unfold checkD
  by_cases hw : wd < 0 ∨ 5 < wd
  · rw [if_pos hw]
    obtain ⟨ao, cap, rfl, -⟩ := h
    exact check_out wd ao L.length cap w (by omega)
  · rw [if_neg hw]
    exact check_in L u wd w h (by omega) (by omega)
theorem Tryz.info_val : (Tryz.prog.info? 49).map (fun i => (i.zero, i.size, i.bytes)) = some (some (.agg #[.int .i64 0, .int .i64 0, .string ⟨#[]⟩]), 3, 32) := by kernel_rfl
abbrev Own (w : World) (B : Nat) (u : Value) (L : List Vl) : Prop := w.ownsRow B 49 3 u L.length (L.flatMap vlC)
theorem flatV_len (L : List Vl) : (L.flatMap vlC).length = L.length * 3 := by
  induction L with
  | nil => rfl
  | cons x r ih => rw [List.flatMap_cons, List.length_append, ih, List.length_cons]; simp only [vlC, List.length_cons, List.length_nil]; omega
theorem flatV_one (L : List Vl) : ∀ u ∈ L.flatMap vlC, u.oneCell' = true := by
  intro u hu
  obtain ⟨p, _, hup⟩ := List.mem_flatMap.1 hu
  simp only [vlC, List.mem_cons, List.not_mem_nil, or_false] at hup
  rcases hup with rfl | rfl | rfl <;> rfl
theorem flatV_get (L : List Vl) (i : Nat) (x : Vl) (h : L[i]? = some x) : (L.flatMap vlC)[i * 3]? = some (.int .i64 x.k) ∧ (L.flatMap vlC)[i * 3 + 1]? = some (.int .i64 x.n) ∧ (L.flatMap vlC)[i * 3 + 2]? = some (.string ⟨x.s.toArray⟩) := by
  induction L generalizing i with
  | nil => cases h
  | cons y r ih =>
    cases i with
    | zero => cases h; exact ⟨rfl, rfl, rfl⟩
    | succ i =>
      have := ih i (by simpa using h)
      rw [List.flatMap_cons]
      have e : ∀ j, (vlC y ++ r.flatMap vlC)[(i + 1) * 3 + j]? = (r.flatMap vlC)[i * 3 + j]? := by
        intro j
        rw [List.getElem?_append_right (by simp [vlC]; omega)]
        congr 1
        simp [vlC]; omega
      exact ⟨(e 0).trans this.1, (e 1).trans this.2.1, (e 2).trans this.2.2⟩
theorem VsAt.cells {w : World} {L : List Vl} {g o : Nat} (hc : ∀ i x, L[i]? = some x → w.cell? ⟨g, o + i * 3, none⟩ = some (.int .i64 x.k) ∧ w.cell? ⟨g, o + i * 3 + 1, none⟩ = some (.int .i64 x.n) ∧ w.cell? ⟨g, o + i * 3 + 2, none⟩ = some (.string ⟨x.s.toArray⟩)) :
    ∀ j u, (L.flatMap vlC)[j]? = some u → w.cell? ⟨g, o + j, none⟩ = some u := by
  intro j u hj
  have hl := (List.getElem?_eq_some_iff.1 hj).1
  rw [flatV_len] at hl
  obtain ⟨x, hx⟩ : ∃ x, L[j / 3]? = some x := ⟨L[j / 3], List.getElem?_eq_getElem (by omega)⟩
  obtain ⟨f0, f1, f2⟩ := flatV_get L _ x hx
  obtain ⟨c0, c1, c2⟩ := hc _ x hx
  have hm : j % 3 = 0 ∨ j % 3 = 1 ∨ j % 3 = 2 := by omega
  rcases hm with h | h | h
  · have e : j = j / 3 * 3 := by omega
    rw [e] at hj ⊢
    rw [f0] at hj; cases hj; exact c0
  · have e : j = j / 3 * 3 + 1 := by omega
    rw [e] at hj ⊢
    rw [f1] at hj; cases hj
    rw [← Nat.add_assoc]; exact c1
  · have e : j = j / 3 * 3 + 2 := by omega
    rw [e] at hj ⊢
    rw [f2] at hj; cases hj
    rw [← Nat.add_assoc]; exact c2
theorem clone_any (L : List Vl) (u : Value) (w : World) (h : VsAt w u L) (hz : ∀ ao cap, u = .slice ao 0 cap → ao = none → cap = 0) : Calls Tryz.prog 76 #[u] w fun e w' => ∃ v, e = .returned v ∧ Own w' w.heap.size v L ∧ Below w.heap.size w w' := by
  obtain ⟨i0, hi, hz0, hz1, hz2⟩ := info_parts Tryz.info_val
  obtain ⟨ao, cap, rfl, hl, hs, hc⟩ := h
  obtain ⟨n, hn⟩ : ∃ n, L.length = n := ⟨_, rfl⟩
  have q22 : ∀ (w : World) (a : Option Addr) (n c n' c' : Nat), (binOp .eql 41 (.slice a n c) (.slice none n' c')).run Tryz.prog w = .ok (.bool a.isNone) w := fun w a n c n' c' => Lib.run_eql_slice_nil w _ _ a n c n' c' Tryz.underlying41
  cases ao with
  | none =>
    have h0 : L = [] := by
      rcases Classical.em (L = []) with h | h
      · exact h
      · obtain ⟨g, o, e, -⟩ := hc h; cases e
    subst h0
    obtain rfl := hz none cap rfl rfl
    clear hc
    go_enter Tryz.func76, Tryz.ntmps76
    go_wp2
    go_ret
    exact ⟨_, rfl, World.ownsRow_nil _ _ _ _, Below.refl _ _⟩
  | some ad =>
    have hnews : ∀ j x, (L.flatMap vlC)[j]? = some x → (w.alloc (.cells #[] 49)).cell? (ad.add j) = some x := by
      rcases Classical.em (L = []) with h | h
      · intro j x hj; rw [h] at hj; simp at hj
      · obtain ⟨g, o, e, hg, hcc⟩ := hc h
        cases e
        intro j x hj
        rw [Go.WideShapes.add_plain]
        exact (((Below.refl w.heap.size w).alloc (Nat.le_refl _) _).cell (p := ⟨g, o + j, none⟩) hg).trans (VsAt.cells hcc j x hj)
    have hnl := flatV_len L
    have h1 := flatV_one L
    have b0 := (Below.refl w.heap.size w).alloc (Nat.le_refl _) (.cells #[] 49)
    unfold Own
    generalize L.flatMap vlC = news at hnews hnl h1 ⊢
    rw [hn] at hl hnl ⊢
    clear hc hs
    go_enter Tryz.func76, Tryz.ntmps76
    go_wp2_with (at_builtin; refine wpList_append_own _ rfl _ _ 41 rfl w.heap.size 49 i0 (.agg #[.int .i64 0, .int .i64 0, .string ⟨#[]⟩]) 3 32 Tryz.underlying41 hi hz0 hz1 hz2 rfl (by decide) _ _ _ rfl (World.ownsRow_made w #[] 0 (Nat.le_refl _) (Nat.zero_le _) rfl) ad n cap news rfl hnl hnews h1 ?c3 ?c4 ?c5 ?_)
    case c3 => unfold maxLen; omega
    case c4 => omega
    case c5 => simp
    intro v' w' hown hgrow _
    have hb := b0.grown hgrow (by simp) (fun j hj => by cases hj; exact Nat.le_refl _)
    clear hnews
    go_wp2
    go_ret
    exact ⟨_, rfl, by simpa using hown, hb⟩
theorem heap_setCells (b : Nat) (t : TypeId) : ∀ (vs : List Value) (o : Nat) (W : World) (cur : Array Value), W.heap[b]? = some (.cells cur t) → o + vs.length ≤ cur.size →
    ∃ cur' : Array Value, (W.setCells b o vs).heap[b]? = some (.cells cur' t) ∧ cur'.toList = cur.toList.take o ++ vs ++ cur.toList.drop (o + vs.length) := by
  intro vs
  induction vs with
  | nil => intro o W cur h hl; exact ⟨cur, h, by simp⟩
  | cons v r ih =>
    intro o W cur h hl
    simp only [List.length_cons] at hl
    obtain ⟨cur', h1, h2⟩ := ih (o + 1) (W.setCell ⟨b, o, none⟩ v) _ (heap_setCell_same W b o cur t v h) (by simp; omega)
    refine ⟨cur', h1, h2.trans ?_⟩
    have ho : o < cur.toList.length := by simp; omega
    rw [Array.toList_setIfInBounds, List.take_succ_eq_append_getElem (by simpa using ho), List.take_set_of_le (Nat.le_refl _), List.getElem_set_self, List.drop_set_of_lt (by omega)]
    simp only [List.length_cons, List.append_assoc, List.singleton_append]
    rw [show o + 1 + r.length = o + (r.length + 1) by omega]
theorem below_cells {B : Nat} {a : World} (b : Nat) (hb : B ≤ b) : ∀ (vs : List Value) (o : Nat) (w : World), Below B a w → Below B a (w.setCells b o vs)
  | [], _, _, h => h
  | _ :: r, _, _, h => below_cells b hb r _ _ (h.setCell hb _)
abbrev z3 : List Value := [.int .i64 0, .int .i64 0, .string ⟨#[]⟩]
theorem clear_one (w : World) (ty : TypeId) (b o c : Nat) (hc : ∀ j, j < 3 → (w.cell? ⟨b, o + j, none⟩).isSome = true) (hf : ∀ j, j < 3 → w.frozen? ⟨b, o + j, none⟩ = false) :
    (Builtin.clear_ #[41] ty #[.slice (some ⟨b, o, none⟩) 1 c]).run Tryz.prog w = .ok (.tuple #[]) (w.setCells b o z3) := by
  have hzc : (Builtin.zeroCells (Value.agg #[.int .i64 0, .int .i64 0, .string ⟨#[]⟩]).cells 1).toList = z3 := by
    simp [Builtin.zeroCells, Value.cells, z3]
    rfl
  have hst := run_storeCells_cells (P := Tryz.prog) b o z3 0 w (by simpa using hc) (by simpa using hf) (by intro v hv; simp only [z3, List.mem_cons, List.not_mem_nil, or_false] at hv; rcases hv with rfl | rfl | rfl <;> rfl)
  simp only [Nat.add_zero] at hst
  simp [Builtin.clear_, run_underlying Tryz.underlying41, Tryz.zeroValue49, hzc, hst]
theorem flatV_append (A B : List Vl) : (A ++ B).flatMap vlC = A.flatMap vlC ++ B.flatMap vlC := List.flatMap_append
theorem flatV_take (L : List Vl) (i : Nat) : (L.take i).flatMap vlC = (L.flatMap vlC).take (i * 3) := by
  induction L generalizing i with
  | nil => simp
  | cons x r ih =>
    cases i with
    | zero => simp
    | succ i =>
      rw [List.take_succ_cons, List.flatMap_cons, List.flatMap_cons, ih]
      have e : (i + 1) * 3 = (vlC x).length + i * 3 := by simp [vlC]; omega
      rw [e, List.take_length_add_append]
theorem flatV_drop (L : List Vl) (i : Nat) : (L.drop i).flatMap vlC = (L.flatMap vlC).drop (i * 3) := by
  induction L generalizing i with
  | nil => simp
  | cons x r ih =>
    cases i with
    | zero => simp
    | succ i =>
      rw [List.drop_succ_cons, List.flatMap_cons, ih]
      have e : (i + 1) * 3 = (vlC x).length + i * 3 := by simp [vlC]; omega
      rw [e, List.drop_append]
      simp [vlC]
theorem delete_any (B : Nat) (u : Value) (L : List Vl) (i j : Nat) (hj : j = i + 1) (hi : i < L.length) (w : World) (h : Own w B u L) (hlen : L.length ≤ 1000) :
    Calls Tryz.prog 125 #[u, .int .i64 i, .int .i64 j] w fun e w' => ∃ v, e = .returned v ∧ Own w' B v (L.eraseIdx i) ∧ Below B w w' := by
  obtain ⟨i0, hi0, hz0, hz1, hz2⟩ := info_parts Tryz.info_val
  obtain ⟨hxl, hh⟩ := h
  rcases hh with ⟨-, h0⟩ | ⟨g, cap, cur, rfl, hBg, hg, hnc, hcm, hcs, htake⟩
  · omega
  obtain ⟨n, hn⟩ : ∃ n, L.length = n := ⟨_, rfl⟩
  obtain ⟨news, hnews⟩ : ∃ news, news = (L.drop j).flatMap vlC := ⟨_, rfl⟩
  have hnl : news.length = (n - j) * 3 := by rw [hnews, flatV_len, List.length_drop, hn]
  have hm : maxLen = 9223372036854775807 := by rfl
  rw [hn] at hxl hi hlen hnc htake ⊢
  have hcell : ∀ t, t < cap * 3 → ∃ x, w.cell? ⟨g, t, none⟩ = some x := by
    intro t ht
    have := Lib.cell_of_heap hg t
    rw [this]
    exact ⟨cur[t], Array.getElem?_eq_getElem (by omega)⟩
  obtain ⟨A, hA, hsrc⟩ : ∃ A : Addr, (if cap = j then some (⟨g, 0, none⟩ : Addr) else some ⟨g, j * 3, none⟩) = some A ∧ Hid (∀ t x, news[t]? = some x → w.drew.cell? (A.add t) = some x) := by
    by_cases h : cap = j
    · refine ⟨⟨g, 0, none⟩, by simp [h], fun t x hx => ?_⟩
      have h0 : news.length = 0 := by rw [hnl]; omega
      rw [List.length_eq_zero_iff.1 h0] at hx
      simp at hx
    · refine ⟨⟨g, j * 3, none⟩, by simp [h], fun t x hx => ?_⟩
      have ht := (List.getElem?_eq_some_iff.1 hx).1
      rw [hnl] at ht
      rw [Go.WideShapes.add_plain]
      show w.cell? ⟨g, j * 3 + t, none⟩ = some x
      rw [Lib.cell_of_heap hg]
      rw [hnews, flatV_drop, List.getElem?_drop, ← htake, List.getElem?_take, if_pos (by omega)] at hx
      simpa using hx
  have s1 : Hid (news.length = (n - j) * 3) := hnl
  have s2 : Hid (∀ x ∈ news, x.oneCell' = true) := by rw [hnews]; exact flatV_one _
  have s3 : Hid (∀ t, t < news.length → (w.drew.cell? ⟨g, 0 + i * 3 + t, none⟩).isSome = true ∧ w.drew.frozen? ⟨g, 0 + i * 3 + t, none⟩ = false) := by
    intro t ht
    rw [hnl] at ht
    refine ⟨?_, ?_⟩
    · show (w.cell? ⟨g, 0 + i * 3 + t, none⟩).isSome = true
      obtain ⟨x, hx⟩ := hcell (0 + i * 3 + t) (by omega)
      rw [hx]; rfl
    · exact Lib.frozen_of_heap (w := w.drew) hg _
  obtain ⟨W1, hW1⟩ : ∃ W1, W1 = w.drew.setCells g (0 + i * 3) news := ⟨_, rfl⟩
  obtain ⟨cur1, hg1, hc1⟩ := heap_setCells g 49 news (0 + i * 3) w.drew cur hg (by omega)
  rw [← hW1] at hg1
  have hcl1 : cur1.toList.length = cap * 3 := by
    rw [hc1]; simp; omega
  have hq : n - (i + (n - j)) = 1 := by omega
  have hcl : ∀ ty, (Builtin.clear_ #[41] ty #[.slice (some ⟨g, (i + (n - j)) * 3, none⟩) 1 (cap - (i + (n - j)))]).run Tryz.prog W1 = .ok (.tuple #[]) (W1.setCells g ((i + (n - j)) * 3) z3) := by
    intro ty
    refine clear_one W1 ty g _ _ (fun t ht => ?_) (fun t _ => Lib.frozen_of_heap hg1 _)
    rw [Lib.cell_of_heap hg1]
    rw [Array.getElem?_eq_getElem (by rw [← Array.length_toList]; omega)]; rfl
  obtain ⟨cur2, hg2, hc2⟩ := heap_setCells g 49 z3 ((i + (n - j)) * 3) W1 cur1 hg1 (by rw [← Array.length_toList, hcl1]; simp only [z3, List.length_cons, List.length_nil]; omega)
  have b1 : Below B w W1 := by rw [hW1]; exact below_cells g hBg _ _ _ (Below.refl _ _).drew
  have b2 : Below B w (W1.setCells g ((i + (n - j)) * 3) z3) := below_cells g hBg _ _ _ b1
  have hfin : Own (W1.setCells g ((i + (n - j)) * 3) z3) B (.slice (some ⟨g, 0, none⟩) (i + (n - j)) cap) (L.eraseIdx i) := by
    have hel : (L.eraseIdx i).length = i + (n - j) := by rw [List.length_eraseIdx, if_pos (by omega)]; omega
    have hfl : (L.eraseIdx i).flatMap vlC = (L.flatMap vlC).take (i * 3) ++ news := by
      rw [List.eraseIdx_eq_take_drop_succ, flatV_append, flatV_take, hnews, hj]
    have hc2l : cur2.toList.length = cap * 3 := by rw [hc2, List.length_append, List.length_append, List.length_take, List.length_drop, hcl1]; simp only [z3, List.length_cons, List.length_nil]; omega
    refine ⟨by rw [flatV_len], .inr ⟨g, cap, cur2, by rw [hel], hBg, hg2, by omega, hcm, by rw [← Array.length_toList]; exact hc2l, ?_⟩⟩
    rw [hel, hfl, hc2, hc1, Nat.zero_add]
    have l1 : (cur.toList.take (i * 3)).length = i * 3 := by rw [List.length_take, Array.length_toList]; omega
    have e1 : cur.toList.take (i * 3) = (L.flatMap vlC).take (i * 3) := by
      rw [← htake, List.take_take, Nat.min_eq_left (by omega)]
    have e2 : (cur.toList.take (i * 3) ++ news ++ cur.toList.drop (i * 3 + news.length)).take ((i + (n - j)) * 3) = cur.toList.take (i * 3) ++ news := by
      rw [List.take_append_of_le_length (by rw [List.length_append, l1, hnl]; omega), List.take_of_length_le (by rw [List.length_append, l1, hnl]; omega)]
    rw [e2, List.append_assoc, List.take_append_of_le_length (by rw [List.length_append, l1, hnl]; omega), List.take_of_length_le (by rw [List.length_append, l1, hnl]; omega), e1]
  have hW : Hid (W1 = w.drew.setCells g (0 + i * 3) news) := hW1
  have HF := hide hfin
  have hic : i ≤ cap := by omega
  have hjc : j ≤ cap := by omega
  have hij : i ≤ j := by omega
  have hjn : j ≤ n := by omega
  have hne : ((i : Int) == (j : Int)) = false := by simp; omega
  clear hW1 hfin hg1 hg2 hc1 hc2 hcl1 hcell hg hcs htake hnews hnl b1 hxl hi hj
  go_enter Tryz.func125, Tryz.ntmps125
  go_wp2_with fail
  go_region_law (refine step_append_room rfl (.tmp 22) (.tmp 25) 41 rfl 49 i0 3 Tryz.underlying41 hi0 hz1 g 0 i cap (by simp [Act.eval, Act.put]) A (n - j) (cap - j) news (by simp [Act.eval, Act.put]) s1.out hsrc.out s2.out (by omega) s3.out ?_; rw [← hW.out])
  go_wp2
  go_ret
  exact ⟨_, rfl, HF.out, b2⟩
theorem Own.kept_below {w w' : World} {B : Nat} {u : Value} {L : List Vl} (h : Own w B u L) (hb : Below w.heap.size w w') : Own w' B u L := by
  refine ⟨h.1, ?_⟩
  rcases h.2 with h' | ⟨g, cap, cur, hv, hB, hg, r⟩
  · exact .inl h'
  · exact .inr ⟨g, cap, cur, hv, hB, (hb.block g (ltS hg)).trans hg, r⟩
theorem row_1 (B : Nat) (u : Value) (r : List Vl) (a ty : Int) (x : Vl) (w : World) (h : Own w B u r) (hB : B ≤ w.heap.size) (hl : r.length ≤ 1000) :
    Calls Tryz.prog 77 #[u, dlV ⟨1, a, ty, x⟩] w fun e w' => ∃ v, e = .returned v ∧ Own w' B v (r ++ [x]) ∧ Below B w w' := by
  obtain ⟨i0, hi, hz0, hz1, hz2⟩ := info_parts Tryz.info_val
  have ho := h
  obtain ⟨ao, cap, rfl⟩ := owns_slice h
  have hlt := h.lt
  have b0 : Below B w ((w.alloc (.cells #[.int .i64 1, .int .i64 a, .int .i64 ty, .int .i64 x.k, .int .i64 x.n, .string ⟨x.s.toArray⟩] 51)).alloc (.cells #[.int .i64 x.k, .int .i64 x.n, .string ⟨x.s.toArray⟩] 49)) := ((Below.refl _ _).alloc hB _).alloc (by simp; omega) _
  have o2 := (h.alloc (.cells #[.int .i64 1, .int .i64 a, .int .i64 ty, .int .i64 x.k, .int .i64 x.n, .string ⟨x.s.toArray⟩] 51)).alloc (.cells #[.int .i64 x.k, .int .i64 x.n, .string ⟨x.s.toArray⟩] 49)
  have z1 : (w.alloc (.cells #[.int .i64 1, .int .i64 a, .int .i64 ty, .int .i64 x.k, .int .i64 x.n, .string ⟨x.s.toArray⟩] 51)).heap.size = w.heap.size + 1 := by simp
  have k2 := heap_alloc_new (w.alloc (.cells #[.int .i64 1, .int .i64 a, .int .i64 ty, .int .i64 x.k, .int .i64 x.n, .string ⟨x.s.toArray⟩] 51)) (.cells #[.int .i64 x.k, .int .i64 x.n, .string ⟨x.s.toArray⟩] 49)
  rw [z1] at k2
  have hn := World.news_of_block (cs := #[.int .i64 x.k, .int .i64 x.n, .string ⟨x.s.toArray⟩]) (t := 49) (fr := (0, 0)) k2
  have hfl : (r ++ [x]).flatMap vlC = r.flatMap vlC ++ [.int .i64 x.k, .int .i64 x.n, .string ⟨x.s.toArray⟩] := by simp [vlC]
  have HF : ∀ (v : Value) (w' : World), w'.ownsRow B 49 3 v (r.length + 1) (r.flatMap vlC ++ [.int .i64 x.k, .int .i64 x.n, .string ⟨x.s.toArray⟩]) → Own w' B v (r ++ [x]) := by
    intro v w' hh
    unfold Own
    rw [hfl, List.length_append]; exact hh
  have HF := hide HF
  unfold Own at o2
  obtain ⟨n, hn'⟩ : ∃ n, r.length = n := ⟨_, rfl⟩
  rw [hn'] at o2 hl HF hlt ⊢
  generalize r.flatMap vlC = fl at o2 HF
  clear h ho k2 hfl
  go_enter Tryz.func77, Tryz.ntmps77
  go_wp2_with (at_builtin; refine wpList_append_own _ rfl _ _ 41 rfl B 49 i0 (.agg #[.int .i64 0, .int .i64 0, .string ⟨#[]⟩]) 3 32 Tryz.underlying41 hi hz0 hz1 hz2 rfl (by decide) _ _ _ rfl o2 ⟨w.heap.size + 1, 0, none⟩ 1 1 [.int .i64 x.k, .int .i64 x.n, .string ⟨x.s.toArray⟩] rfl rfl hn (by intro y hy; simp only [List.mem_cons, List.not_mem_nil, or_false] at hy; rcases hy with rfl | rfl | rfl <;> rfl) ?c3 ?c4 ?c5 ?_)
  case c3 => unfold maxLen; omega
  case c4 => omega
  case c5 => first | omega | exact b0.size | exact Nat.le_trans hB b0.size
  intro v' w3 hown hgrow _
  have hb := b0.grown hgrow (by simp; omega) (fun j hj => (hlt j hj).1)
  clear hn b0 o2
  go_wp2
  go_ret
  exact ⟨_, rfl, HF.out _ _ hown, hb⟩
theorem row_2 (B : Nat) (u : Value) (r : List Vl) (a : Nat) (ty : Int) (x : Vl) (w : World) (h : Own w B u r) (hB : B ≤ w.heap.size) (hl : r.length ≤ 1000) (ha : a < r.length) :
    Calls Tryz.prog 77 #[u, dlV ⟨2, a, ty, x⟩] w fun e w' => ∃ v, e = .returned v ∧ Own w' B v (r.eraseIdx a) ∧ Below B w w' := by
  have b0 : Below B w (w.alloc (.cells #[.int .i64 2, .int .i64 a, .int .i64 ty, .int .i64 x.k, .int .i64 x.n, .string ⟨x.s.toArray⟩] 51)) := (Below.refl _ _).alloc hB _
  have hd := delete_any B u r a (a + 1) rfl ha _ (h.alloc (.cells #[.int .i64 2, .int .i64 a, .int .i64 ty, .int .i64 x.k, .int .i64 x.n, .string ⟨x.s.toArray⟩] 51)) hl
  rw [show ((a + 1 : Nat) : Int) = (a : Int) + 1 by omega] at hd
  obtain ⟨ao, cap, rfl⟩ := owns_slice h
  have ha' : (a : Int) ≤ 1000 := by omega
  unfold Own at hd ⊢
  generalize hP : (fun (v : Value) (w' : World) => w'.ownsRow B 49 3 v (r.eraseIdx a).length ((r.eraseIdx a).flatMap vlC)) = PP
  have hd2 := hd.mono (R' := fun e w' => ∃ v, e = .returned v ∧ PP v w' ∧ Below B (w.alloc (.cells #[.int .i64 2, .int .i64 a, .int .i64 ty, .int .i64 x.k, .int .i64 x.n, .string ⟨x.s.toArray⟩] 51)) w') (by rintro e w' ⟨v, h1, h2, h3⟩; exact ⟨v, h1, by rw [← hP]; exact h2, h3⟩)
  have hgoal : ∀ (e : Ending) (w' : World), (∃ v, e = .returned v ∧ PP v w' ∧ Below B w w') → (∃ v, e = .returned v ∧ w'.ownsRow B 49 3 v (r.eraseIdx a).length ((r.eraseIdx a).flatMap vlC) ∧ Below B w w') := by
    rintro e w' ⟨v, h1, h2, h3⟩
    exact ⟨v, h1, by rw [← hP] at h2; exact h2, h3⟩
  refine Calls.mono ?_ hgoal
  clear hd hgoal hP h
  go_enter Tryz.func77, Tryz.ntmps77
  go_wp2_with fail
  refine hd2.mono ?_
  rintro e w1 ⟨v, rfl, hv, b1⟩
  have HV := hide hv
  clear hd2 hv
  go_wp2
  go_ret
  exact ⟨_, rfl, HV.out, b0.trans b1⟩
theorem flatV_set (r : List Vl) (a : Nat) (y : Vl) (ha : a < r.length) : (r.set a y).flatMap vlC = (r.flatMap vlC).take (a * 3) ++ vlC y ++ (r.flatMap vlC).drop (a * 3 + 3) := by
  rw [List.set_eq_take_append_cons_drop, if_pos ha, flatV_append, List.flatMap_cons, flatV_take, flatV_drop, List.append_assoc, show (a + 1) * 3 = a * 3 + 3 by omega]
theorem own_set {w : World} {B : Nat} {g n cap : Nat} {r : List Vl} (h : Own w B (.slice (some ⟨g, 0, none⟩) n cap) r) (hn : r.length = n) (a : Nat) (ha : a < n) (y : Vl) :
    Own (((w.setCell ⟨g, a * 3, none⟩ (.int .i64 y.k)).setCell ⟨g, a * 3 + 1, none⟩ (.int .i64 y.n)).setCell ⟨g, a * 3 + 2, none⟩ (.string ⟨y.s.toArray⟩)) B (.slice (some ⟨g, 0, none⟩) n cap) (r.set a y) ∧
      Below B w (((w.setCell ⟨g, a * 3, none⟩ (.int .i64 y.k)).setCell ⟨g, a * 3 + 1, none⟩ (.int .i64 y.n)).setCell ⟨g, a * 3 + 2, none⟩ (.string ⟨y.s.toArray⟩)) := by
  obtain ⟨hxl, hh⟩ := h
  rcases hh with ⟨hv, -⟩ | ⟨g', cap', cur, hv, hBg, hg, hnc, hcm, hcs, htake⟩
  · cases hv
  cases hv
  have e : (((w.setCell ⟨g, a * 3, none⟩ (.int .i64 y.k)).setCell ⟨g, a * 3 + 1, none⟩ (.int .i64 y.n)).setCell ⟨g, a * 3 + 2, none⟩ (.string ⟨y.s.toArray⟩)) = w.setCells g (a * 3) (vlC y) := rfl
  rw [e]
  obtain ⟨cur', h1, h2⟩ := heap_setCells g 49 (vlC y) (a * 3) w cur hg (by simp [vlC]; omega)
  refine ⟨⟨by rw [flatV_len], .inr ⟨g, cap, cur', by rw [List.length_set], hBg, h1, by rw [List.length_set]; exact hnc, hcm, ?_, ?_⟩⟩, below_cells g hBg _ _ _ (Below.refl _ _)⟩
  · rw [← Array.length_toList, h2, List.length_append, List.length_append, List.length_take, List.length_drop, Array.length_toList]; simp only [vlC, List.length_cons, List.length_nil]; omega
  · rw [List.length_set, flatV_set r a y (by omega), h2, ← htake]
    have l0 : cur.toList.length = cap * 3 := by rw [Array.length_toList]; exact hcs
    have l1 : (cur.toList.take (a * 3)).length = a * 3 := by rw [List.length_take]; omega
    have l2 : (vlC y).length = 3 := rfl
    rw [List.take_take, Nat.min_eq_left (by omega), l2]
    have l3 : (cur.toList.take (a * 3) ++ vlC y).length = a * 3 + 3 := by rw [List.length_append, l1, l2]
    have e3 : r.length * 3 = (cur.toList.take (a * 3) ++ vlC y).length + (r.length * 3 - (a * 3 + 3)) := by rw [l3]; omega
    rw [e3, List.take_length_add_append, List.drop_take]
    congr 2
    rw [l3]
    omega
theorem row_3 (B : Nat) (g n cap : Nat) (r : List Vl) (hn : r.length = n) (a : Nat) (ty : Int) (x z y : Vl) (w : World) (h : Own w B (.slice (some ⟨g, 0, none⟩) n cap) r) (hB : B ≤ w.heap.size) (ha : a < n) (hz : r[a]? = some z) (E : Int)
    (hc : ∀ W, Below w.heap.size w W → Calls Tryz.prog 126 #[.agg #[.int .i64 z.k, .int .i64 z.n, .string ⟨z.s.toArray⟩], .int .i64 ty] W fun e w' => e = .returned (.tuple #[.agg #[.int .i64 y.k, .int .i64 y.n, .string ⟨y.s.toArray⟩], .int .i64 E]) ∧ Below W.heap.size W w') :
    Calls Tryz.prog 77 #[.slice (some ⟨g, 0, none⟩) n cap, dlV ⟨3, a, ty, x⟩] w fun e w' => ∃ v, e = .returned v ∧ Own w' B v (r.set a y) ∧ Below B w w' := by
  have hHH : ∀ W, Below w.heap.size w W → Own W B (.slice (some ⟨g, 0, none⟩) n cap) r := fun W hW => h.kept_below hW
  have hlt := (h.lt g rfl)
  obtain ⟨PP, hPP⟩ : ∃ PP : Ending → World → Prop, PP = fun e w' => ∃ v, e = .returned v ∧ Own w' B v (r.set a y) ∧ Below B w w' := ⟨_, rfl⟩
  have hfin : ∀ W, Below w.heap.size w W → PP (.returned (.slice (some ⟨g, 0, none⟩) n cap)) (((W.setCell ⟨g, a * 3, none⟩ (.int .i64 y.k)).setCell ⟨g, a * 3 + 1, none⟩ (.int .i64 y.n)).setCell ⟨g, a * 3 + 2, none⟩ (.string ⟨y.s.toArray⟩)) := by
    intro W hW
    rw [hPP]
    obtain ⟨h1, h2⟩ := own_set (hHH W hW) hn a ha y
    exact ⟨_, rfl, h1, (hW.mono hB).trans h2⟩
  refine Calls.mono (R := PP) ?_ (by rw [hPP]; exact fun _ _ h => h)
  have hcell : ∀ W, Below w.heap.size w W → (W.cell? ⟨g, a * 3, none⟩ = some (.int .i64 z.k) ∧ W.cell? ⟨g, a * 3 + 1, none⟩ = some (.int .i64 z.n) ∧ W.cell? ⟨g, a * 3 + 2, none⟩ = some (.string ⟨z.s.toArray⟩)) ∧ (W.frozen? ⟨g, a * 3, none⟩ = false ∧ W.frozen? ⟨g, a * 3 + 1, none⟩ = false ∧ W.frozen? ⟨g, a * 3 + 2, none⟩ = false) := by
    intro W hW
    have ho := hHH W hW
    unfold Own at ho
    rw [hn] at ho
    obtain ⟨f0, f1, f2⟩ := flatV_get r a z hz
    refine ⟨⟨?_, ?_, ?_⟩, ho.frozenAt _, ho.frozenAt _, ho.frozenAt _⟩
    · rw [ho.cellAt _ (by omega)]; exact f0
    · rw [ho.cellAt _ (by omega)]; exact f1
    · rw [ho.cellAt _ (by omega)]; exact f2
  have b0 : Below w.heap.size w (w.alloc (.cells #[.int .i64 3, .int .i64 a, .int .i64 ty, .int .i64 x.k, .int .i64 x.n, .string ⟨x.s.toArray⟩] 51)) := (Below.refl _ _).alloc (Nat.le_refl _) _
  obtain ⟨⟨c0, c1, c2⟩, -⟩ := hcell _ b0
  have ha' : (a : Int) < (n : Int) := by omega
  have HF := hide hfin
  have HC := hide hcell
  clear hfin hcell hHH h hz hPP
  go_enter Tryz.func77, Tryz.ntmps77
  go_wp2_with fail
  go_region_law (go_simp; refine (hc _ b0.drew).mono ?_; rintro e w2 ⟨rfl, b2⟩; have B2 := hide (b0.drew.trans (b2.mono (by simp))); obtain ⟨⟨d0, d1, d2⟩, f0, f1, f2⟩ := HC.out w2 B2.out; have m1 : w2.cell? ⟨w.heap.size, 1, none⟩ = some (.int .i64 a) := (b2.cell (by simp)).trans (by simp); have m2 : w2.cell? ⟨w.heap.size, 2, none⟩ = some (.int .i64 ty) := (b2.cell (by simp)).trans (by simp); clear b2; dsimp only)
  all_goals (go_wp2; exact HF.out w2 B2.out)
theorem Own.mono {w : World} {B B' : Nat} {u : Value} {L : List Vl} (h : Own w B u L) (hB : B' ≤ B) : Own w B' u L := by
  refine ⟨h.1, ?_⟩
  rcases h.2 with h' | ⟨g, cap, cur, hv, hg, r⟩
  · exact .inl h'
  · exact .inr ⟨g, cap, cur, hv, Nat.le_trans hB hg, r⟩
theorem short_of {x : Vl} (h : chkV x.k x.n x.s = 0) : x.s.length ≤ 20 := by
  rcases chk_zero h with ⟨_, _, e⟩ | ⟨_, _, e⟩ | ⟨_, _, e, _⟩ | ⟨_, _, e⟩
  · rw [e]; simp
  · rw [e]; simp
  · exact e
  · rw [e]; simp
theorem row_any (B : Nat) (u : Value) (r : List Vl) (d : Dl) (w : World) (h : Own w B u r) (hB : B ≤ w.heap.size) (hl : r.length ≤ 5) (hok : (widB (r.length : Nat) d).2 = 0) (hb : badL r = 0) (laid : Laid w) :
    Calls Tryz.prog 77 #[u, dlV d] w fun e w' => ∃ v, e = .returned v ∧ Own w' B v (rowB r d) ∧ Below B w w' := by
  obtain ⟨k, a, ty, x⟩ := d
  rcases widB_ok hok with ⟨e, _⟩ | ⟨e, a0, a1, _⟩ | ⟨e, a0, a1, t0, t1, _⟩
  · simp only at e
    subst e
    rw [rowB, if_pos rfl]
    exact row_1 B u r a ty x w h hB (by omega)
  · simp only at e a0 a1
    subst e
    rw [rowB, if_neg (show ¬ (2 : Int) = 1 by decide), if_pos rfl]
    obtain ⟨n, rfl⟩ : ∃ n : Nat, a = (n : Int) := ⟨a.toNat, by omega⟩
    exact row_2 B u r n ty x w h hB (by omega) (by omega)
  · simp only at e a0 a1 t0 t1
    subst e
    rw [rowB, if_neg (show ¬ (3 : Int) = 1 by decide), if_neg (show ¬ (3 : Int) = 2 by decide)]
    obtain ⟨n, rfl⟩ : ∃ n : Nat, a = (n : Int) := ⟨a.toNat, by omega⟩
    have hn : n < r.length := by omega
    obtain ⟨g, cap, hu, -⟩ := owns_some h (by omega)
    subst hu
    have hz : r[n]? = some r[n] := List.getElem?_eq_getElem hn
    have hc : chkV r[n].k r[n].n r[n].s = 0 := (badL_zero r).1 hb _ (List.getElem_mem _)
    have hs := short_of hc
    have e1 : castE r[n].k r[n].n r[n].s ty = 0 := by
      have : ty = 1 ∨ ty = 2 ∨ ty = 3 := by omega
      simp [castE, hc, this]
    have e2 : castR r[n].k r[n].n r[n].s ty = castV r[n].k r[n].n r[n].s ty := by rw [castR, if_pos e1]
    have eg : r.getD ((n : Int)).toNat vl0 = r[n] := by
      rw [Int.toNat_natCast, List.getD_eq_getElem?_getD, hz]; rfl
    rw [eg]
    refine row_3 B g r.length cap r rfl n ty x r[n] (castX r[n] ty) w h hB hn hz 0 (fun W hW => ?_)
    have := cast_any r[n].k r[n].n ty ⟨r[n].s.toArray⟩ W (by rw [size_mk]; omega) (laid.below hW)
    have e0 : (⟨r[n].s.toArray⟩ : ByteArray).data.toList = r[n].s := by simp
    rw [e0, e1, e2] at this
    exact this
theorem apply_many (ao bo : Option Addr) (n m ca cb : Nat) (w : World) (h : 5 < n) :
    Calls Tryz.prog 27 #[.slice ao n ca, .slice bo m cb] w fun e w' => e = .returned (.tuple #[.slice none 0 0, .int .i64 2]) ∧ w' = w := by
  have h' : (5 : Int) < (n : Int) := by omega
  go_enter Tryz.func27, Tryz.ntmps27
  go_wp2
  go_ret2
  exact ⟨rfl, rfl⟩
theorem apply_bad1 (ao bo : Option Addr) (n m ca cb : Nat) (w : World) (h : ¬ 5 < n) (X : Int) (E : Nat) (hE : ((E : Int) != 0) = true)
    (hc : Calls Tryz.prog 73 #[.int .i64 (n : Nat), .slice bo m cb] w fun e w' => e = .returned (.tuple #[.int .i64 X, .int .i64 (E : Nat)]) ∧ Below w.heap.size w w') :
    Calls Tryz.prog 27 #[.slice ao n ca, .slice bo m cb] w fun e w' => e = .returned (.tuple #[.slice none 0 0, .int .i64 (E : Nat)]) ∧ Below w.heap.size w w' := by
  have h' : ¬ (5 : Int) < (n : Int) := by omega
  go_enter Tryz.func27, Tryz.ntmps27
  go_wp2_with (go_at_call 73; refine hc.mono ?_; rintro e w1 ⟨rfl, b1⟩)
  go_ret2
  exact ⟨rfl, b1⟩
theorem apply_bad2 (ao bo : Option Addr) (n m ca cb : Nat) (w : World) (h : ¬ 5 < n) (X : Int) (E : Nat) (hE : ((E : Int) != 0) = true)
    (hc : Calls Tryz.prog 73 #[.int .i64 (n : Nat), .slice bo m cb] w fun e w' => e = .returned (.tuple #[.int .i64 X, .int .i64 0]) ∧ Below w.heap.size w w')
    (hf : ∀ W, Below w.heap.size w W → Calls Tryz.prog 75 #[.slice ao n ca] W fun e w' => e = .returned (.int .i64 (E : Nat)) ∧ Below W.heap.size W w') :
    Calls Tryz.prog 27 #[.slice ao n ca, .slice bo m cb] w fun e w' => e = .returned (.tuple #[.slice none 0 0, .int .i64 (E : Nat)]) ∧ Below w.heap.size w w' := by
  have h' : ¬ (5 : Int) < (n : Int) := by omega
  go_enter Tryz.func27, Tryz.ntmps27
  go_wp2_with fail
  refine hc.mono ?_
  rintro e w1 ⟨rfl, b1⟩
  go_wp2_with fail
  refine (hf _ b1).mono ?_
  rintro e w2 ⟨rfl, b2⟩
  have q2 := b1.trans (b2.mono b1.size)
  clear hc hf b1 b2
  go_wp2
  go_ret2
  exact ⟨rfl, q2⟩
structure Way (r : List Vl) (L : List Dl) (k : Nat) (rk : List Vl) : Prop where
  is : rk = (L.take k).foldl rowB r
  ok : (ckD (rk.length : Nat) (L.drop k)).2 = 0
  right : badL rk = 0
  few : rk.length ≤ 5
theorem Way.next {r : List Vl} {L : List Dl} {k : Nat} {rk : List Vl} (h : Way r L k rk) {d : Dl} (hd : L[k]? = some d) : (widB (rk.length : Nat) d).2 = 0 ∧ Way r L (k + 1) (rowB rk d) := by
  obtain ⟨h1, h2, h3, h4⟩ := h
  obtain ⟨hk, rfl⟩ := List.getElem?_eq_some_iff.1 hd
  rw [List.drop_eq_getElem_cons hk, ckD] at h2
  by_cases hw : (widB (rk.length : Nat) L[k]).2 = 0
  · rw [if_pos hw] at h2
    have hl := rowB_len hw
    have hf := widB_fit hw (by omega) (by omega)
    refine ⟨hw, ?_, ?_, rowB_ok hw h3, by omega⟩
    · rw [List.take_succ_eq_append_getElem hk, List.foldl_append, ← h1]; rfl
    · rw [hl]; exact h2
  · rw [if_neg hw] at h2; exact absurd h2 hw
theorem apply_yes (r : List Vl) (L : List Dl) (u v : Value) (w : World) (hu : VsAt w u r) (hz : ∀ ao cap, u = .slice ao 0 cap → ao = none → cap = 0) (hv : DsAt w v L) (laid : Laid w) (hr : ¬ 5 < r.length) (hE : applyE r L = 0) :
    Calls Tryz.prog 27 #[u, v] w fun e w' => ∃ x, e = .returned (.tuple #[x, .int .i64 0]) ∧ Own w' w.heap.size x (L.foldl rowB r) ∧ Below w.heap.size w w' := by
  have hc := checkD_any L v (r.length : Nat) w hv
  have hE' := hE
  unfold applyE at hE'
  rw [if_neg hr] at hE'
  have hc0 : (checkD (r.length : Nat) L).2 = 0 := by
    by_cases h : (checkD (r.length : Nat) L).2 ≠ 0
    · rw [if_pos h] at hE'; exact absurd hE' h
    · exact Classical.not_not.1 h
  rw [if_neg (by rw [hc0]; exact fun h => h rfl)] at hE'
  rw [hc0] at hc
  have hk0 : (ckD (r.length : Nat) L).2 = 0 := by
    unfold checkD at hc0
    rw [if_neg (by omega)] at hc0
    exact hc0
  have HW : Hid (Way r L 0 r) := ⟨rfl, by rw [List.drop_zero]; exact hk0, hE', by omega⟩
  have hf := fun W (hW : Below w.heap.size w W) => fitFault_any r u W (hu.below hW)
  rw [hE'] at hf
  have hcl := fun W (hW : Below w.heap.size w W) => clone_any r u W (hu.below hW) hz
  obtain ⟨ao, ca, rfl, -⟩ := hu
  obtain ⟨bo, cb, rfl, -, -, hlen, -, hcc⟩ := hv
  obtain ⟨m, hm⟩ : ∃ m, L.length = m := ⟨_, rfl⟩
  have HC : Hid (L ≠ [] → ∃ g o, bo = some ⟨g, o, none⟩ ∧ g < w.heap.size ∧ ∀ i x, L[i]? = some x → Dc w g (o + i * 6) x) := hcc
  have HL := hide laid
  generalize (checkD (r.length : Nat) L).1 = X at hc
  have h' : ¬ (5 : Int) < (r.length : Int) := by omega
  rw [hm] at hc hlen ⊢
  generalize r.length = n at hc hf hcl h' hr ⊢
  clear hE hE' hc0 hk0 hcc laid hz
  go_enter Tryz.func27, Tryz.ntmps27
  go_wp2_with fail
  refine hc.mono ?_
  rintro e w1 ⟨rfl, b1⟩
  clear hc
  go_wp2_with fail
  refine (hf _ b1).mono ?_
  rintro e w2 ⟨rfl, b2⟩
  have q2 := b1.trans (b2.mono b1.size)
  clear hf b1 b2
  go_wp2_with fail
  refine (hcl _ q2).mono ?_
  rintro e w3 ⟨x, rfl, ox, b3⟩
  have q3 := q2.trans (b3.mono q2.size)
  have O3 : Hid (Own w3 w.heap.size x r) := Own.mono ox q2.size
  clear hcl q2 b3 ox
  go_wp2_with fail
  go_loopw [0, 33] (fun v i wl => ∃ (k : Nat) (rk : List Vl), k ≤ m ∧ i = .int .i64 k ∧ Hid (Own wl w.heap.size v rk) ∧ Below w.heap.size w wl ∧ Hid (Way r L k rk)) (fun _ i _ => m - (intOf i).toNat)
  case atStart => exact ⟨0, r, Nat.zero_le _, rfl, O3, q3, HW⟩
  case round =>
    obtain ⟨k, rk, hk, rfl, OK, hnx, HK⟩ := hrel
    clear O3 q3 HW
    by_cases hlt : k < m
    · obtain ⟨d, hd⟩ : ∃ d, L[k]? = some d := ⟨L[k], List.getElem?_eq_getElem (by omega)⟩
      obtain ⟨g, o, rfl, hg, hcc⟩ := HC.out (by intro e; rw [e] at hd; cases hd)
      obtain ⟨a0, a1, a2, a3, a4, a5⟩ := (hcc k d hd).keep (hnx.block g hg)
      have hlt' : (k : Int) < (m : Int) := by omega
      obtain ⟨hw, hway⟩ := HK.out.next hd
      have HK2 := hide hway
      have hsz := hnx.size
      have b4 := hnx.alloc hsz (.cells #[.int .i64 d.k, .int .i64 d.a, .int .i64 d.ty, .int .i64 d.v.k, .int .i64 d.v.n, .string ⟨d.v.s.toArray⟩] 51)
      have hrow := row_any w.heap.size _ rk d _ (OK.out.alloc (.cells #[.int .i64 d.k, .int .i64 d.a, .int .i64 d.ty, .int .i64 d.v.k, .int .i64 d.v.n, .string ⟨d.v.s.toArray⟩] 51)) (by simp; omega) HK.out.few hw HK.out.right (HL.out.of_below b4 (Nat.le_refl _))
      obtain ⟨ra, rc, hrv⟩ := owns_slice OK.out
      subst hrv
      clear hcc hd HC hw hway HL OK HK
      go_wp2_with fail
      refine hrow.mono ?_
      rintro e w5 ⟨y, rfl, oy, b5⟩
      have OY := hide oy
      have q5 := b4.trans b5
      clear hrow oy b4 b5
      go_wp2
      go_roundw
      case rel => exact ⟨k + 1, _, by omega, by go_num, OY, q5, HK2⟩
      case measure => simp [intOf]; omega
    · obtain rfl : k = m := by omega
      have hq := OK.out
      rw [HK.out.is, List.take_of_length_le (by omega)] at hq
      have HF := hide hq
      clear hq
      obtain ⟨ra, rc, hrv⟩ := owns_slice OK.out
      subst hrv
      clear OK HK HC HL
      go_wp2
      go_ret2
      exact ⟨_, rfl, HF.out, hnx⟩
theorem apply_any (r : List Vl) (L : List Dl) (u v : Value) (w : World) (hu : VsAt w u r) (hz : ∀ ao cap, u = .slice ao 0 cap → ao = none → cap = 0) (hv : DsAt w v L) (laid : Laid w) :
    Calls Tryz.prog 27 #[u, v] w fun e w' => ∃ x, e = .returned (.tuple #[x, .int .i64 (applyE r L : Nat)]) ∧ Own w' w.heap.size x (applyL r L) ∧ Below w.heap.size w w' := by
  unfold applyL
  by_cases h5 : 5 < r.length
  · have e : applyE r L = 2 := by rw [applyE, if_pos h5]
    rw [e, if_neg (by decide)]
    obtain ⟨ao, ca, rfl, -⟩ := hu
    obtain ⟨bo, cb, rfl, -⟩ := hv
    refine (apply_many ao bo _ _ ca cb w h5).mono ?_
    rintro e w' ⟨rfl, rfl⟩
    exact ⟨_, rfl, World.ownsRow_nil _ _ _ _, Below.refl _ _⟩
  by_cases h0 : applyE r L = 0
  · rw [if_pos h0, h0]
    exact apply_yes r L u v w hu hz hv laid h5 h0
  rw [if_neg h0]
  have hc := checkD_any L v (r.length : Nat) w hv
  have hf := fun W (hW : Below w.heap.size w W) => fitFault_any r u W (hu.below hW)
  obtain ⟨ao, ca, rfl, -⟩ := hu
  obtain ⟨bo, cb, rfl, -⟩ := hv
  unfold applyE at h0 ⊢
  rw [if_neg h5] at h0 ⊢
  by_cases hq : (checkD (r.length : Nat) L).2 ≠ 0
  · rw [if_pos hq]
    refine (apply_bad1 ao bo _ _ ca cb w h5 _ _ (by simpa using hq) hc).mono ?_
    rintro e w' ⟨rfl, b⟩
    exact ⟨_, rfl, World.ownsRow_nil _ _ _ _, b⟩
  · rw [if_neg hq] at h0 ⊢
    have hq0 : (checkD (r.length : Nat) L).2 = 0 := Classical.not_not.1 hq
    rw [hq0] at hc
    refine (apply_bad2 ao bo _ _ ca cb w h5 _ _ (by simpa using h0) hc hf).mono ?_
    rintro e w' ⟨rfl, b⟩
    exact ⟨_, rfl, World.ownsRow_nil _ _ _ _, b⟩
theorem same_any (K N : Int) (s : ByteArray) (w : World) : Calls Tryz.prog 70 #[.agg #[.int .i64 K, .int .i64 N, .string s], .agg #[.int .i64 K, .int .i64 N, .string s]] w fun e w' => e = .returned (.bool true) ∧ Below w.heap.size w w' := by
  go_enter Tryz.func70, Tryz.ntmps70
  go_wp2
  go_ret
  exact ⟨rfl, ((Below.refl _ _).alloc (Nat.le_refl _) _).alloc (by simp) _⟩
theorem flat_get {α : Type} (cf : α → List Value) (sz : Nat) (hsz : ∀ x, (cf x).length = sz) : ∀ (l : List α) (k : Nat) (x : α), l[k]? = some x → ∀ q, q < sz → (l.flatMap cf)[k * sz + q]? = (cf x)[q]? := by
  intro l
  induction l with
  | nil => intro k x h; simp at h
  | cons y r ih =>
    intro k x h q hq
    rw [List.flatMap_cons]
    cases k with
    | zero =>
      simp only [List.getElem?_cons_zero, Option.some.injEq] at h
      subst h
      rw [Nat.zero_mul, Nat.zero_add, List.getElem?_append_left (by rw [hsz]; exact hq)]
    | succ k =>
      have e : (k + 1) * sz + q = (cf y).length + (k * sz + q) := by rw [hsz, Nat.succ_mul]; omega
      rw [e, List.getElem?_append_right (by omega), Nat.add_sub_cancel_left]
      exact ih k x (by simpa using h) q hq
theorem vs_of_own {w : World} {B : Nat} {v : Value} {xs : List Vl} (h : w.ownsRow B 49 3 v xs.length (xs.flatMap vlC)) (hn : xs.length ≤ 1000) (hs : ∀ x ∈ xs, x.s.length ≤ 140737488355328) : VsAt w v xs := by
  obtain ⟨ao, cap, e⟩ := owns_slice h
  refine ⟨ao, cap, e, by omega, hs, fun hne => ?_⟩
  obtain ⟨g, cap', e', -, hg⟩ := owns_some h (by intro e0; exact hne (List.eq_nil_of_length_eq_zero e0))
  rw [e] at e'
  cases e'
  refine ⟨g, 0, rfl, hg, fun i x hx => ?_⟩
  rw [e] at h
  have hlen := h.1
  have at' : ∀ q, q < 3 → w.cell? ⟨g, i * 3 + q, none⟩ = (vlC x)[q]? := by
    intro q hq
    have hi := (List.getElem?_eq_some_iff.1 hx).1
    have := h.cellAt (i * 3 + q) (by omega)
    rw [flat_get vlC 3 (fun _ => rfl) xs i x hx q hq] at this
    exact this
  rw [Nat.zero_add]
  exact ⟨at' 0 (by decide), at' 1 (by decide), at' 2 (by decide)⟩
theorem keepS {w W W' : World} {g o g' o' : Nat} {x y z : Value} (hg : g < w.heap.size) (hg' : g' < w.heap.size)
    (h : W.cell? ⟨g, o, none⟩ = some x ∧ W.cell? ⟨g, o + 1, none⟩ = some y ∧ W.cell? ⟨g, o + 2, none⟩ = some z ∧ W.cell? ⟨g', o', none⟩ = some x ∧ W.cell? ⟨g', o' + 1, none⟩ = some y ∧ W.cell? ⟨g', o' + 2, none⟩ = some z ∧ Below w.heap.size w W) (hb : Below W.heap.size W W') :
    W'.cell? ⟨g, o, none⟩ = some x ∧ W'.cell? ⟨g, o + 1, none⟩ = some y ∧ W'.cell? ⟨g, o + 2, none⟩ = some z ∧ W'.cell? ⟨g', o', none⟩ = some x ∧ W'.cell? ⟨g', o' + 1, none⟩ = some y ∧ W'.cell? ⟨g', o' + 2, none⟩ = some z ∧ Below w.heap.size w W' := by
  obtain ⟨h1, h2, h3, h4, h5, h6, h7⟩ := h
  have s := h7.size
  exact ⟨(hb.cell (p := ⟨g, _, none⟩) (by show g < _; omega)).trans h1, (hb.cell (p := ⟨g, _, none⟩) (by show g < _; omega)).trans h2, (hb.cell (p := ⟨g, _, none⟩) (by show g < _; omega)).trans h3, (hb.cell (p := ⟨g', _, none⟩) (by show g' < _; omega)).trans h4, (hb.cell (p := ⟨g', _, none⟩) (by show g' < _; omega)).trans h5, (hb.cell (p := ⟨g', _, none⟩) (by show g' < _; omega)).trans h6, h7.trans (hb.mono s)⟩
theorem same_vals (L : List Vl) (u v : Value) (w : World) (h : VsAt w u L) (h' : VsAt w v L) : Calls Tryz.prog 22 #[u, v] w fun e w' => e = .returned (.bool true) ∧ Below w.heap.size w w' := by
  obtain ⟨ao, cap, rfl, h1, h2, h3⟩ := h
  obtain ⟨ao', cap', rfl, -, -, h3'⟩ := h'
  obtain ⟨n, hn⟩ : ∃ n, L.length = n := ⟨_, rfl⟩
  rw [hn] at h1 ⊢
  go_enter Tryz.func22, Tryz.ntmps22
  go_wp2
  go_loopw [5] (fun i wl => ∃ k : Nat, k ≤ n ∧ i = .int .i64 k ∧ Below w.heap.size w wl) (fun i _ => n - (intOf i).toNat)
  case atStart => exact ⟨0, Nat.zero_le _, rfl, Below.refl _ _⟩
  case round =>
    obtain ⟨k, hk, rfl, hnx⟩ := hrel
    by_cases hlt : k < n
    · obtain ⟨x, hx⟩ : ∃ x, L[k]? = some x := ⟨L[k], List.getElem?_eq_getElem (by omega)⟩
      obtain ⟨g, o, rfl, hg, hc⟩ := h3 (by intro e; rw [e] at hx; cases hx)
      obtain ⟨g', o', rfl, hg', hc'⟩ := h3' (by intro e; rw [e] at hx; cases hx)
      obtain ⟨a0, a1, a2⟩ := hc k x hx
      obtain ⟨d0, d1, d2⟩ := hc' k x hx
      have hS := (⟨a0, a1, a2, d0, d1, d2, hnx⟩ : _ ∧ _ ∧ _ ∧ _ ∧ _ ∧ _ ∧ _)
      have c0 := (hnx.cell (p := ⟨g, o + k * 3, none⟩) hg).trans a0
      have c1 := (hnx.cell (p := ⟨g, o + k * 3 + 1, none⟩) hg).trans a1
      have c2 := (hnx.cell (p := ⟨g, o + k * 3 + 2, none⟩) hg).trans a2
      have f0 := (hnx.cell (p := ⟨g', o' + k * 3, none⟩) hg').trans d0
      have f1 := (hnx.cell (p := ⟨g', o' + k * 3 + 1, none⟩) hg').trans d1
      have f2 := (hnx.cell (p := ⟨g', o' + k * 3 + 2, none⟩) hg').trans d2
      have hlt' : (k : Int) < (n : Int) := by omega
      clear hc hc' h2 h3 h3' a0 a1 a2 d0 d1 d2 hx hS
      go_wp2_with fail
      go_region_held3 (fun w' => w'.cell? ⟨g, o + k * 3, none⟩ = some (.int .i64 x.k) ∧ w'.cell? ⟨g, o + k * 3 + 1, none⟩ = some (.int .i64 x.n) ∧ w'.cell? ⟨g, o + k * 3 + 2, none⟩ = some (.string ⟨x.s.toArray⟩) ∧ w'.cell? ⟨g', o' + k * 3, none⟩ = some (.int .i64 x.k) ∧ w'.cell? ⟨g', o' + k * 3 + 1, none⟩ = some (.int .i64 x.n) ∧ w'.cell? ⟨g', o' + k * 3 + 2, none⟩ = some (.string ⟨x.s.toArray⟩) ∧ Below w.heap.size w w') (first | exact ⟨c0, c1, c2, f0, f1, f2, hnx.drew⟩ | exact keepS hg hg' (by assumption) (by assumption)) (first | (go_at_call 70; refine (same_any _ _ _ _).mono ?_; rintro e w' ⟨rfl, hb⟩))
      rename_i hH
      have q8 := hH.2.2.2.2.2.2
      clear hH
      go_wp2
      go_roundw
      case rel => exact ⟨k + 1, by omega, by go_num, q8⟩
      case measure => simp [intOf]; omega
    · clear h2 h3 h3'
      go_wp2
      go_ret
      exact ⟨rfl, hnx⟩
theorem Tryz.cells49 : Tryz.prog.cellsOf 49 = 3 := by kernel_rfl
theorem Tryz.cells3 : Tryz.prog.cellsOf 3 = 1 := by kernel_rfl
theorem Tryz.cells9 : Tryz.prog.cellsOf 9 = 1 := by kernel_rfl
theorem mem_weightsAll {H : Type} {P : Program} {e : TypeId} : ∀ {l : List (DataW H)} {d : DataW H} {n : Nat}, d ∈ l → n ∈ d.weights P e → n ∈ DataW.weightsAll P e l
  | [], _, _, h, _ => by cases h
  | x :: r, d, n, h, hn => by
    simp only [DataW.weightsAll, List.mem_append]
    rcases List.mem_cons.1 h with rfl | h
    · exact Or.inl hn
    · exact Or.inr (mem_weightsAll h hn)
theorem len3 {α : Type} {l : List α} (h : l.length = 3) : ∃ a b c, l = [a, b, c] := by
  match l, h with
  | [a, b, c], _ => exact ⟨a, b, c, rfl⟩
theorem len6 {α : Type} {l : List α} (h : l.length = 6) : ∃ a b c d e f, l = [a, b, c, d, e, f] := by
  match l, h with
  | [a, b, c, d, e, f], _ => exact ⟨a, b, c, d, e, f, rfl⟩
theorem open_vl {H : Type} {enc : TypeId × Value → H} {W : World} {spare : Nat → Bool} {held : Bool} {fuel : Nat} {cs : List Value} {x : DataW H × List MemPlace}
    (h : DataW.trod enc Tryz.prog W 0 spare held fuel 49 cs = some x) : ∃ y : Vl, cs = vlC y ∧ x.1 = .agg [.lit (.int .i64 y.k), .lit (.int .i64 y.n), .lit (.string y.s)] := by
  obtain ⟨y0, y1, y2, n, rfl, hl, h0, h1, h2⟩ := Deep.trod_struct3 Tryz.underlying49 h
  rw [Tryz.cells49] at hl
  obtain ⟨c0, c1, c2, rfl⟩ := len3 hl
  simp only [Tryz.cells3, Tryz.cells9, List.take, List.drop] at h0 h1 h2
  obtain ⟨k, e0, rfl, _⟩ := DataW.trod_int Tryz.underlying3 h0
  obtain ⟨a, e1, rfl, _⟩ := DataW.trod_int Tryz.underlying3 h1
  obtain ⟨s, e2, rfl, _⟩ := DataW.trod_string Tryz.underlying9 h2
  simp at e0 e1 e2
  subst e0 e1 e2
  exact ⟨⟨k, a, s.data.toList⟩, rfl, rfl⟩
structure Cl where
  name : List UInt8
  ty : Int
  deriving DecidableEq, Inhabited
def clC (c : Cl) : List Value := [.string ⟨c.name.toArray⟩, .int .i64 c.ty]
def placeC : List Cl → List UInt8 → Option Nat
  | [], _ => none
  | c :: r, s => if c.name = s then some 0 else (placeC r s).map (· + 1)
def kindsR : List Cl → List Vl → Bool
  | c :: l, x :: r => (decide (x.k = 0) || decide (x.k = c.ty)) && kindsR l r
  | _, _ => true
def CsAt (w : World) (u : Value) (L : List Cl) : Prop :=
  ∃ ao cap, u = .slice ao L.length cap ∧ L.length * 24 ≤ 140737488355328 ∧
    (L ≠ [] → ∃ g o, ao = some ⟨g, o, none⟩ ∧ g < w.heap.size ∧ ∀ i c, L[i]? = some c → w.cell? ⟨g, o + i * 2, none⟩ = some (.string ⟨c.name.toArray⟩) ∧ w.cell? ⟨g, o + i * 2 + 1, none⟩ = some (.int .i64 c.ty))
theorem CsAt.below {w w' : World} {u : Value} {L : List Cl} (h : CsAt w u L) (hb : Below w.heap.size w w') : CsAt w' u L := by
  obtain ⟨ao, cap, h1, h2, h3⟩ := h
  refine ⟨ao, cap, h1, h2, fun hn => ?_⟩
  obtain ⟨g, o, e, hg, hc⟩ := h3 hn
  refine ⟨g, o, e, Nat.lt_of_lt_of_le hg hb.size, fun i x hx => ?_⟩
  obtain ⟨a, b⟩ := hc i x hx
  exact ⟨(hb.cell (p := ⟨g, _, none⟩) hg).trans a, (hb.cell (p := ⟨g, _, none⟩) hg).trans b⟩
theorem isAt_any (c : Cl) (nm : List UInt8) (W : World) (p : Nat) (hp : W.cell? ⟨p, 0, none⟩ = some (.string ⟨nm.toArray⟩)) (lp : p < W.heap.size) :
    Calls Tryz.prog 137 #[.agg #[.string ⟨c.name.toArray⟩, .int .i64 c.ty], .pointer (some ⟨p, 0, none⟩)] W fun e W' => e = .returned (.bool (decide (c.name = nm))) ∧ Below W.heap.size W W' := by
  have b0 := (Below.refl W.heap.size W).alloc (Nat.le_refl _) (.cells #[.string ⟨c.name.toArray⟩, .int .i64 c.ty] 65)
  have a1 := (b0.cell (p := ⟨p, 0, none⟩) lp).trans hp
  go_enter Tryz.func137, Tryz.ntmps137
  go_wp2
  go_ret
  refine ⟨ret_bool ?_, b0⟩
  rw [Bool.eq_iff_iff]; simp
theorem placeC_at (L : List Cl) (nm : List UInt8) (i : Nat) (c : Cl) (hc : L[i]? = some c) (hb : ∀ j y, j < i → L[j]? = some y → y.name ≠ nm) (he : c.name = nm) : placeC L nm = some i := by
  induction L generalizing i with
  | nil => cases hc
  | cons y r ih =>
    cases i with
    | zero => cases hc; rw [placeC, if_pos he]
    | succ i =>
      rw [placeC, if_neg (hb 0 y (by omega) rfl), ih i (by simpa using hc) fun j z hj hz => hb (j + 1) z (by omega) (by simpa using hz)]
      rfl
theorem placeC_none (L : List Cl) (nm : List UInt8) (h : ∀ y ∈ L, y.name ≠ nm) : placeC L nm = none := by
  induction L with
  | nil => rfl
  | cons y r ih => rw [placeC, if_neg (h y (by simp)), ih fun z hz => h z (by simp [hz])]; rfl
def placeI (L : List Cl) (nm : List UInt8) : Int := match placeC L nm with | some i => i | none => -1
theorem placeI_some {L : List Cl} {nm : List UInt8} {i : Nat} (h : placeC L nm = some i) : placeI L nm = i := by rw [placeI, h]
theorem placeI_none {L : List Cl} {nm : List UInt8} (h : placeC L nm = none) : placeI L nm = -1 := by rw [placeI, h]
theorem cix_any (L : List Cl) (u : Value) (nm : List UInt8) (w W : World) (h : CsAt w u L) (hb : Below w.heap.size w W) (p : Nat) (hp : W.cell? ⟨p, 0, none⟩ = some (.string ⟨nm.toArray⟩)) (lp : p < W.heap.size) :
    Calls Tryz.prog 136 #[u, .func (.func 137) #[] #[.pointer (some ⟨p, 0, none⟩)]] W fun e W' => e = .returned (.int .i64 (placeI L nm)) ∧ Below W.heap.size W W' := by
  obtain ⟨ao, cap, rfl, h1, h3⟩ := h
  obtain ⟨n, hn⟩ : ∃ n, L.length = n := ⟨_, rfl⟩
  rw [hn] at h1 ⊢
  have HP := hide hp
  have hbs := hb.size
  clear hp
  go_enter Tryz.func136, Tryz.ntmps136
  go_wp2
  go_loopw [8] (fun i wl => ∃ k : Nat, k ≤ n ∧ i = .int .i64 k ∧ Below W.heap.size W wl ∧ Hid (∀ j x, j < k → L[j]? = some x → x.name ≠ nm)) (fun i _ => n - (intOf i).toNat)
  case atStart => exact ⟨0, Nat.zero_le _, rfl, Below.refl _ _, fun j _ hj => absurd hj (Nat.not_lt_zero _)⟩
  case round =>
    obtain ⟨k, hk, rfl, hnx, HA⟩ := hrel
    by_cases hlt : k < n
    · obtain ⟨x, hx⟩ : ∃ x, L[k]? = some x := ⟨L[k], List.getElem?_eq_getElem (by omega)⟩
      obtain ⟨g, o, rfl, hg, hc⟩ := h3 (by intro e; rw [e] at hx; cases hx)
      obtain ⟨a0, a1⟩ := hc k x hx
      have hg' : g < W.heap.size := Nat.lt_of_lt_of_le hg hbs
      have c0 := ((hnx.cell (p := ⟨g, o + k * 2, none⟩) hg').trans (hb.cell (p := ⟨g, o + k * 2, none⟩) hg)).trans a0
      have c1 := ((hnx.cell (p := ⟨g, o + k * 2 + 1, none⟩) hg').trans (hb.cell (p := ⟨g, o + k * 2 + 1, none⟩) hg)).trans a1
      have hlt' : (k : Int) < (n : Int) := by omega
      have hsz := hnx.size
      have hf := isAt_any x nm wr p ((hnx.cell (p := ⟨p, 0, none⟩) lp).trans HP.out) (Nat.lt_of_lt_of_le lp hsz)
      have HX : Hid (L[k]? = some x) := hx
      clear hc h3 a0 a1 hx hb
      by_cases hB : x.name = nm
      · have HB := hide hB
        rw [decide_eq_true hB] at hf
        clear hB
        go_wp2_with (go_at_call 137; refine hf.mono ?_; rintro e w2 ⟨rfl, b2⟩)
        go_ret
        refine ⟨?_, hnx.trans (b2.mono hsz)⟩
        rw [placeI_some (placeC_at L nm k x HX.out HA.out HB.out)]; rfl
      · have HB := hide hB
        rw [decide_eq_false hB] at hf
        clear hB
        go_wp2_with (go_at_call 137; refine hf.mono ?_; rintro e w2 ⟨rfl, b2⟩)
        go_roundw
        case rel =>
          refine ⟨k + 1, by omega, by go_num, hnx.trans (b2.mono hsz), fun j y hj hy => ?_⟩
          rcases Nat.lt_or_ge j k with h | h
          · exact HA.out j y h hy
          · rw [show j = k by omega, HX.out] at hy; cases hy; exact HB.out
        case measure => simp [intOf]; omega
    · clear h3 hb
      go_wp2
      go_ret
      refine ⟨?_, hnx⟩
      have hN : placeI L nm = -1 := by
        refine placeI_none (placeC_none L nm fun y hy => ?_)
        obtain ⟨j, hj, rfl⟩ := List.getElem_of_mem hy
        exact HA.out j _ (by omega) (List.getElem?_eq_getElem hj)
      rw [hN]; rfl
end Go.Proofs.YtcnnjladaoaeiaaGreatDoor
