/-
  'widthBehind' of package delta.
-/
import Derived.Test.YtcnnjladaoaeiaaGreatDoorDlm
namespace Go.Proofs.YtcnnjladaoaeiaaGreatDoor
open Go.RowKit

set_option maxRecDepth 100000 in
set_option maxHeartbeats 1600000 in
theorem wid_err (wd : Int) (d : Dl) (w : World) (F : Nat) (hF : ((F : Int) != 0) = true) (hf : ∀ W, Calls Tryz.prog 150 #[dlV d] W fun e w' => e = .returned (.int .i64 (F : Nat)) ∧ Below W.heap.size W w') :
    Calls Tryz.prog 120 #[.int .i64 wd, dlV d] w fun e w' => e = .returned (.tuple #[.int .i64 0, .int .i64 (F : Nat)]) ∧ Below w.heap.size w w' := by
  go_enter Tryz.func120, Tryz.ntmps120
  go_wp2_with (go_at_call 150; refine (hf _).mono ?_; rintro e w1 ⟨rfl, b1⟩)
  go_ret2
  exact ⟨rfl, ((Below.refl _ _).alloc (Nat.le_refl _) _).trans (b1.mono (by simp))⟩

set_option maxRecDepth 100000 in
set_option maxHeartbeats 1600000 in
theorem wid_1 (wd a ty : Int) (x : Vl) (w : World) (h0 : 0 ≤ wd) (h5 : wd ≤ 5) (hf : ∀ W, Calls Tryz.prog 150 #[dlV ⟨1, a, ty, x⟩] W fun e w' => e = .returned (.int .i64 0) ∧ Below W.heap.size W w') :
    Calls Tryz.prog 120 #[.int .i64 wd, dlV ⟨1, a, ty, x⟩] w fun e w' => e = .returned (.tuple #[.int .i64 (if wd = 5 then 0 else wd + 1), .int .i64 (if wd = 5 then 2 else 0)]) ∧ Below w.heap.size w w' := by
  by_cases hB : wd = 5
  · subst hB
    simp only [if_true]
    go_enter Tryz.func120, Tryz.ntmps120
    go_wp2_with fail
    refine (hf _).mono ?_
    rintro e w1 ⟨rfl, b1⟩
    have c0 : w1.cell? ⟨w.heap.size, 0, none⟩ = some (.int .i64 1) := (b1.cell (by simp)).trans (by simp)
    have c1 : w1.cell? ⟨w.heap.size, 1, none⟩ = some (.int .i64 a) := (b1.cell (by simp)).trans (by simp)
    have q1 : Below w.heap.size w w1 := ((Below.refl _ _).alloc (Nat.le_refl _) _).trans (b1.mono (by simp))
    clear b1 hf
    go_wp2
    go_ret2
    exact ⟨rfl, q1⟩
  · simp only [hB, if_false]
    go_enter Tryz.func120, Tryz.ntmps120
    go_wp2_with fail
    refine (hf _).mono ?_
    rintro e w1 ⟨rfl, b1⟩
    have c0 : w1.cell? ⟨w.heap.size, 0, none⟩ = some (.int .i64 1) := (b1.cell (by simp)).trans (by simp)
    have c1 : w1.cell? ⟨w.heap.size, 1, none⟩ = some (.int .i64 a) := (b1.cell (by simp)).trans (by simp)
    have q1 : Below w.heap.size w w1 := ((Below.refl _ _).alloc (Nat.le_refl _) _).trans (b1.mono (by simp))
    clear b1 hf
    go_wp2
    go_ret2
    exact ⟨rfl, q1⟩

set_option maxRecDepth 100000 in
set_option maxHeartbeats 1600000 in
theorem wid_n (wd k a ty : Int) (x : Vl) (w : World) (hk : (k == 1) = false) (ha : a < 0 ∨ (¬ a < 0 ∧ wd ≤ a)) (hf : ∀ W, Calls Tryz.prog 150 #[dlV ⟨k, a, ty, x⟩] W fun e w' => e = .returned (.int .i64 0) ∧ Below W.heap.size W w') :
    Calls Tryz.prog 120 #[.int .i64 wd, dlV ⟨k, a, ty, x⟩] w fun e w' => e = .returned (.tuple #[.int .i64 0, .int .i64 5]) ∧ Below w.heap.size w w' := by
  rcases ha with ha | ⟨ha, ha'⟩
  all_goals
    go_enter Tryz.func120, Tryz.ntmps120
    go_wp2_with fail
    refine (hf _).mono ?_
    rintro e w1 ⟨rfl, b1⟩
    have c0 : w1.cell? ⟨w.heap.size, 0, none⟩ = some (.int .i64 k) := (b1.cell (by simp)).trans (by simp)
    have c1 : w1.cell? ⟨w.heap.size, 1, none⟩ = some (.int .i64 a) := (b1.cell (by simp)).trans (by simp)
    have q1 : Below w.heap.size w w1 := ((Below.refl _ _).alloc (Nat.le_refl _) _).trans (b1.mono (by simp))
    clear b1 hf
    go_wp2
    go_ret2
    exact ⟨rfl, q1⟩

set_option maxRecDepth 100000 in
set_option maxHeartbeats 1600000 in
theorem wid_2 (wd a ty : Int) (x : Vl) (w : World) (h0 : 0 ≤ wd) (h5 : wd ≤ 5) (ha : ¬ a < 0) (ha' : ¬ wd ≤ a) (hf : ∀ W, Calls Tryz.prog 150 #[dlV ⟨2, a, ty, x⟩] W fun e w' => e = .returned (.int .i64 0) ∧ Below W.heap.size W w') :
    Calls Tryz.prog 120 #[.int .i64 wd, dlV ⟨2, a, ty, x⟩] w fun e w' => e = .returned (.tuple #[.int .i64 (wd - 1), .int .i64 0]) ∧ Below w.heap.size w w' := by
  go_enter Tryz.func120, Tryz.ntmps120
  go_wp2_with fail
  refine (hf _).mono ?_
  rintro e w1 ⟨rfl, b1⟩
  have c0 : w1.cell? ⟨w.heap.size, 0, none⟩ = some (.int .i64 2) := (b1.cell (by simp)).trans (by simp)
  have c1 : w1.cell? ⟨w.heap.size, 1, none⟩ = some (.int .i64 a) := (b1.cell (by simp)).trans (by simp)
  have q1 : Below w.heap.size w w1 := ((Below.refl _ _).alloc (Nat.le_refl _) _).trans (b1.mono (by simp))
  clear b1 hf
  go_wp2
  go_ret2
  exact ⟨rfl, q1⟩

set_option maxRecDepth 100000 in
set_option maxHeartbeats 1600000 in
theorem wid_3 (wd a ty : Int) (x : Vl) (w : World) (ha : ¬ a < 0) (ha' : ¬ wd ≤ a) (s : ByteArray) (E : Bool) (hE : (s.toList == []) = E) (hE' : s.toList.isEmpty = E) (ht : ∀ W, Calls Tryz.prog 86 #[.int .i64 ty] W fun e w' => e = .returned (.string s) ∧ Below W.heap.size W w') (hf : ∀ W, Calls Tryz.prog 150 #[dlV ⟨3, a, ty, x⟩] W fun e w' => e = .returned (.int .i64 0) ∧ Below W.heap.size W w') :
    Calls Tryz.prog 120 #[.int .i64 wd, dlV ⟨3, a, ty, x⟩] w fun e w' => e = .returned (.tuple #[.int .i64 (if E = true then 0 else wd), .int .i64 (if E = true then 7 else 0)]) ∧ Below w.heap.size w w' := by
  cases E
  all_goals
    go_enter Tryz.func120, Tryz.ntmps120
    go_wp2_with fail
    refine (hf _).mono ?_
    rintro e w1 ⟨rfl, b1⟩
    have c0 : w1.cell? ⟨w.heap.size, 0, none⟩ = some (.int .i64 3) := (b1.cell (by simp)).trans (by simp)
    have c1 : w1.cell? ⟨w.heap.size, 1, none⟩ = some (.int .i64 a) := (b1.cell (by simp)).trans (by simp)
    have c2 : w1.cell? ⟨w.heap.size, 2, none⟩ = some (.int .i64 ty) := (b1.cell (by simp)).trans (by simp)
    have q1 : Below w.heap.size w w1 := ((Below.refl _ _).alloc (Nat.le_refl _) _).trans (b1.mono (by simp))
    have z1 : w.heap.size < w1.heap.size := by have := b1.size; simp at this; omega
    clear b1 hf
    go_wp2_with fail
    refine (ht _).mono ?_
    rintro e w2 ⟨rfl, b2⟩
    have d0 := (b2.cell (p := ⟨w.heap.size, 0, none⟩) z1).trans c0
    have q2 : Below w.heap.size w w2 := q1.trans (b2.mono q1.size)
    clear b2 c0 c1 c2 ht
    go_wp2
    go_ret2
    exact ⟨rfl, q2⟩

theorem wid_any (wd : Int) (d : Dl) (w : World) (h0 : 0 ≤ wd) (h5 : wd ≤ 5) (hs : d.v.s.length ≤ 140737488355328) :
    Calls Tryz.prog 120 #[.int .i64 wd, dlV d] w fun e w' => e = .returned (.tuple #[.int .i64 (widB wd d).1, .int .i64 ((widB wd d).2 : Nat)]) ∧ Below w.heap.size w w' := by
  have hf := fun W => form_any d W hs
  unfold widB
  by_cases hF : formF d = 0
  · rw [if_neg (by simpa using hF)]
    rw [hF] at hf
    obtain ⟨k, a, ty, x⟩ := d
    by_cases h1 : k = 1
    · subst h1
      have := wid_1 wd a ty x w h0 h5 hf
      by_cases h : wd = 5
      · simpa [h] using this
      · simpa [h] using this
    · simp only [h1, if_false]
      by_cases ha : a < 0 ∨ wd ≤ a
      · rw [if_pos ha]
        exact wid_n wd k a ty x w (by simpa using h1) (by omega) hf
      rw [if_neg ha]
      by_cases h2 : k = 2
      · subst h2
        rw [if_pos rfl]
        exact wid_2 wd a ty x w h0 h5 (by omega) (by omega) hf
      rw [if_neg h2]
      have h3 : k = 3 := by
        unfold formF at hF
        simp only [h1, h2, if_false] at hF
        by_cases h3 : k = 3
        · exact h3
        · rw [if_neg h3] at hF; cases hF
      subst h3
      have hE' : (⟨(atL typesL ty).toArray⟩ : ByteArray).toList.isEmpty = decide (atL typesL ty = []) := by
        rw [Lib.toList_data]; cases atL typesL ty <;> simp
      have := wid_3 wd a ty x w (by omega) (by omega) _ _ (ne_empty (atL typesL ty)) hE' (fun W => ofType_any ty W) hf
      by_cases ht : 1 ≤ ty ∧ ty ≤ 3
      · have e : decide (atL typesL ty = []) = false := by
          rw [decide_eq_false_iff_not, isType_iff]; exact fun h => h ht
        rw [e] at this
        rw [if_pos ht]
        exact this
      · have e : decide (atL typesL ty = []) = true := by
          rw [decide_eq_true_eq, isType_iff]; exact ht
        rw [e] at this
        rw [if_neg ht]
        exact this
  · rw [if_pos hF]
    exact wid_err wd d w _ (by simpa using hF) hf

end Go.Proofs.YtcnnjladaoaeiaaGreatDoor
