/-
  'isInt', 'isQuotable' and 'Check' of package value.
-/
import Derived.Test.YtcnnjladaoaeiaaGreatDoorLists
namespace Go.Proofs.YtcnnjladaoaeiaaGreatDoor
open Go.RowKit

def isInt (n : Int) : Bool := decide ((-999999999 : Int) ≤ n) && decide (n ≤ 999999999)

set_option maxHeartbeats 400000 in
theorem isInt_any (n : Int) (w : World) :
    Calls Tryz.prog 152 #[.int .i64 n] w fun e w' => e = .returned (.bool (isInt n)) ∧ w' = w := by
  go_enter Tryz.func152, Tryz.ntmps152
  go_wp2
  all_goals go_ret
  all_goals exact ⟨ret_bool (by simp [isInt, *] <;> omega), rfl⟩

theorem quoted (s : ByteArray) : ((⟨#[39]⟩ : ByteArray) ++ s ++ ⟨#[39]⟩) = ⟨(39 :: (s.data.toList ++ [39])).toArray⟩ := by
  obtain ⟨⟨l⟩⟩ := s
  have := mk_append ([39] ++ l) [39]
  rw [← mk_append] at this
  simpa using this

theorem quot_row (s : ByteArray) (w : World) : TokRow (w.alloc (.cells #[.int .i64 3, .int .i64 0, .string ((⟨#[39]⟩ : ByteArray) ++ s ++ ⟨#[39]⟩)] 160)) w.heap.size 0 1 [⟨3, 0, 39 :: (s.data.toList ++ [39])⟩] := by
  refine ⟨rfl, ?_⟩
  intro i x hx
  match i, hx with
  | 0, hx =>
    simp only [List.getElem?_cons_zero, Option.some.injEq] at hx
    subst hx
    rw [quoted]
    refine ⟨by simp, by simp, by simp⟩

theorem quot_call (s : ByteArray) (w : World) (hs : s.size ≤ 140737488355328) :
    Calls Tryz.prog 132 #[.slice (some ⟨w.heap.size, 0, none⟩) 1 1] (w.alloc (.cells #[.int .i64 3, .int .i64 0, .string ((⟨#[39]⟩ : ByteArray) ++ s ++ ⟨#[39]⟩)] 160)) fun e w' =>
      (∃ S : List UInt8, e = .returned (.tuple #[.string ⟨S.toArray⟩, .int .i64 ((if quotB s.data.toList = true then 0 else 1 : Nat) : Int)])) ∧ Below w.heap.size w w' := by
  have hsz : s.data.toList.length = s.size := by simp
  refine (join_some w.heap.size 0 1 1 [⟨3, 0, 39 :: (s.data.toList ++ [39])⟩] _ (by decide) (by decide) (by simp) (quot_row s w) (by intro x hx; simp at hx; subst hx; simp; omega)).mono ?_
  rintro e w' ⟨rfl, hb⟩
  rw [quot_join]
  exact ⟨⟨_, rfl⟩, ((Below.refl _ _).alloc (Nat.le_refl _) _).trans (hb.mono (by simp))⟩

set_option maxRecDepth 100000 in
set_option maxHeartbeats 800000 in
theorem isQuot_any (s : ByteArray) (w : World) (hs : s.size ≤ 140737488355328) :
    Calls Tryz.prog 153 #[.string s] w fun e w' => e = .returned (.bool (quotB s.data.toList)) ∧ Below w.heap.size w w' := by
  have hj := quot_call s w hs
  cases hq : quotB s.data.toList
  all_goals
    rw [hq] at hj
    clear hq
    go_enter Tryz.func153, Tryz.ntmps153
    go_wp2_with (go_at_call 132; refine hj.mono ?_; rintro e w' ⟨⟨S, rfl⟩, hb⟩)
    go_ret
    exact ⟨rfl, hb⟩

/-- what Check answers -/
def chkV (K N : Int) (S : List UInt8) : Nat :=
  if K = 0 then (if N = 0 ∧ S = [] then 0 else 3)
  else if K = 1 then (if isInt N = true ∧ S = [] then 0 else 3)
  else if K = 2 then (if N = 0 ∧ quotB S = true then 0 else 3)
  else if K = 3 then (if (N = 0 ∨ N = 1) ∧ S = [] then 0 else 3)
  else 7

theorem empty_iff (s : ByteArray) : s.toList.isEmpty = decide (s.data.toList = []) := by
  rw [Lib.toList_data]; cases s.data.toList <;> simp

set_option maxRecDepth 100000 in
set_option maxHeartbeats 800000 in
theorem check_0 (N : Int) (s : ByteArray) (w : World) :
    Calls Tryz.prog 124 #[.agg #[.int .i64 0, .int .i64 N, .string s]] w fun e w' => e = .returned (.int .i64 ((if (N == 0) = true ∧ s.toList.isEmpty = true then 0 else 3 : Nat) : Int)) ∧ Below w.heap.size w w' := by
  cases h1 : (N == 0) <;> cases h2 : s.toList.isEmpty
  all_goals
    go_enter Tryz.func124, Tryz.ntmps124
    go_wp2
    go_ret
    exact ⟨rfl, (Below.refl _ _).alloc (Nat.le_refl _) _⟩

set_option maxRecDepth 100000 in
set_option maxHeartbeats 800000 in
theorem check_1 (N : Int) (s : ByteArray) (w : World) :
    Calls Tryz.prog 124 #[.agg #[.int .i64 1, .int .i64 N, .string s]] w fun e w' => e = .returned (.int .i64 ((if isInt N = true ∧ s.toList.isEmpty = true then 0 else 3 : Nat) : Int)) ∧ Below w.heap.size w w' := by
  have hi := isInt_any N
  cases h1 : isInt N <;> cases h2 : s.toList.isEmpty
  all_goals
    rw [h1] at hi
    clear h1
    go_enter Tryz.func124, Tryz.ntmps124
    go_wp2_with (go_at_call 152; refine (hi _).mono ?_; rintro e w' ⟨rfl, hw'⟩; obtain rfl := hw'.symm; clear hw')
    go_ret
    exact ⟨rfl, (Below.refl _ _).alloc (Nat.le_refl _) _⟩

set_option maxRecDepth 100000 in
set_option maxHeartbeats 800000 in
theorem check_2 (N : Int) (s : ByteArray) (w : World) (hs : s.size ≤ 140737488355328) :
    Calls Tryz.prog 124 #[.agg #[.int .i64 2, .int .i64 N, .string s]] w fun e w' => e = .returned (.int .i64 ((if (N == 0) = true ∧ quotB s.data.toList = true then 0 else 3 : Nat) : Int)) ∧ Below w.heap.size w w' := by
  have hi := fun W => isQuot_any s W hs
  cases h1 : (N == 0) <;> cases h2 : quotB s.data.toList
  all_goals
    rw [h2] at hi
    clear h2
    go_enter Tryz.func124, Tryz.ntmps124
    go_wp2_with (go_at_call 153; refine (hi _).mono ?_; rintro e w' ⟨rfl, hb⟩)
    go_ret
    first
      | exact ⟨rfl, (Below.refl _ _).alloc (Nat.le_refl _) _⟩
      | exact ⟨rfl, ((Below.refl _ _).alloc (Nat.le_refl _) _).trans (hb.mono (by simp))⟩

set_option maxRecDepth 100000 in
set_option maxHeartbeats 800000 in
theorem check_3 (N : Int) (s : ByteArray) (w : World) :
    Calls Tryz.prog 124 #[.agg #[.int .i64 3, .int .i64 N, .string s]] w fun e w' => e = .returned (.int .i64 ((if ((N == 0) = true ∨ (N == 1) = true) ∧ s.toList.isEmpty = true then 0 else 3 : Nat) : Int)) ∧ Below w.heap.size w w' := by
  cases h1 : (N == 0) <;> cases h3 : (N == 1) <;> cases h2 : s.toList.isEmpty
  all_goals
    go_enter Tryz.func124, Tryz.ntmps124
    go_wp2
    go_ret
    exact ⟨rfl, (Below.refl _ _).alloc (Nat.le_refl _) _⟩

set_option maxRecDepth 100000 in
set_option maxHeartbeats 800000 in
theorem check_other (K N : Int) (s : ByteArray) (w : World) (h0 : (K == 0) = false) (h1 : (K == 1) = false) (h2 : (K == 2) = false) (h3 : (K == 3) = false) :
    Calls Tryz.prog 124 #[.agg #[.int .i64 K, .int .i64 N, .string s]] w fun e w' => e = .returned (.int .i64 7) ∧ Below w.heap.size w w' := by
  go_enter Tryz.func124, Tryz.ntmps124
  go_wp2
  go_ret
  exact ⟨rfl, (Below.refl _ _).alloc (Nat.le_refl _) _⟩

theorem check_any (K N : Int) (s : ByteArray) (w : World) (hs : s.size ≤ 140737488355328) :
    Calls Tryz.prog 124 #[.agg #[.int .i64 K, .int .i64 N, .string s]] w fun e w' => e = .returned (.int .i64 (chkV K N s.data.toList : Nat)) ∧ Below w.heap.size w w' := by
  by_cases h0 : K = 0
  · subst h0
    have := check_0 N s w
    simp only [empty_iff, beq_iff_eq, decide_eq_true_eq] at this
    simpa only [chkV, if_true] using this
  by_cases h1 : K = 1
  · subst h1
    have := check_1 N s w
    simp only [empty_iff, decide_eq_true_eq] at this
    simpa [chkV] using this
  by_cases h2 : K = 2
  · subst h2
    have := check_2 N s w hs
    simp only [beq_iff_eq] at this
    simpa [chkV] using this
  by_cases h3 : K = 3
  · subst h3
    have := check_3 N s w
    simp only [empty_iff, beq_iff_eq, decide_eq_true_eq] at this
    simpa [chkV] using this
  rw [show chkV K N s.data.toList = 7 by simp [chkV, h0, h1, h2, h3]]
  exact check_other K N s w (by simp [h0]) (by simp [h1]) (by simp [h2]) (by simp [h3])

end Go.Proofs.YtcnnjladaoaeiaaGreatDoor
