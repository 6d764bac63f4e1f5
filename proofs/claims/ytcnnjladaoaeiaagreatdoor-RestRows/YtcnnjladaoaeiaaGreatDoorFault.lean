/-
  'longest' and 'fault' of package token.
-/
import Derived.Test.YtcnnjladaoaeiaaGreatDoorNext
import Derived.Deep.QuietTactic
import Derived.BigQuiet
namespace Go.Proofs.YtcnnjladaoaeiaaGreatDoor
open Go.RowKit

set_option maxHeartbeats 400000 in
theorem longest_1 (w : World) : Calls Tryz.prog 217 #[.int .i64 1] w fun e w' => e = .returned (.int .i64 12) ∧ w' = w := by
  go_enter Tryz.func217, Tryz.ntmps217
  go_wp2
  go_ret
  exact ⟨rfl, rfl⟩

set_option maxHeartbeats 400000 in
theorem longest_2 (w : World) : Calls Tryz.prog 217 #[.int .i64 2] w fun e w' => e = .returned (.int .i64 9) ∧ w' = w := by
  go_enter Tryz.func217, Tryz.ntmps217
  go_wp2
  go_ret
  exact ⟨rfl, rfl⟩

set_option maxHeartbeats 400000 in
theorem longest_3 (w : World) : Calls Tryz.prog 217 #[.int .i64 3] w fun e w' => e = .returned (.int .i64 22) ∧ w' = w := by
  go_enter Tryz.func217, Tryz.ntmps217
  go_wp2
  go_ret
  exact ⟨rfl, rfl⟩

set_option maxHeartbeats 400000 in
theorem longest_4 (w : World) : Calls Tryz.prog 217 #[.int .i64 4] w fun e w' => e = .returned (.int .i64 2) ∧ w' = w := by
  go_enter Tryz.func217, Tryz.ntmps217
  go_wp2
  go_ret
  exact ⟨rfl, rfl⟩

set_option maxHeartbeats 400000 in
theorem fault_0 (A : Int) (t : ByteArray) (w : World) :
    Calls Tryz.prog 195 #[.agg #[.int .i64 0, .int .i64 A, .string t]] w fun e w' => e = .returned (.int .i64 1) ∧ Below w.heap.size w w' := by
  go_enter Tryz.func195, Tryz.ntmps195
  go_wp2
  go_ret
  exact ⟨rfl, (Below.refl _ _).alloc (Nat.le_refl _) _⟩

set_option maxHeartbeats 400000 in
theorem fault_1_many (A : Int) (t : ByteArray) (w : World) (hs : t.size ≤ 2000) (hl : 12 < t.size) :
    Calls Tryz.prog 195 #[.agg #[.int .i64 1, .int .i64 A, .string t]] w fun e w' => e = .returned (.int .i64 2) ∧ Below w.heap.size w w' := by
  go_enter Tryz.func195, Tryz.ntmps195
  go_wp2
  go_quiet ((go_at_call 217; exact Calls.quiet_of_same (longest_1 _)))
  go_wp2
  go_ret
  exact ⟨rfl, below_drewN ((Below.refl _ _).alloc (Nat.le_refl _) _) _⟩

set_option maxHeartbeats 400000 in
theorem fault_1_ok (A : Int) (t : ByteArray) (w : World) (hs : t.size ≤ 2000) (hl : t.size ≤ 12) :
    Calls Tryz.prog 195 #[.agg #[.int .i64 1, .int .i64 A, .string t]] w fun e w' => e = .returned (.int .i64 0) ∧ Below w.heap.size w w' := by
  go_enter Tryz.func195, Tryz.ntmps195
  go_wp2
  go_quiet ((go_at_call 217; exact Calls.quiet_of_same (longest_1 _)))
  go_wp2
  go_ret
  exact ⟨rfl, below_drewN ((Below.refl _ _).alloc (Nat.le_refl _) _) _⟩

set_option maxHeartbeats 400000 in
theorem fault_2_many (A : Int) (t : ByteArray) (w : World) (hs : t.size ≤ 2000) (hl : 9 < t.size) :
    Calls Tryz.prog 195 #[.agg #[.int .i64 2, .int .i64 A, .string t]] w fun e w' => e = .returned (.int .i64 2) ∧ Below w.heap.size w w' := by
  go_enter Tryz.func195, Tryz.ntmps195
  go_wp2
  go_quiet ((go_at_call 217; exact Calls.quiet_of_same (longest_2 _)))
  go_wp2
  go_ret
  exact ⟨rfl, below_drewN ((Below.refl _ _).alloc (Nat.le_refl _) _) _⟩

set_option maxHeartbeats 400000 in
theorem fault_2_one (A : Int) (t : ByteArray) (w : World) (hs : t.size ≤ 2000) (hl : t.size ≤ 1) :
    Calls Tryz.prog 195 #[.agg #[.int .i64 2, .int .i64 A, .string t]] w fun e w' => e = .returned (.int .i64 0) ∧ Below w.heap.size w w' := by
  go_enter Tryz.func195, Tryz.ntmps195
  go_wp2
  go_quiet ((go_at_call 217; exact Calls.quiet_of_same (longest_2 _)))
  go_wp2
  go_ret
  exact ⟨rfl, below_drewN ((Below.refl _ _).alloc (Nat.le_refl _) _) _⟩

set_option maxHeartbeats 400000 in
theorem fault_2_nought (A : Int) (t : ByteArray) (w : World) (hs : t.size ≤ 2000) (hl : t.size ≤ 9) (h1 : 1 < t.size) (hz : ((t[0].toNat : Int) == 48) = true) :
    Calls Tryz.prog 195 #[.agg #[.int .i64 2, .int .i64 A, .string t]] w fun e w' => e = .returned (.int .i64 1) ∧ Below w.heap.size w w' := by
  go_enter Tryz.func195, Tryz.ntmps195
  go_wp2
  go_quiet ((go_at_call 217; exact Calls.quiet_of_same (longest_2 _)))
  go_wp2
  go_ret
  exact ⟨rfl, below_drewN ((Below.refl _ _).alloc (Nat.le_refl _) _) _⟩

set_option maxHeartbeats 400000 in
theorem fault_2_ok (A : Int) (t : ByteArray) (w : World) (hs : t.size ≤ 2000) (hl : t.size ≤ 9) (h1 : 1 < t.size) (hz : ((t[0].toNat : Int) == 48) = false) :
    Calls Tryz.prog 195 #[.agg #[.int .i64 2, .int .i64 A, .string t]] w fun e w' => e = .returned (.int .i64 0) ∧ Below w.heap.size w w' := by
  go_enter Tryz.func195, Tryz.ntmps195
  go_wp2
  go_quiet ((go_at_call 217; exact Calls.quiet_of_same (longest_2 _)))
  go_wp2
  go_ret
  exact ⟨rfl, below_drewN ((Below.refl _ _).alloc (Nat.le_refl _) _) _⟩

set_option maxHeartbeats 400000 in
theorem fault_3_many (A : Int) (t : ByteArray) (w : World) (hs : t.size ≤ 2000) (hl : 22 < t.size) :
    Calls Tryz.prog 195 #[.agg #[.int .i64 3, .int .i64 A, .string t]] w fun e w' => e = .returned (.int .i64 2) ∧ Below w.heap.size w w' := by
  go_enter Tryz.func195, Tryz.ntmps195
  go_wp2
  go_quiet ((go_at_call 217; exact Calls.quiet_of_same (longest_3 _)))
  go_wp2
  go_ret
  exact ⟨rfl, below_drewN ((Below.refl _ _).alloc (Nat.le_refl _) _) _⟩

set_option maxHeartbeats 400000 in
theorem fault_3_ok (A : Int) (t : ByteArray) (w : World) (hs : t.size ≤ 2000) (hl : t.size ≤ 22) :
    Calls Tryz.prog 195 #[.agg #[.int .i64 3, .int .i64 A, .string t]] w fun e w' => e = .returned (.int .i64 0) ∧ Below w.heap.size w w' := by
  go_enter Tryz.func195, Tryz.ntmps195
  go_wp2
  go_quiet ((go_at_call 217; exact Calls.quiet_of_same (longest_3 _)))
  go_wp2
  go_ret
  exact ⟨rfl, below_drewN ((Below.refl _ _).alloc (Nat.le_refl _) _) _⟩

set_option maxHeartbeats 400000 in
theorem fault_4_ok (A : Int) (t : ByteArray) (w : World) (hs : t.size ≤ 2000) (hl : t.size ≤ 2) :
    Calls Tryz.prog 195 #[.agg #[.int .i64 4, .int .i64 A, .string t]] w fun e w' => e = .returned (.int .i64 0) ∧ Below w.heap.size w w' := by
  go_enter Tryz.func195, Tryz.ntmps195
  go_wp2
  go_quiet ((go_at_call 217; exact Calls.quiet_of_same (longest_4 _)))
  go_wp2
  go_ret
  exact ⟨rfl, below_drewN ((Below.refl _ _).alloc (Nat.le_refl _) _) _⟩

end Go.Proofs.YtcnnjladaoaeiaaGreatDoor
