/-
  'intOf' of package overhaulref.
-/
import Derived.Test.YtcnnjladaoaeiaaGreatDoorKeyV
namespace Go.Proofs.YtcnnjladaoaeiaaGreatDoor
open Go.RowKit

theorem ne_of_pos (s : ByteArray) (h0 : 0 < s.size) : s.toList.isEmpty = false := by
  rw [empty_iff, decide_eq_false_iff_not]
  intro e
  have : s.data.toList.length = s.size := Array.length_toList
  rw [e] at this
  simp at this
  omega

/-- the number that digits spell behind 'acc' -/
def valA (acc : Nat) : List UInt8 → Option Nat
  | [] => some acc
  | c :: r => if isD c = true then valA (10 * acc + (c.toNat - 48)) r else none

def sgn (g : Int) (r : Option Nat) : Int := match r with | some u => g * (u : Int) | none => 0

theorem isD_iff (c : UInt8) : isD c = true ↔ 48 ≤ c.toNat ∧ c.toNat ≤ 57 := by
  simp only [isD, Bool.and_eq_true, decide_eq_true_eq]
  omega

set_option maxRecDepth 100000 in
set_option maxHeartbeats 800000 in
theorem ri_A1 (s : ByteArray) (w : World) (hz : s.size = 1) (h0 : 0 < s.size) (h1 : ((s[0].toNat : Int) == 45) = true) :
    Calls Tryz.prog 115 #[.string s] w fun e w' => e = .returned (.tuple #[.int .i64 0, .bool false]) ∧ w' = w := by
  have hne := ne_of_pos s (by omega)
  go_enter Tryz.func115, Tryz.ntmps115
  go_wp2
  all_goals go_ret2
  all_goals exact ⟨rfl, rfl⟩

set_option maxRecDepth 100000 in
set_option maxHeartbeats 800000 in
theorem ri_A2 (s : ByteArray) (w : World) (hs : s.size ≤ 140737488355328) (hz : 10 < s.size) (h1 : ((s[0].toNat : Int) == 45) = true) :
    Calls Tryz.prog 115 #[.string s] w fun e w' => e = .returned (.tuple #[.int .i64 0, .bool false]) ∧ w' = w := by
  have hne := ne_of_pos s (by omega)
  go_enter Tryz.func115, Tryz.ntmps115
  go_wp2
  all_goals go_ret2
  all_goals exact ⟨rfl, rfl⟩

set_option maxRecDepth 100000 in
set_option maxHeartbeats 800000 in
theorem ri_A3 (s : ByteArray) (w : World) (hz : 1 < s.size) (hz2 : s.size ≤ 10) (h1 : ((s[0].toNat : Int) == 45) = true) (hx : 0 < (s.extract 1 s.size).size) (h2 : ((s.extract 1 s.size)[0].toNat : Int) = 48) :
    Calls Tryz.prog 115 #[.string s] w fun e w' => e = .returned (.tuple #[.int .i64 0, .bool false]) ∧ w' = w := by
  have hne := ne_of_pos s (by omega)
  go_enter Tryz.func115, Tryz.ntmps115
  go_wp2
  all_goals first | (exfalso; rename_i hcon; rcases hcon with hcon | hcon <;> simp at hcon <;> omega) | skip
  all_goals go_ret2
  all_goals exact ⟨rfl, rfl⟩

set_option maxRecDepth 100000 in
set_option maxHeartbeats 800000 in
theorem ri_B2 (s : ByteArray) (w : World) (hs : s.size ≤ 140737488355328) (hz : 9 < s.size) (h1 : ((s[0].toNat : Int) == 45) = false) :
    Calls Tryz.prog 115 #[.string s] w fun e w' => e = .returned (.tuple #[.int .i64 0, .bool false]) ∧ w' = w := by
  have hne := ne_of_pos s (by omega)
  go_enter Tryz.func115, Tryz.ntmps115
  go_wp2
  all_goals go_ret2
  all_goals exact ⟨rfl, rfl⟩

set_option maxRecDepth 100000 in
set_option maxHeartbeats 800000 in
theorem ri_B3 (s : ByteArray) (w : World) (hs : s.size ≤ 140737488355328) (hz : 1 < s.size) (hz2 : s.size ≤ 9) (h1 : ((s[0].toNat : Int) == 45) = false) (h2 : ((s[0].toNat : Int) == 48) = true) :
    Calls Tryz.prog 115 #[.string s] w fun e w' => e = .returned (.tuple #[.int .i64 0, .bool false]) ∧ w' = w := by
  have hne := ne_of_pos s (by omega)
  go_enter Tryz.func115, Tryz.ntmps115
  go_wp2
  all_goals go_ret2
  all_goals exact ⟨rfl, rfl⟩

set_option maxRecDepth 100000 in
set_option maxHeartbeats 800000 in
theorem ri_B0 (s : ByteArray) (w : World) (hz : s.size = 0) :
    Calls Tryz.prog 115 #[.string s] w fun e w' => e = .returned (.tuple #[.int .i64 0, .bool false]) ∧ w' = w := by
  obtain rfl : s = ⟨#[]⟩ := by
    obtain ⟨d⟩ := s
    obtain rfl : d = #[] := Array.eq_empty_of_size_eq_zero hz
    rfl
  go_enter Tryz.func115, Tryz.ntmps115
  go_wp2
  all_goals go_ret2
  all_goals exact ⟨rfl, rfl⟩

end Go.Proofs.YtcnnjladaoaeiaaGreatDoor
