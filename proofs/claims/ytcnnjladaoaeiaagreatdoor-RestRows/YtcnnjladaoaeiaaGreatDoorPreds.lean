/-
  The small predicates of package token and the walk over bytes 'span', at every input: each answers its plain function and leaves the world as it was.
-/
import Derived.Test.YtcnnjladaoaeiaaGreatDoorRows
import Derived.WalkKit
import Derived.WalkSpells
import Derived.WalkLawsBesides
namespace Go.Proofs.YtcnnjladaoaeiaaGreatDoor
open Go.RowKit

def isL (c : UInt8) : Bool := decide ((97 : Int) ≤ (c.toNat : Int)) && decide ((c.toNat : Int) ≤ 122)
def isD (c : UInt8) : Bool := decide ((48 : Int) ≤ (c.toNat : Int)) && decide ((c.toNat : Int) ≤ 57)
def isW (c : UInt8) : Bool := isL c || isD c
def isQ (c : UInt8) : Bool := decide ((32 : Int) ≤ (c.toNat : Int)) && decide ((c.toNat : Int) ≤ 126) && ((c.toNat : Int) != 39)
def isB (c : UInt8) : Bool := ((c.toNat : Int) == 32) || ((c.toNat : Int) == 9) || ((c.toNat : Int) == 10)

theorem ret_bool {a b : Bool} (h : a = b) : Ending.returned (.bool a) = .returned (.bool b) := by rw [h]
theorem ret_int {k : IntKind} {a b : Int} (h : a = b) : Ending.returned (.int k a) = .returned (.int k b) := by rw [h]

set_option maxHeartbeats 400000 in
theorem letter_any (c : UInt8) (w : World) :
    Calls Tryz.prog 212 #[.int .u8 (c.toNat : Int)] w fun e w' => e = .returned (.bool (isL c)) ∧ w' = w := by
  go_enter Tryz.func212, Tryz.ntmps212
  go_wp2
  all_goals go_ret
  all_goals exact ⟨ret_bool (by simp [isL, *] <;> omega), rfl⟩

set_option maxHeartbeats 400000 in
theorem digit_any (c : UInt8) (w : World) :
    Calls Tryz.prog 214 #[.int .u8 (c.toNat : Int)] w fun e w' => e = .returned (.bool (isD c)) ∧ w' = w := by
  go_enter Tryz.func214, Tryz.ntmps214
  go_wp2
  all_goals go_ret
  all_goals exact ⟨ret_bool (by simp [isD, *] <;> omega), rfl⟩

set_option maxHeartbeats 400000 in
theorem parts_any (c : UInt8) (w : World) :
    Calls Tryz.prog 193 #[.int .u8 (c.toNat : Int)] w fun e w' => e = .returned (.bool (isB c)) ∧ w' = w := by
  go_enter Tryz.func193, Tryz.ntmps193
  go_wp2
  all_goals go_ret
  all_goals exact ⟨ret_bool (by simp [isB, *]), rfl⟩

set_option maxHeartbeats 400000 in
theorem word_any (c : UInt8) (w : World) :
    Calls Tryz.prog 213 #[.int .u8 (c.toNat : Int)] w fun e w' => e = .returned (.bool (isW c)) ∧ w' = w := by
  cases hL : isL c
  · have HL : Hid (isL c = false) := hL
    have h1 := letter_any c
    rw [hL] at h1
    clear hL
    go_enter Tryz.func213, Tryz.ntmps213
    go_wp2_with (first | (go_at_call 212; refine (h1 _).mono ?_; rintro e w' ⟨rfl, rfl⟩) | (go_at_call 214; refine (digit_any _ _).mono ?_; rintro e w' ⟨rfl, rfl⟩))
    go_ret
    exact ⟨ret_bool (by simp [isW, HL.out]), rfl⟩
  · have HL : Hid (isL c = true) := hL
    have h1 := letter_any c
    rw [hL] at h1
    clear hL
    go_enter Tryz.func213, Tryz.ntmps213
    go_wp2_with (first | (go_at_call 212; refine (h1 _).mono ?_; rintro e w' ⟨rfl, rfl⟩) | (go_at_call 214; refine (digit_any _ _).mono ?_; rintro e w' ⟨rfl, rfl⟩))
    go_ret
    exact ⟨ret_bool (by simp [isW, HL.out]), rfl⟩

set_option maxHeartbeats 400000 in
theorem quot_any (c : UInt8) (w : World) :
    Calls Tryz.prog 215 #[.int .u8 (c.toNat : Int)] w fun e w' => e = .returned (.bool (isQ c)) ∧ w' = w := by
  go_enter Tryz.func215, Tryz.ntmps215
  go_wp2
  all_goals go_ret
  all_goals exact ⟨ret_bool (by simp [isQ, *] <;> omega), rfl⟩

end Go.Proofs.YtcnnjladaoaeiaaGreatDoor
