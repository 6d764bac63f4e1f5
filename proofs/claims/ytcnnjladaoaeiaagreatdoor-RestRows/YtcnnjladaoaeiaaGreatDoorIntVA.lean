/-
  'intOf' of package overhaulref: its loop.
-/
import Derived.Test.YtcnnjladaoaeiaaGreatDoorIntV
namespace Go.Proofs.YtcnnjladaoaeiaaGreatDoor
open Go.RowKit

set_option maxRecDepth 100000 in
set_option maxHeartbeats 1600000 in
theorem ri_A4 (s : ByteArray) (w : World) (hz : 1 < s.size) (hz2 : s.size ≤ 10) (h1 : ((s[0].toNat : Int) == 45) = true) (hx : 0 < (s.extract 1 s.size).size) (h2 : ¬ ((s.extract 1 s.size)[0].toNat : Int) = 48) (r : Option Nat) (Hr : Hid (valA 0 (s.extract 1 s.size).data.toList = r)) :
    Calls Tryz.prog 115 #[.string s] w fun e w' => e = .returned (.tuple #[.int .i64 (sgn (-1) r), .bool r.isSome]) ∧ w' = w := by
  have hne := ne_of_pos s (by omega)
  have hX : (s.extract 1 s.size).size = (s.size - 1) := by simp
  have e12 : ((((s.size - 1 : Nat) : Int) == 0) || decide (9 < ((s.size - 1 : Nat) : Int))) = false := by simp; omega
  go_enter Tryz.func115, Tryz.ntmps115
  go_wp2
  go_loop [7, 8] (fun m i => ∃ k u : Nat, k ≤ (s.size - 1) ∧ i = .int .i64 k ∧ m = .int .i64 u ∧ u < 10 ^ k ∧ Hid (valA u ((s.extract 1 s.size).data.toList.drop k) = r)) (fun _ i => (s.size - 1) - (intOf i).toNat)
  case atStart => exact ⟨0, 0, by omega, rfl, rfl, by decide, Hr.out⟩
  case round =>
    obtain ⟨k, u, hk, rfl, rfl, hu, HE⟩ := hrel
    clear Hr
    by_cases h : k < (s.size - 1)
    · have h' : k < (s.extract 1 s.size).size := by omega
      have HD := hide (drop_at (s.extract 1 s.size) k h')
      have hp : (10 : Nat) ^ k ≤ 100000000 := by
        have : (10 : Nat) ^ k ≤ 10 ^ 8 := Nat.pow_le_pow_right (by decide) (by omega)
        exact this
      have hc255 : ((s.extract 1 s.size)[k].toNat : Int) ≤ 255 := by have := (s.extract 1 s.size)[k].toNat_lt; omega
      cases hd : isD (s.extract 1 s.size)[k]
      · have hq := refD_rw hd
        have HR : Hid (r = none) := by
          have := HE.out
          rw [HD.out, valA, hd] at this
          exact this.symm
        clear HE HD hd
        go_wp2_with (go_at_call 149; refine (hq _).mono ?_; rintro e w' ⟨rfl, hw'⟩; obtain rfl := hw'.symm; clear hw')
        go_ret2
        rw [HR.out]
        exact ⟨rfl, rfl⟩
      · have hq := refD_rw hd
        obtain ⟨d1, d2⟩ := (isD_iff _).1 hd
        have HR : Hid (valA (10 * u + ((s.extract 1 s.size)[k].toNat - 48)) ((s.extract 1 s.size).data.toList.drop (k + 1)) = r) := by
          have := HE.out
          rw [HD.out, valA, if_pos hd] at this
          exact this
        clear HE HD hd
        go_wp2_with (go_at_call 149; refine (hq _).mono ?_; rintro e w' ⟨rfl, hw'⟩; obtain rfl := hw'.symm; clear hw')
        go_round
        case rel => exact ⟨k + 1, 10 * u + ((s.extract 1 s.size)[k].toNat - 48), by omega, by go_num, by go_num, by rw [Nat.pow_succ]; omega, HR⟩
        case measure => simp [intOf]; omega
    · have HR : Hid (r = some u) := by
        have := HE.out
        rw [drop_end (s.extract 1 s.size) k (by omega)] at this
        exact this.symm
      have he : k = (s.size - 1) := by omega
      have hp : (10 : Nat) ^ k ≤ 1000000000 := by
        have : (10 : Nat) ^ k ≤ 10 ^ 9 := Nat.pow_le_pow_right (by decide) (by omega)
        exact this
      clear HE
      go_wp2
      go_ret2
      rw [HR.out]
      refine ⟨?_, rfl⟩
      show _ = Ending.returned (.tuple #[.int .i64 (-1 * (u : Int)), .bool true])
      rw [show -1 * (u : Int) = -(u : Int) by omega]
      rfl

end Go.Proofs.YtcnnjladaoaeiaaGreatDoor
