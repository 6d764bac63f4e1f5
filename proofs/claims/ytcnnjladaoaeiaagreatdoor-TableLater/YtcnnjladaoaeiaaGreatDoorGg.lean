/-
  'intOf' of package overhaulref.
  'intOf' of package overhaulref: its loop.
  'intOf' of package overhaulref: its loop.
  The two ways to read an int from a text agree: on lists of bytes alone.
  'intOf' of package overhaulref answers what package value's own does.
  'CastOf' of package overhaulref.
  Out of my texts Tells: what is wanted here.
  'ApplyOf' of package overhaulref.
-/
import Derived.Deep.AppendLies
import Derived.Laws.AppendOwnNone
import Derived.Deep.RegionLaw
import Derived.Test.YtcnnjladaoaeiaaGreatDoorGa
import Derived.Test.YtcnnjladaoaeiaaGreatDoorGd
import Derived.Test.YtcnnjladaoaeiaaGreatDoorGe
import Derived.Test.YtcnnjladaoaeiaaGreatDoorGf

set_option maxRecDepth 100000
set_option maxHeartbeats 25600000
namespace Go.Proofs.YtcnnjladaoaeiaaGreatDoor
open Go.RowKit
theorem ne_of_pos (s : ByteArray) (h0 : 0 < s.size) : s.toList.isEmpty = false := by
  rw [empty_iff, decide_eq_false_iff_not]
  intro e
  have : s.data.toList.length = s.size := Array.length_toList
  rw [e] at this
  simp at this
  omega
def valA (acc : Nat) : List UInt8 → Option Nat
  | [] => some acc
  | c :: r => if isD c = true then valA (10 * acc + (c.toNat - 48)) r else none
def sgn (g : Int) (r : Option Nat) : Int := match r with | some u => g * (u : Int) | none => 0
theorem isD_iff (c : UInt8) : isD c = true ↔ 48 ≤ c.toNat ∧ c.toNat ≤ 57 := by
  simp only [isD, Bool.and_eq_true, decide_eq_true_eq]
  omega
theorem ri_A1 (s : ByteArray) (w : World) (hz : s.size = 1) (h0 : 0 < s.size) (h1 : ((s[0].toNat : Int) == 45) = true) :
    Calls Tryz.prog 115 #[.string s] w fun e w' => e = .returned (.tuple #[.int .i64 0, .bool false]) ∧ w' = w := by
  have hne := ne_of_pos s (by omega)
  go_enter Tryz.func115, Tryz.ntmps115
  go_wp2
  all_goals go_ret2
  all_goals exact ⟨rfl, rfl⟩
theorem ri_A2 (s : ByteArray) (w : World) (hs : s.size ≤ 140737488355328) (hz : 10 < s.size) (h1 : ((s[0].toNat : Int) == 45) = true) :
    Calls Tryz.prog 115 #[.string s] w fun e w' => e = .returned (.tuple #[.int .i64 0, .bool false]) ∧ w' = w := by
  have hne := ne_of_pos s (by omega)
  go_enter Tryz.func115, Tryz.ntmps115
  go_wp2
  all_goals go_ret2
  all_goals exact ⟨rfl, rfl⟩
theorem ri_A3 (s : ByteArray) (w : World) (hz : 1 < s.size) (hz2 : s.size ≤ 10) (h1 : ((s[0].toNat : Int) == 45) = true) (hx : 0 < (s.extract 1 s.size).size) (h2 : ((s.extract 1 s.size)[0].toNat : Int) = 48) :
    Calls Tryz.prog 115 #[.string s] w fun e w' => e = .returned (.tuple #[.int .i64 0, .bool false]) ∧ w' = w := by
  have hne := ne_of_pos s (by omega)
  go_enter Tryz.func115, Tryz.ntmps115
  go_wp2
  all_goals first | (exfalso; rename_i hcon; rcases hcon with hcon | hcon <;> simp at hcon <;> omega) | skip
  all_goals go_ret2
  all_goals exact ⟨rfl, rfl⟩
theorem ri_B2 (s : ByteArray) (w : World) (hs : s.size ≤ 140737488355328) (hz : 9 < s.size) (h1 : ((s[0].toNat : Int) == 45) = false) :
    Calls Tryz.prog 115 #[.string s] w fun e w' => e = .returned (.tuple #[.int .i64 0, .bool false]) ∧ w' = w := by
  have hne := ne_of_pos s (by omega)
  go_enter Tryz.func115, Tryz.ntmps115
  go_wp2
  all_goals go_ret2
  all_goals exact ⟨rfl, rfl⟩
theorem ri_B3 (s : ByteArray) (w : World) (hs : s.size ≤ 140737488355328) (hz : 1 < s.size) (hz2 : s.size ≤ 9) (h1 : ((s[0].toNat : Int) == 45) = false) (h2 : ((s[0].toNat : Int) == 48) = true) :
    Calls Tryz.prog 115 #[.string s] w fun e w' => e = .returned (.tuple #[.int .i64 0, .bool false]) ∧ w' = w := by
  have hne := ne_of_pos s (by omega)
  go_enter Tryz.func115, Tryz.ntmps115
  go_wp2
  all_goals go_ret2
  all_goals exact ⟨rfl, rfl⟩
theorem ri_B0 (s : ByteArray) (w : World) (hz : s.size = 0) :
    Calls Tryz.prog 115 #[.string s] w fun e w' => e = .returned (.tuple #[.int .i64 0, .bool false]) ∧ w' = w := by
  obtain rfl : s = ⟨#[]⟩ := by
    obtain ⟨d⟩ := s
    obtain rfl : d = #[] := Array.eq_empty_of_size_eq_zero hz
    rfl
  go_enter Tryz.func115, Tryz.ntmps115
  go_wp2
  all_goals go_ret2
  all_goals exact ⟨rfl, rfl⟩
theorem ri_A4 (s : ByteArray) (w : World) (hz : 1 < s.size) (hz2 : s.size ≤ 10) (h1 : ((s[0].toNat : Int) == 45) = true) (hx : 0 < (s.extract 1 s.size).size) (h2 : ¬ ((s.extract 1 s.size)[0].toNat : Int) = 48) (r : Option Nat) (Hr : Hid (valA 0 (s.extract 1 s.size).data.toList = r)) :
    Calls Tryz.prog 115 #[.string s] w fun e w' => e = .returned (.tuple #[.int .i64 (sgn (-1) r), .bool r.isSome]) ∧ w' = w := by
  have hne := ne_of_pos s (by omega)
  have hX : (s.extract 1 s.size).size = (s.size - 1) := by simp
  have e12 : ((((s.size - 1 : Nat) : Int) == 0) || decide (9 < ((s.size - 1 : Nat) : Int))) = false := by simp; omega
  go_enter Tryz.func115, Tryz.ntmps115
  go_wp2
  go_loop [7, 8] (fun m i => ∃ k u : Nat, k ≤ (s.size - 1) ∧ i = .int .i64 k ∧ m = .int .i64 u ∧ u < 10 ^ k ∧ Hid (valA u ((s.extract 1 s.size).data.toList.drop k) = r)) (fun _ i => (s.size - 1) - (intOf i).toNat)
  case atStart => exact ⟨0, 0, by omega, rfl, rfl, by decide, Hr.out⟩
  case round =>
    obtain ⟨k, u, hk, rfl, rfl, hu, HE⟩ := hrel
    clear Hr
    by_cases h : k < (s.size - 1)
    · have h' : k < (s.extract 1 s.size).size := by omega
      have HD := hide (drop_at (s.extract 1 s.size) k h')
      have hp : (10 : Nat) ^ k ≤ 100000000 := by
        have : (10 : Nat) ^ k ≤ 10 ^ 8 := Nat.pow_le_pow_right (by decide) (by omega)
        exact this
      have hc255 : ((s.extract 1 s.size)[k].toNat : Int) ≤ 255 := by have := (s.extract 1 s.size)[k].toNat_lt; omega
      cases hd : isD (s.extract 1 s.size)[k]
      · have hq := refD_rw hd
        have HR : Hid (r = none) := by
          have := HE.out
          rw [HD.out, valA, hd] at this
          exact this.symm
        clear HE HD hd
        go_wp2_with (go_at_call 149; refine (hq _).mono ?_; rintro e w' ⟨rfl, hw'⟩; obtain rfl := hw'.symm; clear hw')
        go_ret2
        rw [HR.out]
        exact ⟨rfl, rfl⟩
      · have hq := refD_rw hd
        obtain ⟨d1, d2⟩ := (isD_iff _).1 hd
        have HR : Hid (valA (10 * u + ((s.extract 1 s.size)[k].toNat - 48)) ((s.extract 1 s.size).data.toList.drop (k + 1)) = r) := by
          have := HE.out
          rw [HD.out, valA, if_pos hd] at this
          exact this
        clear HE HD hd
        go_wp2_with (go_at_call 149; refine (hq _).mono ?_; rintro e w' ⟨rfl, hw'⟩; obtain rfl := hw'.symm; clear hw')
        go_round
        case rel => exact ⟨k + 1, 10 * u + ((s.extract 1 s.size)[k].toNat - 48), by omega, by go_num, by go_num, by rw [Nat.pow_succ]; omega, HR⟩
        case measure => simp [intOf]; omega
    · have HR : Hid (r = some u) := by
        have := HE.out
        rw [drop_end (s.extract 1 s.size) k (by omega)] at this
        exact this.symm
      have he : k = (s.size - 1) := by omega
      have hp : (10 : Nat) ^ k ≤ 1000000000 := by
        have : (10 : Nat) ^ k ≤ 10 ^ 9 := Nat.pow_le_pow_right (by decide) (by omega)
        exact this
      clear HE
      go_wp2
      go_ret2
      rw [HR.out]
      refine ⟨?_, rfl⟩
      show _ = Ending.returned (.tuple #[.int .i64 (-1 * (u : Int)), .bool true])
      rw [show -1 * (u : Int) = -(u : Int) by omega]
      rfl
theorem ri_B4 (s : ByteArray) (w : World) (hz : 0 < s.size) (hz2 : s.size ≤ 9) (h1 : ((s[0].toNat : Int) == 45) = false) (h2 : ((s[0].toNat : Int) == 48) = false) (r : Option Nat) (Hr : Hid (valA 0 s.data.toList = r)) :
    Calls Tryz.prog 115 #[.string s] w fun e w' => e = .returned (.tuple #[.int .i64 (sgn (1) r), .bool r.isSome]) ∧ w' = w := by
  have hne := ne_of_pos s (by omega)
  have hX : s.size = s.size := by simp
  have e12 : (((s.size : Int) == 0) || decide (9 < (s.size : Int))) = false := by rw [Bool.or_eq_false_iff]; exact ⟨by rw [beq_eq_false_iff_ne]; omega, by rw [decide_eq_false_iff_not]; omega⟩
  have hse : ¬ s = ByteArray.empty := by rintro rfl; simp at hz
  go_enter Tryz.func115, Tryz.ntmps115
  go_wp2
  go_loop [7, 8] (fun m i => ∃ k u : Nat, k ≤ s.size ∧ i = .int .i64 k ∧ m = .int .i64 u ∧ u < 10 ^ k ∧ Hid (valA u (s.data.toList.drop k) = r)) (fun _ i => s.size - (intOf i).toNat)
  case atStart => exact ⟨0, 0, by omega, rfl, rfl, by decide, Hr.out⟩
  case round =>
    obtain ⟨k, u, hk, rfl, rfl, hu, HE⟩ := hrel
    clear Hr
    by_cases h : k < s.size
    · have h' : k < s.size := by omega
      have HD := hide (drop_at s k h')
      have hp : (10 : Nat) ^ k ≤ 100000000 := by
        have : (10 : Nat) ^ k ≤ 10 ^ 8 := Nat.pow_le_pow_right (by decide) (by omega)
        exact this
      have hc255 : (s[k].toNat : Int) ≤ 255 := by have := s[k].toNat_lt; omega
      cases hd : isD s[k]
      · have hq := refD_rw hd
        have HR : Hid (r = none) := by
          have := HE.out
          rw [HD.out, valA, hd] at this
          exact this.symm
        clear HE HD hd
        go_wp2_with (go_at_call 149; refine (hq _).mono ?_; rintro e w' ⟨rfl, hw'⟩; obtain rfl := hw'.symm; clear hw')
        go_ret2
        rw [HR.out]
        exact ⟨rfl, rfl⟩
      · have hq := refD_rw hd
        obtain ⟨d1, d2⟩ := (isD_iff _).1 hd
        have HR : Hid (valA (10 * u + (s[k].toNat - 48)) (s.data.toList.drop (k + 1)) = r) := by
          have := HE.out
          rw [HD.out, valA, if_pos hd] at this
          exact this
        clear HE HD hd
        go_wp2_with (go_at_call 149; refine (hq _).mono ?_; rintro e w' ⟨rfl, hw'⟩; obtain rfl := hw'.symm; clear hw')
        go_round
        case rel => exact ⟨k + 1, 10 * u + (s[k].toNat - 48), by omega, by go_num, by go_num, by rw [Nat.pow_succ]; omega, HR⟩
        case measure => simp [intOf]; omega
    · have HR : Hid (r = some u) := by
        have := HE.out
        rw [drop_end s k (by omega)] at this
        exact this.symm
      have he : k = s.size := by omega
      have hp : (10 : Nat) ^ k ≤ 1000000000 := by
        have : (10 : Nat) ^ k ≤ 10 ^ 9 := Nat.pow_le_pow_right (by decide) (by omega)
        exact this
      clear HE
      go_wp2
      go_ret2
      rw [HR.out]
      refine ⟨?_, rfl⟩
      show _ = Ending.returned (.tuple #[.int .i64 (1 * (u : Int)), .bool true])
      rw [show 1 * (u : Int) = (u : Int) by omega]
      rfl
theorem ri_B5 (w : World) :
    Calls Tryz.prog 115 #[.string ⟨#[48]⟩] w fun e w' => e = .returned (.tuple #[.int .i64 0, .bool true]) ∧ w' = w := by
  have hq := fun W => refD_any 48 W
  rw [show isD 48 = true by decide] at hq
  go_enter Tryz.func115, Tryz.ntmps115
  go_wp2
  go_loop [7, 8] (fun m i => m = .int .i64 0 ∧ (i = .int .i64 0 ∨ i = .int .i64 1)) (fun _ i => 1 - (intOf i).toNat)
  case atStart => exact ⟨rfl, Or.inl rfl⟩
  case round =>
    obtain ⟨rfl, rfl | rfl⟩ := hrel
    · go_wp2_with (go_at_call 149; refine (hq _).mono ?_; rintro e w' ⟨rfl, hw'⟩; obtain rfl := hw'.symm; clear hw')
      go_round
      case rel => exact ⟨by go_num, Or.inr (by go_num)⟩
      case measure => simp [intOf]
    · go_wp2
      go_ret2
      exact ⟨rfl, rfl⟩
theorem isInt_iff (v : Int) : isInt v = true ↔ -999999999 ≤ v ∧ v ≤ 999999999 := by
  simp only [isInt, Bool.and_eq_true, decide_eq_true_eq]
theorem intV_iff (S : List UInt8) (v : Int) : intV S = some v ↔ (-999999999 ≤ v ∧ v ≤ 999999999) ∧ Lib.itoa v = S := by
  constructor
  · intro h
    unfold intV at h
    split at h
    · rename_i x hx
      by_cases c : isInt x = true ∧ Lib.itoa x = S
      · rw [if_pos c] at h
        obtain rfl : x = v := by simpa using h
        exact ⟨(isInt_iff _).1 c.1, c.2⟩
      · rw [if_neg c] at h; cases h
    · cases h
  · rintro ⟨⟨h0, h1⟩, rfl⟩
    rw [intV, atoi_itoa v h0 h1]
    have : isInt v = true := (isInt_iff v).2 ⟨h0, h1⟩
    simp [this]
theorem intV_none (S : List UInt8) (h : ∀ v : Int, -999999999 ≤ v → v ≤ 999999999 → Lib.itoa v ≠ S) : intV S = none := by
  cases e : intV S with
  | none => rfl
  | some v =>
    obtain ⟨⟨h0, h1⟩, e⟩ := (intV_iff S v).1 e
    exact absurd e (h v h0 h1)
theorem itoa_form (v : Int) (h0 : -999999999 ≤ v) (h1 : v ≤ 999999999) :
    (∃ u : Nat, 1 ≤ u ∧ u ≤ 999999999 ∧ v = -(u : Int) ∧ Lib.itoa v = 45 :: Lib.decDigits u) ∨ (∃ u : Nat, u ≤ 999999999 ∧ v = (u : Int) ∧ Lib.itoa v = Lib.decDigits u) := by
  unfold Lib.itoa
  by_cases h : v < 0
  · exact Or.inl ⟨v.natAbs, by omega, by omega, by omega, by rw [if_pos h]⟩
  · exact Or.inr ⟨v.toNat, by omega, by omega, by rw [if_neg h]⟩
theorem digits_len9 (u : Nat) (h : u ≤ 999999999) : 1 ≤ (Lib.decDigits u).length ∧ (Lib.decDigits u).length ≤ 9 := decDigits_len 8 u (by omega)
theorem digits_zero : Lib.decDigits 0 = [48] := by rw [Lib.decDigits, dif_pos (by decide)]; rfl
theorem digits_head : ∀ u : Nat, 1 ≤ u → ∃ c r, Lib.decDigits u = c :: r ∧ c ≠ 48 ∧ c ≠ 45 := by
  intro u
  induction u using Nat.strongRecOn with
  | _ u ih =>
    intro hu
    rw [Lib.decDigits]
    by_cases h : u < 10
    · rw [dif_pos h]
      refine ⟨_, [], rfl, ?_, ?_⟩
      · intro e
        have := congrArg UInt8.toNat e
        rw [UInt8.toNat_ofNat', Nat.mod_eq_of_lt (by omega)] at this
        have e48 : (48 : UInt8).toNat = 48 := rfl
        omega
      · intro e
        have := congrArg UInt8.toNat e
        rw [UInt8.toNat_ofNat', Nat.mod_eq_of_lt (by omega)] at this
        have e45 : (45 : UInt8).toNat = 45 := rfl
        omega
    · rw [dif_neg h]
      obtain ⟨c, r, e, h1, h2⟩ := ih (u / 10) (by omega) (by omega)
      rw [e]
      exact ⟨c, _, rfl, h1, h2⟩
theorem digit_toNat (d : Nat) (h : d < 10) : (UInt8.ofNat (48 + d)).toNat = 48 + d := by rw [UInt8.toNat_ofNat', Nat.mod_eq_of_lt (by omega)]
theorem valA_last : ∀ (D : List UInt8) (c : UInt8) (acc : Nat), valA acc (D ++ [c]) = (valA acc D).bind fun u => if isD c = true then some (10 * u + (c.toNat - 48)) else none
  | [], c, acc => by simp [valA]
  | x :: D, c, acc => by
    simp only [List.cons_append, valA]
    by_cases h : isD x = true
    · rw [if_pos h, if_pos h]; exact valA_last D c _
    · rw [if_neg h, if_neg h]; rfl
theorem valA_digits : ∀ u : Nat, valA 0 (Lib.decDigits u) = some u := by
  intro u
  induction u using Nat.strongRecOn with
  | _ u ih =>
    rw [Lib.decDigits]
    by_cases h : u < 10
    · rw [dif_pos h]
      have e := digit_toNat u h
      have hd : isD (UInt8.ofNat (48 + u)) = true := (isD_iff _).2 (by omega)
      simp only [valA, hd, if_true, e]
      congr 1; omega
    · rw [dif_neg h, valA_last, ih _ (by omega)]
      have e := digit_toNat (u % 10) (Nat.mod_lt _ (by decide))
      have hd : isD (UInt8.ofNat (48 + u % 10)) = true := (isD_iff _).2 (by omega)
      simp only [Option.bind_some, hd, if_true, e]
      congr 1; omega
theorem valA_lt : ∀ (D : List UInt8) (acc u : Nat), valA acc D = some u → u < (acc + 1) * 10 ^ D.length
  | [], acc, u, h => by
    simp only [valA, Option.some.injEq] at h
    simp; omega
  | c :: r, acc, u, h => by
    simp only [valA] at h
    by_cases hd : isD c = true
    · rw [if_pos hd] at h
      have ih := valA_lt r _ u h
      have hc := (isD_iff c).1 hd
      rw [List.length_cons, Nat.pow_succ]
      have : (10 * acc + (c.toNat - 48) + 1) * 10 ^ r.length ≤ (10 * (acc + 1)) * 10 ^ r.length := Nat.mul_le_mul_right _ (by omega)
      have e : (10 * (acc + 1)) * 10 ^ r.length = (acc + 1) * (10 ^ r.length * 10) := by
        rw [Nat.mul_comm 10 (acc + 1), Nat.mul_assoc, Nat.mul_comm 10]
      omega
    · rw [if_neg hd] at h; cases h
theorem ofNat_toNat (c : UInt8) (h : 48 ≤ c.toNat) : UInt8.ofNat (48 + (c.toNat - 48)) = c := by
  rw [show 48 + (c.toNat - 48) = c.toNat by omega]
  exact UInt8.ofNat_toNat
theorem valA_back (D : List UInt8) : ∀ u : Nat, D ≠ [] → D.head? ≠ some 48 → valA 0 D = some u → Lib.decDigits u = D ∧ 1 ≤ u := by
  generalize hn : D.length = n
  induction n generalizing D with
  | zero => intro u h; exact absurd (List.length_eq_zero_iff.1 hn) h
  | succ n ih =>
    intro u hne hh hv
    obtain ⟨E, c, rfl⟩ : ∃ E c, D = E ++ [c] := ⟨D.dropLast, D.getLast hne, (List.dropLast_concat_getLast hne).symm⟩
    rw [valA_last] at hv
    have hE : E.length = n := by simpa using hn
    by_cases hEe : E = []
    · subst hEe
      simp only [valA, Option.bind_some] at hv
      by_cases hd : isD c = true
      · rw [if_pos hd] at hv
        have hc := (isD_iff c).1 hd
        obtain rfl : 10 * 0 + (c.toNat - 48) = u := by simpa using hv
        have hc8 : c ≠ 48 := by intro e; subst e; exact hh rfl
        have hcn : c.toNat ≠ 48 := by
          intro e
          exact hc8 (UInt8.toNat_inj.1 e)
        refine ⟨?_, by omega⟩
        rw [show 10 * 0 + (c.toNat - 48) = c.toNat - 48 by omega, Lib.decDigits, dif_pos (by omega), ofNat_toNat c hc.1]
        rfl
      · rw [if_neg hd] at hv; cases hv
    · cases hvE : valA 0 E with
      | none => rw [hvE] at hv; cases hv
      | some u' =>
        rw [hvE] at hv
        simp only [Option.bind_some] at hv
        have hhE : E.head? ≠ some 48 := by
          intro e
          apply hh
          cases E with
          | nil => exact absurd rfl hEe
          | cons x r => exact e
        obtain ⟨i1, i2⟩ := ih E hE u' hEe hhE hvE
        by_cases hd : isD c = true
        · rw [if_pos hd] at hv
          have hc := (isD_iff c).1 hd
          obtain rfl : 10 * u' + (c.toNat - 48) = u := by simpa using hv
          refine ⟨?_, by omega⟩
          rw [Lib.decDigits, dif_neg (by omega), show (10 * u' + (c.toNat - 48)) / 10 = u' by omega, show (10 * u' + (c.toNat - 48)) % 10 = c.toNat - 48 by omega, i1, ofNat_toNat c hc.1]
        · rw [if_neg hd] at hv; cases hv
theorem iv_A1 : intV [45] = none := intV_none _ fun v h0 h1 e => by
  rcases itoa_form v h0 h1 with ⟨u, p, q, -, f⟩ | ⟨u, q, -, f⟩
  · rw [f] at e
    have := digits_len9 u q
    have e' : Lib.decDigits u = [] := by simpa using e
    rw [e'] at this
    simp at this
  · rw [f] at e
    have := digits_all u 45 (by rw [e]; simp)
    have e45 : (45 : UInt8).toNat = 45 := rfl
    omega
theorem iv_A (D : List UInt8) (hD : D ≠ []) (hl : D.length ≤ 9) (hh : D.head? ≠ some 48) : intV (45 :: D) = (valA 0 D).map fun u => -(u : Int) := by
  cases hv : valA 0 D with
  | some u =>
    obtain ⟨b1, b2⟩ := valA_back D u hD hh hv
    have hlt := valA_lt D 0 u hv
    have hp : (10 : Nat) ^ D.length ≤ 10 ^ 9 := Nat.pow_le_pow_right (by decide) hl
    have e9 : (10 : Nat) ^ 9 = 1000000000 := by decide
    show intV (45 :: D) = some (-(u : Int))
    refine (intV_iff _ _).2 ⟨⟨by omega, by omega⟩, ?_⟩
    rw [Lib.itoa, if_pos (by omega), show (-(u : Int)).natAbs = u by omega, b1]
  | none =>
    refine intV_none _ fun v h0 h1 e => ?_
    rcases itoa_form v h0 h1 with ⟨u, p, q, -, f⟩ | ⟨u, q, -, f⟩
    · rw [f] at e
      have e' : Lib.decDigits u = D := by simpa using e
      rw [← e', valA_digits] at hv
      cases hv
    · rw [f] at e
      have := digits_all u 45 (by rw [e]; simp)
      have e45 : (45 : UInt8).toNat = 45 := rfl
      omega
theorem iv_A2 (D : List UInt8) (hl : 9 < D.length) : intV (45 :: D) = none := intV_none _ fun v h0 h1 e => by
  rcases itoa_form v h0 h1 with ⟨u, p, q, -, f⟩ | ⟨u, q, -, f⟩
  · rw [f] at e
    have e' : Lib.decDigits u = D := by simpa using e
    have := digits_len9 u q
    rw [e'] at this
    omega
  · rw [f] at e
    have := digits_len9 u q
    rw [e] at this
    simp at this
    omega
theorem iv_A3 (D : List UInt8) : intV (45 :: 48 :: D) = none := intV_none _ fun v h0 h1 e => by
  rcases itoa_form v h0 h1 with ⟨u, p, q, -, f⟩ | ⟨u, q, -, f⟩
  · rw [f] at e
    obtain ⟨c, r, e2, n1, n2⟩ := digits_head u p
    rw [e2] at e
    have : c = 48 := by have := e; simp at this; exact this.1
    exact n1 this
  · rw [f] at e
    have := digits_all u 45 (by rw [e]; simp)
    have e45 : (45 : UInt8).toNat = 45 := rfl
    omega
theorem iv_B0 : intV [] = none := intV_none _ fun v h0 h1 e => by
  rcases itoa_form v h0 h1 with ⟨u, p, q, -, f⟩ | ⟨u, q, -, f⟩
  · rw [f] at e; cases e
  · rw [f] at e
    have := digits_len9 u q
    rw [e] at this
    simp at this
theorem iv_B2 (S : List UInt8) (h4 : S.head? ≠ some 45) (hl : 9 < S.length) : intV S = none := intV_none _ fun v h0 h1 e => by
  rcases itoa_form v h0 h1 with ⟨u, p, q, -, f⟩ | ⟨u, q, -, f⟩
  · rw [f] at e; exact h4 (by rw [← e]; rfl)
  · rw [f] at e
    have := digits_len9 u q
    rw [e] at this
    omega
theorem iv_B3 (D : List UInt8) (hD : D ≠ []) : intV (48 :: D) = none := intV_none _ fun v h0 h1 e => by
  rcases itoa_form v h0 h1 with ⟨u, p, q, -, f⟩ | ⟨u, q, -, f⟩
  · rw [f] at e
    have := e
    simp at this
  · rw [f] at e
    by_cases hu : u = 0
    · rw [hu, digits_zero] at e
      exact hD (by simpa using e.symm)
    · obtain ⟨c, r, e2, n1, n2⟩ := digits_head u (by omega)
      rw [e2] at e
      have : c = 48 := by have := e; simp at this; exact this.1
      exact n1 this
theorem iv_B (S : List UInt8) (hS : S ≠ []) (hl : S.length ≤ 9) (h4 : S.head? ≠ some 45) (hh : S.head? ≠ some 48) : intV S = (valA 0 S).map fun u => (u : Int) := by
  cases hv : valA 0 S with
  | some u =>
    obtain ⟨b1, b2⟩ := valA_back S u hS hh hv
    have hlt := valA_lt S 0 u hv
    have hp : (10 : Nat) ^ S.length ≤ 10 ^ 9 := Nat.pow_le_pow_right (by decide) hl
    have e9 : (10 : Nat) ^ 9 = 1000000000 := by decide
    show intV S = some (u : Int)
    refine (intV_iff _ _).2 ⟨⟨by omega, by omega⟩, ?_⟩
    rw [Lib.itoa, if_neg (by omega), Int.toNat_natCast, b1]
  | none =>
    refine intV_none _ fun v h0 h1 e => ?_
    rcases itoa_form v h0 h1 with ⟨u, p, q, -, f⟩ | ⟨u, q, -, f⟩
    · rw [f] at e; exact h4 (by rw [← e]; rfl)
    · rw [f] at e
      rw [← e, valA_digits] at hv
      cases hv
theorem iv_B5 : intV [48] = some 0 := (intV_iff _ _).2 ⟨by decide, itoa_0⟩
theorem toList_pos (s : ByteArray) (h : 0 < s.size) : s.data.toList = s[0] :: (s.extract 1 s.size).data.toList := by
  have h0 := drop_at s 0 h
  rw [List.drop_zero] at h0
  rw [h0]
  congr 1
  have : (s.extract 1 s.size).data = s.data.extract 1 s.size := by simp
  rw [this, Array.toList_extract]
  have hl : s.data.toList.length = s.size := Array.length_toList
  rw [List.extract_eq_take_drop]
  rw [List.take_of_length_le (by rw [List.length_drop]; omega)]
theorem byte_eq (c d : UInt8) : ((c.toNat : Int) == (d.toNat : Int)) = true ↔ c = d := by
  rw [beq_iff_eq]
  constructor
  · intro h; exact UInt8.toNat_inj.1 (by omega)
  · rintro rfl; rfl
theorem riv_any (s : ByteArray) (w : World) (hs : s.size ≤ 140737488355328) :
    Calls Tryz.prog 115 #[.string s] w fun e w' => e = .returned (.tuple #[.int .i64 ((intV s.data.toList).getD 0), .bool (intV s.data.toList).isSome]) ∧ w' = w := by
  have hlen : s.data.toList.length = s.size := Array.length_toList
  by_cases hz : s.size = 0
  · have e : s.data.toList = [] := List.length_eq_zero_iff.1 (by omega)
    rw [e, iv_B0]
    exact ri_B0 s w hz
  have hp : 0 < s.size := by omega
  have hS := toList_pos s hp
  have hX : (s.extract 1 s.size).size = s.size - 1 := by simp
  have hXl : (s.extract 1 s.size).data.toList.length = s.size - 1 := by rw [← hX]; exact Array.length_toList
  by_cases h1 : ((s[0].toNat : Int) == 45) = true
  · have c0 : s[0] = 45 := (byte_eq s[0] 45).1 h1
    rw [hS, c0]
    by_cases z1 : s.size = 1
    · have e : (s.extract 1 s.size).data.toList = [] := List.length_eq_zero_iff.1 (by omega)
      rw [e, iv_A1]
      exact ri_A1 s w z1 hp h1
    by_cases z2 : 10 < s.size
    · rw [iv_A2 _ (by omega)]
      exact ri_A2 s w hs z2 h1
    have hx : 0 < (s.extract 1 s.size).size := by omega
    by_cases h2 : ((s.extract 1 s.size)[0].toNat : Int) = 48
    · have c1 : (s.extract 1 s.size)[0] = 48 := (byte_eq _ 48).1 (by rw [beq_iff_eq]; exact h2)
      have e := drop_at (s.extract 1 s.size) 0 hx
      rw [List.drop_zero, c1] at e
      rw [e, iv_A3]
      exact ri_A3 s w (by omega) (by omega) h1 hx h2
    · have hh : (s.extract 1 s.size).data.toList.head? ≠ some 48 := by
        have e := drop_at (s.extract 1 s.size) 0 hx
        rw [List.drop_zero] at e
        rw [e]
        intro c
        have c1 : (s.extract 1 s.size)[0] = 48 := by simpa using c
        exact h2 (by rw [c1]; rfl)
      rw [iv_A _ (by intro e; rw [e] at hXl; simp at hXl; omega) (by omega) hh]
      have key := ri_A4 s w (by omega) (by omega) h1 hx h2 _ rfl
      cases hv : valA 0 (s.extract 1 s.size).data.toList with
      | none => rw [hv] at key; exact key
      | some u =>
        rw [hv] at key
        have e : sgn (-1) (some u) = -(u : Int) := by show -1 * (u : Int) = _; omega
        rw [e] at key
        exact key
  · have h1' : ((s[0].toNat : Int) == 45) = false := by simpa using h1
    have h4 : s.data.toList.head? ≠ some 45 := by
      rw [hS]
      intro c
      have c1 : s[0] = 45 := by simpa using c
      exact h1 (by rw [c1]; rfl)
    by_cases z2 : 9 < s.size
    · rw [iv_B2 _ h4 (by omega)]
      exact ri_B2 s w hs z2 h1'
    by_cases h2 : ((s[0].toNat : Int) == 48) = true
    · have c0 : s[0] = 48 := (byte_eq s[0] 48).1 h2
      by_cases z1 : s.size = 1
      · have e : (s.extract 1 s.size).data.toList = [] := List.length_eq_zero_iff.1 (by omega)
        rw [e, c0] at hS
        obtain ⟨⟨d⟩⟩ := s
        obtain rfl : d = [48] := hS
        rw [iv_B5]
        exact ri_B5 w
      · rw [hS, c0, iv_B3 _ (by intro e; rw [e] at hXl; simp at hXl; omega)]
        exact ri_B3 s w hs (by omega) (by omega) h1' h2
    · have h2' : ((s[0].toNat : Int) == 48) = false := by simpa using h2
      have hh : s.data.toList.head? ≠ some 48 := by
        rw [hS]
        intro c
        have c1 : s[0] = 48 := by simpa using c
        exact h2 (by rw [c1]; rfl)
      rw [iv_B _ (by rw [hS]; exact List.cons_ne_nil _ _) (by omega) h4 hh]
      have key := ri_B4 s w hp (by omega) h1' h2' _ rfl
      cases hv : valA 0 s.data.toList with
      | none => rw [hv] at key; exact key
      | some u =>
        rw [hv] at key
        have e : sgn 1 (some u) = (u : Int) := by show 1 * (u : Int) = _; omega
        rw [e] at key
        exact key
theorem co_0 (N tt : Int) (s : ByteArray) (w : World) :
    Calls Tryz.prog 71 #[.agg #[.int .i64 0, .int .i64 N, .string s], .int .i64 tt] w fun e w' => e = .returned (.agg #[.int .i64 0, .int .i64 N, .string s]) ∧ Below w.heap.size w w' := by
  go_enter Tryz.func71, Tryz.ntmps71
  go_wp2
  refine bodyPost_ret (v := .agg #[.int .i64 0, .int .i64 N, .string s]) ?_ rfl ⟨rfl, ?_⟩
  · simp [results, Tryz.results71, go_sem]
  · exact ((Below.refl _ _).alloc (Nat.le_refl _) _).alloc (by simp) _
theorem co_same (K N : Int) (s : ByteArray) (hK : (K == 0) = false) (w : World) :
    Calls Tryz.prog 71 #[.agg #[.int .i64 K, .int .i64 N, .string s], .int .i64 K] w fun e w' => e = .returned (.agg #[.int .i64 K, .int .i64 N, .string s]) ∧ Below w.heap.size w w' := by
  go_enter Tryz.func71, Tryz.ntmps71
  go_wp2
  refine bodyPost_ret (v := .agg #[.int .i64 K, .int .i64 N, .string s]) ?_ rfl ⟨rfl, ?_⟩
  · simp [results, Tryz.results71, go_sem]
  · exact ((Below.refl _ _).alloc (Nat.le_refl _) _).alloc (by simp) _
theorem co_31 (N : Int) (s : ByteArray) (w : World) :
    Calls Tryz.prog 71 #[.agg #[.int .i64 3, .int .i64 N, .string s], .int .i64 1] w fun e w' => e = .returned (.agg #[.int .i64 1, .int .i64 N, .string ⟨#[]⟩]) ∧ Below w.heap.size w w' := by
  go_enter Tryz.func71, Tryz.ntmps71
  go_wp2
  refine bodyPost_ret (v := .agg #[.int .i64 1, .int .i64 N, .string ⟨#[]⟩]) ?_ rfl ⟨rfl, ?_⟩
  · simp [results, Tryz.results71, go_sem]
  · exact ((Below.refl _ _).alloc (Nat.le_refl _) _).alloc (by simp) _
theorem co_23o (N : Int) (s : ByteArray) (ht : (s.toList == [116, 114, 117, 101]) = false) (hf : (s.toList == [102, 97, 108, 115, 101]) = false) (w : World) :
    Calls Tryz.prog 71 #[.agg #[.int .i64 2, .int .i64 N, .string s], .int .i64 3] w fun e w' => e = .returned (.agg #[.int .i64 0, .int .i64 0, .string ⟨#[]⟩]) ∧ Below w.heap.size w w' := by
  go_enter Tryz.func71, Tryz.ntmps71
  go_wp2
  refine bodyPost_ret (v := .agg #[.int .i64 0, .int .i64 0, .string ⟨#[]⟩]) ?_ rfl ⟨rfl, ?_⟩
  · simp [results, Tryz.results71, go_sem]
  · exact ((Below.refl _ _).alloc (Nat.le_refl _) _).alloc (by simp) _
theorem co_12 (N : Int) (s T : ByteArray) (w : World) (hc : ∀ W : World, Calls Tryz.prog 113 #[.int .i64 N] W fun e w' => e = .returned (.string T) ∧ Below W.heap.size W w') :
    Calls Tryz.prog 71 #[.agg #[.int .i64 1, .int .i64 N, .string s], .int .i64 2] w fun e w' => e = .returned (.agg #[.int .i64 2, .int .i64 0, .string T]) ∧ Below w.heap.size w w' := by
  go_enter Tryz.func71, Tryz.ntmps71
  go_wp2_with fail
  refine (hc _).mono ?_
  rintro e w1 ⟨rfl, b1⟩
  have hz : (w.alloc (.cells #[.int .i64 1, .int .i64 N, .string s] 49)).heap.size = w.heap.size + 1 := by simp
  have c : w1.heap[w.heap.size + 1]? = some (.cells #[.int .i64 0, .int .i64 0, .string ⟨#[]⟩] 49) := (b1.block _ (by simp)).trans (by rw [← hz]; exact heap_alloc_new _ _)
  obtain ⟨⟨c0, c1, c2⟩, f0, f1, f2⟩ := three c
  obtain ⟨⟨d0, d1, d2⟩, -⟩ := three (three_put c (.int .i64 2) (.int .i64 0) (.string T))
  have q1 : Below w.heap.size w w1 := (((Below.refl _ _).alloc (Nat.le_refl _) _).alloc (by simp) _).trans (b1.mono (by simp; omega))
  clear hc b1 c hz
  go_wp2
  have q2 : Below w.heap.size w (((w1.setCell ⟨w.heap.size + 1, 0, none⟩ (.int .i64 2)).setCell ⟨w.heap.size + 1, 1, none⟩ (.int .i64 0)).setCell ⟨w.heap.size + 1, 2, none⟩ (.string T)) := ((q1.setCell (by simp) _).setCell (by simp) _).setCell (by simp) _
  generalize ((w1.setCell ⟨w.heap.size + 1, 0, none⟩ (.int .i64 2)).setCell ⟨w.heap.size + 1, 1, none⟩ (.int .i64 0)).setCell ⟨w.heap.size + 1, 2, none⟩ (.string T) = w2 at *
  refine bodyPost_ret (v := .agg #[.int .i64 2, .int .i64 0, .string T]) ?_ rfl ⟨rfl, q2⟩
  simp [results, Tryz.results71, go_sem, d0, d1, d2]
theorem co_32 (N : Int) (s T : ByteArray) (w : World) (hc : ∀ W : World, Calls Tryz.prog 114 #[.agg #[.int .i64 3, .int .i64 N, .string s]] W fun e w' => e = .returned (.string T) ∧ Below W.heap.size W w') :
    Calls Tryz.prog 71 #[.agg #[.int .i64 3, .int .i64 N, .string s], .int .i64 2] w fun e w' => e = .returned (.agg #[.int .i64 2, .int .i64 0, .string T]) ∧ Below w.heap.size w w' := by
  go_enter Tryz.func71, Tryz.ntmps71
  go_wp2_with fail
  refine (hc _).mono ?_
  rintro e w1 ⟨rfl, b1⟩
  have hz : (w.alloc (.cells #[.int .i64 3, .int .i64 N, .string s] 49)).heap.size = w.heap.size + 1 := by simp
  have c : w1.heap[w.heap.size + 1]? = some (.cells #[.int .i64 0, .int .i64 0, .string ⟨#[]⟩] 49) := (b1.block _ (by simp)).trans (by rw [← hz]; exact heap_alloc_new _ _)
  obtain ⟨⟨c0, c1, c2⟩, f0, f1, f2⟩ := three c
  obtain ⟨⟨d0, d1, d2⟩, -⟩ := three (three_put c (.int .i64 2) (.int .i64 0) (.string T))
  have q1 : Below w.heap.size w w1 := (((Below.refl _ _).alloc (Nat.le_refl _) _).alloc (by simp) _).trans (b1.mono (by simp; omega))
  clear hc b1 c hz
  go_wp2
  have q2 : Below w.heap.size w (((w1.setCell ⟨w.heap.size + 1, 0, none⟩ (.int .i64 2)).setCell ⟨w.heap.size + 1, 1, none⟩ (.int .i64 0)).setCell ⟨w.heap.size + 1, 2, none⟩ (.string T)) := ((q1.setCell (by simp) _).setCell (by simp) _).setCell (by simp) _
  generalize ((w1.setCell ⟨w.heap.size + 1, 0, none⟩ (.int .i64 2)).setCell ⟨w.heap.size + 1, 1, none⟩ (.int .i64 0)).setCell ⟨w.heap.size + 1, 2, none⟩ (.string T) = w2 at *
  refine bodyPost_ret (v := .agg #[.int .i64 2, .int .i64 0, .string T]) ?_ rfl ⟨rfl, q2⟩
  simp [results, Tryz.results71, go_sem, d0, d1, d2]
theorem co_21y (N n : Int) (s : ByteArray) (w : World) (hc : ∀ W : World, Calls Tryz.prog 115 #[.string s] W fun e w' => e = .returned (.tuple #[.int .i64 n, .bool true]) ∧ Below W.heap.size W w') :
    Calls Tryz.prog 71 #[.agg #[.int .i64 2, .int .i64 N, .string s], .int .i64 1] w fun e w' => e = .returned (.agg #[.int .i64 1, .int .i64 n, .string ⟨#[]⟩]) ∧ Below w.heap.size w w' := by
  go_enter Tryz.func71, Tryz.ntmps71
  go_wp2_with fail
  refine (hc _).mono ?_
  rintro e w1 ⟨rfl, b1⟩
  have hz : (w.alloc (.cells #[.int .i64 2, .int .i64 N, .string s] 49)).heap.size = w.heap.size + 1 := by simp
  have c : w1.heap[w.heap.size + 1]? = some (.cells #[.int .i64 0, .int .i64 0, .string ⟨#[]⟩] 49) := (b1.block _ (by simp)).trans (by rw [← hz]; exact heap_alloc_new _ _)
  obtain ⟨⟨c0, c1, c2⟩, f0, f1, f2⟩ := three c
  obtain ⟨⟨d0, d1, d2⟩, -⟩ := three (three_put c (.int .i64 1) (.int .i64 n) (.string ⟨#[]⟩))
  have q1 : Below w.heap.size w w1 := (((Below.refl _ _).alloc (Nat.le_refl _) _).alloc (by simp) _).trans (b1.mono (by simp; omega))
  clear hc b1 c hz
  go_wp2
  have q2 : Below w.heap.size w (((w1.setCell ⟨w.heap.size + 1, 0, none⟩ (.int .i64 1)).setCell ⟨w.heap.size + 1, 1, none⟩ (.int .i64 n)).setCell ⟨w.heap.size + 1, 2, none⟩ (.string ⟨#[]⟩)) := ((q1.setCell (by simp) _).setCell (by simp) _).setCell (by simp) _
  generalize ((w1.setCell ⟨w.heap.size + 1, 0, none⟩ (.int .i64 1)).setCell ⟨w.heap.size + 1, 1, none⟩ (.int .i64 n)).setCell ⟨w.heap.size + 1, 2, none⟩ (.string ⟨#[]⟩) = w2 at *
  refine bodyPost_ret (v := .agg #[.int .i64 1, .int .i64 n, .string ⟨#[]⟩]) ?_ rfl ⟨rfl, q2⟩
  simp [results, Tryz.results71, go_sem, d0, d1, d2]
theorem co_21n (N : Int) (s : ByteArray) (w : World) (hc : ∀ W : World, Calls Tryz.prog 115 #[.string s] W fun e w' => e = .returned (.tuple #[.int .i64 0, .bool false]) ∧ Below W.heap.size W w') :
    Calls Tryz.prog 71 #[.agg #[.int .i64 2, .int .i64 N, .string s], .int .i64 1] w fun e w' => e = .returned (.agg #[.int .i64 0, .int .i64 0, .string ⟨#[]⟩]) ∧ Below w.heap.size w w' := by
  go_enter Tryz.func71, Tryz.ntmps71
  go_wp2_with fail
  refine (hc _).mono ?_
  rintro e w1 ⟨rfl, b1⟩
  have hz : (w.alloc (.cells #[.int .i64 2, .int .i64 N, .string s] 49)).heap.size = w.heap.size + 1 := by simp
  have c : w1.heap[w.heap.size + 1]? = some (.cells #[.int .i64 0, .int .i64 0, .string ⟨#[]⟩] 49) := (b1.block _ (by simp)).trans (by rw [← hz]; exact heap_alloc_new _ _)
  obtain ⟨⟨c0, c1, c2⟩, f0, f1, f2⟩ := three c
  obtain ⟨⟨d0, d1, d2⟩, -⟩ := three (three_put c (.int .i64 0) (.int .i64 0) (.string ⟨#[]⟩))
  have q1 : Below w.heap.size w w1 := (((Below.refl _ _).alloc (Nat.le_refl _) _).alloc (by simp) _).trans (b1.mono (by simp; omega))
  clear hc b1 c hz
  go_wp2
  have q2 : Below w.heap.size w (((w1.setCell ⟨w.heap.size + 1, 0, none⟩ (.int .i64 0)).setCell ⟨w.heap.size + 1, 1, none⟩ (.int .i64 0)).setCell ⟨w.heap.size + 1, 2, none⟩ (.string ⟨#[]⟩)) := ((q1.setCell (by simp) _).setCell (by simp) _).setCell (by simp) _
  generalize ((w1.setCell ⟨w.heap.size + 1, 0, none⟩ (.int .i64 0)).setCell ⟨w.heap.size + 1, 1, none⟩ (.int .i64 0)).setCell ⟨w.heap.size + 1, 2, none⟩ (.string ⟨#[]⟩) = w2 at *
  refine bodyPost_ret (v := .agg #[.int .i64 0, .int .i64 0, .string ⟨#[]⟩]) ?_ rfl ⟨rfl, q2⟩
  simp [results, Tryz.results71, go_sem, d0, d1, d2]
theorem co_13 (N m : Int) (s : ByteArray) (w : World) (hc : ∀ W : World, Calls Tryz.prog 116 #[.bool (N != 0)] W fun e w' => e = .returned (.agg #[.int .i64 3, .int .i64 m, .string ⟨#[]⟩]) ∧ Below W.heap.size W w') :
    Calls Tryz.prog 71 #[.agg #[.int .i64 1, .int .i64 N, .string s], .int .i64 3] w fun e w' => e = .returned (.agg #[.int .i64 3, .int .i64 m, .string ⟨#[]⟩]) ∧ Below w.heap.size w w' := by
  go_enter Tryz.func71, Tryz.ntmps71
  go_wp2_with fail
  refine (hc _).mono ?_
  rintro e w1 ⟨rfl, b1⟩
  have hz : (w.alloc (.cells #[.int .i64 1, .int .i64 N, .string s] 49)).heap.size = w.heap.size + 1 := by simp
  have c : w1.heap[w.heap.size + 1]? = some (.cells #[.int .i64 0, .int .i64 0, .string ⟨#[]⟩] 49) := (b1.block _ (by simp)).trans (by rw [← hz]; exact heap_alloc_new _ _)
  obtain ⟨⟨c0, c1, c2⟩, f0, f1, f2⟩ := three c
  obtain ⟨⟨d0, d1, d2⟩, -⟩ := three (three_put c (.int .i64 3) (.int .i64 m) (.string ⟨#[]⟩))
  have q1 : Below w.heap.size w w1 := (((Below.refl _ _).alloc (Nat.le_refl _) _).alloc (by simp) _).trans (b1.mono (by simp; omega))
  clear hc b1 c hz
  go_wp2
  have q2 : Below w.heap.size w (((w1.setCell ⟨w.heap.size + 1, 0, none⟩ (.int .i64 3)).setCell ⟨w.heap.size + 1, 1, none⟩ (.int .i64 m)).setCell ⟨w.heap.size + 1, 2, none⟩ (.string ⟨#[]⟩)) := ((q1.setCell (by simp) _).setCell (by simp) _).setCell (by simp) _
  generalize ((w1.setCell ⟨w.heap.size + 1, 0, none⟩ (.int .i64 3)).setCell ⟨w.heap.size + 1, 1, none⟩ (.int .i64 m)).setCell ⟨w.heap.size + 1, 2, none⟩ (.string ⟨#[]⟩) = w2 at *
  refine bodyPost_ret (v := .agg #[.int .i64 3, .int .i64 m, .string ⟨#[]⟩]) ?_ rfl ⟨rfl, q2⟩
  simp [results, Tryz.results71, go_sem, d0, d1, d2]
theorem co_23t (N m : Int) (s : ByteArray) (ht : (s.toList == [116, 114, 117, 101]) = true) (w : World) (hc : ∀ W : World, Calls Tryz.prog 116 #[.bool true] W fun e w' => e = .returned (.agg #[.int .i64 3, .int .i64 m, .string ⟨#[]⟩]) ∧ Below W.heap.size W w') :
    Calls Tryz.prog 71 #[.agg #[.int .i64 2, .int .i64 N, .string s], .int .i64 3] w fun e w' => e = .returned (.agg #[.int .i64 3, .int .i64 m, .string ⟨#[]⟩]) ∧ Below w.heap.size w w' := by
  go_enter Tryz.func71, Tryz.ntmps71
  go_wp2_with fail
  refine (hc _).mono ?_
  rintro e w1 ⟨rfl, b1⟩
  have hz : (w.alloc (.cells #[.int .i64 2, .int .i64 N, .string s] 49)).heap.size = w.heap.size + 1 := by simp
  have c : w1.heap[w.heap.size + 1]? = some (.cells #[.int .i64 0, .int .i64 0, .string ⟨#[]⟩] 49) := (b1.block _ (by simp)).trans (by rw [← hz]; exact heap_alloc_new _ _)
  obtain ⟨⟨c0, c1, c2⟩, f0, f1, f2⟩ := three c
  obtain ⟨⟨d0, d1, d2⟩, -⟩ := three (three_put c (.int .i64 3) (.int .i64 m) (.string ⟨#[]⟩))
  have q1 : Below w.heap.size w w1 := (((Below.refl _ _).alloc (Nat.le_refl _) _).alloc (by simp) _).trans (b1.mono (by simp; omega))
  clear hc b1 c hz
  go_wp2
  have q2 : Below w.heap.size w (((w1.setCell ⟨w.heap.size + 1, 0, none⟩ (.int .i64 3)).setCell ⟨w.heap.size + 1, 1, none⟩ (.int .i64 m)).setCell ⟨w.heap.size + 1, 2, none⟩ (.string ⟨#[]⟩)) := ((q1.setCell (by simp) _).setCell (by simp) _).setCell (by simp) _
  generalize ((w1.setCell ⟨w.heap.size + 1, 0, none⟩ (.int .i64 3)).setCell ⟨w.heap.size + 1, 1, none⟩ (.int .i64 m)).setCell ⟨w.heap.size + 1, 2, none⟩ (.string ⟨#[]⟩) = w2 at *
  refine bodyPost_ret (v := .agg #[.int .i64 3, .int .i64 m, .string ⟨#[]⟩]) ?_ rfl ⟨rfl, q2⟩
  simp [results, Tryz.results71, go_sem, d0, d1, d2]
theorem co_23f (N m : Int) (s : ByteArray) (ht : (s.toList == [116, 114, 117, 101]) = false) (hf : (s.toList == [102, 97, 108, 115, 101]) = true) (w : World) (hc : ∀ W : World, Calls Tryz.prog 116 #[.bool false] W fun e w' => e = .returned (.agg #[.int .i64 3, .int .i64 m, .string ⟨#[]⟩]) ∧ Below W.heap.size W w') :
    Calls Tryz.prog 71 #[.agg #[.int .i64 2, .int .i64 N, .string s], .int .i64 3] w fun e w' => e = .returned (.agg #[.int .i64 3, .int .i64 m, .string ⟨#[]⟩]) ∧ Below w.heap.size w w' := by
  go_enter Tryz.func71, Tryz.ntmps71
  go_wp2_with fail
  refine (hc _).mono ?_
  rintro e w1 ⟨rfl, b1⟩
  have hz : (w.alloc (.cells #[.int .i64 2, .int .i64 N, .string s] 49)).heap.size = w.heap.size + 1 := by simp
  have c : w1.heap[w.heap.size + 1]? = some (.cells #[.int .i64 0, .int .i64 0, .string ⟨#[]⟩] 49) := (b1.block _ (by simp)).trans (by rw [← hz]; exact heap_alloc_new _ _)
  obtain ⟨⟨c0, c1, c2⟩, f0, f1, f2⟩ := three c
  obtain ⟨⟨d0, d1, d2⟩, -⟩ := three (three_put c (.int .i64 3) (.int .i64 m) (.string ⟨#[]⟩))
  have q1 : Below w.heap.size w w1 := (((Below.refl _ _).alloc (Nat.le_refl _) _).alloc (by simp) _).trans (b1.mono (by simp; omega))
  clear hc b1 c hz
  go_wp2
  have q2 : Below w.heap.size w (((w1.setCell ⟨w.heap.size + 1, 0, none⟩ (.int .i64 3)).setCell ⟨w.heap.size + 1, 1, none⟩ (.int .i64 m)).setCell ⟨w.heap.size + 1, 2, none⟩ (.string ⟨#[]⟩)) := ((q1.setCell (by simp) _).setCell (by simp) _).setCell (by simp) _
  generalize ((w1.setCell ⟨w.heap.size + 1, 0, none⟩ (.int .i64 3)).setCell ⟨w.heap.size + 1, 1, none⟩ (.int .i64 m)).setCell ⟨w.heap.size + 1, 2, none⟩ (.string ⟨#[]⟩) = w2 at *
  refine bodyPost_ret (v := .agg #[.int .i64 3, .int .i64 m, .string ⟨#[]⟩]) ?_ rfl ⟨rfl, q2⟩
  simp [results, Tryz.results71, go_sem, d0, d1, d2]
theorem cov_any (K N tt : Int) (s : ByteArray) (w : World) (hs : s.size ≤ 140737488355328) (h : chkV K N s.data.toList = 0) (ht : tt = 1 ∨ tt = 2 ∨ tt = 3) :
    Calls Tryz.prog 71 #[.agg #[.int .i64 K, .int .i64 N, .string s], .int .i64 tt] w fun e w' => e = .returned (tvl (castV K N s.data.toList tt)) ∧ Below w.heap.size w w' := by
  have nil : ∀ s : ByteArray, s.data.toList = [] → s = ⟨#[]⟩ := by
    rintro ⟨⟨l⟩⟩ e
    obtain rfl : l = [] := e
    rfl
  rcases chk_zero h with ⟨rfl, rfl, hS⟩ | ⟨rfl, ⟨h1, h2⟩, hS⟩ | ⟨rfl, rfl, -⟩ | ⟨rfl, h1, hS⟩
  · obtain rfl := nil s hS
    rcases ht with rfl | rfl | rfl <;> exact co_0 0 _ _ w
  · obtain rfl := nil s hS
    rcases ht with rfl | rfl | rfl
    · exact co_same 1 N _ (by decide) w
    · exact co_12 N _ _ w fun W => digits_any N W (by omega) (by omega)
    · exact co_13 N _ _ w fun W => truth_any (N != 0) W
  · have ht' : (s.toList == [116, 114, 117, 101]) = decide (s.data.toList = tru) := by rw [Lib.toList_data, Bool.eq_iff_iff, beq_iff_eq, decide_eq_true_iff]; rfl
    have hf' : (s.toList == [102, 97, 108, 115, 101]) = decide (s.data.toList = fal) := by rw [Lib.toList_data, Bool.eq_iff_iff, beq_iff_eq, decide_eq_true_iff]; rfl
    rcases ht with rfl | rfl | rfl
    · have hi : ∀ W : World, Calls Tryz.prog 115 #[.string s] W fun e w' => e = .returned (.tuple #[.int .i64 ((intV s.data.toList).getD 0), .bool (intV s.data.toList).isSome]) ∧ Below W.heap.size W w' := fun W =>
        (riv_any s W hs).mono fun e W' ⟨a, b⟩ => ⟨a, by rw [b]; exact Below.refl _ _⟩
      cases hv : intV s.data.toList with
      | some n =>
        rw [hv] at hi
        rw [show castV 2 0 s.data.toList 1 = (1, n, []) by simp [castV, hv]]
        exact co_21y 0 n s w hi
      | none =>
        rw [hv] at hi
        rw [show castV 2 0 s.data.toList 1 = (0, 0, []) by simp [castV, hv]]
        exact co_21n 0 s w hi
    · exact co_same 2 0 s (by decide) w
    · by_cases t : s.data.toList = tru
      · rw [show castV 2 0 s.data.toList 3 = (3, 1, []) by simp [castV, t]]
        exact co_23t 0 1 s (by rw [ht']; simp [t]) w fun W => truth_any true W
      · by_cases f : s.data.toList = fal
        · rw [show castV 2 0 s.data.toList 3 = (3, 0, []) by simp only [castV, f]; simp [tru, fal]]
          exact co_23f 0 0 s (by rw [ht']; simp [t]) (by rw [hf']; simp [f]) w fun W => truth_any false W
        · rw [show castV 2 0 s.data.toList 3 = (0, 0, []) by simp [castV, t, f]]
          exact co_23o 0 s (by rw [ht']; simp [t]) (by rw [hf']; simp [f]) w
  · obtain rfl := nil s hS
    rcases ht with rfl | rfl | rfl
    · exact co_31 N _ w
    · exact co_32 N _ _ w fun W => text_3 N _ W
    · have e : castV 3 N [] 3 = (3, N, []) := by rcases h1 with rfl | rfl <;> decide
      show Calls Tryz.prog 71 #[.agg #[.int .i64 3, .int .i64 N, .string ⟨#[]⟩], .int .i64 3] w fun e w' => e = .returned (tvl (castV 3 N [] 3)) ∧ Below w.heap.size w w'
      rw [e]
      exact co_same 3 N _ (by decide) w
def gP (d : Dl) (z : Vl) (l : List Vl) : List Vl := if d.k = 2 then l.eraseIdx d.a.toNat else if d.k = 3 then l.set d.a.toNat z else l
theorem gP_nil (d : Dl) (z : Vl) : gP d z [] = [] := by
  unfold gP; split
  · simp
  · split <;> simp
theorem gP_else (d : Dl) (z : Vl) (l : List Vl) (j : Nat) (x : Vl) (hx : l[j]? = some x) (h : (d.k = 2 ∨ d.k = 3) → j ≠ d.a.toNat) : gP d z (l.take (j + 1)) = gP d z (l.take j) ++ [x] := by
  obtain ⟨hj, rfl⟩ := List.getElem?_eq_some_iff.1 hx
  have hl : (l.take j).length = j := by rw [List.length_take]; omega
  rw [List.take_succ_eq_append_getElem hj]
  unfold gP
  by_cases h2 : d.k = 2
  · rw [if_pos h2, if_pos h2]
    have hne := h (.inl h2)
    rcases Nat.lt_or_ge d.a.toNat j with hlt | hge
    · rw [List.eraseIdx_append_of_lt_length (by omega)]
    · rw [List.eraseIdx_of_length_le (by rw [List.length_append, hl]; simp; omega), List.eraseIdx_of_length_le (by omega)]
  rw [if_neg h2, if_neg h2]
  by_cases h3 : d.k = 3
  · rw [if_pos h3, if_pos h3]
    have hne := h (.inr h3)
    rcases Nat.lt_or_ge d.a.toNat j with hlt | hge
    · rw [List.set_append_left _ _ (by omega)]
    · rw [List.set_eq_of_length_le (by rw [List.length_append, hl]; simp; omega), List.set_eq_of_length_le (by omega)]
  rw [if_neg h3, if_neg h3]
theorem gP_skip (d : Dl) (z : Vl) (l : List Vl) (j : Nat) (hk : d.k = 2) (hj : j < l.length) (h : j = d.a.toNat) : gP d z (l.take (j + 1)) = gP d z (l.take j) := by
  have hl : (l.take j).length = j := by rw [List.length_take]; omega
  rw [List.take_succ_eq_append_getElem hj]
  unfold gP
  rw [if_pos hk, if_pos hk, ← h, List.eraseIdx_of_length_le (l := l.take j) (by omega), List.eraseIdx_append_of_length_le (by omega), hl, Nat.sub_self]
  simp
theorem gP_cast (d : Dl) (z : Vl) (l : List Vl) (j : Nat) (hk : d.k = 3) (hj : j < l.length) (h : j = d.a.toNat) : gP d z (l.take (j + 1)) = gP d z (l.take j) ++ [z] := by
  have hl : (l.take j).length = j := by rw [List.length_take]; omega
  have h2 : ¬ d.k = 2 := by omega
  rw [List.take_succ_eq_append_getElem hj]
  unfold gP
  rw [if_neg h2, if_neg h2, if_pos hk, if_pos hk, ← h, List.set_eq_of_length_le (l := l.take j) (by omega), List.set_append_right _ _ (by omega), hl, Nat.sub_self]
  rfl
theorem gP_len (d : Dl) (z : Vl) (l : List Vl) : (gP d z l).length ≤ l.length := by
  unfold gP; split
  · rw [List.length_eraseIdx]; split <;> omega
  · split
    · rw [List.length_set]; exact Nat.le_refl _
    · exact Nat.le_refl _
theorem gP_all (d : Dl) (l : List Vl) (hk : d.k = 1 ∨ d.k = 2 ∨ d.k = 3) : rowB l d = if d.k = 1 then l ++ [d.v] else gP d (castX (l.getD d.a.toNat vl0) d.ty) l := by
  unfold rowB gP
  by_cases h1 : d.k = 1
  · rw [if_pos h1, if_pos h1]
  rw [if_neg h1, if_neg h1]
  by_cases h2 : d.k = 2
  · rw [if_pos h2, if_pos h2]
  rw [if_neg h2, if_neg h2]
  by_cases h3 : d.k = 3
  · rw [if_pos h3]
  · omega
theorem own_push {w : World} {B n : Nat} {v : Value} {l l' : List Vl} {x : Vl} (h : w.ownsRow B 49 3 v (n + 1) (l.flatMap vlC ++ [.int .i64 x.k, .int .i64 x.n, .string ⟨x.s.toArray⟩])) (hn : l.length = n) (hl : l' = l ++ [x]) : Own w B v l' := by
  subst hl
  unfold Own
  rw [List.length_append, hn, flatV_append]
  have e : [x].flatMap vlC = [.int .i64 x.k, .int .i64 x.n, .string ⟨x.s.toArray⟩] := by simp [vlC]
  rw [e]; exact h
theorem way_start {r : List Vl} {L : List Dl} (hE : applyE r L = 0) : Way r L 0 r := by
  unfold applyE at hE
  by_cases h5 : 5 < r.length
  · rw [if_pos h5] at hE; cases hE
  rw [if_neg h5] at hE
  by_cases hq : (checkD (r.length : Nat) L).2 ≠ 0
  · rw [if_pos hq] at hE; exact absurd hE hq
  rw [if_neg hq] at hE
  have hq0 : (checkD (r.length : Nat) L).2 = 0 := Classical.not_not.1 hq
  unfold checkD at hq0
  rw [if_neg (by omega)] at hq0
  exact ⟨rfl, by rw [List.drop_zero]; exact hq0, hE, by omega⟩
theorem append_any {P : Program} {w : World} {ops : Array Oper} {rest : List Oper} {o : Oper} {a : Act} {Q : Exit → Act → World → Prop} (hgd : o.guard = none) (s x : Operand) (t : TypeId)
    (ho : o.op = .call { callee := .builtin .append, args := #[s, x], argTypes := #[t, t] })
    (base : Nat) (e : TypeId) (i : TypeInfo) (z : Value) (size bytes : Nat) (ht : P.underlying t = some (.slice e)) (hi : P.info? e = some i) (hz : i.zero = some z)
    (hsize : i.size = size) (hby : i.bytes = bytes) (hzs : z.cells.size = size) (hsz : 0 < size)
    (v : Value) (n : Nat) (xs : List Value) (hs : a.eval s = v) (hown : w.ownsRow base e size v n xs)
    (ao : Option Addr) (m c : Nat) (news : List Value) (hx : a.eval x = .slice ao m c) (hno : ao = none → m = 0 ∧ c = 0) (hl : news.length = m * size) (hnews : ∀ ad, ao = some ad → ∀ j u, news[j]? = some u → w.cell? (ad.add j) = some u) (h1 : ∀ u ∈ news, u.oneCell' = true)
    (h63 : n + m ≤ maxLen) (hbytes : (n + m) * bytes ≤ 140737488355328) (hbase : base ≤ w.heap.size)
    (h : ∀ v' w', w'.ownsRow base e size v' (n + m) (xs ++ news) → w.grownBy w' v.ownBlock → wpList P ops Q rest (a.put o.dst v') w') : wpList P ops Q (o :: rest) a w := by
  cases ao with
  | some ad => exact wpList_append_own _ hgd s x t ho base e i z size bytes ht hi hz hsize hby hzs hsz v n xs hs hown ad m c news hx hl (hnews ad rfl) h1 h63 hbytes hbase fun v' w' h2 h3 _ => h v' w' h2 h3
  | none =>
    obtain ⟨rfl, rfl⟩ := hno rfl
    have hn : news = [] := List.eq_nil_of_length_eq_zero (by rw [hl]; simp)
    subst hn
    exact wpList_append_own_none hgd s x t ho base e i size ht hi v n xs hs hown hx (h v w (by simpa using hown) ⟨rfl, rfl, rfl, Nat.le_refl _, fun _ _ _ => rfl⟩)
theorem owned_below {w w' : World} {B : Nat} {v : Value} {n : Nat} {fl : List Value} (h : w.ownsRow B 49 3 v n fl) (hb : Below w.heap.size w w') : w'.ownsRow B 49 3 v n fl := by
  refine ⟨h.1, ?_⟩
  rcases h.2 with h' | ⟨g, cap, cur, hv, hB, hg, r⟩
  · exact .inl h'
  · exact .inr ⟨g, cap, cur, hv, hB, (hb.block g (ltS hg)).trans hg, r⟩
theorem Own.owned {w w' : World} {N : Nat} {v : Value} {n : Nat} {fl : List Value} (h : w.ownsRow N 49 3 v n fl) (hb : Below w.drew.heap.size w.drew w') : w'.ownsRow N 49 3 v n fl := by
  refine ⟨h.1, ?_⟩
  rcases h.2 with h' | ⟨g, cap, cur, hv, hB, hg, r⟩
  · exact .inl h'
  · exact .inr ⟨g, cap, cur, hv, hB, (hb.block g (ltS hg)).trans hg, r⟩
theorem rap_any (r : List Vl) (L : List Dl) (u v : Value) (w : World) (hu : VsAt w u r) (hz : ∀ ao cap, u = .slice ao 0 cap → ao = none → cap = 0) (hv : DsAt w v L) (hE : applyE r L = 0) :
    Calls Tryz.prog 23 #[u, v] w fun e w' => ∃ x, e = .returned x ∧ Own w' w.heap.size x (L.foldl rowB r) ∧ Below w.heap.size w w' := by
  obtain ⟨i0, hi, hz0, hz1, hz2⟩ := info_parts Tryz.info_val
  obtain ⟨PP, hPP⟩ : ∃ PP : Ending → World → Prop, PP = fun e w' => ∃ x, e = .returned x ∧ Own w' w.heap.size x (L.foldl rowB r) ∧ Below w.heap.size w w' := ⟨_, rfl⟩
  have HP : Hid (∀ (x : Value) (w' : World), Own w' w.heap.size x (L.foldl rowB r) → Below w.heap.size w w' → PP (.returned x) w') := by
    intro x w' h1 h2
    rw [hPP]
    exact ⟨x, rfl, h1, h2⟩
  refine Calls.mono (R := PP) ?_ (by rw [hPP]; exact fun _ _ h => h)
  have HW : Hid (Way r L 0 r) := way_start hE
  have hr5 : r.length ≤ 5 := HW.out.few
  obtain ⟨ao, ca, rfl, hul, hus, huc⟩ := hu
  obtain ⟨bo, cb, rfl, -, -, hlen, -, hcc⟩ := hv
  obtain ⟨m, hm⟩ : ∃ m, L.length = m := ⟨_, rfl⟩
  have HC : Hid (L ≠ [] → ∃ g o, bo = some ⟨g, o, none⟩ ∧ g < w.heap.size ∧ ∀ i x, L[i]? = some x → Dc w g (o + i * 6) x) := hcc
  have hno : ao = none → r.length = 0 ∧ ca = 0 := by
    intro h
    have h0 : r = [] := by
      rcases Classical.em (r = []) with h' | h'
      · exact h'
      · obtain ⟨g, o, e, -⟩ := huc h'; rw [h] at e; cases e
    subst h0
    exact ⟨rfl, hz ao ca rfl h⟩
  have hnews : ∀ ad, ao = some ad → ∀ j x, (r.flatMap vlC)[j]? = some x → (w.alloc (.cells #[] 49)).cell? (ad.add j) = some x := by
    intro ad had j x hj
    rcases Classical.em (r = []) with h | h
    · rw [h] at hj; simp at hj
    · obtain ⟨g, o, e, hg, hcc⟩ := huc h
      rw [had] at e
      cases e
      rw [Go.WideShapes.add_plain]
      exact (((Below.refl w.heap.size w).alloc (Nat.le_refl _) _).cell (p := ⟨g, o + j, none⟩) hg).trans (VsAt.cells hcc j x hj)
  have hnl := flatV_len r
  have h1 := flatV_one r
  have b0 := (Below.refl w.heap.size w).alloc (Nat.le_refl _) (.cells #[] 49)
  rw [hm] at hlen ⊢
  obtain ⟨n, hn⟩ : ∃ n, r.length = n := ⟨_, rfl⟩
  rw [hn] at hul hno hnl hr5 ⊢
  have HFR : Hid (∀ v' w', w'.ownsRow w.heap.size 49 3 v' (0 + n) ([] ++ r.flatMap vlC) → Own w' w.heap.size v' r) := by
    intro v' w' h
    unfold Own
    rw [hn]
    simpa using h
  generalize r.flatMap vlC = news at hnews hnl h1 HFR
  clear huc hus hz hcc hPP hE
  go_enter Tryz.func23, Tryz.ntmps23
  go_wp2_with (at_builtin; refine append_any rfl _ _ 41 rfl w.heap.size 49 i0 (.agg #[.int .i64 0, .int .i64 0, .string ⟨#[]⟩]) 3 32 Tryz.underlying41 hi hz0 hz1 hz2 rfl (by decide) _ _ _ rfl (World.ownsRow_made w #[] 0 (Nat.le_refl _) (Nat.zero_le _) rfl) ao n ca news rfl hno hnl hnews h1 ?c3 ?c4 ?c5 ?_)
  case c3 => unfold maxLen; omega
  case c4 => omega
  case c5 => simp
  intro v1 w1 hown hgrow
  have q1 := b0.grown hgrow (by simp) (fun j hj => by cases hj; exact Nat.le_refl _)
  have O1 := hide (HFR.out v1 w1 (by simpa using hown))
  obtain ⟨va, vc, hv1⟩ := owns_slice O1.out
  rw [hn] at hv1
  subst hv1
  clear hnews hnl h1 b0 hown hgrow HFR hno
  go_wp2_with fail
  go_loopw [5, 6] (fun x i wl => ∃ (k : Nat) (rk : List Vl), k ≤ m ∧ i = .int .i64 k ∧ Hid (Own wl w.heap.size x rk) ∧ Below w.heap.size w wl ∧ Hid (Way r L k rk)) (fun _ i _ => m - (intOf i).toNat)
  case atStart => exact ⟨0, r, Nat.zero_le _, rfl, O1, q1, HW⟩
  case round =>
    obtain ⟨k, rk, hk, rfl, OK, hnx, HK⟩ := hrel
    clear O1 q1 HW
    by_cases hlt : k < m
    · obtain ⟨d, hd⟩ : ∃ d, L[k]? = some d := ⟨L[k], List.getElem?_eq_getElem (by omega)⟩
      obtain ⟨g, o, rfl, hg, hcc⟩ := HC.out (by intro e; rw [e] at hd; cases hd)
      obtain ⟨a0, a1, a2, a3, a4, a5⟩ := (hcc k d hd).keep (hnx.block g hg)
      have hlt' : (k : Int) < (m : Int) := by omega
      obtain ⟨hw, hway⟩ := HK.out.next hd
      have HK2 := hide hway
      have hsz := hnx.size
      have hr5 := HK.out.few
      have hrb := HK.out.right
      obtain ⟨dk, da, dt, dv⟩ := d
      have qw := hnx.alloc hsz (.cells #[.int .i64 dk, .int .i64 da, .int .i64 dt, .int .i64 dv.k, .int .i64 dv.n, .string ⟨dv.s.toArray⟩] 51)
      have KB := hide (heap_alloc_new wr (.cells #[.int .i64 dk, .int .i64 da, .int .i64 dt, .int .i64 dv.k, .int .i64 dv.n, .string ⟨dv.s.toArray⟩] 51))
      have hbN : wr.heap.size < (wr.alloc (.cells #[.int .i64 dk, .int .i64 da, .int .i64 dt, .int .i64 dv.k, .int .i64 dv.n, .string ⟨dv.s.toArray⟩] 51)).heap.size := by simp
      have OW := hide (OK.out.alloc (.cells #[.int .i64 dk, .int .i64 da, .int .i64 dt, .int .i64 dv.k, .int .i64 dv.n, .string ⟨dv.s.toArray⟩] 51))
      obtain ⟨oa, oc, hov⟩ := owns_slice OK.out
      subst hov
      obtain ⟨rn, hrn⟩ : ∃ rn, rk.length = rn := ⟨_, rfl⟩
      rw [hrn] at hr5 OW ⊢
      obtain ⟨z, HZ1⟩ : ∃ z, Hid (castX (rk.getD da.toNat vl0) dt = z) := ⟨_, rfl⟩
      clear hcc hd HC hway OK
      simp only at a0 a1 a2 a3 a4 a5
      rcases widB_ok hw with ⟨e, -⟩ | ⟨e, y0, y1, -⟩ | ⟨e, y0, y1, t0, t1, -⟩
      · simp only at e
        subst e
        clear hw HK HZ1
        go_wp2_with fail
        generalize hW0 : wr.alloc (.cells #[.int .i64 1, .int .i64 da, .int .i64 dt, .int .i64 dv.k, .int .i64 dv.n, .string ⟨dv.s.toArray⟩] 51) = W0 at *
        generalize hbb : wr.heap.size = bb at *
        clear hW0 hbb
        obtain ⟨N, hN⟩ : ∃ N, W0.heap.size = N := ⟨_, rfl⟩
        rw [hN] at hbN
        go_loopw [8, 9] (fun x i wl => ∃ j : Nat, j ≤ rn ∧ i = .int .i64 j ∧ Hid (Own wl N x (gP ⟨1, da, dt, dv⟩ z (rk.take j))) ∧ Below N W0 wl) (fun _ i _ => rn - (intOf i).toNat)
        case atStart => exact ⟨0, Nat.zero_le _, rfl, by rw [List.take_zero, gP_nil]; exact World.ownsRow_nil _ _ _ _, Below.refl _ _⟩
        case round =>
          obtain ⟨j, hj, rfl, OX, hin⟩ := hrel
          obtain ⟨d0, d1, d2, d3, d4, d5⟩ := six_at ((hin.block bb hbN).trans KB.out)
          have hszN : N ≤ wr.heap.size := by have := hin.size; omega
          have hNw : w.heap.size ≤ N := by have := qw.size; omega
          obtain ⟨acc, hacc⟩ : ∃ acc, gP ⟨1, da, dt, dv⟩ z (rk.take j) = acc := ⟨_, rfl⟩
          obtain ⟨cn, hcn⟩ : ∃ cn, acc.length = cn := ⟨_, rfl⟩
          have hcn5 : cn ≤ 5 := by
            have := gP_len ⟨1, da, dt, dv⟩ z (rk.take j)
            rw [hacc, List.length_take] at this
            omega
          by_cases hlj : j < rn
          · obtain ⟨x, hx⟩ : ∃ x, rk[j]? = some x := ⟨rk[j], List.getElem?_eq_getElem (by omega)⟩
            have hOo := owned_below OW.out (by rw [hN]; exact hin)
            obtain ⟨og, oc', hov, -⟩ := owns_some hOo (by omega)
            cases hov
            obtain ⟨f0, f1, f2⟩ := flatV_get rk j x hx
            have e0 := (hOo.cellAt (j * 3) (by omega)).trans f0
            have e1 := (hOo.cellAt (j * 3 + 1) (by omega)).trans f1
            have e2 := (hOo.cellAt (j * 3 + 2) (by omega)).trans f2
            have hlj' : (j : Int) < (rn : Int) := by omega
            clear hOo f0 f1 f2
            have HN : Hid (acc ++ [x] = gP ⟨1, da, dt, dv⟩ z (rk.take (j + 1))) := by rw [Hid, ← hacc]; exact (gP_else _ z rk j x hx (by intro h; rcases h with h | h <;> cases h)).symm
            have ho := OX.out
            rw [hacc] at ho
            obtain ⟨xa, xc, hx0⟩ := owns_slice ho
            subst hx0
            have ox := ho.alloc (.cells #[.int .i64 x.k, .int .i64 x.n, .string ⟨x.s.toArray⟩] 49)
            have hnw := World.news_of_block (cs := #[.int .i64 x.k, .int .i64 x.n, .string ⟨x.s.toArray⟩]) (t := 49) (fr := (0, 0)) (heap_alloc_new wr (.cells #[.int .i64 x.k, .int .i64 x.n, .string ⟨x.s.toArray⟩] 49))
            have hxlt := ox.lt
            unfold Own at ox
            rw [hcn] at ox hxlt ⊢
            generalize hfl : acc.flatMap vlC = fl at ox
            clear hx OX hacc
            go_wp2_with (at_builtin; refine wpList_append_own _ rfl _ _ 41 rfl N 49 i0 (.agg #[.int .i64 0, .int .i64 0, .string ⟨#[]⟩]) 3 32 Tryz.underlying41 hi hz0 hz1 hz2 rfl (by decide) _ _ _ rfl ox ⟨wr.heap.size, 0, none⟩ 1 1 [.int .i64 x.k, .int .i64 x.n, .string ⟨x.s.toArray⟩] rfl rfl hnw (by intro y hy; simp only [List.mem_cons, List.not_mem_nil, or_false] at hy; rcases hy with rfl | rfl | rfl <;> rfl) ?c3 ?c4 ?c5 ?_)
            case c3 => unfold maxLen; omega
            case c4 => omega
            case c5 => first | omega | (simp; omega)
            intro v3 w3 hown hgrow _
            have hb3 : Below N W0 w3 := (hin.alloc hszN _).grown hgrow (by simp; omega) (fun q hq => (hxlt q hq).1)
            have HO3 := hide (own_push (l := acc) (by rw [hfl]; exact hown) hcn HN.out.symm)
            clear hown hgrow ox hxlt hnw ho
            go_wp2
            go_roundw
            case rel => exact ⟨j + 1, by omega, by go_num, HO3, hb3⟩
            case measure => simp [intOf]; omega
          · obtain rfl : j = rn := by omega
            have HR : Hid (acc ++ [dv] = rowB rk ⟨1, da, dt, dv⟩) := by
              rw [Hid, ← hacc, gP_all _ _ (.inl rfl), List.take_of_length_le (by omega)]; rfl
            have ho := OX.out
            rw [hacc] at ho
            obtain ⟨xa, xc, hx0⟩ := owns_slice ho
            subst hx0
            have ox := ho.alloc (.cells #[.int .i64 dv.k, .int .i64 dv.n, .string ⟨dv.s.toArray⟩] 49)
            have hnw := World.news_of_block (cs := #[.int .i64 dv.k, .int .i64 dv.n, .string ⟨dv.s.toArray⟩]) (t := 49) (fr := (0, 0)) (heap_alloc_new wr (.cells #[.int .i64 dv.k, .int .i64 dv.n, .string ⟨dv.s.toArray⟩] 49))
            have hxlt := ox.lt
            unfold Own at ox
            rw [hcn] at ox hxlt ⊢
            generalize hfl : acc.flatMap vlC = fl at ox
            clear OX hacc
            go_wp2_with (at_builtin; refine wpList_append_own _ rfl _ _ 41 rfl N 49 i0 (.agg #[.int .i64 0, .int .i64 0, .string ⟨#[]⟩]) 3 32 Tryz.underlying41 hi hz0 hz1 hz2 rfl (by decide) _ _ _ rfl ox ⟨wr.heap.size, 0, none⟩ 1 1 [.int .i64 dv.k, .int .i64 dv.n, .string ⟨dv.s.toArray⟩] rfl rfl hnw (by intro y hy; simp only [List.mem_cons, List.not_mem_nil, or_false] at hy; rcases hy with rfl | rfl | rfl <;> rfl) ?c3 ?c4 ?c5 ?_)
            case c3 => unfold maxLen; omega
            case c4 => omega
            case c5 => first | omega | (simp; omega)
            intro v3 w3 hown hgrow _
            have hb3 : Below N W0 w3 := (hin.alloc hszN _).grown hgrow (by simp; omega) (fun q hq => (hxlt q hq).1)
            have HO3 := hide (Own.mono (own_push (l := acc) (by rw [hfl]; exact hown) hcn HR.out.symm) hNw)
            have q3 := qw.trans (hb3.mono hNw)
            clear hown hgrow ox hxlt hnw ho
            go_wp2
            go_roundw
            case rel => exact ⟨k + 1, _, by omega, by go_num, HO3, q3, HK2⟩
            case measure => simp [intOf]; omega
      · simp only at e y0 y1
        subst e
        clear hw HK
        go_wp2_with fail
        generalize hW0 : wr.alloc (.cells #[.int .i64 2, .int .i64 da, .int .i64 dt, .int .i64 dv.k, .int .i64 dv.n, .string ⟨dv.s.toArray⟩] 51) = W0 at *
        generalize hbb : wr.heap.size = bb at *
        clear hW0 hbb
        obtain ⟨N, hN⟩ : ∃ N, W0.heap.size = N := ⟨_, rfl⟩
        rw [hN] at hbN
        go_loopw [8, 9] (fun x i wl => ∃ j : Nat, j ≤ rn ∧ i = .int .i64 j ∧ Hid (Own wl N x (gP ⟨2, da, dt, dv⟩ z (rk.take j))) ∧ Below N W0 wl) (fun _ i _ => rn - (intOf i).toNat)
        case atStart => exact ⟨0, Nat.zero_le _, rfl, by rw [List.take_zero, gP_nil]; exact World.ownsRow_nil _ _ _ _, Below.refl _ _⟩
        case round =>
          obtain ⟨j, hj, rfl, OX, hin⟩ := hrel
          obtain ⟨d0, d1, d2, d3, d4, d5⟩ := six_at ((hin.block bb hbN).trans KB.out)
          have hszN : N ≤ wr.heap.size := by have := hin.size; omega
          have hNw : w.heap.size ≤ N := by have := qw.size; omega
          obtain ⟨acc, hacc⟩ : ∃ acc, gP ⟨2, da, dt, dv⟩ z (rk.take j) = acc := ⟨_, rfl⟩
          obtain ⟨cn, hcn⟩ : ∃ cn, acc.length = cn := ⟨_, rfl⟩
          have hcn5 : cn ≤ 5 := by
            have := gP_len ⟨2, da, dt, dv⟩ z (rk.take j)
            rw [hacc, List.length_take] at this
            omega
          by_cases hlj : j < rn
          · obtain ⟨x, hx⟩ : ∃ x, rk[j]? = some x := ⟨rk[j], List.getElem?_eq_getElem (by omega)⟩
            have hOo := owned_below OW.out (by rw [hN]; exact hin)
            obtain ⟨og, oc', hov, -⟩ := owns_some hOo (by omega)
            cases hov
            obtain ⟨f0, f1, f2⟩ := flatV_get rk j x hx
            have e0 := (hOo.cellAt (j * 3) (by omega)).trans f0
            have e1 := (hOo.cellAt (j * 3 + 1) (by omega)).trans f1
            have e2 := (hOo.cellAt (j * 3 + 2) (by omega)).trans f2
            have hlj' : (j : Int) < (rn : Int) := by omega
            clear hOo f0 f1 f2
            by_cases hja : j = da.toNat
            · have hji : (j : Int) = da := by omega
              have HN : Hid (gP ⟨2, da, dt, dv⟩ z (rk.take j) = gP ⟨2, da, dt, dv⟩ z (rk.take (j + 1))) := (gP_skip _ z rk j rfl (by omega) hja).symm
              have ho := OX.out
              rw [HN.out] at ho
              obtain ⟨xa, xc, hx0⟩ := owns_slice ho
              subst hx0
              have HO3 := hide ho
              clear hx OX hacc ho HN hja hcn
              subst hji
              go_wp2
              go_roundw
              case rel => exact ⟨j + 1, by omega, by go_num, HO3, hin⟩
              case measure => simp [intOf]; omega
            · have hne : j ≠ (⟨2, da, dt, dv⟩ : Dl).a.toNat := hja
              have hji : ¬ (j : Int) = da := by omega
              have HN : Hid (acc ++ [x] = gP ⟨2, da, dt, dv⟩ z (rk.take (j + 1))) := by rw [Hid, ← hacc]; exact (gP_else _ z rk j x hx (fun _ => hne)).symm
              have ho := OX.out
              rw [hacc] at ho
              obtain ⟨xa, xc, hx0⟩ := owns_slice ho
              subst hx0
              have ox := ho.alloc (.cells #[.int .i64 x.k, .int .i64 x.n, .string ⟨x.s.toArray⟩] 49)
              have hnw := World.news_of_block (cs := #[.int .i64 x.k, .int .i64 x.n, .string ⟨x.s.toArray⟩]) (t := 49) (fr := (0, 0)) (heap_alloc_new wr (.cells #[.int .i64 x.k, .int .i64 x.n, .string ⟨x.s.toArray⟩] 49))
              have hxlt := ox.lt
              unfold Own at ox
              rw [hcn] at ox hxlt ⊢
              generalize hfl : acc.flatMap vlC = fl at ox
              clear hx OX hacc
              go_wp2_with (at_builtin; refine wpList_append_own _ rfl _ _ 41 rfl N 49 i0 (.agg #[.int .i64 0, .int .i64 0, .string ⟨#[]⟩]) 3 32 Tryz.underlying41 hi hz0 hz1 hz2 rfl (by decide) _ _ _ rfl ox ⟨wr.heap.size, 0, none⟩ 1 1 [.int .i64 x.k, .int .i64 x.n, .string ⟨x.s.toArray⟩] rfl rfl hnw (by intro y hy; simp only [List.mem_cons, List.not_mem_nil, or_false] at hy; rcases hy with rfl | rfl | rfl <;> rfl) ?c3 ?c4 ?c5 ?_)
              case c3 => unfold maxLen; omega
              case c4 => omega
              case c5 => first | omega | (simp; omega)
              intro v3 w3 hown hgrow _
              have hb3 : Below N W0 w3 := (hin.alloc hszN _).grown hgrow (by simp; omega) (fun q hq => (hxlt q hq).1)
              have HO3 := hide (own_push (l := acc) (by rw [hfl]; exact hown) hcn HN.out.symm)
              clear hown hgrow ox hxlt hnw ho
              go_wp2
              go_roundw
              case rel => exact ⟨j + 1, by omega, by go_num, HO3, hb3⟩
              case measure => simp [intOf]; omega
          · obtain rfl : j = rn := by omega
            have ho := OX.out
            have HR : gP ⟨2, da, dt, dv⟩ z (rk.take j) = rowB rk ⟨2, da, dt, dv⟩ := by
              rw [gP_all _ _ (.inr (.inl rfl)), List.take_of_length_le (by omega), HZ1.out]; rfl
            rw [HR] at ho
            obtain ⟨xa, xc, hx0⟩ := owns_slice ho
            subst hx0
            have HO3 := hide (Own.mono ho hNw)
            have q3 := qw.trans (hin.mono hNw)
            clear OX hacc ho HR
            go_wp2
            go_roundw
            case rel => exact ⟨k + 1, _, by omega, by go_num, HO3, q3, HK2⟩
            case measure => simp [intOf]; omega
      · simp only at e y0 y1 t0 t1
        subst e
        have HZ : Hid (∀ x, x = rk.getD da.toNat vl0 → ∀ W, Calls Tryz.prog 71 #[.agg #[.int .i64 x.k, .int .i64 x.n, .string ⟨x.s.toArray⟩], .int .i64 dt] W fun e w' => e = .returned (.agg #[.int .i64 z.k, .int .i64 z.n, .string ⟨z.s.toArray⟩]) ∧ Below W.heap.size W w') := by
          intro x hx W
          have hmem : x ∈ rk := by
            have hl : da.toNat < rk.length := by omega
            rw [hx, List.getD_eq_getElem?_getD, List.getElem?_eq_getElem hl]
            exact List.getElem_mem _
          have hc := (badL_zero rk).1 hrb x hmem
          have hsx := short_of hc
          have := cov_any x.k x.n dt ⟨x.s.toArray⟩ W (by rw [size_mk]; omega) (by simpa using hc) (by omega)
          have e0 : (⟨x.s.toArray⟩ : ByteArray).data.toList = x.s := by simp
          rw [e0] at this
          rw [← HZ1.out, ← hx]
          exact this
        clear hw HK
        go_wp2_with fail
        generalize hW0 : wr.alloc (.cells #[.int .i64 3, .int .i64 da, .int .i64 dt, .int .i64 dv.k, .int .i64 dv.n, .string ⟨dv.s.toArray⟩] 51) = W0 at *
        generalize hbb : wr.heap.size = bb at *
        clear hW0 hbb
        obtain ⟨N, hN⟩ : ∃ N, W0.heap.size = N := ⟨_, rfl⟩
        rw [hN] at hbN
        go_loopw [8, 9] (fun x i wl => ∃ j : Nat, j ≤ rn ∧ i = .int .i64 j ∧ Hid (Own wl N x (gP ⟨3, da, dt, dv⟩ z (rk.take j))) ∧ Below N W0 wl) (fun _ i _ => rn - (intOf i).toNat)
        case atStart => exact ⟨0, Nat.zero_le _, rfl, by rw [List.take_zero, gP_nil]; exact World.ownsRow_nil _ _ _ _, Below.refl _ _⟩
        case round =>
          obtain ⟨j, hj, rfl, OX, hin⟩ := hrel
          obtain ⟨d0, d1, d2, d3, d4, d5⟩ := six_at ((hin.block bb hbN).trans KB.out)
          have hszN : N ≤ wr.heap.size := by have := hin.size; omega
          have hNw : w.heap.size ≤ N := by have := qw.size; omega
          obtain ⟨acc, hacc⟩ : ∃ acc, gP ⟨3, da, dt, dv⟩ z (rk.take j) = acc := ⟨_, rfl⟩
          obtain ⟨cn, hcn⟩ : ∃ cn, acc.length = cn := ⟨_, rfl⟩
          have hcn5 : cn ≤ 5 := by
            have := gP_len ⟨3, da, dt, dv⟩ z (rk.take j)
            rw [hacc, List.length_take] at this
            omega
          by_cases hlj : j < rn
          · obtain ⟨x, hx⟩ : ∃ x, rk[j]? = some x := ⟨rk[j], List.getElem?_eq_getElem (by omega)⟩
            have hOo := owned_below OW.out (by rw [hN]; exact hin)
            obtain ⟨og, oc', hov, -⟩ := owns_some hOo (by omega)
            cases hov
            obtain ⟨f0, f1, f2⟩ := flatV_get rk j x hx
            have e0 := (hOo.cellAt (j * 3) (by omega)).trans f0
            have e1 := (hOo.cellAt (j * 3 + 1) (by omega)).trans f1
            have e2 := (hOo.cellAt (j * 3 + 2) (by omega)).trans f2
            have hlj' : (j : Int) < (rn : Int) := by omega
            clear hOo f0 f1 f2
            by_cases hja : j = da.toNat
            · have hji : (j : Int) = da := by omega
              have hxz : x = rk.getD da.toNat vl0 := by rw [← hja, List.getD_eq_getElem?_getD, hx]; rfl
              have HN : Hid (acc ++ [z] = gP ⟨3, da, dt, dv⟩ z (rk.take (j + 1))) := by rw [Hid, ← hacc]; exact (gP_cast _ z rk j rfl (by omega) hja).symm
              have hcast := HZ.out x hxz
              have ho := OX.out
              rw [hacc] at ho
              obtain ⟨xa, xc, hx0⟩ := owns_slice ho
              subst hx0
              have hxlt := ho.lt
              have ox := ho
              unfold Own at ox
              rw [hcn] at ox hxlt ⊢
              generalize hfl : acc.flatMap vlC = fl at ox
              have OXX := hide ox
              clear hx OX hacc hja hxz ho ox
              subst hji
              go_wp2_with fail
              go_region_law (first | (refine step_append_lies _ (by rfl) _ _ _ (by rfl) N 49 i0 _ 3 32 Tryz.underlying41 hi hz0 hz1 hz2 rfl (by omega) (.slice xa cn xc) cn fl (by rfl) (OC.out.alloc _) ⟨wc.heap.size, 0, none⟩ 1 1 [.int .i64 z.k, .int .i64 z.n, .string ⟨z.s.toArray⟩] (by rfl) (by rfl) (World.news_of_block (cs := #[.int .i64 z.k, .int .i64 z.n, .string ⟨z.s.toArray⟩]) (t := 49) (fr := (0, 0)) (heap_alloc_new wc _)) (by simp [Value.oneCell']) (by omega) (by unfold maxLen; omega) (by omega) (by simp; omega) (wc.heap.size + 1) (by simp) ?_; intro gg cap' w3 hown hgrow _ _) | (go_simp; refine (hcast _ ).mono ?_; rintro e wc ⟨rfl, bc⟩; have OC := hide (Own.owned OXX.out bc); have hinc := hin.drew.trans (bc.mono hszN); have hszc : N ≤ wc.heap.size := Nat.le_trans hszN bc.size; dsimp only))
              all_goals (
                have hb3 : Below N W0 w3 := (hinc.alloc hszc _).grown hgrow (by simp; omega) (fun q hq => (hxlt q hq).1)
                have HO3 := hide (own_push (l := acc) (by rw [hfl]; exact hown) hcn HN.out.symm)
                clear hown hgrow
                go_wp2
                go_roundw
                case rel => exact ⟨j + 1, by omega, by go_num, HO3, hb3⟩
                case measure => simp [intOf]; omega)
            · have hne : j ≠ (⟨3, da, dt, dv⟩ : Dl).a.toNat := hja
              have hji : ¬ (j : Int) = da := by omega
              have HN : Hid (acc ++ [x] = gP ⟨3, da, dt, dv⟩ z (rk.take (j + 1))) := by rw [Hid, ← hacc]; exact (gP_else _ z rk j x hx (fun _ => hne)).symm
              have ho := OX.out
              rw [hacc] at ho
              obtain ⟨xa, xc, hx0⟩ := owns_slice ho
              subst hx0
              have ox := ho.alloc (.cells #[.int .i64 x.k, .int .i64 x.n, .string ⟨x.s.toArray⟩] 49)
              have hnw := World.news_of_block (cs := #[.int .i64 x.k, .int .i64 x.n, .string ⟨x.s.toArray⟩]) (t := 49) (fr := (0, 0)) (heap_alloc_new wr (.cells #[.int .i64 x.k, .int .i64 x.n, .string ⟨x.s.toArray⟩] 49))
              have hxlt := ox.lt
              unfold Own at ox
              rw [hcn] at ox hxlt ⊢
              generalize hfl : acc.flatMap vlC = fl at ox
              clear hx OX hacc
              go_wp2_with (at_builtin; refine wpList_append_own _ rfl _ _ 41 rfl N 49 i0 (.agg #[.int .i64 0, .int .i64 0, .string ⟨#[]⟩]) 3 32 Tryz.underlying41 hi hz0 hz1 hz2 rfl (by decide) _ _ _ rfl ox ⟨wr.heap.size, 0, none⟩ 1 1 [.int .i64 x.k, .int .i64 x.n, .string ⟨x.s.toArray⟩] rfl rfl hnw (by intro y hy; simp only [List.mem_cons, List.not_mem_nil, or_false] at hy; rcases hy with rfl | rfl | rfl <;> rfl) ?c3 ?c4 ?c5 ?_)
              case c3 => unfold maxLen; omega
              case c4 => omega
              case c5 => first | omega | (simp; omega)
              intro v3 w3 hown hgrow _
              have hb3 : Below N W0 w3 := (hin.alloc hszN _).grown hgrow (by simp; omega) (fun q hq => (hxlt q hq).1)
              have HO3 := hide (own_push (l := acc) (by rw [hfl]; exact hown) hcn HN.out.symm)
              clear hown hgrow ox hxlt hnw ho
              go_wp2
              go_roundw
              case rel => exact ⟨j + 1, by omega, by go_num, HO3, hb3⟩
              case measure => simp [intOf]; omega
          · obtain rfl : j = rn := by omega
            have ho := OX.out
            have HR : gP ⟨3, da, dt, dv⟩ z (rk.take j) = rowB rk ⟨3, da, dt, dv⟩ := by
              rw [gP_all _ _ (.inr (.inr rfl)), List.take_of_length_le (by omega), HZ1.out]; rfl
            rw [HR] at ho
            obtain ⟨xa, xc, hx0⟩ := owns_slice ho
            subst hx0
            have HO3 := hide (Own.mono ho hNw)
            have q3 := qw.trans (hin.mono hNw)
            clear OX hacc ho HR
            go_wp2
            go_roundw
            case rel => exact ⟨k + 1, _, by omega, by go_num, HO3, q3, HK2⟩
            case measure => simp [intOf]; omega
    · obtain rfl : k = m := by omega
      have hq := OK.out
      rw [HK.out.is, List.take_of_length_le (by omega)] at hq
      have HF := hide hq
      obtain ⟨ra, rc, hrv⟩ := owns_slice OK.out
      subst hrv
      clear OK HK HC hq
      go_wp2
      exact HP.out _ _ HF.out hnx
end Go.Proofs.YtcnnjladaoaeiaaGreatDoor
