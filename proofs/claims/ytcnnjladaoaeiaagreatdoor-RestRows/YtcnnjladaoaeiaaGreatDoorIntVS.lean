/-
  'intOf' of package overhaulref answers what package value's own does.
-/
import Derived.Test.YtcnnjladaoaeiaaGreatDoorIntVA
import Derived.Test.YtcnnjladaoaeiaaGreatDoorIntVB
import Derived.Test.YtcnnjladaoaeiaaGreatDoorIntVP
namespace Go.Proofs.YtcnnjladaoaeiaaGreatDoor
open Go.RowKit

theorem toList_pos (s : ByteArray) (h : 0 < s.size) : s.data.toList = s[0] :: (s.extract 1 s.size).data.toList := by
  have h0 := drop_at s 0 h
  rw [List.drop_zero] at h0
  rw [h0]
  congr 1
  have : (s.extract 1 s.size).data = s.data.extract 1 s.size := by simp
  rw [this, Array.toList_extract]
  have hl : s.data.toList.length = s.size := Array.length_toList
  rw [List.extract_eq_take_drop]
  rw [List.take_of_length_le (by rw [List.length_drop]; omega)]

theorem byte_eq (c d : UInt8) : ((c.toNat : Int) == (d.toNat : Int)) = true ↔ c = d := by
  rw [beq_iff_eq]
  constructor
  · intro h; exact UInt8.toNat_inj.1 (by omega)
  · rintro rfl; rfl

theorem riv_any (s : ByteArray) (w : World) (hs : s.size ≤ 140737488355328) :
    Calls Tryz.prog 115 #[.string s] w fun e w' => e = .returned (.tuple #[.int .i64 ((intV s.data.toList).getD 0), .bool (intV s.data.toList).isSome]) ∧ w' = w := by
  have hlen : s.data.toList.length = s.size := Array.length_toList
  by_cases hz : s.size = 0
  · have e : s.data.toList = [] := List.length_eq_zero_iff.1 (by omega)
    rw [e, iv_B0]
    exact ri_B0 s w hz
  have hp : 0 < s.size := by omega
  have hS := toList_pos s hp
  have hX : (s.extract 1 s.size).size = s.size - 1 := by simp
  have hXl : (s.extract 1 s.size).data.toList.length = s.size - 1 := by rw [← hX]; exact Array.length_toList
  by_cases h1 : ((s[0].toNat : Int) == 45) = true
  · have c0 : s[0] = 45 := (byte_eq s[0] 45).1 h1
    rw [hS, c0]
    by_cases z1 : s.size = 1
    · have e : (s.extract 1 s.size).data.toList = [] := List.length_eq_zero_iff.1 (by omega)
      rw [e, iv_A1]
      exact ri_A1 s w z1 hp h1
    by_cases z2 : 10 < s.size
    · rw [iv_A2 _ (by omega)]
      exact ri_A2 s w hs z2 h1
    have hx : 0 < (s.extract 1 s.size).size := by omega
    by_cases h2 : ((s.extract 1 s.size)[0].toNat : Int) = 48
    · have c1 : (s.extract 1 s.size)[0] = 48 := (byte_eq _ 48).1 (by rw [beq_iff_eq]; exact h2)
      have e := drop_at (s.extract 1 s.size) 0 hx
      rw [List.drop_zero, c1] at e
      rw [e, iv_A3]
      exact ri_A3 s w (by omega) (by omega) h1 hx h2
    · have hh : (s.extract 1 s.size).data.toList.head? ≠ some 48 := by
        have e := drop_at (s.extract 1 s.size) 0 hx
        rw [List.drop_zero] at e
        rw [e]
        intro c
        have c1 : (s.extract 1 s.size)[0] = 48 := by simpa using c
        exact h2 (by rw [c1]; rfl)
      rw [iv_A _ (by intro e; rw [e] at hXl; simp at hXl; omega) (by omega) hh]
      have key := ri_A4 s w (by omega) (by omega) h1 hx h2 _ rfl
      cases hv : valA 0 (s.extract 1 s.size).data.toList with
      | none => rw [hv] at key; exact key
      | some u =>
        rw [hv] at key
        have e : sgn (-1) (some u) = -(u : Int) := by show -1 * (u : Int) = _; omega
        rw [e] at key
        exact key
  · have h1' : ((s[0].toNat : Int) == 45) = false := by simpa using h1
    have h4 : s.data.toList.head? ≠ some 45 := by
      rw [hS]
      intro c
      have c1 : s[0] = 45 := by simpa using c
      exact h1 (by rw [c1]; rfl)
    by_cases z2 : 9 < s.size
    · rw [iv_B2 _ h4 (by omega)]
      exact ri_B2 s w hs z2 h1'
    by_cases h2 : ((s[0].toNat : Int) == 48) = true
    · have c0 : s[0] = 48 := (byte_eq s[0] 48).1 h2
      by_cases z1 : s.size = 1
      · have e : (s.extract 1 s.size).data.toList = [] := List.length_eq_zero_iff.1 (by omega)
        rw [e, c0] at hS
        obtain ⟨⟨d⟩⟩ := s
        obtain rfl : d = [48] := hS
        rw [iv_B5]
        exact ri_B5 w
      · rw [hS, c0, iv_B3 _ (by intro e; rw [e] at hXl; simp at hXl; omega)]
        exact ri_B3 s w hs (by omega) (by omega) h1' h2
    · have h2' : ((s[0].toNat : Int) == 48) = false := by simpa using h2
      have hh : s.data.toList.head? ≠ some 48 := by
        rw [hS]
        intro c
        have c1 : s[0] = 48 := by simpa using c
        exact h2 (by rw [c1]; rfl)
      rw [iv_B _ (by rw [hS]; exact List.cons_ne_nil _ _) (by omega) h4 hh]
      have key := ri_B4 s w hp (by omega) h1' h2' _ rfl
      cases hv : valA 0 s.data.toList with
      | none => rw [hv] at key; exact key
      | some u =>
        rw [hv] at key
        have e : sgn 1 (some u) = (u : Int) := by show 1 * (u : Int) = _; omega
        rw [e] at key
        exact key

end Go.Proofs.YtcnnjladaoaeiaaGreatDoor
