/-
  'CheckValue' of package overhaulref.
-/
import Derived.Test.YtcnnjladaoaeiaaGreatDoorDigits
namespace Go.Proofs.YtcnnjladaoaeiaaGreatDoor
open Go.RowKit

theorem all_at (s : ByteArray) : s.data.toList.all isQ = true ↔ ∀ j (h : j < s.size), isQ s[j] = true := by
  rw [List.all_eq_true]
  constructor
  · intro h j hj
    exact h _ (by
      have : s[j] = s.data[j] := rfl
      rw [this]
      exact Array.mem_toList_iff.2 (Array.getElem_mem _))
  · intro h c hc
    obtain ⟨j, hj, rfl⟩ := List.getElem_of_mem hc
    have hj' : j < s.size := by
      have : s.data.toList.length = s.size := Array.length_toList
      omega
    have := h j hj'
    rw [Array.getElem_toList]
    exact this

set_option maxRecDepth 100000 in
set_option maxHeartbeats 800000 in
theorem ckv_bad (K N : Int) (s : ByteArray) (w : World) (hK : (decide (0 ≤ K) && decide (K ≤ 3)) = false) :
    Calls Tryz.prog 63 #[.agg #[.int .i64 K, .int .i64 N, .string s]] w fun e w' => e = .returned (.int .i64 7) ∧ Below w.heap.size w w' := by
  have hb := between_rw hK
  clear hK
  go_enter Tryz.func63, Tryz.ntmps63
  go_wp2_with (go_at_call 32; refine (hb _).mono ?_; rintro e w' ⟨rfl, hw'⟩; obtain rfl := hw'.symm; clear hw')
  go_ret
  exact ⟨rfl, (Below.refl _ _).alloc (Nat.le_refl _) _⟩

/-- right: no error; else out of range -/
def errB (b : Bool) : Int := if b = true then 0 else 3

set_option maxRecDepth 100000 in
set_option maxHeartbeats 800000 in
theorem ckv_0 (N : Int) (s : ByteArray) (w : World) (b d : Bool) (hN : (N == 0) = b) (hS : s.toList.isEmpty = d) :
    Calls Tryz.prog 63 #[.agg #[.int .i64 0, .int .i64 N, .string s]] w fun e w' => e = .returned (.int .i64 (errB (b && d))) ∧ Below w.heap.size w w' := by
  have hb := between_rw (n := 0) (a := 0) (b := 3) (r := true) (by decide)
  cases b <;> cases d
  all_goals
    go_enter Tryz.func63, Tryz.ntmps63
    go_wp2_with (go_at_call 32; refine (hb _).mono ?_; rintro e w' ⟨rfl, hw'⟩; obtain rfl := hw'.symm; clear hw')
    go_ret
    exact ⟨rfl, (Below.refl _ _).alloc (Nat.le_refl _) _⟩

set_option maxRecDepth 100000 in
set_option maxHeartbeats 800000 in
theorem ckv_1 (N : Int) (s : ByteArray) (w : World) (b d : Bool) (hN : isInt N = b) (hS : s.toList.isEmpty = d) :
    Calls Tryz.prog 63 #[.agg #[.int .i64 1, .int .i64 N, .string s]] w fun e w' => e = .returned (.int .i64 (errB (b && d))) ∧ Below w.heap.size w w' := by
  have hb := between_rw (n := 1) (a := 0) (b := 3) (r := true) (by decide)
  have hi := fun W => refI_any N W
  rw [hN] at hi
  clear hN
  cases b <;> cases d
  all_goals
    go_enter Tryz.func63, Tryz.ntmps63
    go_wp2_with (first | (go_at_call 32; refine (hb _).mono ?_; rintro e w' ⟨rfl, hw'⟩; obtain rfl := hw'.symm; clear hw') | (go_at_call 108; refine (hi _).mono ?_; rintro e w' ⟨rfl, hw'⟩; obtain rfl := hw'.symm; clear hw'))
    go_ret
    exact ⟨rfl, (Below.refl _ _).alloc (Nat.le_refl _) _⟩

set_option maxRecDepth 100000 in
set_option maxHeartbeats 800000 in
theorem ckv_3 (N : Int) (s : ByteArray) (w : World) (b d : Bool) (hN : (decide (0 ≤ N) && decide (N ≤ 1)) = b) (hS : s.toList.isEmpty = d) :
    Calls Tryz.prog 63 #[.agg #[.int .i64 3, .int .i64 N, .string s]] w fun e w' => e = .returned (.int .i64 (errB (b && d))) ∧ Below w.heap.size w w' := by
  have hb := between_rw (n := 3) (a := 0) (b := 3) (r := true) (by decide)
  have hi := between_rw hN
  clear hN
  cases b <;> cases d
  all_goals
    go_enter Tryz.func63, Tryz.ntmps63
    go_wp2_with fail
    refine (hb _).mono ?_
    rintro e w' ⟨rfl, hw'⟩
    obtain rfl := hw'.symm
    clear hw' hb
    go_wp2_with fail
    refine (hi _).mono ?_
    rintro e w' ⟨rfl, hw'⟩
    obtain rfl := hw'.symm
    clear hw' hi
    go_wp2
    go_ret
    exact ⟨rfl, (Below.refl _ _).alloc (Nat.le_refl _) _⟩

set_option maxRecDepth 100000 in
set_option maxHeartbeats 800000 in
theorem ckv_2n (N : Int) (s : ByteArray) (w : World) (h : (N == 0) = false ∨ ((N == 0) = true ∧ 20 < s.size)) (hs : s.size ≤ 140737488355328) :
    Calls Tryz.prog 63 #[.agg #[.int .i64 2, .int .i64 N, .string s]] w fun e w' => e = .returned (.int .i64 3) ∧ Below w.heap.size w w' := by
  have hb := between_rw (n := 2) (a := 0) (b := 3) (r := true) (by decide)
  rcases h with h | ⟨h, h'⟩
  all_goals
    go_enter Tryz.func63, Tryz.ntmps63
    go_wp2_with (go_at_call 32; refine (hb _).mono ?_; rintro e w' ⟨rfl, hw'⟩; obtain rfl := hw'.symm; clear hw')
    clear hb
    go_loop [3, 4] (fun o i => o = .bool false ∧ i = .int .i64 0) (fun _ _ => 0)
    case atStart => exact ⟨by first | rfl | (rw [decide_eq_false (by omega)]), rfl⟩
    case round =>
      obtain ⟨rfl, rfl⟩ := hrel
      go_wp2
      all_goals go_ret
      all_goals exact ⟨rfl, (Below.refl _ _).alloc (Nat.le_refl _) _⟩

set_option maxRecDepth 100000 in
set_option maxHeartbeats 1600000 in
theorem ckv_2y (s : ByteArray) (w : World) (hz : s.size ≤ 20) (r : Bool) (Hr : Hid (s.data.toList.all isQ = r)) :
    Calls Tryz.prog 63 #[.agg #[.int .i64 2, .int .i64 0, .string s]] w fun e w' => e = .returned (.int .i64 (errB r)) ∧ Below w.heap.size w w' := by
  have hb := between_rw (n := 2) (a := 0) (b := 3) (r := true) (by decide)
  go_enter Tryz.func63, Tryz.ntmps63
  go_wp2_with (go_at_call 32; refine (hb _).mono ?_; rintro e w' ⟨rfl, hw'⟩; obtain rfl := hw'.symm; clear hw')
  clear hb
  go_loop [3, 4] (fun o i => ∃ (n : Nat) (b : Bool), n ≤ s.size ∧ i = .int .i64 n ∧ o = .bool b ∧ Hid ((b = true → ∀ j (h : j < s.size), j < n → isQ s[j] = true) ∧ (b = false → ∃ j, ∃ h : j < s.size, isQ s[j] = false))) (fun _ i => s.size - (intOf i).toNat)
  case atStart => exact ⟨0, true, by omega, rfl, by rw [decide_eq_true (by omega)], ⟨fun _ j _ h => absurd h (by omega), fun h => by cases h⟩⟩
  case round =>
    obtain ⟨n, b, hn, rfl, rfl, HE⟩ := hrel
    cases b with
    | false =>
      have HF : Hid (s.data.toList.all isQ = false) := by
        obtain ⟨j, hj, hq⟩ := HE.out.2 rfl
        rw [Hid, Bool.eq_false_iff]
        intro h
        have := (all_at s).1 h j hj
        rw [hq] at this
        cases this
      clear HE
      go_wp2
      all_goals go_ret
      all_goals exact ⟨by rw [show r = false from Hr.out.symm.trans HF.out]; rfl, (Below.refl _ _).alloc (Nat.le_refl _) _⟩
    | true =>
      by_cases hlt : n < s.size
      · have hq := fun W => refQ_any s[n] W
        have HG : Hid ((isQ s[n] = true → ∀ j (h : j < s.size), j < n + 1 → isQ s[j] = true) ∧ (isQ s[n] = false → ∃ j, ∃ h : j < s.size, isQ s[j] = false)) := by
          refine ⟨fun h j hj hj' => ?_, fun h => ⟨n, hlt, h⟩⟩
          by_cases e : j = n
          · subst e; exact h
          · exact HE.out.1 rfl j hj (by omega)
        generalize isQ s[n] = q at hq HG
        clear HE
        go_wp2_with (go_at_call 109; refine (hq _).mono ?_; rintro e w' ⟨rfl, hw'⟩; obtain rfl := hw'.symm; clear hw')
        go_round
        case rel => exact ⟨n + 1, q, by omega, by go_num, rfl, HG⟩
        case measure => simp [intOf]; omega
      · have HF : Hid (s.data.toList.all isQ = true) := (all_at s).2 fun j hj => HE.out.1 rfl j hj (by omega)
        clear HE
        go_wp2
        all_goals go_ret
        all_goals exact ⟨by rw [show r = true from Hr.out.symm.trans HF.out]; rfl, (Below.refl _ _).alloc (Nat.le_refl _) _⟩

theorem errB_chk (b : Bool) : errB b = ((if b = true then 0 else 3 : Nat) : Int) := by cases b <;> rfl

theorem ckv_any (K N : Int) (s : ByteArray) (w : World) (hs : s.size ≤ 140737488355328) :
    Calls Tryz.prog 63 #[.agg #[.int .i64 K, .int .i64 N, .string s]] w fun e w' => e = .returned (.int .i64 (chkV K N s.data.toList : Nat)) ∧ Below w.heap.size w w' := by
  have hS := empty_iff s
  by_cases h0 : K = 0
  · subst h0
    have e : chkV 0 N s.data.toList = if ((N == 0) && decide (s.data.toList = [])) = true then 0 else 3 := by simp [chkV]
    rw [e, ← errB_chk]
    exact ckv_0 N s w _ _ rfl hS
  by_cases h1 : K = 1
  · subst h1
    have e : chkV 1 N s.data.toList = if (isInt N && decide (s.data.toList = [])) = true then 0 else 3 := by simp [chkV]
    rw [e, ← errB_chk]
    exact ckv_1 N s w _ _ rfl hS
  by_cases h3 : K = 3
  · subst h3
    have e : chkV 3 N s.data.toList = if ((decide (0 ≤ N) && decide (N ≤ 1)) && decide (s.data.toList = [])) = true then 0 else 3 := by
      have : (N = 0 ∨ N = 1) ↔ (0 ≤ N ∧ N ≤ 1) := by omega
      simp [chkV, this]
    rw [e, ← errB_chk]
    exact ckv_3 N s w _ _ rfl hS
  by_cases h2 : K = 2
  · subst h2
    have hl : s.data.toList.length = s.size := Array.length_toList
    by_cases hN : N = 0
    · subst hN
      by_cases hz : s.size ≤ 20
      · have e : chkV 2 0 s.data.toList = if (s.data.toList.all isQ) = true then 0 else 3 := by
          simp only [chkV, quotB, hl]
          simp [hz]
        rw [e, ← errB_chk]
        exact ckv_2y s w hz _ rfl
      · have e : chkV 2 0 s.data.toList = 3 := by
          simp only [chkV, quotB, hl]
          simp [hz]
        rw [e]
        exact ckv_2n 0 s w (Or.inr ⟨rfl, by omega⟩) hs
    · have e : chkV 2 N s.data.toList = 3 := by simp [chkV, hN]
      rw [e]
      exact ckv_2n N s w (Or.inl (by simpa using hN)) hs
  have e : chkV K N s.data.toList = 7 := by simp [chkV, h0, h1, h2, h3]
  rw [e]
  refine ckv_bad K N s w ?_
  rw [Bool.and_eq_false_iff, decide_eq_false_iff_not, decide_eq_false_iff_not]
  omega

end Go.Proofs.YtcnnjladaoaeiaaGreatDoor
