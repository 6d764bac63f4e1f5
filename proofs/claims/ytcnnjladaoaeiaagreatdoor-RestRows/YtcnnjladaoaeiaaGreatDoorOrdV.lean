/-
  'OrderOf' of package overhaulref.
-/
import Derived.Test.YtcnnjladaoaeiaaGreatDoorTwo
import Derived.BigQuiet
namespace Go.Proofs.YtcnnjladaoaeiaaGreatDoor
open Go.RowKit

set_option maxRecDepth 100000 in
set_option maxHeartbeats 800000 in
theorem orv_k (K N K' N' : Int) (s s' : ByteArray) (w : World) (h : K ≠ K') :
    Calls Tryz.prog 131 #[.agg #[.int .i64 K, .int .i64 N, .string s], .agg #[.int .i64 K', .int .i64 N', .string s']] w fun e w' => e = .returned (.int .i64 (ordV K N s.data.toList K' N' s'.data.toList)) ∧ Below w.heap.size w w' := by
  by_cases hl : K < K'
  · have hr : ordV K N s.data.toList K' N' s'.data.toList = -1 := by simp [ordV, orV, Lib.compareInt, hl]
    rw [hr]
    clear hr
    go_enter Tryz.func131, Tryz.ntmps131
    go_wp2
    go_ret
    exact ⟨rfl, ((Below.refl _ _).alloc (Nat.le_refl _) _).alloc (by simp) _⟩
  · have hg : K > K' := by omega
    have hr : ordV K N s.data.toList K' N' s'.data.toList = 1 := by simp [ordV, orV, Lib.compareInt, hl, hg]
    rw [hr]
    clear hr
    go_enter Tryz.func131, Tryz.ntmps131
    go_wp2
    go_ret
    exact ⟨rfl, ((Below.refl _ _).alloc (Nat.le_refl _) _).alloc (by simp) _⟩

set_option maxRecDepth 100000 in
set_option maxHeartbeats 800000 in
theorem orv_n (K N N' : Int) (s s' : ByteArray) (w : World) (h : N ≠ N') :
    Calls Tryz.prog 131 #[.agg #[.int .i64 K, .int .i64 N, .string s], .agg #[.int .i64 K, .int .i64 N', .string s']] w fun e w' => e = .returned (.int .i64 (ordV K N s.data.toList K N' s'.data.toList)) ∧ Below w.heap.size w w' := by
  by_cases hl : N < N'
  · have hr : ordV K N s.data.toList K N' s'.data.toList = -1 := by simp [ordV, orV, Lib.compareInt, hl]
    rw [hr]
    clear hr
    go_enter Tryz.func131, Tryz.ntmps131
    go_wp2
    go_ret
    exact ⟨rfl, ((Below.refl _ _).alloc (Nat.le_refl _) _).alloc (by simp) _⟩
  · have hg : N > N' := by omega
    have hr : ordV K N s.data.toList K N' s'.data.toList = 1 := by simp [ordV, orV, Lib.compareInt, hl, hg]
    rw [hr]
    clear hr
    go_enter Tryz.func131, Tryz.ntmps131
    go_wp2
    go_ret
    exact ⟨rfl, ((Below.refl _ _).alloc (Nat.le_refl _) _).alloc (by simp) _⟩

theorem drop_end (s : ByteArray) (n : Nat) (h : s.size ≤ n) : s.data.toList.drop n = [] := by
  have : s.data.toList.length = s.size := Array.length_toList
  exact List.drop_eq_nil_of_le (by omega)

theorem cmp_step (s s' : ByteArray) (n : Nat) (h : n < s.size) (h' : n < s'.size) :
    Lib.compareBytes (s.data.toList.drop n) (s'.data.toList.drop n) = if (s[n].toNat : Int) < s'[n].toNat then -1 else if (s[n].toNat : Int) > s'[n].toNat then 1 else Lib.compareBytes (s.data.toList.drop (n + 1)) (s'.data.toList.drop (n + 1)) := by
  rw [drop_at s n h, drop_at s' n h', Lib.compareBytes]
  have e1 : s[n] < s'[n] ↔ (s[n].toNat : Int) < s'[n].toNat := by rw [UInt8.lt_iff_toNat_lt]; omega
  have e2 : s'[n] < s[n] ↔ (s[n].toNat : Int) > s'[n].toNat := by rw [UInt8.lt_iff_toNat_lt]; omega
  simp only [e1, e2]

set_option maxRecDepth 100000 in
set_option maxHeartbeats 1600000 in
theorem orv_s (K N : Int) (s s' : ByteArray) (w : World) (hs : s.size ≤ 140737488355328) (hs' : s'.size ≤ 140737488355328) (r : Int) (Hr : Hid (Lib.compareBytes s.data.toList s'.data.toList = r)) :
    Calls Tryz.prog 131 #[.agg #[.int .i64 K, .int .i64 N, .string s], .agg #[.int .i64 K, .int .i64 N, .string s']] w fun e w' => e = .returned (.int .i64 r) ∧ Below w.heap.size w w' := by
  have t0 := hide (Two.start w K N s K N s')
  go_enter Tryz.func131, Tryz.ntmps131
  go_wp2
  go_loopw [5] (fun i wr => ∃ n : Nat, n ≤ s.size ∧ n ≤ s'.size ∧ i = .int .i64 n ∧ Hid (Lib.compareBytes (s.data.toList.drop n) (s'.data.toList.drop n) = r) ∧ Two w K N s K N s' wr) (fun i _ => s.size - (intOf i).toNat)
  case atStart => exact ⟨0, by omega, by omega, rfl, Hr.out, t0.out⟩
  case round =>
    obtain ⟨n, hn, hn', rfl, HE, t1⟩ := hrel
    obtain ⟨⟨a0, a1, a2⟩, -⟩ := three t1.1
    obtain ⟨⟨b0, b1, b2⟩, -⟩ := three t1.2.1
    have T1 := hide t1
    clear Hr t0 t1
    by_cases h : n < s.size
    · by_cases h' : n < s'.size
      · have hc := cmp_step s s' n h h'
        rw [HE.out] at hc
        have HC := hide hc
        clear hc HE
        by_cases hl : (s[n].toNat : Int) < s'[n].toNat
        · have HR : Hid (r = -1) := by have := HC.out; rw [if_pos hl] at this; exact this
          clear HC
          go_wp2
          go_quiet (fail)
          go_wp2
          go_ret
          exact ⟨by rw [HR.out]; rfl, below_drewN T1.out.2.2.1 _⟩
        · by_cases hg : (s[n].toNat : Int) > s'[n].toNat
          · have HR : Hid (r = 1) := by have := HC.out; rw [if_neg hl, if_pos hg] at this; exact this
            clear HC
            go_wp2
            go_quiet (fail)
            go_wp2
            go_quiet (fail)
            go_wp2
            go_ret
            exact ⟨by rw [HR.out]; rfl, below_drewN (below_drewN T1.out.2.2.1 _) _⟩
          · have HR : Hid (Lib.compareBytes (s.data.toList.drop (n + 1)) (s'.data.toList.drop (n + 1)) = r) := by have := HC.out; rw [if_neg hl, if_neg hg] at this; exact this.symm
            clear HC
            go_wp2
            go_quiet (fail)
            go_wp2
            go_quiet (fail)
            go_wp2
            go_roundw
            case rel => exact ⟨n + 1, by omega, by omega, by go_num, HR, T1.out.below (below_drewN (Below.refl _ _) _)⟩
            case measure => simp [intOf]; omega
      · have HR : Hid (r = 1) := by
          have := HE.out
          rw [drop_at s n h, drop_end s' n (by omega)] at this
          exact this.symm
        have he : n = s'.size := by omega
        clear HE
        go_wp2
        go_ret
        exact ⟨by rw [HR.out]; rfl, T1.out.2.2.1⟩
    · have he : n = s.size := by omega
      by_cases h' : n < s'.size
      · have HR : Hid (r = -1) := by
          have := HE.out
          rw [drop_end s n (by omega), drop_at s' n h'] at this
          exact this.symm
        clear HE
        go_wp2
        go_ret
        exact ⟨by rw [HR.out]; rfl, T1.out.2.2.1⟩
      · have HR : Hid (r = 0) := by
          have := HE.out
          rw [drop_end s n (by omega), drop_end s' n (by omega)] at this
          exact this.symm
        have he' : n = s'.size := by omega
        clear HE
        go_wp2
        go_ret
        exact ⟨by rw [HR.out]; rfl, T1.out.2.2.1⟩

theorem orv_any (K N K' N' : Int) (s s' : ByteArray) (w : World) (hs : s.size ≤ 140737488355328) (hs' : s'.size ≤ 140737488355328) :
    Calls Tryz.prog 131 #[.agg #[.int .i64 K, .int .i64 N, .string s], .agg #[.int .i64 K', .int .i64 N', .string s']] w fun e w' => e = .returned (.int .i64 (ordV K N s.data.toList K' N' s'.data.toList)) ∧ Below w.heap.size w w' := by
  by_cases hK : K = K'
  · subst hK
    by_cases hN : N = N'
    · subst hN
      have e : ordV K N s.data.toList K N s'.data.toList = Lib.compareBytes s.data.toList s'.data.toList := by simp [ordV, orV, Lib.compareInt]
      rw [e]
      exact orv_s K N s s' w hs hs' _ rfl
    · exact orv_n K N N' s s' w hN
  · exact orv_k K N K' N' s s' w hK

end Go.Proofs.YtcnnjladaoaeiaaGreatDoor
