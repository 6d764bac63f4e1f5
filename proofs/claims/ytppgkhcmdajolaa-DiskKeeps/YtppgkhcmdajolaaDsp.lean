/-
  Disks: what the laws lean on, without memory.
-/
import Derived.Test.YtppgkhcmdajolaaDsh
namespace Go.Proofs.Ytppgkhcmdajolaa
open Go.RowKit

theorem settleL_append (P : Nat → Bool) (x : Wr) : ∀ (L : List Wr) (i : Nat) (K : List ByteArray), settleL P i (L ++ [x]) K = if P (i + L.length) then (settleL P i L K).set x.n.toNat x.s else settleL P i L K
  | [], i, K => by simp [settleL]
  | y :: r, i, K => by
    rw [List.cons_append, settleL, settleL_append P x r (i + 1), settleL, List.length_cons, show i + 1 + r.length = i + (r.length + 1) by omega]

theorem bad_set {K : List ByteArray} (h : K.any badS = false) {s : ByteArray} (hs : badS s = false) (i : Nat) : (K.set i s).any badS = false := by
  rw [List.any_eq_false] at h ⊢
  intro y hy
  rcases List.mem_or_eq_of_mem_set hy with h1 | rfl
  · exact h y h1
  · rw [hs]; decide

theorem settle_bad (P : Nat → Bool) : ∀ (L : List Wr) (i : Nat) (K : List ByteArray), K.any badS = false → (∀ x ∈ L, badS x.s = false) → (settleL P i L K).any badS = false
  | [], _, _, h, _ => h
  | x :: r, i, K, h, hL => by
    rw [settleL]
    refine settle_bad P r (i + 1) _ ?_ fun y hy => hL y (List.mem_cons_of_mem _ hy)
    split
    · exact bad_set h (hL x (List.mem_cons_self ..)) _
    · exact h

theorem checkD_of {d : Dk} (h1 : 1 ≤ d.ks.length) (h2 : d.ks.length ≤ 400) (h3 : d.ks.any badS = false) (h4 : d.ws.length ≤ 400) (h5 : faultsN d.ks.length d.ws = 0) : checkD d = 0 := by
  unfold checkD
  rw [if_neg (by omega), if_neg (by rw [h3]; decide), if_neg (by omega), h5]

theorem writeN_zero {d : Dk} {x : Wr} (h : writeN d x = 0) : checkD d = 0 ∧ faultN d.ks.length x = 0 ∧ d.ws.length ≠ 400 := by
  unfold writeN at h
  by_cases h1 : checkD d = 0
  · rw [if_pos h1] at h
    by_cases h2 : faultN d.ks.length x = 0
    · rw [if_pos h2] at h
      by_cases h3 : d.ws.length = 400
      · rw [if_pos h3] at h; cases h
      · exact ⟨h1, h2, h3⟩
    · rw [if_neg h2] at h; exact absurd h h2
  · rw [if_neg h1] at h; exact absurd h h1

theorem faultsN_all {n : Nat} {L : List Wr} (h : ∀ y ∈ L, faultN n y = 0) : faultsN n L = 0 :=
  faultsN_none fun _ y hj => h y (List.mem_of_getElem? hj)

theorem write_check {d : Dk} {x : Wr} (h : writeN d x = 0) : checkD (writeD d x) = 0 := by
  obtain ⟨h1, h2, h3⟩ := writeN_zero h
  obtain ⟨a, b, c, e, f⟩ := checkD_zero h1
  unfold writeD
  rw [if_pos h]
  refine checkD_of a b c (by simp; omega) (faultsN_all fun y hy => ?_)
  rcases List.mem_append.1 hy with hy | hy
  · exact faultsN_zero f y hy
  · rw [List.mem_singleton.1 hy]; exact h2

theorem settleD_check {d : Dk} (P : Nat → Bool) (h : checkD d = 0) : checkD ⟨settleD P d, []⟩ = 0 := by
  obtain ⟨a, b, c, e, f⟩ := checkD_zero h
  have hl := settleL_length P d.ws 0 d.ks
  have hs : settleD P d = settleL P 0 d.ws d.ks := by unfold settleD; rw [if_pos h]
  rw [hs]
  exact checkD_of (by simp only [hl]; exact a) (by simp only [hl]; exact b) (settle_bad P _ _ _ c fun x hx => (faultN_range (faultsN_zero f x hx)).2.2) (Nat.zero_le _) rfl

/-- a crash changes nothing where nothing is written -/
theorem crash_flushed {d : Dk} (keep : List Bool) (h : checkD d = 0) : crashD (flushD d) keep = flushD d := by
  have h1 := settleD_check (fun _ => true) h
  unfold crashD flushD
  congr 1
  unfold settleD at h1 ⊢
  rw [if_pos h] at h1 ⊢
  rw [if_pos h1]
  rfl

theorem flush_last {d : Dk} {x : Wr} (h : writeN d x = 0) : 0 ≤ x.n ∧ x.n.toNat < (flushD (writeD d x)).ks.length ∧ (flushD (writeD d x)).ks[x.n.toNat]? = some x.s := by
  obtain ⟨h1, h2, h3⟩ := writeN_zero h
  obtain ⟨r1, r2, r3⟩ := faultN_range h2
  have hc := write_check h
  unfold flushD settleD
  rw [if_pos hc]
  unfold writeD
  rw [if_pos h]
  simp only []
  have hl := settleL_length (fun _ => true) (d.ws ++ [x]) 0 d.ks
  rw [hl]
  refine ⟨r1, by omega, ?_⟩
  rw [settleL_append, if_pos rfl, List.getElem?_set_self (by rw [settleL_length]; omega)]

end Go.Proofs.Ytppgkhcmdajolaa
