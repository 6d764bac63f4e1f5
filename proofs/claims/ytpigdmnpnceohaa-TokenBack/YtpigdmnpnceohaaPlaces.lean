/-
  The law TokenPlaces: its call.
-/
import Derived.Test.YtpigdmnpnceohaaBegun
namespace Go.Proofs.Ytpigdmnpnceohaa
open Go.RowKit

/-- each token stands where it is told, from a place on, one behind the other -/
def placesL (s : List UInt8) : Nat → List Tk → Prop
  | _, [] => True
  | p, x :: r => ∃ A : Nat, x.a = (A : Int) ∧ p ≤ A ∧ 1 ≤ x.t.length ∧ A + x.t.length ≤ s.length ∧ x.t = (s.drop A).take x.t.length ∧ placesL s (A + x.t.length) r

theorem placesL_mono (s : List UInt8) (p q : Nat) (h : q ≤ p) (L : List Tk) (hL : placesL s p L) : placesL s q L := by
  cases L with
  | nil => trivial
  | cons x r => obtain ⟨A, h1, h2, h3⟩ := hL; exact ⟨A, h1, by omega, h3⟩

theorem placesL_len (s : List UInt8) (L : List Tk) : ∀ p, placesL s p L → L.length ≤ s.length - p := by
  induction L with
  | nil => intro p _; simp
  | cons x r ih =>
    rintro p ⟨A, h1, h2, h3, h4, h5, h6⟩
    have := ih _ h6
    simp only [List.length_cons]; omega

theorem scanGo_places (s : List UInt8) (f : Nat) : ∀ (a : Nat) (l : List UInt8) (acc : List Tk), a ≤ s.length → l = s.drop a → (scanGo f a l acc).2.2 = 0 → ∃ new, (scanGo f a l acc).1 = acc ++ new ∧ placesL s a new := by
  induction f with
  | zero => intro a l acc _ _ _; exact ⟨[], by simp [scanGo], trivial⟩
  | succ f ih =>
    intro a l acc ha hl h0
    cases l with
    | nil => exact ⟨[], by simp [scanGo], trivial⟩
    | cons c r =>
      have hlen : (c :: r).length = s.length - a := by rw [hl]; simp
      simp only [List.length_cons] at hlen
      have hr : r = s.drop (a + 1) := by rw [← List.drop_drop, ← hl]; rfl
      rw [scanGo] at h0 ⊢
      by_cases hb : isB c = true
      · rw [if_pos hb] at h0 ⊢
        obtain ⟨new, h1, h2⟩ := ih (a + 1) r acc (by omega) hr h0
        exact ⟨new, h1, placesL_mono s _ _ (by omega) new h2⟩
      · rw [if_neg hb] at h0 ⊢
        by_cases hw : wrongL (tokL (c :: r)).1 ((c :: r).take (tokL (c :: r)).2) = 0
        · rw [if_pos hw] at h0 ⊢
          have hpos := tokL_pos c r (wrongL_zero hw)
          have hle := tokL_le (c :: r)
          generalize tokL (c :: r) = p at *
          obtain ⟨K, N⟩ := p
          simp only [List.length_cons] at *
          obtain ⟨new, h1, h2⟩ := ih (a + N) _ _ (by omega) (by rw [hl, List.drop_drop]) h0
          have hT : ((c :: r).take N).length = N := by rw [List.length_take, List.length_cons]; omega
          refine ⟨⟨(K : Nat), (a : Nat), (c :: r).take N⟩ :: new, by rw [h1]; simp, a, rfl, Nat.le_refl _, ?_, ?_, ?_, ?_⟩
          · show 1 ≤ ((c :: r).take N).length; omega
          · show a + ((c :: r).take N).length ≤ s.length; omega
          · show (c :: r).take N = (s.drop a).take ((c :: r).take N).length; rw [hT, ← hl]
          · show placesL s (a + ((c :: r).take N).length) new; rw [hT]; exact h2
        · rw [if_neg hw] at h0
          exact absurd h0 hw

theorem scanGo_err (f : Nat) : ∀ (a : Nat) (l : List UInt8) (acc : List Tk), (scanGo f a l acc).2.2 ≠ 0 → (scanGo f a l acc).1 = [] := by
  induction f with
  | zero => intro a l acc h; exact absurd rfl h
  | succ f ih =>
    intro a l acc h
    cases l with
    | nil => exact absurd rfl h
    | cons c r =>
      rw [scanGo] at h ⊢
      split
      · rename_i hb; rw [if_pos hb] at h; exact ih _ _ _ h
      · rename_i hb; rw [if_neg hb] at h
        split
        · rename_i hw; rw [if_pos hw] at h; exact ih _ _ _ h
        · rfl

theorem scanS_places (s : List UInt8) (h : (scanS s).2.2 = 0) : placesL s 0 (scanS s).1 := by
  unfold scanS at h ⊢
  split
  · trivial
  · rename_i hs
    rw [if_neg hs] at h
    obtain ⟨new, h1, h2⟩ := scanGo_places s _ 0 s [] (by omega) rfl h
    unfold scanL; rw [h1]; exact h2

theorem scanS_err (s : List UInt8) (h : (scanS s).2.2 ≠ 0) : (scanS s).1 = [] := by
  unfold scanS at h ⊢
  split
  · rfl
  · rename_i hs; rw [if_neg hs] at h; exact scanGo_err _ _ _ _ h

set_option maxHeartbeats 800000 in
theorem places_err (s : ByteArray) (w : World) (hm : s.size ≤ 9223372036854775000) (E a : Nat) (hr : scanS s.data.toList = ([], a, E)) (hE : E ≠ 0) :
    Calls Try.prog 6 #[.string s] w fun e w' => e = .returned (.bool true) ∧ Below w.heap.size w w' := by
  have hs := fun W => scan_any s W hm
  rw [hr] at hs
  have hEb : ((E : Int) != 0) = true := by simp; omega
  clear hr hE
  go_enter Try.func6, Try.ntmps6
  go_wp2_with (first | (go_at_call 7; refine (hs _).mono ?_; rintro e w1 ⟨v, rfl, hown, hb1⟩; obtain ⟨ao, cap, hv⟩ := owns_slice hown; subst hv; clear hown) | (go_at_call 9; refine (begun_any _).mono ?_; rintro e w2 ⟨rfl, hb2⟩))
  go_ret
  exact ⟨rfl, hb1.trans (hb2.mono hb1.size)⟩

set_option maxHeartbeats 800000 in
theorem places_none (s : ByteArray) (w : World) (hm : s.size ≤ 9223372036854775000) (a : Nat) (hr : scanS s.data.toList = ([], a, 0)) :
    Calls Try.prog 6 #[.string s] w fun e w' => e = .returned (.bool true) ∧ Below w.heap.size w w' := by
  have hs := fun W => scan_any s W hm
  rw [hr] at hs
  simp only [List.length_nil] at hs
  clear hr
  go_enter Try.func6, Try.ntmps6
  go_wp2_with (first | (go_at_call 7; refine (hs _).mono ?_; rintro e w1 ⟨v, rfl, hown, hb1⟩; obtain ⟨ao, cap, hv⟩ := owns_slice hown; subst hv; clear hown) | (go_at_call 9; refine (begun_any _).mono ?_; rintro e w2 ⟨rfl, hb2⟩))
  go_loopw [6, 7] (fun at_ i wr => i = .int .i64 0 ∧ wr = w2) (fun _ _ _ => 0)
  case atStart => exact ⟨rfl, rfl⟩
  case round =>
    obtain ⟨rfl, rfl⟩ := hrel
    go_wp2
    go_ret
    exact ⟨rfl, hb1.trans (hb2.mono hb1.size)⟩

set_option maxRecDepth 100000 in
set_option maxHeartbeats 2000000 in
theorem places_some (s : ByteArray) (w : World) (hm : s.size ≤ 9223372036854775000) (a : Nat) (L : List Tk) (hr : scanS s.data.toList = (L, a, 0)) (hL : L ≠ []) :
    Calls Try.prog 6 #[.string s] w fun e w' => e = .returned (.bool true) ∧ Below w.heap.size w w' := by
  have hs := fun W => scan_any s W hm
  have hP := scanS_places s.data.toList (by rw [hr])
  rw [hr] at hs hP
  clear hr
  have hn0 : L.length ≠ 0 := by simpa using hL
  have hnl : L.length ≤ s.size := by have := placesL_len s.data.toList L 0 hP; simpa using this
  go_enter Try.func6, Try.ntmps6
  go_wp2_with (first | (go_at_call 7; refine (hs _).mono ?_; rintro e w1 ⟨v, rfl, hown, hb1⟩; obtain ⟨g, cap, hv, hg1, hg2⟩ := owns_some hown hn0; subst hv; have hrow := owns_tokRow hown; clear hown) | (go_at_call 9; refine (begun_any _).mono ?_; rintro e w2 ⟨rfl, hb2⟩))
  go_loopw [6, 7] (fun at_ i wr => ∃ (k p m : Nat), k ≤ L.length ∧ i = .int .i64 k ∧ at_ = .int .i64 p ∧ wr = w2.drewN m ∧ Hid (placesL s.data.toList p (L.drop k))) (fun _ i _ => L.length - (intOf i).toNat)
  case atStart => exact ⟨0, 0, 0, Nat.zero_le _, rfl, rfl, rfl, hP⟩
  case round =>
    obtain ⟨k, p, m, hk, rfl, rfl, rfl, HP⟩ := hrel
    by_cases hlt : k < L.length
    · have hd : L.drop k = L[k] :: L.drop (k + 1) := List.drop_eq_getElem_cons hlt
      have hp := HP.out
      rw [hd] at hp
      obtain ⟨A, q1, q2, q3, q4, q5, q6⟩ := hp
      obtain ⟨e0, e1, e2⟩ := hrow.2 k L[k] (List.getElem?_eq_getElem hlt)
      rw [q1] at e1
      obtain ⟨T, hT⟩ : ∃ T : ByteArray, T = ⟨L[k].t.toArray⟩ := ⟨_, rfl⟩
      have hTs : T.size = L[k].t.length := by rw [hT, size_mk]
      rw [← hT] at e2
      have hTe : T.toList = (s.extract A (A + T.size)).toList := by
        rw [Lib.toList_data, Lib.toList_data, Lib.extract_data, hTs, Nat.add_sub_cancel_left, ← q5, hT]
      rw [← hTs] at q3 q4 q6
      have d1 := (hb2.cell (p := ⟨g, 0 + k * 3 + 1, none⟩) hg2).trans e1
      have d2 := (hb2.cell (p := ⟨g, 0 + k * 3 + 2, none⟩) hg2).trans e2
      simp only [Nat.zero_add] at d1 d2
      have hsl : s.data.toList.length = s.size := by simp
      have q4' : A + T.size ≤ s.size := by omega
      have hT1 : 1 ≤ T.size := by omega
      have R : Hid (placesL s.data.toList (A + T.size) (L.drop (k + 1))) := q6
      have t1 : decide ((A : Int) < (p : Int)) = false := by simp; omega
      have t2 : ((T.size : Int) == 0) = false := beq_eq_false_iff_ne.2 (by omega)
      have t1' : decide (A < p) = false := by simp; omega
      have t3' : decide (s.size < A) = false := by simp; omega
      have t3 : decide ((s.size : Int) < (A : Int)) = false := by simp; omega
      have t4 : decide ((s.size : Int) - (A : Int) < (T.size : Int)) = false := by simp; omega
      have t5 : ((s.extract A (A + T.size)).toList == T.toList) = true := by rw [← hTe]; simp
      clear e0 e1 e2 q1 q3 q4 q5 q6 hT hTs hTe hd HP hrow hs hsl
      go_wp2
      go_quiet (fail)
      go_wp2
      go_roundw
      case rel => exact ⟨k + 1, A + T.size, m + nq, by omega, by go_num, by go_num, rfl, R⟩
      case measure => simp [intOf]; omega
    · go_wp2
      go_ret
      exact ⟨rfl, below_drewN (hb1.trans (hb2.mono hb1.size)) _⟩

theorem places_any (s : ByteArray) (w : World) (hm : s.size ≤ 9223372036854775000) : Calls Try.prog 6 #[.string s] w fun e w' => e = .returned (.bool true) ∧ Below w.heap.size w w' := by
  obtain ⟨L, a, E, hr⟩ : ∃ L a E, scanS s.data.toList = (L, a, E) := ⟨_, _, _, rfl⟩
  by_cases hE : E = 0
  · subst hE
    by_cases hL : L = []
    · subst hL; exact places_none s w hm a hr
    · exact places_some s w hm a L hr hL
  · have hL : L = [] := by have := scanS_err s.data.toList (by rw [hr]; exact hE); rw [hr] at this; exact this
    subst hL
    exact places_err s w hm E a hr hE

end Go.Proofs.Ytpigdmnpnceohaa
