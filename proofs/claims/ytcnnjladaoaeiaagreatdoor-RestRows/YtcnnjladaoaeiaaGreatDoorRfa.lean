/-
  'CheckValues', 'CheckApply' of package overhaulref.
-/
import Derived.Test.YtcnnjladaoaeiaaGreatDoorRfd
namespace Go.Proofs.YtcnnjladaoaeiaaGreatDoor
open Go.RowKit

set_option maxRecDepth 100000 in
set_option maxHeartbeats 1600000 in
theorem ckvs_any (L : List Vl) (u : Value) (w : World) (h : VsAt w u L) : Calls Tryz.prog 74 #[u] w fun e w' => e = .returned (.int .i64 (chkL L : Nat)) ∧ Below w.heap.size w w' := by
  obtain ⟨ao, cap, rfl, h1, h2, h3⟩ := h
  obtain ⟨n, hn⟩ : ∃ n, L.length = n := ⟨_, rfl⟩
  obtain ⟨PP, hPP⟩ : ∃ PP : Ending → World → Prop, PP = fun e w' => e = .returned (.int .i64 (chkL L : Nat)) ∧ Below w.heap.size w w' := ⟨_, rfl⟩
  have HP : Hid (∀ (E : Nat) (w' : World), chkL L = E → Below w.heap.size w w' → PP (.returned (.int .i64 (E : Int))) w') := by
    intro E w' h1 h2
    rw [hPP]
    exact ⟨by rw [h1], h2⟩
  refine Calls.mono (R := PP) ?_ (by rw [hPP]; exact fun _ _ h => h)
  have H3 := hide h3
  have H2 := hide h2
  rw [hn] at h1 ⊢
  clear h2 h3 hPP
  by_cases h5 : 5 < n
  · have h5' : (5 : Int) < (n : Int) := by omega
    have HE : Hid (chkL L = 2) := by rw [Hid, chkL, hn, if_pos h5]
    clear H2 H3
    go_enter Tryz.func74, Tryz.ntmps74
    go_wp2
    exact HP.out _ _ HE.out (Below.refl _ _)
  · have h5' : ¬ (5 : Int) < (n : Int) := by omega
    have HE : Hid (chkL L = badL L) := by rw [Hid, chkL, hn, if_neg h5]
    go_enter Tryz.func74, Tryz.ntmps74
    go_wp2
    go_loopw [3] (fun i wl => ∃ k : Nat, k ≤ n ∧ i = .int .i64 k ∧ Below w.heap.size w wl ∧ Hid (∀ j x, j < k → L[j]? = some x → chkV x.k x.n x.s = 0)) (fun i _ => n - (intOf i).toNat)
    case atStart => exact ⟨0, Nat.zero_le _, rfl, Below.refl _ _, fun j _ hj => absurd hj (Nat.not_lt_zero _)⟩
    case round =>
      obtain ⟨k, hk, rfl, hnx, HA⟩ := hrel
      by_cases hlt : k < n
      · obtain ⟨x, hx⟩ : ∃ x, L[k]? = some x := ⟨L[k], List.getElem?_eq_getElem (by omega)⟩
        obtain ⟨g, o, rfl, hg, hc⟩ := H3.out (by intro e; rw [e] at hx; cases hx)
        obtain ⟨a0, a1, a2⟩ := hc k x hx
        have c0 := (hnx.cell (p := ⟨g, o + k * 3, none⟩) hg).trans a0
        have c1 := (hnx.cell (p := ⟨g, o + k * 3 + 1, none⟩) hg).trans a1
        have c2 := (hnx.cell (p := ⟨g, o + k * 3 + 2, none⟩) hg).trans a2
        have hlt' : (k : Int) < (n : Int) := by omega
        have hsz := hnx.size
        have hf := ckvX x (H2.out x (List.mem_of_getElem? hx))
        have HX : Hid (L[k]? = some x) := hx
        clear hc H3 H2 a0 a1 a2 hx
        by_cases hB : chkV x.k x.n x.s = 0
        · have HB : Hid (chkV x.k x.n x.s = 0) := hB
          rw [hB] at hf
          clear hB
          go_wp2_with (go_at_call 63; refine (hf _).mono ?_; rintro e w2 ⟨rfl, b2⟩)
          go_roundw
          case rel =>
            refine ⟨k + 1, by omega, by go_num, hnx.trans (b2.mono hsz), fun j y hj hy => ?_⟩
            rcases Nat.lt_or_ge j k with h | h
            · exact HA.out j y h hy
            · rw [show j = k by omega, HX.out] at hy; cases hy; exact HB.out
          case measure => simp [intOf]; omega
        · have HQ : Hid (chkL L = chkV x.k x.n x.s) := by rw [Hid, HE.out]; exact badL_at L k x HX.out HA.out hB
          have hFi : ((chkV x.k x.n x.s : Nat) : Int) ≠ 0 := by simpa using hB
          generalize chkV x.k x.n x.s = F at hf HQ hFi
          clear hB HA HE
          go_wp2_with (go_at_call 63; refine (hf _).mono ?_; rintro e w2 ⟨rfl, b2⟩)
          exact HP.out _ _ HQ.out (hnx.trans (b2.mono hsz))
      · have HQ : Hid (chkL L = 0) := by
          rw [Hid, HE.out, badL_skip L L.length (fun j x hj hx => HA.out j x (by omega) hx), List.drop_length]; rfl
        clear H2 H3 HA HE
        go_wp2
        exact HP.out _ _ HQ.out hnx

theorem rckd_any (L : List Dl) (u : Value) (wd : Int) (w : World) (h : DsAt w u L) :
    Calls Tryz.prog 34 #[.int .i64 wd, u] w fun e w' => e = .returned (.tuple #[.int .i64 (checkD wd L).1, .int .i64 ((checkD wd L).2 : Nat)]) ∧ Below w.heap.size w w' := by
  unfold checkD
  by_cases hw : wd < 0 ∨ 5 < wd
  · rw [if_pos hw]
    obtain ⟨ao, cap, rfl, -⟩ := h
    refine (rckd_out wd ao L.length cap w ?_).mono ?_
    · rw [Bool.and_eq_false_iff, decide_eq_false_iff_not, decide_eq_false_iff_not]; omega
    · rintro e w' ⟨rfl, rfl⟩
      exact ⟨rfl, Below.refl _ _⟩
  · rw [if_neg hw]
    exact rckd_in L u wd w h (by omega) (by omega)

set_option maxRecDepth 100000 in
set_option maxHeartbeats 1600000 in
theorem rca_many (ao bo : Option Addr) (n m ca cb : Nat) (w : World) (h : 5 < n) :
    Calls Tryz.prog 26 #[.slice ao n ca, .slice bo m cb] w fun e w' => e = .returned (.int .i64 2) ∧ w' = w := by
  have h' : (5 : Int) < (n : Int) := by omega
  go_enter Tryz.func26, Tryz.ntmps26
  go_wp2
  go_ret
  exact ⟨rfl, rfl⟩

set_option maxRecDepth 100000 in
set_option maxHeartbeats 1600000 in
theorem rca_bad (ao bo : Option Addr) (n m ca cb : Nat) (w : World) (h : ¬ 5 < n) (X : Int) (E : Nat) (hE : ¬ (E : Int) = 0)
    (hc : Calls Tryz.prog 34 #[.int .i64 (n : Nat), .slice bo m cb] w fun e w' => e = .returned (.tuple #[.int .i64 X, .int .i64 (E : Nat)]) ∧ Below w.heap.size w w') :
    Calls Tryz.prog 26 #[.slice ao n ca, .slice bo m cb] w fun e w' => e = .returned (.int .i64 (E : Nat)) ∧ Below w.heap.size w w' := by
  have h' : ¬ (5 : Int) < (n : Int) := by omega
  go_enter Tryz.func26, Tryz.ntmps26
  go_wp2_with (go_at_call 34; refine hc.mono ?_; rintro e w1 ⟨rfl, b1⟩)
  go_ret
  exact ⟨rfl, b1⟩

set_option maxRecDepth 100000 in
set_option maxHeartbeats 1600000 in
theorem rca_ok (ao bo : Option Addr) (n m ca cb : Nat) (w : World) (h : ¬ 5 < n) (X : Int) (E : Nat)
    (hc : Calls Tryz.prog 34 #[.int .i64 (n : Nat), .slice bo m cb] w fun e w' => e = .returned (.tuple #[.int .i64 X, .int .i64 0]) ∧ Below w.heap.size w w')
    (hf : ∀ W, Below w.heap.size w W → Calls Tryz.prog 74 #[.slice ao n ca] W fun e w' => e = .returned (.int .i64 (E : Nat)) ∧ Below W.heap.size W w') :
    Calls Tryz.prog 26 #[.slice ao n ca, .slice bo m cb] w fun e w' => e = .returned (.int .i64 (E : Nat)) ∧ Below w.heap.size w w' := by
  have h' : ¬ (5 : Int) < (n : Int) := by omega
  go_enter Tryz.func26, Tryz.ntmps26
  go_wp2_with fail
  refine hc.mono ?_
  rintro e w1 ⟨rfl, b1⟩
  go_wp2_with fail
  refine (hf _ b1).mono ?_
  rintro e w2 ⟨rfl, b2⟩
  have q2 := b1.trans (b2.mono b1.size)
  clear hc hf b1 b2
  go_wp2
  go_ret
  exact ⟨rfl, q2⟩

theorem rca_any (r : List Vl) (L : List Dl) (u v : Value) (w : World) (hu : VsAt w u r) (hv : DsAt w v L) :
    Calls Tryz.prog 26 #[u, v] w fun e w' => e = .returned (.int .i64 (applyE r L : Nat)) ∧ Below w.heap.size w w' := by
  have hc := rckd_any L v (r.length : Nat) w hv
  have hf := fun W (hW : Below w.heap.size w W) => ckvs_any r u W (hu.below hW)
  obtain ⟨ao, ca, rfl, -⟩ := hu
  obtain ⟨bo, cb, rfl, -⟩ := hv
  unfold applyE
  by_cases h5 : 5 < r.length
  · rw [if_pos h5]
    refine (rca_many ao bo _ _ ca cb w h5).mono ?_
    rintro e w' ⟨rfl, rfl⟩
    exact ⟨rfl, Below.refl _ _⟩
  rw [if_neg h5]
  have e1 : chkL r = badL r := by rw [chkL, if_neg h5]
  rw [e1] at hf
  by_cases hq : (checkD (r.length : Nat) L).2 ≠ 0
  · rw [if_pos hq]
    exact rca_bad ao bo _ _ ca cb w h5 _ _ (by simpa using hq) hc
  · rw [if_neg hq]
    have hq0 : (checkD (r.length : Nat) L).2 = 0 := Classical.not_not.1 hq
    rw [hq0] at hc
    exact rca_ok ao bo _ _ ca cb w h5 _ _ hc hf

end Go.Proofs.YtcnnjladaoaeiaaGreatDoor
