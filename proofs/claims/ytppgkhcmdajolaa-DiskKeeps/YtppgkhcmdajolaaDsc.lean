/-
  The document's Check of a disk.
-/
import Derived.Test.YtppgkhcmdajolaaDsb
import Derived.Deep.QuietTactic
import Derived.BigQuiet
namespace Go.Proofs.Ytppgkhcmdajolaa
open Go.RowKit

theorem below_drewN {B : Nat} {w w' : World} (h : Below B w w') (n : Nat) : Below B w (w'.drewN n) := by
  induction n with
  | zero => exact h
  | succ n ih => exact ih.drew

set_option maxRecDepth 100000 in
set_option maxHeartbeats 3200000 in
theorem rcheck_any (d : Dk) (ku wu : Value) (w : World) (hk : StAt w ku d.ks) (hw : WrAt w wu d.ws) :
    Calls Try.prog 12 #[.agg #[ku, wu]] w fun e w' => e = .returned (.int .i64 (checkD d : Nat)) ∧ Below w.heap.size w w' := by
  obtain ⟨K, L⟩ := d
  obtain ⟨n, hn⟩ : ∃ n, K.length = n := ⟨_, rfl⟩
  obtain ⟨m, hm⟩ : ∃ m, L.length = m := ⟨_, rfl⟩
  obtain ⟨ka, kc, rfl, hkl, -, hkc⟩ := hk
  obtain ⟨wa, wc, rfl, hwl, -, hwc⟩ := hw
  have HN := hide hn
  have HM := hide hm
  rw [hn] at hkl ⊢
  rw [hm] at hwl ⊢
  clear hn hm
  have z0 : (w.alloc (.cells #[.slice ka n kc, .slice wa m wc] 25)).heap.size = w.heap.size + 1 := by simp
  have b0 := (Below.refl w.heap.size w).alloc (Nat.le_refl _) (.cells #[.slice ka n kc, .slice wa m wc] 25)
  have k0 := heap_alloc_new w (.cells #[.slice ka n kc, .slice wa m wc] 25)
  obtain ⟨c0, c1⟩ := two_in k0
  have hbt := between_any n 1 400 (w.alloc (.cells #[.slice ka n kc, .slice wa m wc] 25))
  by_cases h1 : n < 1 ∨ 400 < n
  · have hE : checkD ⟨K, L⟩ = 3 := by unfold checkD; rw [if_pos (by rw [HN.out]; exact h1)]
    have hd : decide ((1 : Int) ≤ (n : Int) ∧ (n : Int) ≤ 400) = false := by simp; omega
    rw [hd] at hbt
    rw [hE]; clear hE hkc hwc z0 k0
    go_enter Try.func12, Try.ntmps12
    go_wp2_with (go_at_call 34; refine hbt.mono ?_; rintro e w2 ⟨rfl, rfl⟩)
    go_ret
    exact ⟨rfl, b0⟩
  have H1 : Hid (¬ (n < 1 ∨ 400 < n)) := h1
  have h2 : 1 ≤ n := by omega
  have h3 : n ≤ 400 := by omega
  have hd : decide ((1 : Int) ≤ (n : Int) ∧ (n : Int) ≤ 400) = true := by simp; omega
  rw [hd] at hbt
  clear h1 hd
  go_enter Try.func12, Try.ntmps12
  go_wp2_with (go_at_call 34; refine hbt.mono ?_; rintro e w2 ⟨rfl, rfl⟩)
  generalize hW0 : w.alloc (.cells #[.slice ka n kc, .slice wa m wc] 25) = w0 at *
  clear hW0 c0 c1
  go_loopw [3] (fun i wl => ∃ k : Nat, k ≤ n ∧ i = .int .i64 k ∧ Below w0.heap.size w0 wl ∧ Hid (∀ (j : Nat) y, j < k → K[j]? = some y → badS y = false)) (fun i _ => n - (intOf i).toNat)
  case atStart => exact ⟨0, Nat.zero_le _, rfl, Below.refl _ _, fun j _ hj => absurd hj (Nat.not_lt_zero _)⟩
  case round =>
    obtain ⟨k, hk, rfl, hnx, HA⟩ := hrel
    have kr := (hnx.block w.heap.size (by omega)).trans k0
    obtain ⟨x0, x1⟩ := two_in kr
    by_cases hlt : k < n
    · obtain ⟨x, hx⟩ : ∃ x, K[k]? = some x := ⟨K[k]'(by rw [HN.out]; exact hlt), List.getElem?_eq_getElem _⟩
      obtain ⟨g, o, rfl, hg, hc⟩ := hkc (by intro e; rw [e] at hx; cases hx)
      have c0 := ((hnx.cell (p := ⟨g, o + k, none⟩) (by show g < w0.heap.size; omega)).trans (b0.cell (p := ⟨g, o + k, none⟩) hg)).trans (hc k x hx)
      have hlt' : (k : Int) < (n : Int) := by omega
      have HX : Hid (K[k]? = some x) := hx
      clear hc hkc hx hwc
      by_cases hB : (x.size : Int) = 64
      · have HZ : Hid (badS x = false) := hide (by unfold badS; simpa using hB)
        go_wp2
        go_roundw
        case rel =>
          refine ⟨k + 1, by omega, by go_num, hnx, fun j y hj hy => ?_⟩
          rcases Nat.lt_or_ge j k with h | h
          · exact HA.out j y h hy
          · rw [show j = k by omega, HX.out] at hy; cases hy; exact HZ.out
        case measure => simp [intOf]; omega
      · have HZ : Hid (badS x = true) := hide (by unfold badS; simpa using hB)
        have hB' : ((x.size : Int) == 64) = false := by simpa using hB
        go_wp2
        go_ret
        refine ⟨ret_int ?_, b0.trans (hnx.mono b0.size)⟩
        unfold checkD
        rw [if_neg (by rw [HN.out]; exact H1.out), if_pos (any_at HX.out HZ.out)]
        rfl
    · clear hkc
      have HB : Hid (K.any badS = false) := any_none fun j y hy => HA.out j y (by have := (List.getElem?_eq_some_iff.1 hy).1; have := HN.out; omega) hy
      clear HA
      by_cases h4 : 400 < m
      · have HE : Hid (checkD ⟨K, L⟩ = 2) := by unfold checkD; rw [Hid, if_neg (by rw [HN.out]; exact H1.out), if_neg (by rw [HB.out]; decide), if_pos (by rw [HM.out]; exact h4)]
        clear hwc
        go_wp2
        go_ret
        exact ⟨ret_int (by rw [HE.out]; rfl), b0.trans (hnx.mono b0.size)⟩
      have HE : Hid (checkD ⟨K, L⟩ = faultsN n L) := by unfold checkD; rw [Hid, if_neg (by rw [HN.out]; exact H1.out), if_neg (by rw [HB.out]; decide), if_neg (by rw [HM.out]; exact h4)]; simp only [HN.out]
      have q1 := b0.trans (hnx.mono b0.size)
      have z1 : w.heap.size < wr.heap.size := by have := hnx.size; omega
      clear hnx b0 k0 z0
      go_wp2_with fail
      clear x0 x1
      go_loopw [4] (fun i wl => ∃ k : Nat, k ≤ m ∧ i = .int .i64 k ∧ Below wr.heap.size wr wl ∧ Hid (∀ (j : Nat) y, j < k → L[j]? = some y → faultN n y = 0)) (fun i _ => m - (intOf i).toNat)
      case atStart => exact ⟨0, Nat.zero_le _, rfl, Below.refl _ _, fun j _ hj => absurd hj (Nat.not_lt_zero _)⟩
      case round =>
        rename_i wq
        obtain ⟨k, hk, rfl, hnx, HA⟩ := hrel
        have kq := (hnx.block w.heap.size z1).trans kr
        obtain ⟨x0, x1⟩ := two_in kq
        have q2 := q1.trans (hnx.mono (Nat.le_of_lt z1))
        by_cases hlt : k < m
        · obtain ⟨x, hx⟩ : ∃ x, L[k]? = some x := ⟨L[k]'(by rw [HM.out]; exact hlt), List.getElem?_eq_getElem _⟩
          obtain ⟨g, o, rfl, hg, hc⟩ := hwc (by intro e; rw [e] at hx; cases hx)
          obtain ⟨a0, a1⟩ := hc k x hx
          have c0 := (q2.cell (p := ⟨g, o + k * 2, none⟩) hg).trans a0
          have c1 := (q2.cell (p := ⟨g, o + k * 2 + 1, none⟩) hg).trans a1
          have hlt' : (k : Int) < (m : Int) := by omega
          have HX : Hid (L[k]? = some x) := hx
          have hb2 := between_any x.n 0 ((n : Int) - 1)
          clear hc hwc a0 a1 hx
          by_cases h5 : x.n < 0 ∨ (n : Int) ≤ x.n
          · have HF : Hid (faultN n x = 5) := by unfold faultN; rw [Hid, if_pos h5]
            have HG : Hid (faultsN n L = 5) := (faultsN_at HX.out HA.out (by rw [HF.out]; decide)).trans HF.out
            have hd : decide ((0 : Int) ≤ x.n ∧ x.n ≤ (n : Int) - 1) = false := by simp; omega
            rw [hd] at hb2
            go_wp2_with fail
            go_quiet (first | (go_at_call 34; refine Calls.quiet_of_same (hb2 _)))
            go_wp2
            all_goals go_ret
            all_goals exact ⟨ret_int (by rw [HE.out, HG.out]; rfl), by first | exact q2 | exact below_drewN q2 _⟩
          · have hd : decide ((0 : Int) ≤ x.n ∧ x.n ≤ (n : Int) - 1) = true := by simp; omega
            rw [hd] at hb2
            by_cases hB : (x.s.size : Int) = 64
            · have HZ : Hid (faultN n x = 0) := by unfold faultN badS; rw [Hid, if_neg h5, if_neg (by simpa using hB)]
              clear h5
              go_wp2_with fail
              go_quiet (first | (go_at_call 34; refine Calls.quiet_of_same (hb2 _)))
              go_wp2
              go_roundw
              case rel =>
                refine ⟨k + 1, by omega, by go_num, below_drewN hnx _, fun j y hj hy => ?_⟩
                rcases Nat.lt_or_ge j k with h | h
                · exact HA.out j y h hy
                · rw [show j = k by omega, HX.out] at hy; cases hy; exact HZ.out
              case measure => simp [intOf]; omega
            · have HF : Hid (faultN n x = 1) := by unfold faultN badS; rw [Hid, if_neg h5, if_pos (by simpa using hB)]
              have HG : Hid (faultsN n L = 1) := (faultsN_at HX.out HA.out (by rw [HF.out]; decide)).trans HF.out
              have hB' : ((x.s.size : Int) == 64) = false := by simpa using hB
              clear h5
              go_wp2_with fail
              go_quiet (first | (go_at_call 34; refine Calls.quiet_of_same (hb2 _)))
              go_wp2
              go_ret
              exact ⟨ret_int (by rw [HE.out, HG.out]; rfl), by first | exact q2 | exact below_drewN q2 _⟩
        · clear hwc
          have hE : faultsN n L = 0 := faultsN_none fun j y hy => HA.out j y (by have := (List.getElem?_eq_some_iff.1 hy).1; have := HM.out; omega) hy
          have HG := hide hE
          clear hE
          go_wp2
          go_ret
          exact ⟨ret_int (by rw [HE.out, HG.out]; rfl), by first | exact q2 | exact below_drewN q2 _⟩

end Go.Proofs.Ytppgkhcmdajolaa
