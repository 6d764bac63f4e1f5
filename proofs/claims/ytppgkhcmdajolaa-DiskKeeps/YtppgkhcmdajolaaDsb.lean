/-
  Check of a disk: the program's and the document's.
-/
import Derived.Test.YtppgkhcmdajolaaDsa
namespace Go.Proofs.Ytppgkhcmdajolaa
open Go.RowKit

theorem two_in {w : World} {b : Nat} {a0 a1 : Value} {t : TypeId} (h : w.heap[b]? = some (.cells #[a0, a1] t)) : w.cell? ⟨b, 0, none⟩ = some a0 ∧ w.cell? ⟨b, 1, none⟩ = some a1 := by
  constructor <;> rw [Lib.cell_of_heap h] <;> rfl

set_option maxRecDepth 100000 in
set_option maxHeartbeats 3200000 in
theorem check_any (d : Dk) (ku wu : Value) (w : World) (hk : StAt w ku d.ks) (hw : WrAt w wu d.ws) :
    Calls Try.prog 16 #[.agg #[ku, wu]] w fun e w' => e = .returned (.int .i64 (checkD d : Nat)) ∧ Below w.heap.size w w' := by
  obtain ⟨K, L⟩ := d
  obtain ⟨n, hn⟩ : ∃ n, K.length = n := ⟨_, rfl⟩
  obtain ⟨m, hm⟩ : ∃ m, L.length = m := ⟨_, rfl⟩
  obtain ⟨ka, kc, rfl⟩ := hk.form
  have hks := fun W (hb : Below w.heap.size w W) => khas_any K _ W (hk.below hb)
  clear hk
  obtain ⟨wa, wc, rfl, hwl, -, hwc⟩ := hw
  have HN := hide hn
  have HM := hide hm
  rw [hn] at hks ⊢
  rw [hm] at hwl ⊢
  clear hn hm
  have z0 : (w.alloc (.cells #[.slice ka n kc, .slice wa m wc] 25)).heap.size = w.heap.size + 1 := by simp
  have b0 := (Below.refl w.heap.size w).alloc (Nat.le_refl _) (.cells #[.slice ka n kc, .slice wa m wc] 25)
  have k0 := heap_alloc_new w (.cells #[.slice ka n kc, .slice wa m wc] 25)
  by_cases h1 : n < 1 ∨ 400 < n
  · have hE : checkD ⟨K, L⟩ = 3 := by unfold checkD; rw [if_pos (by rw [HN.out]; exact h1)]
    rw [hE]; clear hE hks hwc z0 k0
    go_enter Try.func16, Try.ntmps16
    rcases Nat.lt_or_ge n 1 with h2 | h2
    · go_wp2
      go_ret
      exact ⟨rfl, b0⟩
    · have h3 : 400 < n := by omega
      go_wp2
      go_ret
      exact ⟨rfl, b0⟩
  have H1 : Hid (¬ (n < 1 ∨ 400 < n)) := h1
  have h2 : 1 ≤ n := by omega
  have h3 : n ≤ 400 := by omega
  clear h1
  obtain ⟨c0, c1⟩ := two_in k0
  cases hB : K.any badS with
  | true =>
    have hE : checkD ⟨K, L⟩ = 1 := by unfold checkD; rw [if_neg (by rw [HN.out]; exact H1.out), if_pos hB]
    rw [hB] at hks
    rw [hE]; clear hE hwc hB
    go_enter Try.func16, Try.ntmps16
    go_wp2_with fail
    refine (hks _ b0).mono ?_
    rintro e w1 ⟨rfl, b1⟩
    go_wp2
    go_ret
    exact ⟨rfl, b0.trans (b1.mono b0.size)⟩
  | false =>
  have HB := hide hB
  rw [hB] at hks
  clear hB
  by_cases h4 : 400 < m
  · have hE : checkD ⟨K, L⟩ = 2 := by unfold checkD; rw [if_neg (by rw [HN.out]; exact H1.out), if_neg (by rw [HB.out]; decide), if_pos (by rw [HM.out]; exact h4)]
    rw [hE]; clear hE hwc
    go_enter Try.func16, Try.ntmps16
    go_wp2_with fail
    refine (hks _ b0).mono ?_
    rintro e w1 ⟨rfl, b1⟩
    have k1 := (b1.block w.heap.size (by omega)).trans k0
    obtain ⟨x0, x1⟩ := two_in k1
    go_wp2
    go_ret
    exact ⟨rfl, b0.trans (b1.mono b0.size)⟩
  have hE : checkD ⟨K, L⟩ = faultsN n L := by unfold checkD; rw [if_neg (by rw [HN.out]; exact H1.out), if_neg (by rw [HB.out]; decide), if_neg (by rw [HM.out]; exact h4)]; simp only [HN.out]
  rw [hE]; clear hE
  go_enter Try.func16, Try.ntmps16
  go_wp2_with fail
  refine (hks _ b0).mono ?_
  rintro e w1 ⟨rfl, b1⟩
  have k1 := (b1.block w.heap.size (by omega)).trans k0
  have q1 := b0.trans (b1.mono b0.size)
  have z1 : w.heap.size < w1.heap.size := by have := b1.size; omega
  clear hks b1 b0 k0 z0 c0 c1
  obtain ⟨x0, x1⟩ := two_in k1
  go_wp2_with fail
  clear x0 x1
  go_loopw [26] (fun i wl => ∃ k : Nat, k ≤ m ∧ i = .int .i64 k ∧ Below w1.heap.size w1 wl ∧ Hid (∀ (j : Nat) y, j < k → L[j]? = some y → faultN n y = 0)) (fun i _ => m - (intOf i).toNat)
  case atStart => exact ⟨0, Nat.zero_le _, rfl, Below.refl _ _, fun j _ hj => absurd hj (Nat.not_lt_zero _)⟩
  case round =>
    obtain ⟨k, hk, rfl, hnx, HA⟩ := hrel
    by_cases hlt : k < m
    · obtain ⟨x, hx⟩ : ∃ x, L[k]? = some x := ⟨L[k]'(by rw [HM.out]; exact hlt), List.getElem?_eq_getElem _⟩
      obtain ⟨g, o, rfl, hg, hc⟩ := hwc (by intro e; rw [e] at hx; cases hx)
      obtain ⟨a0, a1⟩ := hc k x hx
      have hg1 : g < w1.heap.size := by omega
      have c0 := ((hnx.cell (p := ⟨g, o + k * 2, none⟩) hg1).trans (q1.cell (p := ⟨g, o + k * 2, none⟩) hg)).trans a0
      have c1 := ((hnx.cell (p := ⟨g, o + k * 2 + 1, none⟩) hg1).trans (q1.cell (p := ⟨g, o + k * 2 + 1, none⟩) hg)).trans a1
      have kr := (hnx.block w.heap.size z1).trans k1
      have hlt' : (k : Int) < (m : Int) := by omega
      have HX : Hid (L[k]? = some x) := hx
      have b2 := hnx.alloc (hnx.size) (.cells #[.int .i64 x.n, .string x.s] 56)
      have k2 := (((Below.refl wr.heap.size wr).alloc (Nat.le_refl _) (.cells #[.int .i64 x.n, .string x.s] 56)).block w.heap.size (by have := hnx.size; omega)).trans kr
      obtain ⟨y0, y1⟩ := two_in k2
      have hf := fault_any x ka (some ⟨g, o, none⟩) n m kc wc (wr.alloc (.cells #[.int .i64 x.n, .string x.s] 56))
      have hsz := b2.size
      clear hc hwc a0 a1 hx kr k2
      by_cases hB : faultN n x = 0
      · have HZ := hide hB
        rw [hB] at hf
        clear hB
        go_wp2_with (go_at_call 28; refine hf.mono ?_; rintro e w2 ⟨rfl, b3⟩)
        go_roundw
        case rel =>
          refine ⟨k + 1, by omega, by go_num, b2.trans (b3.mono hsz), fun j y hj hy => ?_⟩
          rcases Nat.lt_or_ge j k with h | h
          · exact HA.out j y h hy
          · rw [show j = k by omega, HX.out] at hy; cases hy; exact HZ.out
        case measure => simp [intOf]; omega
      · have HE : Hid (faultsN n L = faultN n x) := faultsN_at HX.out HA.out hB
        have hne : ((faultN n x : Nat) : Int) ≠ 0 := by omega
        have hne' : (((faultN n x : Nat) : Int) == 0) = false := by simpa using hB
        clear hB
        generalize faultN n x = F at *
        go_wp2_with (go_at_call 28; refine hf.mono ?_; rintro e w2 ⟨rfl, b3⟩)
        go_ret
        exact ⟨ret_int (by rw [HE.out]), q1.trans ((b2.trans (b3.mono hsz)).mono (Nat.le_of_lt z1))⟩
    · clear hwc
      have hE : faultsN n L = 0 := faultsN_none fun j y hy => HA.out j y (by have := (List.getElem?_eq_some_iff.1 hy).1; have := HM.out; omega) hy
      have HE := hide hE
      clear hE
      go_wp2
      go_ret
      exact ⟨ret_int (by rw [HE.out]; rfl), q1.trans (hnx.mono (Nat.le_of_lt z1))⟩

end Go.Proofs.Ytppgkhcmdajolaa
