/-
  The law's small functions: columnsRight, num, two.
-/
import Derived.Test.YtjmhkeooiimpfaaGreatHld
import Derived.Test.YtjmhkeooiimpfaaGreatPrl
namespace Go.Proofs.YtjmhkeooiimpfaaGreat
open Go.RowKit

set_option maxRecDepth 100000 in
set_option maxHeartbeats 1600000 in
theorem rcol_eq (L : List Cl) (u : Value) (nm : List UInt8) (W : World) (h : CsAt W u L) :
    Calls Tryz.prog 12 #[u, .string ⟨nm.toArray⟩] W fun e W' => e = .returned (.int .i64 (placeI L nm)) ∧ W' = W := by
  obtain ⟨ao, cap, rfl, h1, h3⟩ := h
  obtain ⟨n, hn⟩ : ∃ n, L.length = n := ⟨_, rfl⟩
  rw [hn] at h1 ⊢
  go_enter Tryz.func12, Tryz.ntmps12
  go_wp2
  go_loopw [5] (fun i wl => ∃ k : Nat, k ≤ n ∧ i = .int .i64 k ∧ wl = W ∧ Hid (∀ j x, j < k → L[j]? = some x → x.name ≠ nm)) (fun i _ => n - (intOf i).toNat)
  case atStart => exact ⟨0, Nat.zero_le _, rfl, rfl, fun j _ hj => absurd hj (Nat.not_lt_zero _)⟩
  case round =>
    obtain ⟨k, hk, rfl, hnx, HA⟩ := hrel
    subst hnx
    by_cases hlt : k < n
    · obtain ⟨x, hx⟩ : ∃ x, L[k]? = some x := ⟨L[k], List.getElem?_eq_getElem (by omega)⟩
      obtain ⟨g, o, rfl, hg, hc⟩ := h3 (by intro e; rw [e] at hx; cases hx)
      obtain ⟨a0, a1⟩ := hc k x hx
      have c0 := a0
      have c1 := a1
      have hlt' : (k : Int) < (n : Int) := by omega
      have HX : Hid (L[k]? = some x) := hx
      clear hc h3 hx
      by_cases hB : x.name = nm
      · have HB := hide hB
        have hb' : (x.name == nm) = true := by simpa using hB
        clear hB
        go_wp2
        go_ret
        refine ⟨?_, rfl⟩
        rw [placeI_some (placeC_at L nm k x HX.out HA.out HB.out)]; rfl
      · have HB := hide hB
        have hb' : (x.name == nm) = false := by simpa using hB
        clear hB
        go_wp2
        go_roundw
        case rel =>
          refine ⟨k + 1, by omega, by go_num, trivial, fun j y hj hy => ?_⟩
          rcases Nat.lt_or_ge j k with h | h
          · exact HA.out j y h hy
          · rw [show j = k by omega, HX.out] at hy; cases hy; exact HB.out
        case measure => simp [intOf]; omega
    · clear h3
      go_wp2
      go_ret
      refine ⟨?_, rfl⟩
      have hN : placeI L nm = -1 := by
        refine placeI_none (placeC_none L nm fun y hy => ?_)
        obtain ⟨j, hj, rfl⟩ := List.getElem_of_mem hy
        exact HA.out j _ (by omega) (List.getElem?_eq_getElem hj)
      rw [hN]; rfl


/-- columns that may be a table's -/
def ColsOk (L : List Cl) : Prop := ∀ (k : Nat) (c : Cl), L[k]? = some c → 1 ≤ c.ty ∧ c.ty ≤ 3 ∧ placeI (L.take k) c.name < 0
noncomputable def colsR (L : List Cl) : Bool := @decide (ColsOk L) (Classical.propDecidable _)
theorem colsR_true {L : List Cl} : colsR L = true ↔ ColsOk L := by unfold colsR; simp
theorem colsR_false {L : List Cl} (h : ¬ ColsOk L) : colsR L = false := by
  cases e : colsR L with
  | false => rfl
  | true => exact absurd (colsR_true.1 e) h

set_option maxRecDepth 100000 in
set_option maxHeartbeats 3200000 in
theorem cright_any (L : List Cl) (u : Value) (W : World) (h : CsAt W u L) (hcp : ∀ ao n cap, u = .slice ao n cap → n ≤ cap) :
    Calls Tryz.prog 5 #[u] W fun e w' => e = .returned (.bool (colsR L)) ∧ Below W.heap.size W w' := by
  obtain ⟨ao, cap, rfl, h1, h3⟩ := h
  obtain ⟨n, hn⟩ : ∃ n, L.length = n := ⟨_, rfl⟩
  rw [hn] at h1 hcp ⊢
  have hcn : n ≤ cap := hcp _ _ _ rfl
  clear hcp
  have H3 := hide h3
  have HN := hide hn
  obtain ⟨BB, hBB⟩ : ∃ BB, colsR L = BB := ⟨_, rfl⟩
  rw [hBB]
  have HBB := hide hBB
  clear hBB
  clear h3 hn
  go_enter Tryz.func5, Tryz.ntmps5
  go_wp2
  go_loopw [3] (fun i wl => ∃ k : Nat, k ≤ n ∧ i = .int .i64 k ∧ Below W.heap.size W wl ∧ Hid (∀ (j : Nat) (c : Cl), j < k → L[j]? = some c → 1 ≤ c.ty ∧ c.ty ≤ 3 ∧ placeI (L.take j) c.name < 0)) (fun i _ => n - (intOf i).toNat)
  case atStart => exact ⟨0, Nat.zero_le _, rfl, Below.refl _ _, fun j _ hj => absurd hj (Nat.not_lt_zero _)⟩
  case round =>
    obtain ⟨k, hk, rfl, hnx, HA⟩ := hrel
    by_cases hlt : k < n
    · obtain ⟨x, hx⟩ : ∃ x, L[k]? = some x := ⟨L[k]'(by rw [HN.out]; exact hlt), List.getElem?_eq_getElem _⟩
      obtain ⟨g, o, rfl, hg, hc⟩ := H3.out (by intro e; rw [e] at hx; cases hx)
      obtain ⟨a0, a1⟩ := hc k x hx
      have c0 := (hnx.cell (p := ⟨g, o + k * 2, none⟩) hg).trans a0
      have c1 := (hnx.cell (p := ⟨g, o + k * 2 + 1, none⟩) hg).trans a1
      have hlt' : (k : Int) < (n : Int) := by omega
      have hle' : (k : Int) ≤ (n : Int) := by omega
      have HX := hide hx
      have hcs : ∀ cp, CsAt wr (.slice (some ⟨g, o, none⟩) k cp) (L.take k) := by
        intro cp
        have hl : (L.take k).length = k := by rw [List.length_take, HN.out]; omega
        refine ⟨some ⟨g, o, none⟩, cp, by rw [hl], by rw [hl]; omega, fun _ => ⟨g, o, rfl, Nat.lt_of_lt_of_le hg hnx.size, fun i c hi => ?_⟩⟩
        have hi' : L[i]? = some c := by
          have h2 := (List.getElem?_eq_some_iff.1 hi).1
          rw [hl] at h2
          rw [List.getElem?_take_of_lt h2] at hi
          exact hi
        obtain ⟨b0, b1⟩ := hc i c hi'
        exact ⟨(hnx.cell (p := ⟨g, _, none⟩) hg).trans b0, (hnx.cell (p := ⟨g, _, none⟩) hg).trans b1⟩
      have hcol := fun (m cp : Nat) => rcol_eq (L.take k) (.slice (some ⟨g, o, none⟩) k cp) x.name (wr.drewN m) ((hcs cp).below (below_drewN (Below.refl _ _) m))
      have hkc : (k : Int) ≤ (cap : Int) := by omega
      clear a0 a1 hx hc hcs H3
      by_cases t1 : x.ty < 1
      · have HE : Hid (BB = false) := by rw [Hid, ← HBB.out]; exact colsR_false fun h => by have := h k x HX.out; omega
        clear hcol
        go_wp2_with fail
        go_quiet (fail)
        go_wp2
        go_ret
        exact ⟨by rw [HE.out]; rfl, below_drewN hnx _⟩
      · have t1' : decide (x.ty < 1) = false := decide_eq_false t1
        by_cases t2 : 3 < x.ty
        · have HE : Hid (BB = false) := by rw [Hid, ← HBB.out]; exact colsR_false fun h => by have := h k x HX.out; omega
          clear hcol
          go_wp2_with fail
          go_quiet (fail)
          go_wp2
          go_ret
          exact ⟨by rw [HE.out]; rfl, below_drewN hnx _⟩
        · have t2' : decide (3 < x.ty) = false := decide_eq_false t2
          have HT := hide (And.intro t1 t2)
          obtain ⟨P, hP⟩ : ∃ P, placeI (L.take k) x.name = P := ⟨_, rfl⟩
          rw [hP] at hcol
          have HP := hide hP
          clear hP
          by_cases t3 : 0 ≤ P
          · have HE : Hid (BB = false) := by rw [Hid, ← HBB.out]; exact colsR_false fun h => by have := (h k x HX.out).2.2; rw [HP.out] at this; omega
            go_wp2_with fail
            go_quiet ((go_at_call 12; exact Calls.quiet_of_same (hcol _ _)))
            go_wp2
            go_ret
            exact ⟨by rw [HE.out]; rfl, below_drewN hnx _⟩
          · have H3n := hide t3
            go_wp2_with fail
            go_quiet ((go_at_call 12; exact Calls.quiet_of_same (hcol _ _)))
            go_wp2
            go_roundw
            case rel =>
              refine ⟨k + 1, by omega, by go_num, below_drewN hnx _, fun j c hj hc => ?_⟩
              rcases Nat.lt_or_ge j k with h | h
              · exact HA.out j c h hc
              · rw [show j = k by omega] at hc ⊢; rw [HX.out] at hc; cases hc; have := HT.out; have := H3n.out; rw [HP.out]; omega
            case measure => simp [intOf]; omega
    · have HE : Hid (BB = true) := by
        rw [Hid, ← HBB.out, colsR_true]
        intro j c hc
        have hj := (List.getElem?_eq_some_iff.1 hc).1
        exact HA.out j c (by have := HN.out; omega) hc
      clear H3 HA
      go_wp2
      go_ret
      exact ⟨by rw [HE.out]; rfl, hnx⟩

set_option maxRecDepth 100000 in
set_option maxHeartbeats 400000 in
theorem num_any (n : Int) (w : World) : Calls Tryz.prog 9 #[.int .i64 n] w fun e w' => e = .returned (.agg #[.int .i64 1, .int .i64 n, .string ⟨#[]⟩]) ∧ Below w.heap.size w w' := by
  go_enter Tryz.func9, Tryz.ntmps9
  go_wp2
  refine bodyPost_ret (v := .agg #[.int .i64 1, .int .i64 n, .string ⟨#[]⟩]) ?_ rfl ⟨rfl, ?_⟩
  · simp [results, Tryz.results9, go_sem]
  · exact (Below.refl _ _).alloc (Nat.le_refl _) _

/-- the two columns -/
def twoC : List Cl := [⟨[97], 1⟩, ⟨[98], 2⟩]

set_option maxRecDepth 100000 in
set_option maxHeartbeats 400000 in
theorem two_any (w : World) : Calls Tryz.prog 10 #[] w fun e w' => ∃ u, e = .returned u ∧ CsAt w' u twoC ∧ Below w.heap.size w w' := by
  have hc : CsAt (w.alloc (.cells #[.string ⟨#[97]⟩, .int .i64 1, .string ⟨#[98]⟩, .int .i64 2] 43)) (.slice (some ⟨w.heap.size, 0, none⟩) 2 2) twoC := by
    refine ⟨_, _, rfl, by decide, fun _ => ⟨w.heap.size, 0, rfl, by simp, fun i c hi => ?_⟩⟩
    match i, hi with
    | 0, hi => simp [twoC] at hi; subst hi; simp
    | 1, hi => simp [twoC] at hi; subst hi; simp
    | i + 2, hi => simp [twoC] at hi
  have HC := hide hc
  clear hc
  go_enter Tryz.func10, Tryz.ntmps10
  go_wp2
  go_ret
  exact ⟨_, rfl, HC.out, (Below.refl _ _).alloc (Nat.le_refl _) _⟩

end Go.Proofs.YtjmhkeooiimpfaaGreat
