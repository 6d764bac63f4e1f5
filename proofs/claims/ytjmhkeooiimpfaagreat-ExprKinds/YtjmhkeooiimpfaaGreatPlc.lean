/-
  Columns in memory; 'place' of package expr.
-/
import Derived.Test.YtjmhkeooiimpfaaGreatExP
namespace Go.Proofs.YtjmhkeooiimpfaaGreat
open Go.RowKit

/-- columns in memory, one behind the other -/
def CsAt (w : World) (u : Value) (L : List Cl) : Prop :=
  ∃ ao cap, u = .slice ao L.length cap ∧ L.length * 24 ≤ 140737488355328 ∧
    (L ≠ [] → ∃ g o, ao = some ⟨g, o, none⟩ ∧ g < w.heap.size ∧ ∀ i c, L[i]? = some c → w.cell? ⟨g, o + i * 2, none⟩ = some (.string ⟨c.name.toArray⟩) ∧ w.cell? ⟨g, o + i * 2 + 1, none⟩ = some (.int .i64 c.ty))

theorem CsAt.below {w w' : World} {u : Value} {L : List Cl} (h : CsAt w u L) (hb : Below w.heap.size w w') : CsAt w' u L := by
  obtain ⟨ao, cap, h1, h2, h3⟩ := h
  refine ⟨ao, cap, h1, h2, fun hn => ?_⟩
  obtain ⟨g, o, e, hg, hc⟩ := h3 hn
  refine ⟨g, o, e, Nat.lt_of_lt_of_le hg hb.size, fun i x hx => ?_⟩
  obtain ⟨a, b⟩ := hc i x hx
  exact ⟨(hb.cell (p := ⟨g, _, none⟩) hg).trans a, (hb.cell (p := ⟨g, _, none⟩) hg).trans b⟩

set_option maxRecDepth 100000 in
set_option maxHeartbeats 1600000 in
theorem isAt_any (c : Cl) (nm : List UInt8) (W : World) (p : Nat) (hp : W.cell? ⟨p, 0, none⟩ = some (.string ⟨nm.toArray⟩)) (lp : p < W.heap.size) :
    Calls Tryz.prog 36 #[.agg #[.string ⟨c.name.toArray⟩, .int .i64 c.ty], .pointer (some ⟨p, 0, none⟩)] W fun e W' => e = .returned (.bool (decide (c.name = nm))) ∧ Below W.heap.size W W' := by
  have b0 := (Below.refl W.heap.size W).alloc (Nat.le_refl _) (.cells #[.string ⟨c.name.toArray⟩, .int .i64 c.ty] 43)
  have a1 := (b0.cell (p := ⟨p, 0, none⟩) lp).trans hp
  go_enter Tryz.func36, Tryz.ntmps36
  go_wp2
  go_ret
  refine ⟨ret_bool ?_, b0⟩
  rw [Bool.eq_iff_iff]; simp

theorem placeC_at (L : List Cl) (nm : List UInt8) (i : Nat) (c : Cl) (hc : L[i]? = some c) (hb : ∀ j y, j < i → L[j]? = some y → y.name ≠ nm) (he : c.name = nm) : placeC L nm = some i := by
  induction L generalizing i with
  | nil => cases hc
  | cons y r ih =>
    cases i with
    | zero => cases hc; rw [placeC, if_pos he]
    | succ i =>
      rw [placeC, if_neg (hb 0 y (by omega) rfl), ih i (by simpa using hc) fun j z hj hz => hb (j + 1) z (by omega) (by simpa using hz)]
      rfl

theorem placeC_none (L : List Cl) (nm : List UInt8) (h : ∀ y ∈ L, y.name ≠ nm) : placeC L nm = none := by
  induction L with
  | nil => rfl
  | cons y r ih => rw [placeC, if_neg (h y (by simp)), ih fun z hz => h z (by simp [hz])]; rfl

/-- where a name stands, as a number -/
def placeI (L : List Cl) (nm : List UInt8) : Int := match placeC L nm with | some i => i | none => -1

theorem placeI_some {L : List Cl} {nm : List UInt8} {i : Nat} (h : placeC L nm = some i) : placeI L nm = i := by rw [placeI, h]
theorem placeI_none {L : List Cl} {nm : List UInt8} (h : placeC L nm = none) : placeI L nm = -1 := by rw [placeI, h]

set_option maxRecDepth 100000 in
set_option maxHeartbeats 1600000 in
theorem idx_any (L : List Cl) (u : Value) (nm : List UInt8) (w W : World) (h : CsAt w u L) (hb : Below w.heap.size w W) (p : Nat) (hp : W.cell? ⟨p, 0, none⟩ = some (.string ⟨nm.toArray⟩)) (lp : p < W.heap.size) :
    Calls Tryz.prog 35 #[u, .func (.func 36) #[] #[.pointer (some ⟨p, 0, none⟩)]] W fun e W' => e = .returned (.int .i64 (placeI L nm)) ∧ Below W.heap.size W W' := by
  obtain ⟨ao, cap, rfl, h1, h3⟩ := h
  obtain ⟨n, hn⟩ : ∃ n, L.length = n := ⟨_, rfl⟩
  rw [hn] at h1 ⊢
  have HP := hide hp
  have hbs := hb.size
  clear hp
  go_enter Tryz.func35, Tryz.ntmps35
  go_wp2
  go_loopw [8] (fun i wl => ∃ k : Nat, k ≤ n ∧ i = .int .i64 k ∧ Below W.heap.size W wl ∧ Hid (∀ j x, j < k → L[j]? = some x → x.name ≠ nm)) (fun i _ => n - (intOf i).toNat)
  case atStart => exact ⟨0, Nat.zero_le _, rfl, Below.refl _ _, fun j _ hj => absurd hj (Nat.not_lt_zero _)⟩
  case round =>
    obtain ⟨k, hk, rfl, hnx, HA⟩ := hrel
    by_cases hlt : k < n
    · obtain ⟨x, hx⟩ : ∃ x, L[k]? = some x := ⟨L[k], List.getElem?_eq_getElem (by omega)⟩
      obtain ⟨g, o, rfl, hg, hc⟩ := h3 (by intro e; rw [e] at hx; cases hx)
      obtain ⟨a0, a1⟩ := hc k x hx
      have hg' : g < W.heap.size := Nat.lt_of_lt_of_le hg hbs
      have c0 := ((hnx.cell (p := ⟨g, o + k * 2, none⟩) hg').trans (hb.cell (p := ⟨g, o + k * 2, none⟩) hg)).trans a0
      have c1 := ((hnx.cell (p := ⟨g, o + k * 2 + 1, none⟩) hg').trans (hb.cell (p := ⟨g, o + k * 2 + 1, none⟩) hg)).trans a1
      have hlt' : (k : Int) < (n : Int) := by omega
      have hsz := hnx.size
      have hf := isAt_any x nm wr p ((hnx.cell (p := ⟨p, 0, none⟩) lp).trans HP.out) (Nat.lt_of_lt_of_le lp hsz)
      have HX : Hid (L[k]? = some x) := hx
      clear hc h3 a0 a1 hx hb
      by_cases hB : x.name = nm
      · have HB := hide hB
        rw [decide_eq_true hB] at hf
        clear hB
        go_wp2_with (go_at_call 36; refine hf.mono ?_; rintro e w2 ⟨rfl, b2⟩)
        go_ret
        refine ⟨?_, hnx.trans (b2.mono hsz)⟩
        rw [placeI_some (placeC_at L nm k x HX.out HA.out HB.out)]; rfl
      · have HB := hide hB
        rw [decide_eq_false hB] at hf
        clear hB
        go_wp2_with (go_at_call 36; refine hf.mono ?_; rintro e w2 ⟨rfl, b2⟩)
        go_roundw
        case rel =>
          refine ⟨k + 1, by omega, by go_num, hnx.trans (b2.mono hsz), fun j y hj hy => ?_⟩
          rcases Nat.lt_or_ge j k with h | h
          · exact HA.out j y h hy
          · rw [show j = k by omega, HX.out] at hy; cases hy; exact HB.out
        case measure => simp [intOf]; omega
    · clear h3 hb
      go_wp2
      go_ret
      refine ⟨?_, hnx⟩
      have hN : placeI L nm = -1 := by
        refine placeI_none (placeC_none L nm fun y hy => ?_)
        obtain ⟨j, hj, rfl⟩ := List.getElem_of_mem hy
        exact HA.out j _ (by omega) (List.getElem?_eq_getElem hj)
      rw [hN]; rfl

set_option maxRecDepth 100000 in
set_option maxHeartbeats 800000 in
theorem place_any (L : List Cl) (u : Value) (nm : List UInt8) (w : World) (h : CsAt w u L) :
    Calls Tryz.prog 24 #[u, .string ⟨nm.toArray⟩] w fun e W' => e = .returned (.int .i64 (placeI L nm)) ∧ Below w.heap.size w W' := by
  have b0 := (Below.refl w.heap.size w).alloc (Nat.le_refl _) (.cells #[.string ⟨nm.toArray⟩] 9)
  have hi := idx_any L u nm w (w.alloc (.cells #[.string ⟨nm.toArray⟩] 9)) h b0 w.heap.size (Lib.cell_of_heap (heap_alloc_new _ _) 0) (by simp)
  have hx : u.oneCell' = true := by obtain ⟨ao, cap, rfl, -⟩ := h; rfl
  generalize placeI L nm = X at hi ⊢
  clear h
  go_enter Tryz.func24, Tryz.ntmps24
  go_wp2_with fail
  refine hi.mono ?_
  rintro e w1 ⟨rfl, b1⟩
  have q1 : Below w.heap.size w w1 := b0.trans (b1.mono (by simp))
  clear hi b0 b1
  go_wp2
  go_ret
  exact ⟨rfl, q1⟩

end Go.Proofs.YtjmhkeooiimpfaaGreat
