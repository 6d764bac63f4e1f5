/-
  Values in memory; 'Fault' of package fit.
-/
import Derived.Test.YtcnnjladaoaeiaaGreatDoorCast
namespace Go.Proofs.YtcnnjladaoaeiaaGreatDoor
open Go.RowKit

/-- a value -/
structure Vl where
  k : Int
  n : Int
  s : List UInt8
deriving DecidableEq

def vl0 : Vl := ⟨0, 0, []⟩
def vlC (x : Vl) : List Value := [.int .i64 x.k, .int .i64 x.n, .string ⟨x.s.toArray⟩]
def vlV (x : Vl) : Value := .agg #[.int .i64 x.k, .int .i64 x.n, .string ⟨x.s.toArray⟩]

/-- what is wrong with the first wrong one -/
def badL : List Vl → Nat
  | [] => 0
  | x :: r => if chkV x.k x.n x.s = 0 then badL r else chkV x.k x.n x.s

def chkL (l : List Vl) : Nat := if 5 < l.length then 2 else badL l

theorem badL_zero (l : List Vl) : badL l = 0 ↔ ∀ x ∈ l, chkV x.k x.n x.s = 0 := by
  induction l with
  | nil => simp [badL]
  | cons x r ih =>
    simp only [badL]
    by_cases h : chkV x.k x.n x.s = 0
    · rw [if_pos h, ih]; simp [h]
    · rw [if_neg h]; simp [h]

/-- values in memory, one behind the other -/
def VsAt (w : World) (u : Value) (L : List Vl) : Prop :=
  ∃ ao cap, u = .slice ao L.length cap ∧ L.length * 32 ≤ 140737488355328 ∧ (∀ x ∈ L, x.s.length ≤ 140737488355328) ∧
    (L ≠ [] → ∃ g o, ao = some ⟨g, o, none⟩ ∧ g < w.heap.size ∧ ∀ i x, L[i]? = some x → w.cell? ⟨g, o + i * 3, none⟩ = some (.int .i64 x.k) ∧ w.cell? ⟨g, o + i * 3 + 1, none⟩ = some (.int .i64 x.n) ∧ w.cell? ⟨g, o + i * 3 + 2, none⟩ = some (.string ⟨x.s.toArray⟩))

theorem VsAt.below {w w' : World} {u : Value} {L : List Vl} (h : VsAt w u L) (hb : Below w.heap.size w w') : VsAt w' u L := by
  obtain ⟨ao, cap, h1, h2, h3, h4⟩ := h
  refine ⟨ao, cap, h1, h2, h3, fun hn => ?_⟩
  obtain ⟨g, o, e, hg, hc⟩ := h4 hn
  refine ⟨g, o, e, Nat.lt_of_lt_of_le hg hb.size, fun i x hx => ?_⟩
  obtain ⟨a, b, c⟩ := hc i x hx
  exact ⟨(hb.cell (p := ⟨g, _, none⟩) hg).trans a, (hb.cell (p := ⟨g, _, none⟩) hg).trans b, (hb.cell (p := ⟨g, _, none⟩) hg).trans c⟩

theorem badL_skip (L : List Vl) (i : Nat) (h : ∀ j x, j < i → L[j]? = some x → chkV x.k x.n x.s = 0) : badL L = badL (L.drop i) := by
  induction L generalizing i with
  | nil => simp
  | cons y r ih =>
    cases i with
    | zero => rfl
    | succ i =>
      have h0 := h 0 y (by omega) rfl
      rw [badL, if_pos h0, List.drop_succ_cons]
      exact ih i fun j x hj hx => h (j + 1) x (by omega) (by simpa using hx)

theorem badL_at (L : List Vl) (i : Nat) (x : Vl) (hx : L[i]? = some x) (h : ∀ j x, j < i → L[j]? = some x → chkV x.k x.n x.s = 0) (hb : chkV x.k x.n x.s ≠ 0) : badL L = chkV x.k x.n x.s := by
  rw [badL_skip L i h]
  obtain ⟨hi, rfl⟩ := List.getElem?_eq_some_iff.1 hx
  rw [List.drop_eq_getElem_cons hi, badL, if_neg hb]

set_option maxRecDepth 100000 in
set_option maxHeartbeats 800000 in
theorem fault1_any (x : Vl) (w : World) (hs : x.s.length ≤ 140737488355328) : Calls Tryz.prog 123 #[.agg #[.int .i64 x.k, .int .i64 x.n, .string ⟨x.s.toArray⟩]] w fun e w' => e = .returned (.bool (decide (chkV x.k x.n x.s ≠ 0))) ∧ Below w.heap.size w w' := by
  have h := check_any x.k x.n ⟨x.s.toArray⟩ (w.alloc (.cells #[.int .i64 x.k, .int .i64 x.n, .string ⟨x.s.toArray⟩] 49)) (by rw [size_mk]; exact hs)
  have e0 : (⟨x.s.toArray⟩ : ByteArray).data.toList = x.s := by simp
  rw [e0] at h
  generalize chkV x.k x.n x.s = c at h ⊢
  go_enter Tryz.func123, Tryz.ntmps123
  go_wp2_with (go_at_call 124; refine h.mono ?_; rintro e w1 ⟨rfl, b1⟩)
  go_ret
  refine ⟨ret_bool ?_, ((Below.refl _ _).alloc (Nat.le_refl _) _).trans (b1.mono (by simp))⟩
  rw [Bool.eq_iff_iff]; simp

/-- what the search leaves -/
def IdxPost (w : World) (L : List Vl) (e : Ending) (w' : World) : Prop :=
  (badL L = 0 ∧ e = .returned (.int .i64 (-1)) ∧ Below w.heap.size w w') ∨ ∃ (i : Nat) (x : Vl), L[i]? = some x ∧ badL L = chkV x.k x.n x.s ∧ e = .returned (.int .i64 (i : Int)) ∧ Below w.heap.size w w'

set_option maxRecDepth 100000 in
set_option maxHeartbeats 1600000 in
theorem idx_any (L : List Vl) (u : Value) (w : World) (h : VsAt w u L) : Calls Tryz.prog 122 #[u, .func (.func 123) #[] #[]] w fun e w' => IdxPost w L e w' := by
  obtain ⟨ao, cap, rfl, h1, h2, h3⟩ := h
  obtain ⟨n, hn⟩ : ∃ n, L.length = n := ⟨_, rfl⟩
  rw [hn] at h1 ⊢
  go_enter Tryz.func122, Tryz.ntmps122
  go_wp2
  go_loopw [8] (fun i wl => ∃ k : Nat, k ≤ n ∧ i = .int .i64 k ∧ Below w.heap.size w wl ∧ Hid (∀ j x, j < k → L[j]? = some x → chkV x.k x.n x.s = 0)) (fun i _ => n - (intOf i).toNat)
  case atStart => exact ⟨0, Nat.zero_le _, rfl, Below.refl _ _, fun j _ hj => absurd hj (Nat.not_lt_zero _)⟩
  case round =>
    obtain ⟨k, hk, rfl, hnx, HA⟩ := hrel
    by_cases hlt : k < n
    · obtain ⟨x, hx⟩ : ∃ x, L[k]? = some x := ⟨L[k], List.getElem?_eq_getElem (by omega)⟩
      obtain ⟨g, o, rfl, hg, hc⟩ := h3 (by intro e; rw [e] at hx; cases hx)
      obtain ⟨a0, a1, a2⟩ := hc k x hx
      have c0 := (hnx.cell (p := ⟨g, o + k * 3, none⟩) hg).trans a0
      have c1 := (hnx.cell (p := ⟨g, o + k * 3 + 1, none⟩) hg).trans a1
      have c2 := (hnx.cell (p := ⟨g, o + k * 3 + 2, none⟩) hg).trans a2
      have hlt' : (k : Int) < (n : Int) := by omega
      have hsz := hnx.size
      have hf := fault1_any x wr (h2 x (List.mem_of_getElem? hx))
      have HX : Hid (L[k]? = some x) := hx
      clear hc h3 h2 a0 a1 a2 hx
      by_cases hB : chkV x.k x.n x.s = 0
      · have HB : Hid (chkV x.k x.n x.s = 0) := hB
        rw [hB] at hf
        clear hB
        go_wp2_with (go_at_call 123; refine hf.mono ?_; rintro e w2 ⟨rfl, b2⟩)
        go_roundw
        case rel =>
          refine ⟨k + 1, by omega, by go_num, hnx.trans (b2.mono hsz), fun j y hj hy => ?_⟩
          rcases Nat.lt_or_ge j k with h | h
          · exact HA.out j y h hy
          · rw [show j = k by omega, HX.out] at hy; cases hy; exact HB.out
        case measure => simp [intOf]; omega
      · rw [decide_eq_true hB] at hf
        have HB := hide hB
        clear hB
        go_wp2_with (go_at_call 123; refine hf.mono ?_; rintro e w2 ⟨rfl, b2⟩)
        go_ret
        exact Or.inr ⟨k, x, HX.out, badL_at L k x HX.out HA.out HB.out, rfl, hnx.trans (b2.mono hsz)⟩
    · clear h2 h3
      go_wp2
      go_ret
      refine Or.inl ⟨?_, rfl, hnx⟩
      rw [badL_skip L L.length (fun j x hj hx => HA.out j x (by omega) hx), List.drop_length]; rfl

set_option maxRecDepth 100000 in
set_option maxHeartbeats 1600000 in
theorem fitFault_any (L : List Vl) (u : Value) (w : World) (h : VsAt w u L) : Calls Tryz.prog 75 #[u] w fun e w' => e = .returned (.int .i64 (badL L : Nat)) ∧ Below w.heap.size w w' := by
  have hi := idx_any L u w h
  have hq := h
  obtain ⟨ao, cap, rfl, h1, h2, h3⟩ := h
  obtain ⟨n, hn⟩ : ∃ n, L.length = n := ⟨_, rfl⟩
  rw [hn] at hi h1 ⊢
  go_enter Tryz.func75, Tryz.ntmps75
  go_wp2_with fail
  refine hi.mono ?_
  rintro e w1 (⟨hb, rfl, b1⟩ | ⟨i, x, hx, hb, rfl, b1⟩)
  · have HB := hide hb
    clear hi h2 h3 hq hb
    go_wp2
    go_ret
    exact ⟨by rw [HB.out]; rfl, b1⟩
  · have HB := hide hb
    obtain ⟨g, o, rfl, hg, hc⟩ := h3 (by intro e; rw [e] at hx; cases hx)
    obtain ⟨a0, a1, a2⟩ := hc i x hx
    have c0 := (b1.cell (p := ⟨g, o + i * 3, none⟩) hg).trans a0
    have c1 := (b1.cell (p := ⟨g, o + i * 3 + 1, none⟩) hg).trans a1
    have c2 := (b1.cell (p := ⟨g, o + i * 3 + 2, none⟩) hg).trans a2
    have hil : (i : Int) < (n : Int) := by have := (List.getElem?_eq_some_iff.1 hx).1; omega
    have hck := check_any x.k x.n ⟨x.s.toArray⟩ w1 (by rw [size_mk]; exact h2 x (List.mem_of_getElem? hx))
    have e0 : (⟨x.s.toArray⟩ : ByteArray).data.toList = x.s := by simp
    rw [e0] at hck
    clear hi h2 h3 hc hq hx a0 a1 a2 hb
    generalize chkV x.k x.n x.s = c at hck HB
    go_wp2_with (go_at_call 124; refine hck.mono ?_; rintro e w2 ⟨rfl, b2⟩)
    go_ret
    exact ⟨by rw [HB.out]; rfl, b1.trans (b2.mono b1.size)⟩

end Go.Proofs.YtcnnjladaoaeiaaGreatDoor
