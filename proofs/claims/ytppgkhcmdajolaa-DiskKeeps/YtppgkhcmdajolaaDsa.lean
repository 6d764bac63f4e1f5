/-
  Disks in memory, and the small calls that look at them.
-/
import Derived.Test.YtppgkhcmdajolaaRows
import Derived.WalkKit
import Derived.WalkSpells
import Derived.WalkLawsBesides
import Derived.Laws.StructEq
import Derived.Deep.RegionLaw
import Derived.Below
import Derived.OwnWalk
namespace Go.Proofs.Ytppgkhcmdajolaa
open Go.RowKit

theorem ret_bool {a b : Bool} (h : a = b) : Ending.returned (.bool a) = .returned (.bool b) := by rw [h]
theorem ret_int {k : IntKind} {a b : Int} (h : a = b) : Ending.returned (.int k a) = .returned (.int k b) := by rw [h]
theorem hide {p : Prop} (h : p) : Hid p := h

theorem any_at {α : Type} {L : List α} {P : α → Bool} {i : Nat} {x : α} (h : L[i]? = some x) (e : P x = true) : L.any P = true := by
  rw [List.any_eq_true]
  exact ⟨x, List.mem_of_getElem? h, e⟩

theorem any_none {α : Type} {L : List α} {P : α → Bool} (h : ∀ (j : Nat) y, L[j]? = some y → P y = false) : L.any P = false := by
  rw [List.any_eq_false]
  intro y hy
  obtain ⟨j, hj, rfl⟩ := List.getElem_of_mem hy
  rw [h j _ (List.getElem?_eq_getElem hj)]; decide

structure Wr where
  n : Int
  s : ByteArray
  deriving Inhabited

structure Dk where
  ks : List ByteArray
  ws : List Wr
  deriving Inhabited

/-- texts in memory -/
def StAt (w : World) (u : Value) (L : List ByteArray) : Prop :=
  ∃ ao cap, u = .slice ao L.length cap ∧ L.length * 16 ≤ 140737488355328 ∧ (ao = none → L.length = 0 ∧ cap = 0) ∧ (L ≠ [] → ∃ g o, ao = some ⟨g, o, none⟩ ∧ g < w.heap.size ∧ ∀ i x, L[i]? = some x → w.cell? ⟨g, o + i, none⟩ = some (.string x))

/-- what was written, in memory -/
def WrAt (w : World) (u : Value) (L : List Wr) : Prop :=
  ∃ ao cap, u = .slice ao L.length cap ∧ L.length * 24 ≤ 140737488355328 ∧ (ao = none → L.length = 0 ∧ cap = 0) ∧ (L ≠ [] → ∃ g o, ao = some ⟨g, o, none⟩ ∧ g < w.heap.size ∧ ∀ i x, L[i]? = some x → w.cell? ⟨g, o + i * 2, none⟩ = some (.int .i64 x.n) ∧ w.cell? ⟨g, o + i * 2 + 1, none⟩ = some (.string x.s))

theorem StAt.below {w w' : World} {u : Value} {L : List ByteArray} (h : StAt w u L) (hb : Below w.heap.size w w') : StAt w' u L := by
  obtain ⟨ao, cap, e, hl, hn, hc⟩ := h
  refine ⟨ao, cap, e, hl, hn, fun hne => ?_⟩
  obtain ⟨g, o, e, hg, hcc⟩ := hc hne
  exact ⟨g, o, e, Nat.lt_of_lt_of_le hg hb.size, fun i x hi => (hb.cell (p := ⟨g, o + i, none⟩) hg).trans (hcc i x hi)⟩

theorem WrAt.below {w w' : World} {u : Value} {L : List Wr} (h : WrAt w u L) (hb : Below w.heap.size w w') : WrAt w' u L := by
  obtain ⟨ao, cap, e, hl, hn, hc⟩ := h
  refine ⟨ao, cap, e, hl, hn, fun hne => ?_⟩
  obtain ⟨g, o, e, hg, hcc⟩ := hc hne
  refine ⟨g, o, e, Nat.lt_of_lt_of_le hg hb.size, fun i x hi => ?_⟩
  obtain ⟨a, b⟩ := hcc i x hi
  exact ⟨(hb.cell (p := ⟨g, _, none⟩) hg).trans a, (hb.cell (p := ⟨g, _, none⟩) hg).trans b⟩

theorem StAt.form {w : World} {u : Value} {L : List ByteArray} (h : StAt w u L) : ∃ ao cap, u = .slice ao L.length cap := by
  obtain ⟨ao, cap, e, -⟩ := h; exact ⟨ao, cap, e⟩
theorem WrAt.form {w : World} {u : Value} {L : List Wr} (h : WrAt w u L) : ∃ ao cap, u = .slice ao L.length cap := by
  obtain ⟨ao, cap, e, -⟩ := h; exact ⟨ao, cap, e⟩

/-- is a text no sector? -/
def badS (s : ByteArray) : Bool := decide ((s.size : Int) ≠ 64)

/-- the fault of what is written, on a disk of so many sectors -/
def faultN (n : Nat) (x : Wr) : Nat := if x.n < 0 ∨ (n : Int) ≤ x.n then 5 else if badS x.s then 1 else 0
def faultsN (n : Nat) : List Wr → Nat
  | [] => 0
  | x :: r => if faultN n x = 0 then faultsN n r else faultN n x
def checkD (d : Dk) : Nat :=
  if d.ks.length < 1 ∨ 400 < d.ks.length then 3 else if d.ks.any badS then 1 else if 400 < d.ws.length then 2 else faultsN d.ks.length d.ws

theorem faultN_cases (n : Nat) (x : Wr) : faultN n x = 5 ∨ faultN n x = 1 ∨ faultN n x = 0 := by
  unfold faultN
  by_cases h : x.n < 0 ∨ (n : Int) ≤ x.n
  · rw [if_pos h]; exact .inl rfl
  · rw [if_neg h]
    by_cases h2 : badS x.s = true
    · rw [if_pos h2]; exact .inr (.inl rfl)
    · rw [if_neg h2]; exact .inr (.inr rfl)

theorem faultsN_at {n : Nat} : ∀ {L : List Wr} {i : Nat} {x : Wr}, L[i]? = some x → (∀ j y, j < i → L[j]? = some y → faultN n y = 0) → faultN n x ≠ 0 → faultsN n L = faultN n x
  | [], i, x, h, _, _ => by cases h
  | y :: r, 0, x, h, _, h0 => by
    cases h
    rw [faultsN, if_neg h0]
  | y :: r, i + 1, x, h, hb, h0 => by
    rw [faultsN, if_pos (hb 0 y (by omega) rfl)]
    exact faultsN_at (by simpa using h) (fun j z hj hz => hb (j + 1) z (by omega) (by simpa using hz)) h0

theorem faultsN_none {n : Nat} : ∀ {L : List Wr}, (∀ (j : Nat) y, L[j]? = some y → faultN n y = 0) → faultsN n L = 0
  | [], _ => rfl
  | y :: r, h => by
    rw [faultsN, if_pos (h 0 y rfl)]
    exact faultsN_none fun j z hz => h (j + 1) z (by simpa using hz)

theorem faultsN_zero {n : Nat} : ∀ {L : List Wr}, faultsN n L = 0 → ∀ y ∈ L, faultN n y = 0
  | [], _, y, hy => by cases hy
  | x :: r, h, y, hy => by
    rw [faultsN] at h
    by_cases hx : faultN n x = 0
    · rw [if_pos hx] at h
      rcases List.mem_cons.1 hy with rfl | hy
      · exact hx
      · exact faultsN_zero h y hy
    · rw [if_neg hx] at h; exact absurd h hx

theorem badS_any (s : ByteArray) (w : World) : Calls Try.prog 37 #[.string s] w fun e w' => e = .returned (.bool (badS s)) ∧ w' = w := by
  go_enter Try.func37, Try.ntmps37
  go_wp2
  go_ret
  refine ⟨ret_bool ?_, rfl⟩
  unfold badS
  rw [Bool.eq_iff_iff]; simp

set_option maxRecDepth 100000 in
set_option maxHeartbeats 1600000 in
theorem kixf_any (L : List ByteArray) (u : Value) (w : World) (h : StAt w u L) :
    Calls Try.prog 50 #[u, .func (.func 37) #[] #[]] w fun e w' => ∃ k : Int, e = .returned (.int .i64 k) ∧ (decide (k ≥ 0)) = L.any badS ∧ Below w.heap.size w w' := by
  obtain ⟨ao, cap, rfl, h1, -, h3⟩ := h
  obtain ⟨n, hn⟩ : ∃ n, L.length = n := ⟨_, rfl⟩
  have HN := hide hn
  rw [hn] at h1 ⊢
  clear hn
  go_enter Try.func50, Try.ntmps50
  go_wp2
  go_loopw [8] (fun i wl => ∃ k : Nat, k ≤ n ∧ i = .int .i64 k ∧ Below w.heap.size w wl ∧ Hid (∀ (j : Nat) y, j < k → L[j]? = some y → badS y = false)) (fun i _ => n - (intOf i).toNat)
  case atStart => exact ⟨0, Nat.zero_le _, rfl, Below.refl _ _, fun j _ hj => absurd hj (Nat.not_lt_zero _)⟩
  case round =>
    obtain ⟨k, hk, rfl, hnx, HA⟩ := hrel
    by_cases hlt : k < n
    · obtain ⟨x, hx⟩ : ∃ x, L[k]? = some x := ⟨L[k]'(by rw [HN.out]; exact hlt), List.getElem?_eq_getElem _⟩
      obtain ⟨g, o, rfl, hg, hc⟩ := h3 (by intro e; rw [e] at hx; cases hx)
      have c0 := (hnx.cell (p := ⟨g, o + k, none⟩) hg).trans (hc k x hx)
      have hlt' : (k : Int) < (n : Int) := by omega
      have hf := badS_any x wr
      have HX : Hid (L[k]? = some x) := hx
      clear hc h3 hx
      by_cases hB : badS x = true
      · have HB := hide hB
        rw [hB] at hf
        clear hB
        go_wp2_with (go_at_call 37; refine hf.mono ?_; rintro e w2 ⟨rfl, rfl⟩)
        go_ret
        exact ⟨k, rfl, by rw [any_at HX.out HB.out]; exact decide_eq_true (by omega), hnx⟩
      · rw [Bool.not_eq_true] at hB
        have HB := hide hB
        rw [hB] at hf
        clear hB
        go_wp2_with (go_at_call 37; refine hf.mono ?_; rintro e w2 ⟨rfl, rfl⟩)
        go_roundw
        case rel =>
          refine ⟨k + 1, by omega, by go_num, hnx, fun j y hj hy => ?_⟩
          rcases Nat.lt_or_ge j k with h | h
          · exact HA.out j y h hy
          · rw [show j = k by omega, HX.out] at hy; cases hy; exact HB.out
        case measure => simp [intOf]; omega
    · clear h3
      go_wp2
      go_ret
      refine ⟨-1, rfl, ?_, hnx⟩
      rw [any_none (L := L) (P := badS) (fun j y hy => HA.out j y (by have := (List.getElem?_eq_some_iff.1 hy).1; have := HN.out; omega) hy)]
      rfl

set_option maxRecDepth 100000 in
set_option maxHeartbeats 800000 in
theorem khas_any (L : List ByteArray) (u : Value) (w : World) (h : StAt w u L) :
    Calls Try.prog 36 #[u, .func (.func 37) #[] #[]] w fun e w' => e = .returned (.bool (L.any badS)) ∧ Below w.heap.size w w' := by
  have hx := kixf_any L u w h
  generalize L.any badS = B at hx ⊢
  obtain ⟨ao, cap, rfl⟩ := h.form
  clear h
  go_enter Try.func36, Try.ntmps36
  go_wp2_with fail
  refine hx.mono ?_
  rintro e w1 ⟨k, rfl, hk, b1⟩
  have HK := hide hk
  clear hk
  go_wp2
  go_ret
  exact ⟨by rw [← HK.out]; rfl, b1⟩

set_option maxRecDepth 100000 in
set_option maxHeartbeats 1600000 in
theorem fault_any (x : Wr) (ao bo : Option Addr) (n m cap cap' : Nat) (w : World) :
    Calls Try.prog 28 #[.agg #[.slice ao n cap, .slice bo m cap'], .agg #[.int .i64 x.n, .string x.s]] w fun e w' => e = .returned (.int .i64 (faultN n x : Nat)) ∧ Below w.heap.size w w' := by
  obtain ⟨z, s⟩ := x
  by_cases h1 : z < 0
  · have hF : faultN n ⟨z, s⟩ = 5 := by unfold faultN; rw [if_pos (.inl h1)]
    have hd : decide (z < 0) = true := by simpa using h1
    rw [hF]; clear hF
    have b0 := ((Below.refl w.heap.size w).alloc (Nat.le_refl _) (.cells #[.slice ao n cap, .slice bo m cap'] 25)).alloc (by simp) (.cells #[.int .i64 z, .string s] 56)
    go_enter Try.func28, Try.ntmps28
    go_wp2
    go_ret
    exact ⟨rfl, b0⟩
  · by_cases h2 : (n : Int) ≤ z
    · have hF : faultN n ⟨z, s⟩ = 5 := by unfold faultN; rw [if_pos (.inr h2)]
      rw [hF]; clear hF
      have b0 := ((Below.refl w.heap.size w).alloc (Nat.le_refl _) (.cells #[.slice ao n cap, .slice bo m cap'] 25)).alloc (by simp) (.cells #[.int .i64 z, .string s] 56)
      go_enter Try.func28, Try.ntmps28
      go_wp2
      go_ret
      exact ⟨rfl, b0⟩
    · have b0 := ((Below.refl w.heap.size w).alloc (Nat.le_refl _) (.cells #[.slice ao n cap, .slice bo m cap'] 25)).alloc (by simp) (.cells #[.int .i64 z, .string s] 56)
      have h12 : ¬ (z < 0 ∨ (n : Int) ≤ z) := by omega
      by_cases h3 : (s.size : Int) = 64
      · have hF : faultN n ⟨z, s⟩ = 0 := by unfold faultN badS; rw [if_neg h12, if_neg (by simpa using h3)]
        rw [hF]; clear hF
        go_enter Try.func28, Try.ntmps28
        go_wp2
        go_ret
        exact ⟨rfl, b0⟩
      · have hF : faultN n ⟨z, s⟩ = 1 := by unfold faultN badS; rw [if_neg h12, if_pos (by simpa using h3)]
        have h3' : ((s.size : Int) == 64) = false := by simpa using h3
        rw [hF]; clear hF
        go_enter Try.func28, Try.ntmps28
        go_wp2
        go_ret
        exact ⟨rfl, b0⟩

theorem between_any (a b c : Int) (w : World) : Calls Try.prog 34 #[.int .i64 a, .int .i64 b, .int .i64 c] w fun e w' => e = .returned (.bool (decide (b ≤ a ∧ a ≤ c))) ∧ w' = w := by
  go_enter Try.func34, Try.ntmps34
  go_wp2
  all_goals go_ret
  all_goals exact ⟨ret_bool (by simp [*] <;> omega), rfl⟩

end Go.Proofs.Ytppgkhcmdajolaa
