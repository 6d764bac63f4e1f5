/-
  The document's SameValue and SameValues, of any values in memory.
  The document's SameExpr, of any expressions in memory.
  The document's SameCmd, of one command in memory twice.
  'Join' of package token at every slice of tokens; the laws' own first look, 'tokenBegun': it answers true.
  Parse, all cases in one; the laws' first look, commandBegun.
  The laws' first look at commands, commandBegun: it answers true.
  What the listed variables give, and a world that holds them.
-/
import Derived.Deep.RegionHeld3
import Derived.Test.YtkpeklealgicpabGreatDoorRows
import Derived.LaidMore
import Derived.Stop.LaidErr
import Derived.Lib.LaidTab
import Derived.ProofKit
import Derived.OpenShut
import Derived.SizedLaws
import Derived.MakeChecks
import Derived.Shelf.Vars
import Derived.Deep.DeepHandedRow
import Derived.Deep.DeepWitnessRowRef
import Derived.Test.YtkpeklealgicpabGreatDoorGf

namespace Go.Proofs.YtkpeklealgicpabGreatDoor
open Go.RowKit

def eqV (x y : Vl) : Bool := decide (x.k = y.k) && decide (x.n = y.n) && decide (x.s = y.s)
theorem eqV_iff (x y : Vl) : eqV x y = true ↔ x = y := by
  obtain ⟨k, n, s⟩ := x
  obtain ⟨k', n', s'⟩ := y
  simp [eqV, and_assoc]

theorem mk_ne {a b : List UInt8} (h : a ≠ b) : (⟨a.toArray⟩ : ByteArray) ≠ ⟨b.toArray⟩ := by
  intro e; exact h (by simpa using congrArg (fun s : ByteArray => s.data.toList) e)

set_option maxRecDepth 100000 in
set_option maxHeartbeats 800000 in
theorem sameV_any (x y : Vl) (w : World) : Calls Tryz.prog 25 #[.agg #[.int .i64 x.k, .int .i64 x.n, .string ⟨x.s.toArray⟩], .agg #[.int .i64 y.k, .int .i64 y.n, .string ⟨y.s.toArray⟩]] w fun e w' => e = .returned (.bool (eqV x y)) ∧ Below w.heap.size w w' := by
  obtain ⟨k, n, s⟩ := x
  obtain ⟨k', n', s'⟩ := y
  simp only [eqV]
  by_cases h1 : k = k'
  · subst h1
    by_cases h2 : n = n'
    · subst h2
      go_enter Tryz.func25, Tryz.ntmps25
      go_wp2
      go_ret
      refine ⟨ret_bool ?_, ((Below.refl _ _).alloc (Nat.le_refl _) _).alloc (by simp) _⟩
      simp
      rw [Bool.eq_iff_iff]; simp
    · have h2' : (n == n') = false := by simpa using h2
      go_enter Tryz.func25, Tryz.ntmps25
      go_wp2
      go_ret
      exact ⟨ret_bool (by simp [h2]), ((Below.refl _ _).alloc (Nat.le_refl _) _).alloc (by simp) _⟩
  · have h1' : (k == k') = false := by simpa using h1
    go_enter Tryz.func25, Tryz.ntmps25
    go_wp2
    go_ret
    exact ⟨ret_bool (by simp [h1]), ((Below.refl _ _).alloc (Nat.le_refl _) _).alloc (by simp) _⟩

theorem keepV {w W W' : World} {g o g' o' : Nat} {x y z x' y' z' : Value} (hg : g < w.heap.size) (hg' : g' < w.heap.size)
    (h : W.cell? ⟨g, o, none⟩ = some x ∧ W.cell? ⟨g, o + 1, none⟩ = some y ∧ W.cell? ⟨g, o + 2, none⟩ = some z ∧ W.cell? ⟨g', o', none⟩ = some x' ∧ W.cell? ⟨g', o' + 1, none⟩ = some y' ∧ W.cell? ⟨g', o' + 2, none⟩ = some z' ∧ Below w.heap.size w W) (hb : Below W.heap.size W W') :
    W'.cell? ⟨g, o, none⟩ = some x ∧ W'.cell? ⟨g, o + 1, none⟩ = some y ∧ W'.cell? ⟨g, o + 2, none⟩ = some z ∧ W'.cell? ⟨g', o', none⟩ = some x' ∧ W'.cell? ⟨g', o' + 1, none⟩ = some y' ∧ W'.cell? ⟨g', o' + 2, none⟩ = some z' ∧ Below w.heap.size w W' := by
  obtain ⟨h1, h2, h3, h4, h5, h6, h7⟩ := h
  have s := h7.size
  exact ⟨(hb.cell (p := ⟨g, _, none⟩) (by show g < _; omega)).trans h1, (hb.cell (p := ⟨g, _, none⟩) (by show g < _; omega)).trans h2, (hb.cell (p := ⟨g, _, none⟩) (by show g < _; omega)).trans h3, (hb.cell (p := ⟨g', _, none⟩) (by show g' < _; omega)).trans h4, (hb.cell (p := ⟨g', _, none⟩) (by show g' < _; omega)).trans h5, (hb.cell (p := ⟨g', _, none⟩) (by show g' < _; omega)).trans h6, h7.trans (hb.mono s)⟩

/-- the cells of one value in a row of them -/
theorem row_val {w : World} {b off : Nat} {L : List Vl} (hc : ∀ j x, (L.flatMap vlC)[j]? = some x → w.cell? ⟨b, off + j, none⟩ = some x) (k : Nat) (x : Vl) (hx : L[k]? = some x) :
    w.cell? ⟨b, off + k * 3, none⟩ = some (.int .i64 x.k) ∧ w.cell? ⟨b, off + k * 3 + 1, none⟩ = some (.int .i64 x.n) ∧ w.cell? ⟨b, off + k * 3 + 2, none⟩ = some (.string ⟨x.s.toArray⟩) := by
  have g0 := flat_get vlC 3 (fun _ => rfl) L k x hx 0 (by decide)
  have g1 := flat_get vlC 3 (fun _ => rfl) L k x hx 1 (by decide)
  have g2 := flat_get vlC 3 (fun _ => rfl) L k x hx 2 (by decide)
  exact ⟨hc _ _ g0, hc _ _ g1, hc _ _ g2⟩

set_option maxRecDepth 100000 in
set_option maxHeartbeats 1600000 in
theorem sameVs_any (L M : List Vl) (u v : Value) (w : World) (h : RowAt 0 w u L.length (L.flatMap vlC)) (h' : RowAt 0 w v M.length (M.flatMap vlC)) (hL : L.length ≤ 1000000000000000) :
    Calls Tryz.prog 27 #[u, v] w fun e w' => (∃ b, e = .returned (.bool b) ∧ (b = true ↔ L = M)) ∧ Below w.heap.size w w' := by
  obtain ⟨ao, cap, hu⟩ := h.form
  obtain ⟨ao', cap', hv⟩ := h'.form
  by_cases hn : L.length = M.length
  · have H3 : Hid (∀ k x y, L[k]? = some x → M[k]? = some y → ∃ g o g' o', ao = some ⟨g, o, none⟩ ∧ ao' = some ⟨g', o', none⟩ ∧ g < w.heap.size ∧ g' < w.heap.size ∧ (w.cell? ⟨g, o + k * 3, none⟩ = some (.int .i64 x.k) ∧ w.cell? ⟨g, o + k * 3 + 1, none⟩ = some (.int .i64 x.n) ∧ w.cell? ⟨g, o + k * 3 + 2, none⟩ = some (.string ⟨x.s.toArray⟩)) ∧ (w.cell? ⟨g', o' + k * 3, none⟩ = some (.int .i64 y.k) ∧ w.cell? ⟨g', o' + k * 3 + 1, none⟩ = some (.int .i64 y.n) ∧ w.cell? ⟨g', o' + k * 3 + 2, none⟩ = some (.string ⟨y.s.toArray⟩))) := by
      intro k x y hx hy
      rcases h with ⟨h0, -⟩ | ⟨b, off, cp, e, -, hlt, hc⟩
      · exfalso; have := (List.getElem?_eq_some_iff.1 hx).1; omega
      rcases h' with ⟨h0, -⟩ | ⟨b', off', cp', e', -, hlt', hc'⟩
      · exfalso; have := (List.getElem?_eq_some_iff.1 hy).1; omega
      rw [hu] at e
      rw [hv] at e'
      cases e
      cases e'
      exact ⟨b, off, b', off', rfl, rfl, hlt, hlt', row_val hc k x hx, row_val hc' k y hy⟩
    rw [hu, hv, ← hn]
    have HN := hide hn
    clear h h' hu hv
    obtain ⟨n, hN⟩ : ∃ n, L.length = n := ⟨_, rfl⟩
    rw [hN] at hL ⊢
    go_enter Tryz.func27, Tryz.ntmps27
    go_wp2
    go_loopw [5] (fun i wl => ∃ k : Nat, k ≤ n ∧ i = .int .i64 k ∧ Below w.heap.size w wl ∧ Hid (∀ j, j < k → L[j]? = M[j]?)) (fun i _ => n - (intOf i).toNat)
    case atStart => exact ⟨0, Nat.zero_le _, rfl, Below.refl _ _, fun j hj => absurd hj (Nat.not_lt_zero _)⟩
    case round =>
      obtain ⟨k, hk, rfl, hnx, HA⟩ := hrel
      by_cases hlt : k < n
      · obtain ⟨x, hx⟩ : ∃ x, L[k]? = some x := ⟨L[k], List.getElem?_eq_getElem (by omega)⟩
        obtain ⟨y, hy⟩ : ∃ y, M[k]? = some y := ⟨M[k]'(by have := HN.out; omega), List.getElem?_eq_getElem (by have := HN.out; omega)⟩
        obtain ⟨g, o, g', o', rfl, rfl, hg, hg', ⟨a0, a1, a2⟩, d0, d1, d2⟩ := H3.out k x y hx hy
        have c0 := (hnx.cell (p := ⟨g, o + k * 3, none⟩) hg).trans a0
        have c1 := (hnx.cell (p := ⟨g, o + k * 3 + 1, none⟩) hg).trans a1
        have c2 := (hnx.cell (p := ⟨g, o + k * 3 + 2, none⟩) hg).trans a2
        have f0 := (hnx.cell (p := ⟨g', o' + k * 3, none⟩) hg').trans d0
        have f1 := (hnx.cell (p := ⟨g', o' + k * 3 + 1, none⟩) hg').trans d1
        have f2 := (hnx.cell (p := ⟨g', o' + k * 3 + 2, none⟩) hg').trans d2
        have hlt' : (k : Int) < (n : Int) := by omega
        have HX := hide hx
        have HY := hide hy
        have HQ := hide (eqV_iff x y)
        have hsv := sameV_any x y
        clear a0 a1 a2 d0 d1 d2 hx hy H3
        generalize eqV x y = q at hsv HQ
        go_wp2_with fail
        go_region_held3 (fun w' => w'.cell? ⟨g, o + k * 3, none⟩ = some (.int .i64 x.k) ∧ w'.cell? ⟨g, o + k * 3 + 1, none⟩ = some (.int .i64 x.n) ∧ w'.cell? ⟨g, o + k * 3 + 2, none⟩ = some (.string ⟨x.s.toArray⟩) ∧ w'.cell? ⟨g', o' + k * 3, none⟩ = some (.int .i64 y.k) ∧ w'.cell? ⟨g', o' + k * 3 + 1, none⟩ = some (.int .i64 y.n) ∧ w'.cell? ⟨g', o' + k * 3 + 2, none⟩ = some (.string ⟨y.s.toArray⟩) ∧ Below w.heap.size w w') (first | exact ⟨c0, c1, c2, f0, f1, f2, hnx.drew⟩ | exact keepV hg hg' (by assumption) (by assumption)) (first | (go_at_call 25; refine (hsv _).mono ?_; rintro e w' ⟨rfl, hb⟩))
        rename_i hH
        have q8 := hH.2.2.2.2.2.2
        clear hH c0 c1 c2 f0 f1 f2 hsv
        cases q with
        | true =>
          go_wp2
          go_roundw
          case rel =>
            refine ⟨k + 1, by omega, by go_num, q8, fun j hj => ?_⟩
            rcases Nat.lt_or_ge j k with hjk | hjk
            · exact HA.out j hjk
            · rw [show j = k by omega, HX.out, HY.out, HQ.out.1 rfl]
          case measure => simp [intOf]; omega
        | false =>
          go_wp2
          go_ret
          refine ⟨⟨false, rfl, ⟨fun e => Bool.noConfusion e, fun e => ?_⟩⟩, q8⟩
          have h1 := HX.out
          rw [e, HY.out] at h1
          cases h1
          exact HQ.out.2 rfl
      · clear H3
        go_wp2
        go_ret
        refine ⟨⟨true, rfl, ⟨fun _ => List.ext_getElem? fun j => ?_, fun _ => rfl⟩⟩, hnx⟩
        rcases Nat.lt_or_ge j k with hjk | hjk
        · exact HA.out j hjk
        · have := HN.out
          rw [List.getElem?_eq_none (by omega), List.getElem?_eq_none (by omega)]
  · have hn' : ((L.length : Int) == (M.length : Int)) = false := by rw [beq_eq_false_iff_ne]; omega
    rw [hu, hv]
    have HN := hide hn
    clear h h' hu hv hn
    go_enter Tryz.func27, Tryz.ntmps27
    go_wp2
    go_ret
    exact ⟨⟨false, rfl, ⟨fun e => Bool.noConfusion e, fun e => absurd (congrArg List.length e) HN.out⟩⟩, Below.refl _ _⟩

end Go.Proofs.YtkpeklealgicpabGreatDoor

namespace Go.Proofs.YtkpeklealgicpabGreatDoor
open Go.RowKit

theorem size_ne {a b : List UInt8} (h : a ≠ b) : ((⟨a.toArray⟩ : ByteArray).toList == (⟨b.toArray⟩ : ByteArray).toList) = false := by
  rw [Lib.toList_data, Lib.toList_data, beq_eq_false_iff_ne]; simpa using h

set_option maxRecDepth 100000 in
set_option maxHeartbeats 1600000 in
theorem sameE_no (k k' : Int) (x x' : Vl) (nm nm' : List UInt8) (ao ao' : Option Addr) (n n' ca ca' : Nat) (w : World) (hne : ¬ (k = k' ∧ nm = nm' ∧ x = x' ∧ n = n')) :
    Calls Tryz.prog 26 #[exV k x nm (.slice ao n ca), exV k' x' nm' (.slice ao' n' ca')] w fun e w' => e = .returned (.bool false) ∧ Below w.heap.size w w' := by
  have bb : ∀ (o o' : Obj), Below w.heap.size w ((w.alloc o).alloc o') := fun o o' => ((Below.refl _ _).alloc (Nat.le_refl _) _).alloc (by simp) _
  have hsv := sameV_any x x'
  have HQ := hide (eqV_iff x x')
  generalize eqV x x' = q at hsv HQ
  unfold exV
  by_cases h1 : k = k'
  · subst h1
    by_cases h2 : nm = nm'
    · subst h2
      cases q with
      | false =>
        go_enter Tryz.func26, Tryz.ntmps26
        go_wp2_with (go_at_call 25; refine (hsv _).mono ?_; rintro e w1 ⟨rfl, b1⟩)
        go_ret
        exact ⟨rfl, (bb _ _).trans (b1.mono (by simp; omega))⟩
      | true =>
        have h3 : ¬ n = n' := fun e => hne ⟨rfl, rfl, HQ.out.1 rfl, e⟩
        have h3' : ((n : Int) == (n' : Int)) = false := by rw [beq_eq_false_iff_ne]; omega
        clear hne
        go_enter Tryz.func26, Tryz.ntmps26
        go_wp2_with fail
        refine (hsv _).mono ?_
        rintro e w1 ⟨rfl, b1⟩
        have c0 := b1.cell (p := ⟨w.heap.size, 5, none⟩) (by simp; omega)
        have c1 := b1.cell (p := ⟨w.heap.size + 1, 5, none⟩) (by simp)
        simp at c0 c1
        go_wp2
        go_ret
        exact ⟨rfl, (bb _ _).trans (b1.mono (by simp; omega))⟩
    · have h2' := size_ne h2
      clear hne
      go_enter Tryz.func26, Tryz.ntmps26
      go_wp2
      go_ret
      exact ⟨rfl, bb _ _⟩
  · have h1' : (k == k') = false := by simpa using h1
    clear hne
    go_enter Tryz.func26, Tryz.ntmps26
    go_wp2
    go_ret
    exact ⟨rfl, bb _ _⟩

/-- six cells, behind a call that keeps what was there -/
theorem six_up {w W W' : World} {g o : Nat} {x0 x1 x2 x3 x4 x5 : Value} (hg : g < w.heap.size) (hw : Below w.heap.size w W) (hb : Below W.heap.size W W')
    (h : W.cell? ⟨g, o, none⟩ = some x0 ∧ W.cell? ⟨g, o + 1, none⟩ = some x1 ∧ W.cell? ⟨g, o + 2, none⟩ = some x2 ∧ W.cell? ⟨g, o + 3, none⟩ = some x3 ∧ W.cell? ⟨g, o + 4, none⟩ = some x4 ∧ W.cell? ⟨g, o + 5, none⟩ = some x5) :
    W'.cell? ⟨g, o, none⟩ = some x0 ∧ W'.cell? ⟨g, o + 1, none⟩ = some x1 ∧ W'.cell? ⟨g, o + 2, none⟩ = some x2 ∧ W'.cell? ⟨g, o + 3, none⟩ = some x3 ∧ W'.cell? ⟨g, o + 4, none⟩ = some x4 ∧ W'.cell? ⟨g, o + 5, none⟩ = some x5 := by
  obtain ⟨h0, h1, h2, h3, h4, h5⟩ := h
  have s := hw.size
  have up : ∀ o, W'.cell? ⟨g, o, none⟩ = W.cell? ⟨g, o, none⟩ := fun o => hb.cell (p := ⟨g, o, none⟩) (by show g < _; omega)
  exact ⟨(up _).trans h0, (up _).trans h1, (up _).trans h2, (up _).trans h3, (up _).trans h4, (up _).trans h5⟩

theorem keepE {w W W' : World} {g o g' o' : Nat} {x0 x1 x2 x3 x4 x5 y0 y1 y2 y3 y4 y5 a b : Value} (hg : g < w.heap.size) (hg' : g' < w.heap.size)
    (h : (W.cell? ⟨g, o, none⟩ = some x0 ∧ W.cell? ⟨g, o + 1, none⟩ = some x1 ∧ W.cell? ⟨g, o + 2, none⟩ = some x2 ∧ W.cell? ⟨g, o + 3, none⟩ = some x3 ∧ W.cell? ⟨g, o + 4, none⟩ = some x4 ∧ W.cell? ⟨g, o + 5, none⟩ = some x5) ∧ (W.cell? ⟨g', o', none⟩ = some y0 ∧ W.cell? ⟨g', o' + 1, none⟩ = some y1 ∧ W.cell? ⟨g', o' + 2, none⟩ = some y2 ∧ W.cell? ⟨g', o' + 3, none⟩ = some y3 ∧ W.cell? ⟨g', o' + 4, none⟩ = some y4 ∧ W.cell? ⟨g', o' + 5, none⟩ = some y5) ∧ W.cell? ⟨w.heap.size, 5, none⟩ = some a ∧ W.cell? ⟨w.heap.size + 1, 5, none⟩ = some b ∧ Below w.heap.size w W ∧ w.heap.size + 2 ≤ W.heap.size) (hb : Below W.heap.size W W') :
    (W'.cell? ⟨g, o, none⟩ = some x0 ∧ W'.cell? ⟨g, o + 1, none⟩ = some x1 ∧ W'.cell? ⟨g, o + 2, none⟩ = some x2 ∧ W'.cell? ⟨g, o + 3, none⟩ = some x3 ∧ W'.cell? ⟨g, o + 4, none⟩ = some x4 ∧ W'.cell? ⟨g, o + 5, none⟩ = some x5) ∧ (W'.cell? ⟨g', o', none⟩ = some y0 ∧ W'.cell? ⟨g', o' + 1, none⟩ = some y1 ∧ W'.cell? ⟨g', o' + 2, none⟩ = some y2 ∧ W'.cell? ⟨g', o' + 3, none⟩ = some y3 ∧ W'.cell? ⟨g', o' + 4, none⟩ = some y4 ∧ W'.cell? ⟨g', o' + 5, none⟩ = some y5) ∧ W'.cell? ⟨w.heap.size, 5, none⟩ = some a ∧ W'.cell? ⟨w.heap.size + 1, 5, none⟩ = some b ∧ Below w.heap.size w W' ∧ w.heap.size + 2 ≤ W'.heap.size := by
  obtain ⟨h1, h2, h3, h4, h5, h6⟩ := h
  exact ⟨six_up hg h5 hb h1, six_up hg' h5 hb h2, (hb.cell (p := ⟨w.heap.size, 5, none⟩) (by show w.heap.size < _; omega)).trans h3, (hb.cell (p := ⟨w.heap.size + 1, 5, none⟩) (by show w.heap.size + 1 < _; omega)).trans h4, h5.trans (hb.mono h5.size), Nat.le_trans h6 hb.size⟩

theorem ofS {A B C D E F : Prop} (h : A ∧ B ∧ C ∧ D ∧ E ∧ F) : E := h.2.2.2.2.1
theorem is_bool (P : Prop) : ∃ b : Bool, (b = true ↔ P) := by
  by_cases h : P
  · exact ⟨true, by simp [h]⟩
  · exact ⟨false, by simp [h]⟩

set_option maxRecDepth 100000 in
set_option maxHeartbeats 3200000 in
/-- where the heads are the same: Args by Args -/
theorem sameE_yes (k : Int) (x : Vl) (nm : List UInt8) (ao ao' : Option Addr) (n ca ca' : Nat) (xs ys : List Ex) (us vs : Nat → Value) (w : World) (hx : xs.length = n) (hy : ys.length = n) (hn : n ≤ 1000000000000000)
    (h1 : 0 < n → ∃ g o g' o', ao = some ⟨g, o, none⟩ ∧ ao' = some ⟨g', o', none⟩ ∧ g < w.heap.size ∧ g' < w.heap.size ∧ (∀ i, i < n → Six w g (o + 6 * i) (us i)) ∧ (∀ i, i < n → Six w g' (o' + 6 * i) (vs i)))
    (hc : ∀ i y z, xs[i]? = some y → ys[i]? = some z → ∀ b : Bool, (b = true ↔ y = z) → ∀ W, Below w.heap.size w W → Calls Tryz.prog 26 #[us i, vs i] W fun e w' => e = .returned (.bool b) ∧ Below W.heap.size W w') :
    Calls Tryz.prog 26 #[exV k x nm (.slice ao n ca), exV k x nm (.slice ao' n ca')] w fun e w' => (∃ b, e = .returned (.bool b) ∧ (b = true ↔ xs = ys)) ∧ Below w.heap.size w w' := by
  have bb : ∀ (o o' : Obj), Below w.heap.size w ((w.alloc o).alloc o') := fun o o' => ((Below.refl _ _).alloc (Nat.le_refl _) _).alloc (by simp) _
  have hsv := sameV_any x x
  have hq : eqV x x = true := (eqV_iff x x).2 rfl
  rw [hq] at hsv
  have H1 := hide h1
  have HC := hide hc
  clear hq h1 hc
  unfold exV
  go_enter Tryz.func26, Tryz.ntmps26
  go_wp2_with fail
  refine (hsv _).mono ?_
  rintro e w1 ⟨rfl, b1⟩
  have c0 := b1.cell (p := ⟨w.heap.size, 5, none⟩) (by simp; omega)
  have c1 := b1.cell (p := ⟨w.heap.size + 1, 5, none⟩) (by simp)
  simp at c0 c1
  have q1 : Below w.heap.size w w1 := (bb _ _).trans (b1.mono (by simp; omega))
  have s1 : w.heap.size + 2 ≤ w1.heap.size := by have := b1.size; simp at this; omega
  clear b1 hsv bb
  go_wp2
  go_loopw [5] (fun i wl => ∃ k : Nat, k ≤ n ∧ i = .int .i64 k ∧ wl.cell? ⟨w.heap.size, 5, none⟩ = some (.slice ao n ca) ∧ wl.cell? ⟨w.heap.size + 1, 5, none⟩ = some (.slice ao' n ca') ∧ Below w.heap.size w wl ∧ w.heap.size + 2 ≤ wl.heap.size ∧ Hid (∀ j, j < k → xs[j]? = ys[j]?)) (fun i _ => n - (intOf i).toNat)
  case atStart => exact ⟨0, Nat.zero_le _, rfl, c0, c1, q1, s1, fun j hj => absurd hj (Nat.not_lt_zero _)⟩
  case round =>
    obtain ⟨i, hi, rfl, d0, d1, hnx, hsz, HA⟩ := hrel
    clear c0 c1 q1 s1
    by_cases hlt : i < n
    · obtain ⟨y, hy1⟩ : ∃ y, xs[i]? = some y := ⟨xs[i]'(by omega), List.getElem?_eq_getElem (by omega)⟩
      obtain ⟨z, hz1⟩ : ∃ z, ys[i]? = some z := ⟨ys[i]'(by omega), List.getElem?_eq_getElem (by omega)⟩
      obtain ⟨g, o, g', o', rfl, rfl, hg, hg', f1, f2⟩ := H1.out (by omega)
      obtain ⟨q, hq⟩ := is_bool (y = z)
      have kc := HC.out i y z hy1 hz1 q hq
      obtain ⟨ky, vy, ny, ay, ey, s0, s1, s2, s3, s4, s5⟩ := f1 i hlt
      obtain ⟨kz, vz, nz, az, ez, t0, t1, t2, t3, t4, t5⟩ := f2 i hlt
      rw [ey, ez] at kc
      unfold exV at kc
      have up : ∀ b o, b < w.heap.size → wr.cell? ⟨b, o, none⟩ = w.cell? ⟨b, o, none⟩ := fun b o hb => hnx.cell (p := ⟨b, o, none⟩) hb
      have e0 := (up _ _ hg).trans s0
      have e1 := (up _ _ hg).trans s1
      have e2 := (up _ _ hg).trans s2
      have e3 := (up _ _ hg).trans s3
      have e4 := (up _ _ hg).trans s4
      have e5 := (up _ _ hg).trans s5
      have f0 := (up _ _ hg').trans t0
      have f1 := (up _ _ hg').trans t1
      have f2 := (up _ _ hg').trans t2
      have f3 := (up _ _ hg').trans t3
      have f4 := (up _ _ hg').trans t4
      have f5 := (up _ _ hg').trans t5
      have HX := hide hy1
      have HY := hide hz1
      have HQ := hide hq
      have hlt' : (i : Int) < (n : Int) := by omega
      rw [Nat.mul_comm 6 i] at e0 e1 e2 e3 e4 e5 f0 f1 f2 f3 f4 f5
      clear s0 s1 s2 s3 s4 s5 t0 t1 t2 t3 t4 t5 hy1 hz1 H1 HC up ey ez hq
      go_wp2_with fail
      go_region_held3 (fun w' => (w'.cell? ⟨g, o + i * 6, none⟩ = some (.int .i64 ky) ∧ w'.cell? ⟨g, o + i * 6 + 1, none⟩ = some (.int .i64 vy.k) ∧ w'.cell? ⟨g, o + i * 6 + 2, none⟩ = some (.int .i64 vy.n) ∧ w'.cell? ⟨g, o + i * 6 + 3, none⟩ = some (.string ⟨vy.s.toArray⟩) ∧ w'.cell? ⟨g, o + i * 6 + 4, none⟩ = some (.string ⟨ny.toArray⟩) ∧ w'.cell? ⟨g, o + i * 6 + 5, none⟩ = some ay) ∧ (w'.cell? ⟨g', o' + i * 6, none⟩ = some (.int .i64 kz) ∧ w'.cell? ⟨g', o' + i * 6 + 1, none⟩ = some (.int .i64 vz.k) ∧ w'.cell? ⟨g', o' + i * 6 + 2, none⟩ = some (.int .i64 vz.n) ∧ w'.cell? ⟨g', o' + i * 6 + 3, none⟩ = some (.string ⟨vz.s.toArray⟩) ∧ w'.cell? ⟨g', o' + i * 6 + 4, none⟩ = some (.string ⟨nz.toArray⟩) ∧ w'.cell? ⟨g', o' + i * 6 + 5, none⟩ = some az) ∧ w'.cell? ⟨w.heap.size, 5, none⟩ = some (.slice (some ⟨g, o, none⟩) n ca) ∧ w'.cell? ⟨w.heap.size + 1, 5, none⟩ = some (.slice (some ⟨g', o', none⟩) n ca') ∧ Below w.heap.size w w' ∧ w.heap.size + 2 ≤ w'.heap.size) (first | exact ⟨⟨e0, e1, e2, e3, e4, e5⟩, ⟨f0, f1, f2, f3, f4, f5⟩, d0, d1, hnx.drew, hsz⟩ | exact keepE hg hg' (by assumption) (by assumption)) (first | (go_at_call 26; refine (kc _ (ofS (by assumption))).mono ?_; rintro e w' ⟨rfl, hb⟩))
      rename_i hH
      obtain ⟨-, -, z0, z1, q8, q9⟩ := hH
      clear e0 e1 e2 e3 e4 e5 f0 f1 f2 f3 f4 f5 kc
      cases q with
      | true =>
        go_wp2
        go_roundw
        case rel =>
          refine ⟨i + 1, by omega, by go_num, z0, z1, q8, q9, fun j hj => ?_⟩
          rcases Nat.lt_or_ge j i with hjk | hjk
          · exact HA.out j hjk
          · rw [show j = i by omega, HX.out, HY.out, HQ.out.1 rfl]
        case measure => simp [intOf]; omega
      | false =>
        go_wp2
        go_ret
        refine ⟨⟨false, rfl, ⟨fun e => Bool.noConfusion e, fun e => ?_⟩⟩, q8⟩
        have h1 := HX.out
        rw [e, HY.out] at h1
        cases h1
        exact HQ.out.2 rfl
    · clear H1 HC
      go_wp2
      go_ret
      refine ⟨⟨true, rfl, ⟨fun _ => List.ext_getElem? fun j => ?_, fun _ => rfl⟩⟩, hnx⟩
      rcases Nat.lt_or_ge j i with hjk | hjk
      · exact HA.out j hjk
      · rw [List.getElem?_eq_none (by omega), List.getElem?_eq_none (by omega)]

/-- what an expression in memory is -/
theorem ExAt.spread {B : Nat} {w : World} {u : Value} {x : Ex} (h : ExAt B w u x) : ∃ (ao : Option Addr) (ca : Nat) (us : Nat → Value), u = exV x.k x.v x.nm (.slice ao x.args.length ca) ∧
    (0 < x.args.length → ∃ g o, ao = some ⟨g, o, none⟩ ∧ B ≤ g ∧ g < w.heap.size ∧ (∀ i, i < x.args.length → Six w g (o + 6 * i) (us i)) ∧ ∀ i y, x.args[i]? = some y → ExAt B w (us i) y) := by
  cases h with
  | nil k x nm ao cap hz => exact ⟨ao, cap, fun _ => .pointer none, rfl, fun hh => absurd hh (Nat.lt_irrefl 0)⟩
  | args k x nm b off cap xs us hx hB hs hc h => exact ⟨_, cap, us, rfl, fun _ => ⟨b, off, rfl, hB, hs, hc, h⟩⟩

theorem ex_ext {x y : Ex} : x = y ↔ x.k = y.k ∧ x.nm = y.nm ∧ x.v = y.v ∧ x.args = y.args := by
  obtain ⟨k, v, nm, a⟩ := x
  obtain ⟨k', v', nm', a'⟩ := y
  simp only [Ex.mk.injEq, Ex.k, Ex.v, Ex.nm, Ex.args]
  constructor
  · rintro ⟨h1, h2, h3, h4⟩; exact ⟨h1, h3, h2, h4⟩
  · rintro ⟨h1, h2, h3, h4⟩; exact ⟨h1, h3, h2, h4⟩

theorem Fit.few {x : Ex} (h : Fit x) : x.args.length ≤ 1000000000000000 := by
  cases h with
  | mk k v nm args hv hn ha hh => show args.length ≤ _; omega
theorem Fit.arg {x y : Ex} (h : Fit x) {i : Nat} (hy : x.args[i]? = some y) : Fit y := by
  cases h with
  | mk k v nm args hv hn ha hh => exact hh y (List.mem_of_getElem? hy)
theorem size_arg {x y : Ex} {i : Nat} (hy : x.args[i]? = some y) : sizeE y < sizeE x := by
  rw [sizeE_args x]
  have go : ∀ (l : List Ex) (i : Nat), l[i]? = some y → sizeE y ≤ sizeL l := by
    intro l
    induction l with
    | nil => intro i h; simp at h
    | cons z r ih =>
      intro i h
      rw [sizeL]
      cases i with
      | zero => simp at h; subst h; omega
      | succ i => have := ih i (by simpa using h); omega
  have := go _ _ hy
  omega

theorem sameE_any (n : Nat) : ∀ (x y : Ex) (u v : Value) (w0 : World), sizeE x ≤ n → ExAt 0 w0 u x → ExAt 0 w0 v y → Fit x → ∀ b : Bool, (b = true ↔ x = y) → ∀ W, Below w0.heap.size w0 W →
    Calls Tryz.prog 26 #[u, v] W fun e w' => e = .returned (.bool b) ∧ Below W.heap.size W w' := by
  induction n with
  | zero => intro x y u v w0 h; have := sizeE_pos x; omega
  | succ n ih =>
    intro x y u v w0 hs hx hy hf b hb W hW
    obtain ⟨ao, ca, us, rfl, h1⟩ := hx.spread
    obtain ⟨ao', ca', vs, rfl, h2⟩ := hy.spread
    by_cases hh : x.k = y.k ∧ x.nm = y.nm ∧ x.v = y.v ∧ x.args.length = y.args.length
    · obtain ⟨e1, e2, e3, e4⟩ := hh
      rw [← e1, ← e2, ← e3, ← e4]
      have keep : ∀ {g o : Nat} {u : Value}, g < w0.heap.size → Six w0 g o u → Six W g o u := fun hg h => h.keep (hW.block _ hg)
      refine (sameE_yes x.k x.v x.nm ao ao' x.args.length ca ca' x.args y.args us vs W rfl e4.symm hf.few ?_ ?_).mono ?_
      · intro h0
        obtain ⟨g, o, rfl, -, hg, hc, -⟩ := h1 h0
        obtain ⟨g', o', rfl, -, hg', hc', -⟩ := h2 (by omega)
        exact ⟨g, o, g', o', rfl, rfl, Nat.lt_of_lt_of_le hg hW.size, Nat.lt_of_lt_of_le hg' hW.size, fun i hi => keep hg (hc i hi), fun i hi => keep hg' (hc' i (by omega))⟩
      · intro i y' z' hy' hz' b' hb' W' hW'
        have h0 : 0 < x.args.length := by have := (List.getElem?_eq_some_iff.1 hy').1; omega
        obtain ⟨g, o, -, -, -, -, he⟩ := h1 h0
        obtain ⟨g', o', -, -, -, -, he'⟩ := h2 (by omega)
        exact ih y' z' (us i) (vs i) w0 (by have := size_arg hy'; omega) (he i y' hy') (he' i z' hz') (hf.arg hy') b' hb' W' (hW.trans (hW'.mono hW.size))
      · rintro e w' ⟨⟨b', rfl, hb'⟩, bel⟩
        refine ⟨ret_bool ?_, bel⟩
        rw [Bool.eq_iff_iff, hb', hb, ex_ext]
        exact ⟨fun h => ⟨e1, e2, e3, h⟩, fun h => h.2.2.2⟩
    · refine (sameE_no x.k y.k x.v y.v x.nm y.nm ao ao' x.args.length y.args.length ca ca' W hh).mono ?_
      rintro e w' ⟨rfl, bel⟩
      refine ⟨ret_bool ?_, bel⟩
      cases b with
      | false => rfl
      | true =>
        have := ex_ext.1 (hb.1 rfl)
        exact absurd ⟨this.1, this.2.1, this.2.2.1, congrArg List.length this.2.2.2⟩ hh

end Go.Proofs.YtkpeklealgicpabGreatDoor

namespace Go.Proofs.YtkpeklealgicpabGreatDoor
open Go.RowKit

section
variable {P : Program} {ops : Array Oper} {rest : List Oper} {op : Oper} {a : Act} {w : World} {Q : Exit → Act → World → Prop}
/-- a variable with a value of many cells: its block and the world behind it letters -/
theorem wpList_box_blk (slot : Nat) (ty : TypeId) (x : Operand) (cs : List Value) (hd : op.dst = some slot) (hgd : op.guard = none) (ho : op.op = .box ty x) (hx : a.eval x = .agg cs.toArray)
    (h : ∀ w' b, Hid (b = w.heap.size) → w'.heap[b]? = some (.cells cs.toArray ty) → Below w.heap.size w w' → wpList P ops Q rest (a.put (some slot) (.pointer (some ⟨b, 0, none⟩))) w') : wpList P ops Q (op :: rest) a w := by
  refine wpList_plain hgd fun K hK => ?_
  rw [← hd] at h
  unfold Oper.wp execOp
  simp only [ho, Sem.run_bind, Instr.box, newVar, newRow, run_newObj_alloc, Sem.run_pure, Result.andThen_ok, hx]
  exact hK _ _ (h _ _ (hide rfl) (heap_alloc_new _ _) ((Below.refl _ _).alloc (Nat.le_refl _) _))
end

theorem at_head {W : World} {b : Nat} {t : TypeId} {c : Cm} {cv vv fv ea wa : Value} (h : W.heap[b]? = some (.cells (cmL c cv vv fv ea wa).toArray t)) :
    W.cell? ⟨b, 0, none⟩ = some (.int .i64 c.kind) ∧ W.cell? ⟨b, 1, none⟩ = some (.string ⟨c.name.toArray⟩) ∧ W.cell? ⟨b, 2, none⟩ = some (.string ⟨c.other.toArray⟩) ∧ W.cell? ⟨b, 3, none⟩ = some (.string ⟨c.column.toArray⟩) ∧ W.cell? ⟨b, 4, none⟩ = some (cv) ∧ W.cell? ⟨b, 5, none⟩ = some (.int .i64 c.ty) ∧ W.cell? ⟨b, 6, none⟩ = some (.int .i64 c.val.k) ∧ W.cell? ⟨b, 7, none⟩ = some (.int .i64 c.val.n) ∧ W.cell? ⟨b, 8, none⟩ = some (.string ⟨c.val.s.toArray⟩) ∧ W.cell? ⟨b, 17, none⟩ = some (.bool c.all) ∧ W.cell? ⟨b, 24, none⟩ = some (.string ⟨c.order.toArray⟩) ∧ W.cell? ⟨b, 25, none⟩ = some (.int .i64 c.limit) := by
  refine ⟨?_, ?_, ?_, ?_, ?_, ?_, ?_, ?_, ?_, ?_, ?_, ?_⟩ <;> exact (Lib.cell_of_heap h _).trans rfl
theorem at_exprs {W : World} {b : Nat} {t : TypeId} {c : Cm} {cv vv fv ea wa : Value} (h : W.heap[b]? = some (.cells (cmL c cv vv fv ea wa).toArray t)) :
    W.cell? ⟨b, 11, none⟩ = some (.int .i64 c.expr.k) ∧ W.cell? ⟨b, 12, none⟩ = some (.int .i64 c.expr.v.k) ∧ W.cell? ⟨b, 13, none⟩ = some (.int .i64 c.expr.v.n) ∧ W.cell? ⟨b, 14, none⟩ = some (.string ⟨c.expr.v.s.toArray⟩) ∧ W.cell? ⟨b, 15, none⟩ = some (.string ⟨c.expr.nm.toArray⟩) ∧ W.cell? ⟨b, 16, none⟩ = some (ea) ∧ W.cell? ⟨b, 18, none⟩ = some (.int .i64 c.wh.k) ∧ W.cell? ⟨b, 19, none⟩ = some (.int .i64 c.wh.v.k) ∧ W.cell? ⟨b, 20, none⟩ = some (.int .i64 c.wh.v.n) ∧ W.cell? ⟨b, 21, none⟩ = some (.string ⟨c.wh.v.s.toArray⟩) ∧ W.cell? ⟨b, 22, none⟩ = some (.string ⟨c.wh.nm.toArray⟩) ∧ W.cell? ⟨b, 23, none⟩ = some (wa) := by
  refine ⟨?_, ?_, ?_, ?_, ?_, ?_, ?_, ?_, ?_, ?_, ?_, ?_⟩ <;> exact (Lib.cell_of_heap h _).trans rfl
theorem at_mid {W : World} {b : Nat} {t : TypeId} {c : Cm} {cv vv fv ea wa : Value} (h : W.heap[b]? = some (.cells (cmL c cv vv fv ea wa).toArray t)) :
    W.cell? ⟨b, 11, none⟩ = some (.int .i64 c.expr.k) ∧ W.cell? ⟨b, 12, none⟩ = some (.int .i64 c.expr.v.k) ∧ W.cell? ⟨b, 13, none⟩ = some (.int .i64 c.expr.v.n) ∧ W.cell? ⟨b, 14, none⟩ = some (.string ⟨c.expr.v.s.toArray⟩) ∧ W.cell? ⟨b, 15, none⟩ = some (.string ⟨c.expr.nm.toArray⟩) ∧ W.cell? ⟨b, 16, none⟩ = some (ea) ∧ W.cell? ⟨b, 17, none⟩ = some (.bool c.all) ∧ W.cell? ⟨b, 18, none⟩ = some (.int .i64 c.wh.k) ∧ W.cell? ⟨b, 19, none⟩ = some (.int .i64 c.wh.v.k) ∧ W.cell? ⟨b, 20, none⟩ = some (.int .i64 c.wh.v.n) ∧ W.cell? ⟨b, 21, none⟩ = some (.string ⟨c.wh.v.s.toArray⟩) ∧ W.cell? ⟨b, 22, none⟩ = some (.string ⟨c.wh.nm.toArray⟩) ∧ W.cell? ⟨b, 23, none⟩ = some (wa) ∧ W.cell? ⟨b, 24, none⟩ = some (.string ⟨c.order.toArray⟩) ∧ W.cell? ⟨b, 25, none⟩ = some (.int .i64 c.limit) := by
  refine ⟨?_, ?_, ?_, ?_, ?_, ?_, ?_, ?_, ?_, ?_, ?_, ?_, ?_, ?_, ?_⟩ <;> exact (Lib.cell_of_heap h _).trans rfl
theorem at_where {W : World} {b : Nat} {t : TypeId} {c : Cm} {cv vv fv ea wa : Value} (h : W.heap[b]? = some (.cells (cmL c cv vv fv ea wa).toArray t)) :
    W.cell? ⟨b, 18, none⟩ = some (.int .i64 c.wh.k) ∧ W.cell? ⟨b, 19, none⟩ = some (.int .i64 c.wh.v.k) ∧ W.cell? ⟨b, 20, none⟩ = some (.int .i64 c.wh.v.n) ∧ W.cell? ⟨b, 21, none⟩ = some (.string ⟨c.wh.v.s.toArray⟩) ∧ W.cell? ⟨b, 22, none⟩ = some (.string ⟨c.wh.nm.toArray⟩) ∧ W.cell? ⟨b, 23, none⟩ = some (wa) := by
  refine ⟨?_, ?_, ?_, ?_, ?_, ?_⟩ <;> exact (Lib.cell_of_heap h _).trans rfl
theorem at_lists {W : World} {b : Nat} {t : TypeId} {c : Cm} {cv vv fv ea wa : Value} (h : W.heap[b]? = some (.cells (cmL c cv vv fv ea wa).toArray t)) :
    W.cell? ⟨b, 4, none⟩ = some (cv) ∧ W.cell? ⟨b, 9, none⟩ = some (vv) ∧ W.cell? ⟨b, 10, none⟩ = some (fv) := by
  refine ⟨?_, ?_, ?_⟩ <;> exact (Lib.cell_of_heap h _).trans rfl

theorem Tryz.fields56 : (Tryz.prog.fieldsOf 56).toList.map (fun f => (f.name, f.type, f.offset)) = [("Name", 9, 0), ("Type", 3, 1)] := by kernel_rfl
theorem Tryz.under56 : Tryz.prog.underlying 56 = some (.struct (Tryz.prog.fieldsOf 56)) := by kernel_rfl
theorem Tryz.stood56 : Tryz.prog.stoodInHeld 56 = false := by kernel_rfl
theorem fields_two {l : List Field} {a b : String} {i j k m : Nat} (h : l.map (fun f => (f.name, f.type, f.offset)) = [(a, i, j), (b, k, m)]) :
    ∃ f0 f1 : Field, l = [f0, f1] ∧ f0.name = a ∧ f0.type = i ∧ f0.offset = j ∧ f1.name = b ∧ f1.type = k ∧ f1.offset = m := by
  match l, h with
  | [f0, f1], h => simp at h; exact ⟨f0, f1, rfl, h.1.1, h.1.2.1, h.1.2.2, h.2.1, h.2.2.1, h.2.2.2⟩
def sameCl (x y : Cl) : Bool := decide (x.name = y.name) && decide (x.ty = y.ty)
theorem neq56 (n n' : List UInt8) (t t' : Int) (w : World) :
    (binOp .neq 56 (.agg #[.string ⟨n.toArray⟩, .int .i64 t]) (.agg #[.string ⟨n'.toArray⟩, .int .i64 t'])).run Tryz.prog w = .ok (.bool (!sameCl ⟨n, t⟩ ⟨n', t'⟩)) w := by
  rw [run_neq_struct, run_equalIn_struct w 9999 56 _ _ Tryz.under56 Tryz.stood56]
  obtain ⟨f0, f1, hf, n0, t0, o0, n1, t1, o1⟩ := fields_two Tryz.fields56
  rw [hf]
  simp [Op.eqFields, n0, t0, o0, n1, t1, o1, go_sem]
  unfold sameCl
  by_cases h1 : n = n' <;> by_cases h2 : t = t' <;> simp [h1, h2]

theorem row_col {w : World} {b off : Nat} {L : List Cl} (hc : ∀ j x, (L.flatMap clC)[j]? = some x → w.cell? ⟨b, off + j, none⟩ = some x) (k : Nat) (x : Cl) (hx : L[k]? = some x) :
    w.cell? ⟨b, off + k * 2, none⟩ = some (.string ⟨x.name.toArray⟩) ∧ w.cell? ⟨b, off + k * 2 + 1, none⟩ = some (.int .i64 x.ty) := by
  have g0 := flat_get clC 2 (fun _ => rfl) L k x hx 0 (by decide)
  have g1 := flat_get clC 2 (fun _ => rfl) L k x hx 1 (by decide)
  exact ⟨hc _ _ g0, hc _ _ g1⟩
theorem row_str {w : World} {b off : Nat} {L : List (List UInt8)} (hc : ∀ j x, (L.flatMap stC)[j]? = some x → w.cell? ⟨b, off + j, none⟩ = some x) (k : Nat) (x : List UInt8) (hx : L[k]? = some x) :
    w.cell? ⟨b, off + k, none⟩ = some (.string ⟨x.toArray⟩) := by
  have g0 := flat_get stC 1 (fun _ => rfl) L k x hx 0 (by decide)
  rw [Nat.mul_one, Nat.add_zero] at g0
  exact hc _ _ g0
/-- a row that is not empty, opened -/
theorem RowAt.spread {B : Nat} {w : World} {ao : Option Addr} {n cap : Nat} {xs : List Value} (h : RowAt B w (.slice ao n cap) n xs) (hn : 0 < n) : ∃ g o, ao = some ⟨g, o, none⟩ ∧ B ≤ g ∧ g < w.heap.size ∧ ∀ j x, xs[j]? = some x → w.cell? ⟨g, o + j, none⟩ = some x := by
  rcases h with ⟨h0, -⟩ | ⟨b, off, cp, e, hB, hlt, hc⟩
  · omega
  · cases e
    exact ⟨b, off, rfl, hB, hlt, hc⟩

set_option maxRecDepth 100000 in
set_option maxHeartbeats 4000000 in
theorem sameC_same (c : Cm) (cv vv fv ea wa cv' vv' fv' ea' wa' : Value) (w : World) (h : CmIn 0 w c cv vv fv ea wa) (h' : CmIn 0 w c cv' vv' fv' ea' wa') (hf : CmFit c) :
    Calls Tryz.prog 11 #[.agg (cmL c cv vv fv ea wa).toArray, .agg (cmL c cv' vv' fv' ea' wa').toArray] w fun e w' => e = .returned (.bool true) ∧ Below w.heap.size w w' := by
  obtain ⟨a1, c1, e1⟩ := h.cols.form
  obtain ⟨a2, c2, e2⟩ := h.vals.form
  obtain ⟨a3, c3, e3⟩ := h.fields.form
  obtain ⟨a1', c1', e1'⟩ := h'.cols.form
  obtain ⟨a2', c2', e2'⟩ := h'.vals.form
  obtain ⟨a3', c3', e3'⟩ := h'.fields.form
  subst e1 e2 e3 e1' e2' e3'
  have hsv := sameV_any c.val c.val
  have hq : eqV c.val c.val = true := (eqV_iff _ _).2 rfl
  rw [hq] at hsv
  have hse : ∀ W, Below w.heap.size w W → Calls Tryz.prog 26 #[exV c.expr.k c.expr.v c.expr.nm ea, exV c.expr.k c.expr.v c.expr.nm ea'] W fun e w' => e = .returned (.bool true) ∧ Below W.heap.size W w' :=
    fun W hW => sameE_any _ c.expr c.expr _ _ w (Nat.le_refl _) h.expr h'.expr hf.expr true (by simp) W hW
  have hsw : ∀ W, Below w.heap.size w W → Calls Tryz.prog 26 #[exV c.wh.k c.wh.v c.wh.nm wa, exV c.wh.k c.wh.v c.wh.nm wa'] W fun e w' => e = .returned (.bool true) ∧ Below W.heap.size W w' :=
    fun W hW => sameE_any _ c.wh c.wh _ _ w (Nat.le_refl _) h.wh h'.wh hf.wh true (by simp) W hW
  have hsl : ∀ W, Below w.heap.size w W → Calls Tryz.prog 27 #[.slice a2 c.vals.length c2, .slice a2' c.vals.length c2'] W fun e w' => e = .returned (.bool true) ∧ Below W.heap.size W w' := by
    intro W hW
    refine (sameVs_any c.vals c.vals _ _ W (h.vals.under hW) (h'.vals.under hW) hf.vals).mono ?_
    rintro e w' ⟨⟨b, rfl, hb⟩, bel⟩
    rw [hb.2 rfl]
    exact ⟨rfl, bel⟩
  simp only [exV] at hse hsw
  have HC : Hid (∀ k x, c.cols[k]? = some x → ∃ g o g' o', a1 = some ⟨g, o, none⟩ ∧ a1' = some ⟨g', o', none⟩ ∧ g < w.heap.size ∧ g' < w.heap.size ∧ (w.cell? ⟨g, o + k * 2, none⟩ = some (.string ⟨x.name.toArray⟩) ∧ w.cell? ⟨g, o + k * 2 + 1, none⟩ = some (.int .i64 x.ty)) ∧ (w.cell? ⟨g', o' + k * 2, none⟩ = some (.string ⟨x.name.toArray⟩) ∧ w.cell? ⟨g', o' + k * 2 + 1, none⟩ = some (.int .i64 x.ty))) := by
    intro k x hx
    have h0 : 0 < c.cols.length := by have := (List.getElem?_eq_some_iff.1 hx).1; omega
    obtain ⟨g, o, rfl, -, hg, hc⟩ := h.cols.spread h0
    obtain ⟨g', o', rfl, -, hg', hc'⟩ := h'.cols.spread h0
    exact ⟨g, o, g', o', rfl, rfl, hg, hg', row_col hc k x hx, row_col hc' k x hx⟩
  have HF : Hid (∀ k x, c.fields[k]? = some x → ∃ g o g' o', a3 = some ⟨g, o, none⟩ ∧ a3' = some ⟨g', o', none⟩ ∧ g < w.heap.size ∧ g' < w.heap.size ∧ w.cell? ⟨g, o + k, none⟩ = some (.string ⟨x.toArray⟩) ∧ w.cell? ⟨g', o' + k, none⟩ = some (.string ⟨x.toArray⟩)) := by
    intro k x hx
    have h0 : 0 < c.fields.length := by have := (List.getElem?_eq_some_iff.1 hx).1; omega
    obtain ⟨g, o, rfl, -, hg, hc⟩ := h.fields.spread h0
    obtain ⟨g', o', rfl, -, hg', hc'⟩ := h'.fields.spread h0
    exact ⟨g, o, g', o', rfl, rfl, hg, hg', row_str hc k x hx, row_str hc' k x hx⟩
  have n1 := hf.cols
  have n3 := hf.fields
  have HI := hide h.one
  clear h h' hf hq
  go_enter Tryz.func11, Tryz.ntmps11
  go_wp2_with (first | (refine wpList_box_blk 2 31 _ (cmL c (.slice a1 c.cols.length c1) (.slice a2 c.vals.length c2) (.slice a3 c.fields.length c3) ea wa) rfl rfl rfl rfl ?_; intro W0 rb hrb k0 b0) | (refine wpList_box_blk 3 31 _ (cmL c (.slice a1' c.cols.length c1') (.slice a2' c.vals.length c2') (.slice a3' c.fields.length c3') ea' wa') rfl rfl rfl rfl ?_; intro W1 sb hsb j1 b1; have k1 := (b1.block rb (Array.getElem?_eq_some_iff.1 k0).1).trans k0; have B1 : Hid (Below w.heap.size w W1) := b0.trans (b1.mono b0.size); obtain ⟨pa0, pa1, pa2, pa3, pa4, pa5, pa6, pa7, pa8, pa9, pa10, pa11⟩ := at_head k1; obtain ⟨qa0, qa1, qa2, qa3, qa4, qa5, qa6, qa7, qa8, qa9, qa10, qa11⟩ := at_head j1) | (go_at_call 25; refine (hsv _).mono ?_; rintro e W2 ⟨rfl, b2⟩; have k2 := (b2.block rb (Array.getElem?_eq_some_iff.1 k1).1).trans k1; have j2 := (b2.block sb (Array.getElem?_eq_some_iff.1 j1).1).trans j1; obtain ⟨pb0, pb1, pb2, pb3, pb4, pb5, pb6, pb7, pb8, pb9, pb10, pb11, pb12, pb13, pb14⟩ := at_mid k2; obtain ⟨qb0, qb1, qb2, qb3, qb4, qb5, qb6, qb7, qb8, qb9, qb10, qb11, qb12, qb13, qb14⟩ := at_mid j2; have B2 : Hid (Below w.heap.size w W2) := B1.out.trans (b2.mono B1.out.size)))
  refine (hse _ B2.out).mono ?_
  rintro e W3 ⟨rfl, b3⟩
  have k3 := (b3.block rb (Array.getElem?_eq_some_iff.1 k2).1).trans k2
  have j3 := (b3.block sb (Array.getElem?_eq_some_iff.1 j2).1).trans j2
  obtain ⟨pc0, pc1, pc2, pc3, pc4, pc5⟩ := at_where k3
  obtain ⟨qc0, qc1, qc2, qc3, qc4, qc5⟩ := at_where j3
  have B3 : Hid (Below w.heap.size w W3) := B2.out.trans (b3.mono B2.out.size)
  go_wp2_with fail
  refine (hsw _ B3.out).mono ?_
  rintro e W4 ⟨rfl, b4⟩
  have k4 := (b4.block rb (Array.getElem?_eq_some_iff.1 k3).1).trans k3
  have j4 := (b4.block sb (Array.getElem?_eq_some_iff.1 j3).1).trans j3
  obtain ⟨pd0, pd1, pd2⟩ := at_lists k4
  obtain ⟨qd0, qd1, qd2⟩ := at_lists j4
  have B4 : Hid (Below w.heap.size w W4) := B3.out.trans (b4.mono B3.out.size)
  go_wp2_with fail
  refine (hsl _ B4.out).mono ?_
  rintro e W5 ⟨rfl, b5⟩
  have k5 := (b5.block rb (Array.getElem?_eq_some_iff.1 k4).1).trans k4
  have j5 := (b5.block sb (Array.getElem?_eq_some_iff.1 j4).1).trans j4
  obtain ⟨pe0, pe1, pe2⟩ := at_lists k5
  obtain ⟨qe0, qe1, qe2⟩ := at_lists j5
  have B5 : Hid (Below w.heap.size w W5) := B4.out.trans (b5.mono B4.out.size)
  have HB := hide B5.out
  clear hse hsw hsl hsv b0 b1 b2 b3 b4 b5 k0 k1 k2 k3 k4 j1 j2 j3 j4 HI
  clear pa0 pa1 pa2 pa3 pa4 pa5 pa6 pa7 pa8 pa9 pa10 pa11 qa0 qa1 qa2 qa3 qa4 qa5 qa6 qa7 qa8 qa9 qa10 qa11 pc0 pc1 pc2 pc3 pc4 pc5 qc0 qc1 qc2 qc3 qc4 qc5 pd0 pd1 pd2 qd0 qd1 qd2
  clear pb0 pb1 pb2 pb3 pb4 pb5 pb6 pb7 pb8 pb9 pb10 pb11 pb12 pb13 pb14 qb0 qb1 qb2 qb3 qb4 qb5 qb6 qb7 qb8 qb9 qb10 qb11 qb12 qb13 qb14
  clear B1 B2 B3 B4 B5
  go_wp2
  obtain ⟨n, hn⟩ : ∃ n, c.cols.length = n := ⟨_, rfl⟩
  obtain ⟨m, hm⟩ : ∃ m, c.fields.length = m := ⟨_, rfl⟩
  rw [hn] at pe0 qe0 n1
  rw [hm] at pe2 qe2 n3
  go_loopw [5] (fun i wl => ∃ k : Nat, k ≤ n ∧ i = .int .i64 k ∧ Hid (Below w.heap.size w wl) ∧ wl.cell? ⟨rb, 4, none⟩ = some (.slice a1 n c1) ∧ wl.cell? ⟨sb, 4, none⟩ = some (.slice a1' n c1') ∧ wl.cell? ⟨rb, 10, none⟩ = some (.slice a3 m c3) ∧ wl.cell? ⟨sb, 10, none⟩ = some (.slice a3' m c3')) (fun i _ => n - (intOf i).toNat)
  case atStart => exact ⟨0, Nat.zero_le _, rfl, HB, pe0, qe0, pe2, qe2⟩
  case round =>
    obtain ⟨k, hk, rfl, HN, x1, x2, x3, x4⟩ := hrel
    clear pe0 pe1 pe2 qe0 qe1 qe2 HB
    by_cases hlt : k < n
    · obtain ⟨x, hx⟩ : ∃ x, c.cols[k]? = some x := ⟨c.cols[k]'(by omega), List.getElem?_eq_getElem (by omega)⟩
      obtain ⟨g, o, g', o', rfl, rfl, hg, hg', ⟨r0, r1⟩, s0, s1⟩ := HC.out k x hx
      have d0 := (HN.out.cell (p := ⟨g, o + k * 2, none⟩) hg).trans r0
      have d1 := (HN.out.cell (p := ⟨g, o + k * 2 + 1, none⟩) hg).trans r1
      have f0 := (HN.out.cell (p := ⟨g', o' + k * 2, none⟩) hg').trans s0
      have f1 := (HN.out.cell (p := ⟨g', o' + k * 2 + 1, none⟩) hg').trans s1
      have hq := neq56 x.name x.name x.ty x.ty
      have hs : sameCl ⟨x.name, x.ty⟩ ⟨x.name, x.ty⟩ = true := by simp [sameCl]
      rw [hs] at hq
      have hlt' : (k : Int) < (n : Int) := by omega
      clear r0 r1 s0 s1 hx hs HC
      go_wp2
      go_quiet (fail)
      go_wp2
      go_roundw
      case rel => exact ⟨k + 1, by omega, by go_num, below_drewN HN.out _, x1, x2, x3, x4⟩
      case measure => simp [intOf]; omega
    · clear HC
      go_wp2
      go_loopw [6] (fun i wl => ∃ k : Nat, k ≤ m ∧ i = .int .i64 k ∧ Hid (Below w.heap.size w wl) ∧ wl.cell? ⟨rb, 10, none⟩ = some (.slice a3 m c3) ∧ wl.cell? ⟨sb, 10, none⟩ = some (.slice a3' m c3')) (fun i _ => m - (intOf i).toNat)
      case atStart => exact ⟨0, Nat.zero_le _, rfl, HN, x3, x4⟩
      case round =>
        obtain ⟨k, hk, rfl, HM, y3, y4⟩ := hrel
        clear x1 x2 x3 x4 HN
        by_cases hlt : k < m
        · obtain ⟨x, hx⟩ : ∃ x, c.fields[k]? = some x := ⟨c.fields[k]'(by omega), List.getElem?_eq_getElem (by omega)⟩
          obtain ⟨g, o, g', o', rfl, rfl, hg, hg', r0, s0⟩ := HF.out k x hx
          have d0 := (HM.out.cell (p := ⟨g, o + k, none⟩) hg).trans r0
          have f0 := (HM.out.cell (p := ⟨g', o' + k, none⟩) hg').trans s0
          have hlt' : (k : Int) < (m : Int) := by omega
          clear r0 s0 hx HF
          go_wp2
          go_quiet (fail)
          go_wp2
          go_roundw
          case rel => exact ⟨k + 1, by omega, by go_num, below_drewN HM.out _, y3, y4⟩
          case measure => simp [intOf]; omega
        · clear HF
          go_wp2
          go_ret
          exact ⟨rfl, HM.out⟩

end Go.Proofs.YtkpeklealgicpabGreatDoor

namespace Go.Proofs.YtkpeklealgicpabGreatDoor
open Go.RowKit

set_option maxHeartbeats 800000 in
theorem join_none (ao : Option Addr) (cap : Nat) (w : World) :
    Calls Tryz.prog 16 #[.slice ao 0 cap] w fun e w' => e = .returned (.tuple #[.string ⟨#[]⟩, .int .i64 0]) ∧ Below w.heap.size w w' := by
  go_enter Tryz.func16, Tryz.ntmps16
  go_wp2
  go_loopw [9] (fun i wr => i = .int .i64 0 ∧ wr = w.alloc (.cells #[.pointer none, .slice none 0 0] 71)) (fun i _ => 0)
  case atStart => exact ⟨rfl, rfl⟩
  case round =>
    obtain ⟨rfl, rfl⟩ := hrel
    have hB := Lib.fresh_isBuilder 71 5 w
    have hlen2 := Tryz.Builder_Len w.heap.size w.heap.size [] _ hB
    have hst := Tryz.Builder_String_empty w.heap.size w.heap.size _ hB (by simp)
    go_wp2_with (first | (go_at_call 44; refine hlen2.mono ?_; rintro e w' ⟨rfl, hw'⟩; obtain rfl := hw'.symm; clear hw') | (go_at_call 45; refine hst.mono ?_; rintro e w5 ⟨rfl, hb5⟩))
    go_ret2
    exact ⟨rfl, ((Below.refl _ _).alloc (Nat.le_refl _) _).trans hb5⟩

/-- the tokens of the first look -/
def begunT : List Tk := [⟨1, 0, [97, 98]⟩, ⟨4, 3, [61]⟩, ⟨2, 5, [55]⟩, ⟨4, 6, [59]⟩, ⟨3, 8, [39, 120, 39]⟩]
theorem begun_scan : scanS [97, 98, 32, 61, 32, 55, 59, 32, 39, 120, 39] = (begunT, 0, 0) := by kernel_rfl
theorem begun_join : joinS begunT = ([97, 98, 32, 61, 32, 55, 32, 59, 32, 39, 120, 39], 0) := by kernel_rfl

theorem owns_tokRow {w : World} {base g cap : Nat} {L : List Tk} (h : w.ownsRow base 63 3 (.slice (some ⟨g, 0, none⟩) L.length cap) L.length (cellsT L)) : TokRow w g 0 L.length L := by
  refine ⟨rfl, ?_⟩
  intro i x hx
  have hi := (List.getElem?_eq_some_iff.1 hx).1
  have key : ∀ (L : List Tk) (i : Nat) (x : Tk), L[i]? = some x → ∀ j, j < 3 → (cellsT L)[i * 3 + j]? = x.cells[j]? := by
    intro L
    induction L with
    | nil => intro i x h; simp at h
    | cons y r ih =>
      intro i x h j hj
      have e : cellsT (y :: r) = y.cells ++ cellsT r := by simp [cellsT]
      rw [e]
      have hl : y.cells.length = 3 := rfl
      cases i with
      | zero =>
        simp at h; subst h
        rw [Nat.zero_mul, Nat.zero_add, List.getElem?_append_left (by omega)]
      | succ i =>
        rw [List.getElem?_append_right (by omega), hl, show (i + 1) * 3 + j - 3 = i * 3 + j by omega]
        exact ih i x (by simpa using h) j hj
  have k0 := key L i x hx 0 (by omega)
  have k1 := key L i x hx 1 (by omega)
  have k2 := key L i x hx 2 (by omega)
  rw [Nat.add_zero] at k0
  refine ⟨?_, ?_, ?_⟩
  · rw [Nat.zero_add, h.cellAt _ (by omega), k0]; rfl
  · rw [Nat.zero_add, h.cellAt _ (by omega), k1]; rfl
  · rw [Nat.zero_add, h.cellAt _ (by omega), k2]; rfl

set_option maxHeartbeats 800000 in
theorem begun_any (w : World) : Calls Tryz.prog 14 #[] w fun e w' => e = .returned (.bool true) ∧ Below w.heap.size w w' := by
  have hs := fun W => scan_any ⟨#[97, 98, 32, 61, 32, 55, 59, 32, 39, 120, 39]⟩ W (by decide)
  simp only [begun_scan] at hs
  have hq := eql34
  go_enter Tryz.func14, Tryz.ntmps14
  go_wp2_with (go_at_call 15; refine (hs _).mono ?_)
  rintro e w1 ⟨v, rfl, hown, hb1⟩
  obtain ⟨g, cap, hv, hg1, hg2⟩ := owns_some hown (by decide)
  rw [hv] at hown
  have hrow := owns_tokRow hown
  have hj := join_some g 0 begunT.length cap begunT w1 (by decide) (by decide) hg2 hrow (by intro x hx; exact Nat.le_trans (alone_len (K := x.k) (by revert x; decide +kernel)) (by decide))
  rw [begun_join] at hj
  have c0 := (hrow.2 1 ⟨4, 3, [61]⟩ rfl).1
  have c1 := (hrow.2 1 ⟨4, 3, [61]⟩ rfl).2.1
  have c2 := (hrow.2 1 ⟨4, 3, [61]⟩ rfl).2.2
  simp at c0 c1 c2
  rw [hv]
  clear hv hown hs hrow
  have hl5 : begunT.length = 5 := rfl
  rw [hl5] at hj ⊢
  have hst : sameTk 4 3 ⟨#[61]⟩ 4 3 ⟨#[61]⟩ = true := by decide +kernel
  clear hl5
  go_wp2_with (go_at_call 16; refine hj.mono ?_)
  rintro e w2 ⟨rfl, hb2⟩
  have d0 := (hb2.cell (p := ⟨g, 3, none⟩) hg2).trans c0
  have d1 := (hb2.cell (p := ⟨g, 4, none⟩) hg2).trans c1
  have d2 := (hb2.cell (p := ⟨g, 5, none⟩) hg2).trans c2
  clear c0 c1 c2 hj
  go_wp2
  go_ret
  exact ⟨rfl, hb1.trans (hb2.mono hb1.size)⟩

end Go.Proofs.YtkpeklealgicpabGreatDoor

namespace Go.Proofs.YtkpeklealgicpabGreatDoor
open Go.RowKit

/-- what Parse answers: an error, a place, a command -/
def parseF (s : List UInt8) : Int × Int × Cm :=
  if (scanS s).2.2 = 0 then
    match wholeP (scanS s).1 with
    | .bad j => (1, pl (scanS s).1 (s.length : Nat) j, cm0)
    | .ok c _ => if chkC (manyC c) (rightC c) = 0 then (0, 0, c) else (chkC (manyC c) (rightC c), 0, cm0)
  else (((scanS s).2.2 : Nat), ((scanS s).2.1 : Nat), cm0)

theorem cmZ_at (B : Nat) (w : World) : CmAt B w (.agg cmZ.toArray) cm0 := ⟨_, _, _, _, _, rfl, cmIn0 B w cm0 rfl rfl rfl rfl rfl⟩

theorem parse_all (s : List UInt8) (w : World) (hs : s.length ≤ 9223372036854775000) (hl : Laid w) :
    Calls Tryz.prog 8 #[.string ⟨s.toArray⟩] w fun e w' => (∃ u, e = .returned (.tuple #[u, .int .i64 (parseF s).2.1, .int .i64 (parseF s).1]) ∧ CmAt w.heap.size w' u (parseF s).2.2) ∧ Below w.heap.size w w' := by
  unfold parseF
  by_cases hE : (scanS s).2.2 = 0
  · rw [if_pos hE]
    cases hw : wholeP (scanS s).1 with
    | bad j =>
      refine (Parse_bad s j hs hl hE hw).mono ?_
      rintro e w' ⟨rfl, hb⟩
      exact ⟨⟨_, rfl, cmZ_at _ _⟩, hb⟩
    | ok c j =>
      simp only
      by_cases hq : chkC (manyC c) (rightC c) = 0
      · rw [if_pos hq]
        refine (Parse_right s c j hs hl hE hw hq).mono ?_
        rintro e w' ⟨⟨u, rfl, hu⟩, hb⟩
        exact ⟨⟨u, rfl, hu⟩, hb⟩
      · rw [if_neg hq]
        refine (Parse_wrong s c j _ hs hl hE hw rfl hq).mono ?_
        rintro e w' ⟨rfl, hb⟩
        exact ⟨⟨_, rfl, cmZ_at _ _⟩, hb⟩
  · rw [if_neg hE]
    refine (Parse_scan s _ _ hs rfl rfl hE).mono ?_
    rintro e w' ⟨rfl, hb⟩
    exact ⟨⟨_, rfl, cmZ_at _ _⟩, hb⟩

theorem parseF_fit (s : List UInt8) : CmFit (parseF s).2.2 := by
  unfold parseF
  split
  · split
    · exact fit0
    · rename_i c j hw
      split
      · exact scanned_fit hw
      · exact fit0
  · exact fit0
/-- what is parsed passes Check -/
theorem parseF_check (s : List UInt8) (h : (parseF s).1 = 0) : chkC (manyC (parseF s).2.2) (rightC (parseF s).2.2) = 0 := by
  unfold parseF at h ⊢
  split at h
  · rename_i hE
    rw [if_pos hE]
    split at h
    · cases h
    · rename_i c j hw
      split at h
      · rename_i hq
        rw [if_pos hq]; exact hq
      · exact absurd h (by assumption)
  · simp only at h; omega
theorem parseF_none (s : List UInt8) (h : (parseF s).1 ≠ 0) : (parseF s).2.2 = cm0 := by
  unfold parseF at h ⊢
  split at h
  · rename_i hE
    rw [if_pos hE]
    split at h
    · rename_i j hw; rfl
    · rename_i c j hw
      split at h
      · exact absurd rfl h
      · rename_i hq
        rw [if_neg hq]
  · rename_i hE; rw [if_neg hE]

/-- a new variable with a command in it: what was there stays -/
theorem below_put {w2 w4 w6 : World} {cb : Nat} {xs : List Value} (hc : Hid (cb = w2.heap.size)) (b4 : Below w2.heap.size w2 w4) (p6 : Hid (w6 = putAll w4 cb 0 xs)) : Below w2.heap.size w2 w6 := by
  have h := hc.out
  have p := p6.out
  subst p
  exact b4.trans ⟨(putAll_misc cb _ w4 0).1, (putAll_misc cb _ w4 0).2.1, (putAll_misc cb _ w4 0).2.2, Nat.le_of_eq (putAll_size cb _ w4 0).symm, fun k hk => putAll_other cb _ w4 0 k (by omega)⟩

section
variable {P : Program} {ops : Array Oper} {rest : List Oper} {op : Oper} {a : Act} {w : World} {Q : Exit → Act → World → Prop}
/-- a whole block, as a struct, behind a guard that lets it -/
theorem wpList_load_if (ty : TypeId) (x : Operand) (hw : Region.wanted op (yielded ops a.tmps) = true) (ho : op.op = .load ty x) (b : Nat) (cs : List Value) (t : TypeId) (d : TypeDesc)
    (hx : a.eval x = .pointer (some ⟨b, 0, none⟩)) (hb : w.heap[b]? = some (.cells cs.toArray t)) (hu : P.underlying ty = some d) (hd : d.isRow = true) (hi : (P.info? ty).map (·.size) = some cs.length)
    (h : wpList P ops Q rest (a.put op.dst (.agg cs.toArray)) w) : wpList P ops Q (op :: rest) a w := by
  refine wpList_step fun K hK => ?_
  rw [if_pos hw]
  exact wp_load_mid ty x ho b 0 hx cs d (fun j v hv => by rw [Nat.zero_add, Lib.cell_of_heap hb]; simpa using hv) hu hd hi (hK _ _ h)
end

def smallL : List UInt8 := [117, 112, 100, 97, 116, 101, 32, 116, 32, 115, 101, 116, 32, 97, 32, 61, 32, 40, 97, 32, 43, 32, 49, 41, 32, 119, 104, 101, 114, 101, 32, 40, 98, 32, 61, 32, 39, 120, 39, 41, 32]
def smallC : Cm := { cm0 with kind := 12, name := [116], column := [97], expr := .mk 7 vl0 [] [.mk 2 vl0 [97] [], .mk 1 ⟨1, 1, []⟩ [] []], wh := .mk 11 vl0 [] [.mk 2 vl0 [98] [], .mk 1 ⟨2, 0, [120]⟩ [] []] }
theorem small_parse : parseF smallL = (0, 0, smallC) := by kernel_rfl
theorem small_fit : CmFit smallC := by have := parseF_fit smallL; rw [small_parse] at this; exact this
theorem small_check : chkC (manyC smallC) (rightC smallC) = 0 := by kernel_rfl

end Go.Proofs.YtkpeklealgicpabGreatDoor

namespace Go.Proofs.YtkpeklealgicpabGreatDoor
open Go.RowKit

theorem small_cells {c : Cm} (h1 : c.kind = 12) (h2 : c.column = [97]) (h3 : c.all = false) (h4 : c.expr.k = 7) (h5 : c.wh.k = 11) {W : World} {b : Nat} {t : TypeId} {cv vv fv ea wa : Value} (h : W.heap[b]? = some (.cells (cmL c cv vv fv ea wa).toArray t)) :
    W.cell? ⟨b, 0, none⟩ = some (.int .i64 12) ∧ W.cell? ⟨b, 3, none⟩ = some (.string ⟨#[97]⟩) ∧ W.cell? ⟨b, 17, none⟩ = some (.bool false) ∧ W.cell? ⟨b, 11, none⟩ = some (.int .i64 7) ∧ W.cell? ⟨b, 18, none⟩ = some (.int .i64 11) := by
  have e0 : W.cell? ⟨b, 0, none⟩ = some (.int .i64 c.kind) := (Lib.cell_of_heap h _).trans rfl
  have e3 : W.cell? ⟨b, 3, none⟩ = some (.string ⟨c.column.toArray⟩) := (Lib.cell_of_heap h _).trans rfl
  have e17 : W.cell? ⟨b, 17, none⟩ = some (.bool c.all) := (Lib.cell_of_heap h _).trans rfl
  have e11 : W.cell? ⟨b, 11, none⟩ = some (.int .i64 c.expr.k) := (Lib.cell_of_heap h _).trans rfl
  have e18 : W.cell? ⟨b, 18, none⟩ = some (.int .i64 c.wh.k) := (Lib.cell_of_heap h _).trans rfl
  rw [h1] at e0
  rw [h2] at e3
  rw [h3] at e17
  rw [h4] at e11
  rw [h5] at e18
  exact ⟨e0, e3, e17, e11, e18⟩

set_option maxRecDepth 100000 in
set_option maxHeartbeats 2000000 in
theorem cbegun_of (c : Cm) (h1 : c.kind = 12) (h2 : c.column = [97]) (h3 : c.all = false) (h4 : c.expr.k = 7) (h5 : c.wh.k = 11) (hf : CmFit c) (hq : chkC (manyC c) (rightC c) = 0) (w : World) (hl : Laid w)
    (hp : ∀ W, Laid W → Calls Tryz.prog 8 #[.string ⟨#[117, 112, 100, 97, 116, 101, 32, 116, 32, 115, 101, 116, 32, 97, 32, 61, 32, 40, 97, 32, 43, 32, 49, 41, 32, 119, 104, 101, 114, 101, 32, 40, 98, 32, 61, 32, 39, 120, 39, 41, 32]⟩] W fun e w' => (∃ cv vv fv ea wa, e = .returned (.tuple #[.agg (cmL c cv vv fv ea wa).toArray, .int .i64 0, .int .i64 0]) ∧ Hid (CmIn W.heap.size w' c cv vv fv ea wa)) ∧ Below W.heap.size W w') :
    Calls Tryz.prog 10 #[] w fun e w' => e = .returned (.bool true) ∧ Below w.heap.size w w' := by
  have hck : ∀ (W : World) (cv vv fv ea wa : Value), CmIn 0 W c cv vv fv ea wa → Laid W → Calls Tryz.prog 12 #[.agg (cmL c cv vv fv ea wa).toArray] W fun e w' => e = .returned (.int .i64 0) ∧ Below W.heap.size W w' := by
    intro W cv vv fv ea wa hi hL
    rw [← hq]
    exact check_cmd c cv vv fv ea wa hi hf hL
  have HL := hide hl
  have hp := hp w hl
  have hm := fun {W : World} {b : Nat} {cv vv fv ea wa : Value} => @small_cells c h1 h2 h3 h4 h5 W b 31 cv vv fv ea wa
  clear hl h1 h2 h3 h4 h5 hq hf
  go_enter Tryz.func10, Tryz.ntmps10
  go_wp2_with fail
  refine hp.mono ?_
  rintro e w2 ⟨⟨cv, vv, fv, ea, wa, rfl, hi⟩, b2⟩
  clear hp
  go_wp2_with (first | (refine wpList_alloc_blk 1 31 cmZ rfl rfl rfl Tryz.alloc31 ?_; intro w4 cb hcb k4 b4) | (refine wpList_store_whole 31 _ _ rfl rfl cb cmZ (cmL c cv vv fv ea wa) 31 rfl rfl (by exact k4) rfl Tryz.size31 (by exact hi.out.one) ?_; intro w6 k6 p6; have b6 := below_put hcb b4 p6; obtain ⟨m0, m3, m17, m11, m18⟩ := hm k6; clear p6) | (refine wpList_load_if 31 _ (by rfl) rfl _ (cmL c cv vv fv ea wa) 31 _ rfl (by exact k6) Tryz.underlying31 rfl Tryz.size31 ?_) | (refine (hck _ _ _ _ _ _ ((hi.out.under b6).weak (Nat.zero_le _)) ((HL.out.below b2).below b6)).mono ?_; rintro e w7 ⟨rfl, b7⟩))
  go_ret
  have q6 : Below w.heap.size w w6 := b2.trans (b6.mono b2.size)
  exact ⟨rfl, q6.trans (b7.mono q6.size)⟩

theorem cbegun_any (w : World) (hl : Laid w) : Calls Tryz.prog 10 #[] w fun e w' => e = .returned (.bool true) ∧ Below w.heap.size w w' := by
  refine cbegun_of smallC rfl rfl rfl rfl rfl small_fit small_check w hl fun W hL => ?_
  have h := parse_all smallL W (by decide) hL
  rw [small_parse] at h
  refine h.mono ?_
  rintro e w' ⟨⟨u, rfl, cv, vv, fv, ea, wa, rfl, hi⟩, hb⟩
  exact ⟨⟨cv, vv, fv, ea, wa, rfl, hi⟩, hb⟩

end Go.Proofs.YtkpeklealgicpabGreatDoor

namespace Go.Proofs.YtkpeklealgicpabGreatDoor
open Go.ChangeShapes Go.WideShapes Go.ChangeAt Go.RowKit

theorem Tryz.own : ownKnob Tryz.prog.godebug = none := by kernel_rfl
theorem Tryz.laidOut : laidOutB Tryz.prog = true := by kernel_rfl
theorem Tryz.gPowType : (Tryz.prog.globals[1]?).map (·.type) = some 174 := by kernel_rfl
theorem Tryz.gESType : (Tryz.prog.globals[2]?).map (·.type) = some 74 := by kernel_rfl
theorem Tryz.gERType : (Tryz.prog.globals[3]?).map (·.type) = some 74 := by kernel_rfl
theorem Tryz.c174 : Tryz.prog.cellsOf 174 = 20 := by kernel_rfl
theorem Tryz.c159 : Tryz.prog.cellsOf 159 = 1 := by kernel_rfl
theorem Tryz.c187 : Tryz.prog.cellsOf 187 = 1 := by kernel_rfl
theorem Tryz.c9 : Tryz.prog.cellsOf 9 = 1 := by kernel_rfl
theorem Tryz.star : "*" ++ "errors.errorString" = "*errors.errorString" := by decide
theorem Tryz.row185 (u : TypeId) (h : Tryz.prog.typeName? 3 u = some "*errors.errorString") : u = 185 :=
  typeName_ptr_named (nm := "errors.errorString") (by rw [Tryz.star]; kernel_rfl) (by kernel_rfl) (by decide) u (by rw [Tryz.star]; exact h)

theorem pow_laid : (Rows.laid_internal_strconv_uint64pow10 : DataW Unit) = Lib.tabData .u64 Lib.pow10Tab := by rfl

theorem Tryz.six : Tryz.prog.globals.size = 6 := by kernel_rfl
theorem max_int {W : World} (h : W.ShapedOpen Tryz.prog) : ∃ m, W.cell? ⟨0, 0, none⟩ = some (.int .i64 m) :=
  Go.Proofs.cell_of_shapedOpen_int (t := 3) (zero := #[.int .i64 0]) h (by rw [Tryz.six]; decide) (by kernel_rfl) rfl (by kernel_rfl) (by kernel_rfl) Tryz.underlying3
theorem low_six {W : World} (h : W.ShapedOpen Tryz.prog) : 6 ≤ W.heap.size := by
  have hz : (((begin Tryz.prog (fun _ _ => 0) default).world.heap[5]?).bind Obj.row?).isSome = true := by kernel_rfl
  obtain ⟨⟨z, t⟩, hz⟩ := Option.isSome_iff_exists.1 hz
  obtain ⟨cs, hh, -⟩ := h.1 5 z t (by rw [Tryz.six]; decide) hz
  have := (Array.getElem?_eq_some_iff.1 hh).1
  omega

theorem laid_of {W : World} (h : laidMetH Tryz.prog Rows.commandTellsRow.laid W) (hs : W.ShapedOpen Tryz.prog) : Laid W := by
  rw [MakeChecks.laidMetH_plain _ _ _ (by kernel_rfl)] at h
  have h3 : laidMet Tryz.prog (("internal/strconv.uint64pow10", Rows.laid_internal_strconv_uint64pow10) :: ("strconv.ErrRange", Rows.laid_strconv_ErrRange) :: ("strconv.ErrSyntax", Rows.laid_strconv_ErrSyntax) :: []) W := h.tail.tail
  rw [pow_laid] at h3
  refine ⟨Lib.tabIs_of_head Tryz.gPow Tryz.gPowType Tryz.underlying174 Tryz.underlying159 Tryz.c159 Tryz.c174 h3, ?_, ?_, max_int hs, low_six hs⟩
  · obtain ⟨a0, s0, hv0, -, -, -⟩ := laid_sentinel h3.tail.tail Tryz.gES Tryz.gESType Tryz.underlying74 Tryz.row185 Tryz.underlying185 Tryz.underlying187 rfl rfl Tryz.underlying9 Tryz.c187 Tryz.c9
    exact ⟨_, _, hv0⟩
  · obtain ⟨a0, s0, hv0, -, -, -⟩ := laid_sentinel h3.tail Tryz.gER Tryz.gERType Tryz.underlying74 Tryz.row185 Tryz.underlying185 Tryz.underlying187 rfl rfl Tryz.underlying9 Tryz.c187 Tryz.c9
    exact ⟨_, _, hv0⟩

theorem door_met (os : Os) (args : Array Value) : laidMetH Tryz.prog Rows.commandTellsRow.laid ((World.doorLaid Tryz.prog 200 os).forCall (fun _ _ => 0) ⟨#[], args, []⟩).memory := by
  rw [MakeChecks.laidMetH_plain _ _ _ (by kernel_rfl)]
  exact laidMet_of_run' 8 (by kernel_rfl) (by kernel_rfl)

end Go.Proofs.YtkpeklealgicpabGreatDoor
