/-
  Parse: where a command is read; Check decides.
  The document's SameValue and SameValues, of any values in memory.
  The document's SameExpr, of any expressions in memory.
  The document's reader in memory: its small methods.
  The document's reader in memory: names, numbers, values, kinds of columns.
  The document's SameCmd, of one command in memory twice.
  Parse, all cases in one; the laws' first look, commandBegun.
  The document's reader in memory: values, kinds of columns.
  The document's reader in memory: values.
  The document's reader in memory: values, whole.
  The document's reader in memory: expressions.
  The document's reader in memory: expressions in brackets.
  The document's reader in memory: expressions of two.
  The document's reader in memory: expressions, whole.
  The document's reader in memory, with its command.
  The document's reader in memory: structs into its command; Where.
  The document's reader in memory: Alter.
  The document's reader in memory: lists that grow.
  The document's reader in memory: Create.
  The document's reader in memory: Create, both ways.
  The document's reader in memory: Select.
  The document's reader in memory: Select, whole.
-/
import Derived.Deep.RegionHeld3
import Derived.Deep.AppendLies
import Derived.Deep.RegionHeldLaw
import Derived.Test.YtkpeklealgicpabGreatDoorLc

set_option maxRecDepth 100000
set_option maxHeartbeats 8000000
namespace Go.Proofs.YtkpeklealgicpabGreatDoor
open Go.RowKit
theorem scan_ok {s : List UInt8} (hs : s.length ≤ 9223372036854775000) (hE : (scanS s).2.2 = 0) (W : World) : Calls Tryz.prog 15 #[.string ⟨s.toArray⟩] W fun e w' => ∃ v A, e = .returned (.tuple #[v, .int .i64 A, .int .i64 0]) ∧ Hid (Tks w' W.heap.size v (scanS s).1) ∧ Below W.heap.size W w' := by
  refine (scan_any ⟨s.toArray⟩ W (by rw [size_mk]; exact hs)).mono ?_
  rintro e w' ⟨v, rfl, ho, hb⟩
  refine ⟨v, ((scanS s).2.1 : Nat), ?_, tks_scanned ho, hb⟩
  show Ending.returned (.tuple #[v, .int .i64 ((scanS s).2.1 : Nat), .int .i64 ((scanS s).2.2 : Nat)]) = _
  rw [hE]; rfl
theorem g6_of {w2 w4 w6 : World} {cb : Nat} {xs : List Value} (hc : cb = w2.heap.size) (hp : w6 = putAll w4 cb 0 xs) (b4 : Below w2.heap.size w2 w4) : w4.heap.size = w6.heap.size ∧ (∀ b, b < w2.heap.size → w6.heap[b]? = w2.heap[b]?) := by
  subst hp
  exact ⟨(putAll_size cb _ w4 0).symm, fun b hb => (putAll_other cb _ w4 0 b (by omega)).trans (b4.block b hb)⟩
theorem Parse_wrong {w : World} (s : List UInt8) (c : Cm) (j : Nat) (E : Int) (hs : s.length ≤ 9223372036854775000) (hl : Laid w) (hE : (scanS s).2.2 = 0) (hw : wholeP (scanS s).1 = .ok c j) (hq : chkC (manyC c) (rightC c) = E) (hd : ¬ E = 0) :
    Calls Tryz.prog 8 #[.string ⟨s.toArray⟩] w fun e w' => e = .returned (.tuple #[.agg cmZ.toArray, .int .i64 0, .int .i64 E]) ∧ Below w.heap.size w w' := by
  have hsc := scan_ok hs hE
  have hpa : ∀ (W : World) (base : Nat) (v : Value), Tks W base v (scanS s).1 → Laid W → Calls Tryz.prog 21 #[v, .int .i64 ((s.length : Nat) : Int)] W fun e w' => (∃ cv vv fv ea wa, e = .returned (.tuple #[.agg (cmL c cv vv fv ea wa).toArray, .int .i64 0, .int .i64 0]) ∧ Hid (CmIn W.heap.size w' c cv vv fv ea wa)) ∧ Below W.heap.size W w' := by
    intro W base v ht hL
    refine (parse_any ht hL _).mono fun e w' h => ⟨?_, h.below⟩
    obtain ⟨u, rfl, cv, vv, fv, ea, wa, rfl, hi⟩ := h.ok c j hw
    exact ⟨cv, vv, fv, ea, wa, rfl, hi⟩
  have hf : Hid (CmFit c) := scanned_fit hw
  have hz : (⟨s.toArray⟩ : ByteArray).size = s.length := size_mk s
  have hck : ∀ (W : World) (cv vv fv ea wa : Value), CmIn 0 W c cv vv fv ea wa → Laid W → Calls Tryz.prog 12 #[.agg (cmL c cv vv fv ea wa).toArray] W fun e w' => e = .returned (.int .i64 E) ∧ Below W.heap.size W w' := by
    intro W cv vv fv ea wa hi hL
    rw [← hq]
    exact check_cmd c cv vv fv ea wa hi hf.out hL
  clear hw hE hs hq
  go_enter Tryz.func8, Tryz.ntmps8
  go_wp2_with (first | (refine wpList_alloc_blk 2 31 cmZ rfl rfl rfl Tryz.alloc31 ?_; intro W0 rb hrb k0 b0) | (refine (hsc _).mono ?_; rintro e w1 ⟨v, A, rfl, ht, b1⟩; have k1 := (b1.block rb (ltS k0)).trans k0; have L1 : Hid (Laid w1) := (hl.below b0).below b1) | (refine (hpa _ _ _ ht.out L1.out).mono ?_; rintro e w2 ⟨⟨cv, vv, fv, ea, wa, rfl, hi⟩, b2⟩; have k2 := (b2.block rb (ltS k1)).trans k1; have L2 : Hid (Laid w2) := L1.out.below b2) | (refine wpList_alloc_blk 8 31 cmZ rfl rfl rfl Tryz.alloc31 ?_; intro w4 cb hcb k4 b4; have k5 := (b4.block rb (ltS k2)).trans k2) | (refine wpList_store_whole 31 _ _ rfl rfl cb cmZ (cmL c cv vv fv ea wa) 31 rfl rfl (by exact k4) rfl Tryz.size31 (by exact hi.out.one) ?_; intro w6 k6 p6; have g6 : Hid (w4.heap.size = w6.heap.size ∧ (∀ b, b < w2.heap.size → w6.heap[b]? = w2.heap[b]?)) := g6_of hcb.out p6.out b4; have k7 : w6.heap[rb]? = some (.cells cmZ.toArray 31) := (g6.out.2 rb (ltS k2)).trans k2; have i6 : Hid (CmIn w1.heap.size w6 c cv vv fv ea wa) := hi.out.keep (by have := b4.size; have := g6.out.1; omega) (fun b _ hb => g6.out.2 b hb); have L6 : Hid (Laid w6) := L2.out.keep (by have := b4.size; have := g6.out.1; omega) (fun k hk => g6.out.2 k (Nat.lt_of_lt_of_le hk L2.out.sz))) | (refine wpList_load_whole 31 _ rfl rfl _ (cmL c cv vv fv ea wa) 31 _ rfl (by assumption) Tryz.underlying31 rfl Tryz.size31 ?_) | (refine (hck _ _ _ _ _ _ (i6.out.weak (Nat.zero_le _)) L6.out).mono ?_; rintro e w7 ⟨rfl, b7⟩; have k8 := (b7.block cb (ltS k6)).trans k6; have k9 := (b7.block rb (ltS k7)).trans k7; have i7 : Hid (CmIn w1.heap.size w7 c cv vv fv ea wa) := i6.out.keep b7.size (fun b _ hb => b7.block b hb)) | (refine wpList_store_whole 31 _ _ rfl rfl rb cmZ cmZ 31 rfl rfl (by exact k9) rfl Tryz.size31 (by exact (cmIn0 0 w7 cm0 rfl rfl rfl rfl rfl).one) ?_; intro w3 k3 p3))
  have hr := hrb.out
  have hc := hcb.out
  have B4 : Below w.heap.size w w4 := ((b0.trans (b1.mono b0.size)).trans (b2.mono (Nat.le_trans b0.size b1.size))).trans (b4.mono (Nat.le_trans (Nat.le_trans b0.size b1.size) b2.size))
  have B6 : Below w.heap.size w w6 := by
    rw [p6.out]
    exact B4.trans ⟨(putAll_misc cb _ w4 0).1, (putAll_misc cb _ w4 0).2.1, (putAll_misc cb _ w4 0).2.2, Nat.le_of_eq (putAll_size cb _ w4 0).symm, fun k hk => putAll_other cb _ w4 0 k (by have := b0.size; have := b1.size; have := b2.size; omega)⟩
  have B7 := B6.trans (b7.mono B6.size)
  have B3 : Below w.heap.size w w3 := by
    rw [p3.out]
    exact B7.trans ⟨(putAll_misc rb _ w7 0).1, (putAll_misc rb _ w7 0).2.1, (putAll_misc rb _ w7 0).2.2, Nat.le_of_eq (putAll_size rb _ w7 0).symm, fun k hk => putAll_other rb _ w7 0 k (by omega)⟩
  exact bodyPost_ret (results_whole3 _ _ rb cmZ _ _ rfl rfl rfl rfl k3) rfl ⟨rfl, B3⟩
theorem Parse_right {w : World} (s : List UInt8) (c : Cm) (j : Nat) (hs : s.length ≤ 9223372036854775000) (hl : Laid w) (hE : (scanS s).2.2 = 0) (hw : wholeP (scanS s).1 = .ok c j) (hq : chkC (manyC c) (rightC c) = 0) :
    Calls Tryz.prog 8 #[.string ⟨s.toArray⟩] w fun e w' => (∃ u, e = .returned (.tuple #[u, .int .i64 0, .int .i64 0]) ∧ CmAt w.heap.size w' u c) ∧ Below w.heap.size w w' := by
  have hsc := scan_ok hs hE
  have hpa : ∀ (W : World) (base : Nat) (v : Value), Tks W base v (scanS s).1 → Laid W → Calls Tryz.prog 21 #[v, .int .i64 ((s.length : Nat) : Int)] W fun e w' => (∃ cv vv fv ea wa, e = .returned (.tuple #[.agg (cmL c cv vv fv ea wa).toArray, .int .i64 0, .int .i64 0]) ∧ Hid (CmIn W.heap.size w' c cv vv fv ea wa)) ∧ Below W.heap.size W w' := by
    intro W base v ht hL
    refine (parse_any ht hL _).mono fun e w' h => ⟨?_, h.below⟩
    obtain ⟨u, rfl, cv, vv, fv, ea, wa, rfl, hi⟩ := h.ok c j hw
    exact ⟨cv, vv, fv, ea, wa, rfl, hi⟩
  have hf : Hid (CmFit c) := scanned_fit hw
  have hz : (⟨s.toArray⟩ : ByteArray).size = s.length := size_mk s
  have hck : ∀ (W : World) (cv vv fv ea wa : Value), CmIn 0 W c cv vv fv ea wa → Laid W → Calls Tryz.prog 12 #[.agg (cmL c cv vv fv ea wa).toArray] W fun e w' => e = .returned (.int .i64 0) ∧ Below W.heap.size W w' := by
    intro W cv vv fv ea wa hi hL
    rw [← hq]
    exact check_cmd c cv vv fv ea wa hi hf.out hL
  clear hw hE hs hq
  go_enter Tryz.func8, Tryz.ntmps8
  go_wp2_with (first | (refine wpList_alloc_blk 2 31 cmZ rfl rfl rfl Tryz.alloc31 ?_; intro W0 rb hrb k0 b0) | (refine (hsc _).mono ?_; rintro e w1 ⟨v, A, rfl, ht, b1⟩; have k1 := (b1.block rb (ltS k0)).trans k0; have L1 : Hid (Laid w1) := (hl.below b0).below b1) | (refine (hpa _ _ _ ht.out L1.out).mono ?_; rintro e w2 ⟨⟨cv, vv, fv, ea, wa, rfl, hi⟩, b2⟩; have k2 := (b2.block rb (ltS k1)).trans k1; have L2 : Hid (Laid w2) := L1.out.below b2) | (refine wpList_alloc_blk 8 31 cmZ rfl rfl rfl Tryz.alloc31 ?_; intro w4 cb hcb k4 b4; have k5 := (b4.block rb (ltS k2)).trans k2) | (refine wpList_store_whole 31 _ _ rfl rfl cb cmZ (cmL c cv vv fv ea wa) 31 rfl rfl (by exact k4) rfl Tryz.size31 (by exact hi.out.one) ?_; intro w6 k6 p6; have g6 : Hid (w4.heap.size = w6.heap.size ∧ (∀ b, b < w2.heap.size → w6.heap[b]? = w2.heap[b]?)) := g6_of hcb.out p6.out b4; have k7 : w6.heap[rb]? = some (.cells cmZ.toArray 31) := (g6.out.2 rb (ltS k2)).trans k2; have i6 : Hid (CmIn w1.heap.size w6 c cv vv fv ea wa) := hi.out.keep (by have := b4.size; have := g6.out.1; omega) (fun b _ hb => g6.out.2 b hb); have L6 : Hid (Laid w6) := L2.out.keep (by have := b4.size; have := g6.out.1; omega) (fun k hk => g6.out.2 k (Nat.lt_of_lt_of_le hk L2.out.sz))) | (refine wpList_load_whole 31 _ rfl rfl _ (cmL c cv vv fv ea wa) 31 _ rfl (by assumption) Tryz.underlying31 rfl Tryz.size31 ?_) | (refine (hck _ _ _ _ _ _ (i6.out.weak (Nat.zero_le _)) L6.out).mono ?_; rintro e w7 ⟨rfl, b7⟩; have k8 := (b7.block cb (ltS k6)).trans k6; have k9 := (b7.block rb (ltS k7)).trans k7; have i7 : Hid (CmIn w1.heap.size w7 c cv vv fv ea wa) := i6.out.keep b7.size (fun b _ hb => b7.block b hb)) | (refine wpList_store_whole 31 _ _ rfl rfl rb cmZ (cmL c cv vv fv ea wa) 31 rfl rfl (by exact k9) rfl Tryz.size31 (by exact i7.out.one) ?_; intro w3 k3 p3))
  have hr := hrb.out
  have hc := hcb.out
  have B4 : Below w.heap.size w w4 := ((b0.trans (b1.mono b0.size)).trans (b2.mono (Nat.le_trans b0.size b1.size))).trans (b4.mono (Nat.le_trans (Nat.le_trans b0.size b1.size) b2.size))
  have B6 : Below w.heap.size w w6 := by
    rw [p6.out]
    exact B4.trans ⟨(putAll_misc cb _ w4 0).1, (putAll_misc cb _ w4 0).2.1, (putAll_misc cb _ w4 0).2.2, Nat.le_of_eq (putAll_size cb _ w4 0).symm, fun k hk => putAll_other cb _ w4 0 k (by have := b0.size; have := b1.size; have := b2.size; omega)⟩
  have B7 := B6.trans (b7.mono B6.size)
  have B3 : Below w.heap.size w w3 := by
    rw [p3.out]
    exact B7.trans ⟨(putAll_misc rb _ w7 0).1, (putAll_misc rb _ w7 0).2.1, (putAll_misc rb _ w7 0).2.2, Nat.le_of_eq (putAll_size rb _ w7 0).symm, fun k hk => putAll_other rb _ w7 0 k (by omega)⟩
  have m3 : CmIn w1.heap.size w3 c cv vv fv ea wa := by
    rw [p3.out]
    exact i7.out.putAll (by have := (ltS k1); omega) 0 _
  exact bodyPost_ret (results_whole3 _ _ rb (cmL c cv vv fv ea wa) _ _ rfl rfl rfl rfl k3) rfl ⟨⟨_, rfl, cv, vv, fv, ea, wa, rfl, m3.weak (Nat.le_trans b0.size b1.size)⟩, B3⟩
def eqV (x y : Vl) : Bool := decide (x.k = y.k) && decide (x.n = y.n) && decide (x.s = y.s)
theorem eqV_iff (x y : Vl) : eqV x y = true ↔ x = y := by
  obtain ⟨k, n, s⟩ := x
  obtain ⟨k', n', s'⟩ := y
  simp [eqV, and_assoc]
theorem sameV_any (x y : Vl) (w : World) : Calls Tryz.prog 25 #[.agg #[.int .i64 x.k, .int .i64 x.n, .string ⟨x.s.toArray⟩], .agg #[.int .i64 y.k, .int .i64 y.n, .string ⟨y.s.toArray⟩]] w fun e w' => e = .returned (.bool (eqV x y)) ∧ Below w.heap.size w w' := by
  obtain ⟨k, n, s⟩ := x
  obtain ⟨k', n', s'⟩ := y
  simp only [eqV]
  by_cases h1 : k = k'
  · subst h1
    by_cases h2 : n = n'
    · subst h2
      go_enter Tryz.func25, Tryz.ntmps25
      go_wp2
      go_ret
      refine ⟨ret_bool ?_, ((Below.refl _ _).alloc (Nat.le_refl _) _).alloc (by simp) _⟩
      simp
      rw [Bool.eq_iff_iff]; simp
    · have h2' : (n == n') = false := by simpa using h2
      go_enter Tryz.func25, Tryz.ntmps25
      go_wp2
      go_ret
      exact ⟨ret_bool (by simp [h2]), ((Below.refl _ _).alloc (Nat.le_refl _) _).alloc (by simp) _⟩
  · have h1' : (k == k') = false := by simpa using h1
    go_enter Tryz.func25, Tryz.ntmps25
    go_wp2
    go_ret
    exact ⟨ret_bool (by simp [h1]), ((Below.refl _ _).alloc (Nat.le_refl _) _).alloc (by simp) _⟩
theorem keepV {w W W' : World} {g o g' o' : Nat} {x y z x' y' z' : Value} (hg : g < w.heap.size) (hg' : g' < w.heap.size)
    (h : W.cell? ⟨g, o, none⟩ = some x ∧ W.cell? ⟨g, o + 1, none⟩ = some y ∧ W.cell? ⟨g, o + 2, none⟩ = some z ∧ W.cell? ⟨g', o', none⟩ = some x' ∧ W.cell? ⟨g', o' + 1, none⟩ = some y' ∧ W.cell? ⟨g', o' + 2, none⟩ = some z' ∧ Below w.heap.size w W) (hb : Below W.heap.size W W') :
    W'.cell? ⟨g, o, none⟩ = some x ∧ W'.cell? ⟨g, o + 1, none⟩ = some y ∧ W'.cell? ⟨g, o + 2, none⟩ = some z ∧ W'.cell? ⟨g', o', none⟩ = some x' ∧ W'.cell? ⟨g', o' + 1, none⟩ = some y' ∧ W'.cell? ⟨g', o' + 2, none⟩ = some z' ∧ Below w.heap.size w W' := by
  obtain ⟨h1, h2, h3, h4, h5, h6, h7⟩ := h
  have s := h7.size
  exact ⟨(hb.cell (p := ⟨g, _, none⟩) (by show g < _; omega)).trans h1, (hb.cell (p := ⟨g, _, none⟩) (by show g < _; omega)).trans h2, (hb.cell (p := ⟨g, _, none⟩) (by show g < _; omega)).trans h3, (hb.cell (p := ⟨g', _, none⟩) (by show g' < _; omega)).trans h4, (hb.cell (p := ⟨g', _, none⟩) (by show g' < _; omega)).trans h5, (hb.cell (p := ⟨g', _, none⟩) (by show g' < _; omega)).trans h6, h7.trans (hb.mono s)⟩
theorem row_val {w : World} {b off : Nat} {L : List Vl} (hc : ∀ j x, (L.flatMap vlC)[j]? = some x → w.cell? ⟨b, off + j, none⟩ = some x) (k : Nat) (x : Vl) (hx : L[k]? = some x) :
    w.cell? ⟨b, off + k * 3, none⟩ = some (.int .i64 x.k) ∧ w.cell? ⟨b, off + k * 3 + 1, none⟩ = some (.int .i64 x.n) ∧ w.cell? ⟨b, off + k * 3 + 2, none⟩ = some (.string ⟨x.s.toArray⟩) := by
  have g0 := flat_get vlC 3 (fun _ => rfl) L k x hx 0 (by decide)
  have g1 := flat_get vlC 3 (fun _ => rfl) L k x hx 1 (by decide)
  have g2 := flat_get vlC 3 (fun _ => rfl) L k x hx 2 (by decide)
  exact ⟨hc _ _ g0, hc _ _ g1, hc _ _ g2⟩
theorem sameVs_any (L M : List Vl) (u v : Value) (w : World) (h : RowAt 0 w u L.length (L.flatMap vlC)) (h' : RowAt 0 w v M.length (M.flatMap vlC)) (hL : L.length ≤ 1000000000000000) :
    Calls Tryz.prog 27 #[u, v] w fun e w' => (∃ b, e = .returned (.bool b) ∧ (b = true ↔ L = M)) ∧ Below w.heap.size w w' := by
  obtain ⟨ao, cap, hu⟩ := h.form
  obtain ⟨ao', cap', hv⟩ := h'.form
  by_cases hn : L.length = M.length
  · have H3 : Hid (∀ k x y, L[k]? = some x → M[k]? = some y → ∃ g o g' o', ao = some ⟨g, o, none⟩ ∧ ao' = some ⟨g', o', none⟩ ∧ g < w.heap.size ∧ g' < w.heap.size ∧ (w.cell? ⟨g, o + k * 3, none⟩ = some (.int .i64 x.k) ∧ w.cell? ⟨g, o + k * 3 + 1, none⟩ = some (.int .i64 x.n) ∧ w.cell? ⟨g, o + k * 3 + 2, none⟩ = some (.string ⟨x.s.toArray⟩)) ∧ (w.cell? ⟨g', o' + k * 3, none⟩ = some (.int .i64 y.k) ∧ w.cell? ⟨g', o' + k * 3 + 1, none⟩ = some (.int .i64 y.n) ∧ w.cell? ⟨g', o' + k * 3 + 2, none⟩ = some (.string ⟨y.s.toArray⟩))) := by
      intro k x y hx hy
      rcases h with ⟨h0, -⟩ | ⟨b, off, cp, e, -, hlt, hc⟩
      · exfalso; have := (List.getElem?_eq_some_iff.1 hx).1; omega
      rcases h' with ⟨h0, -⟩ | ⟨b', off', cp', e', -, hlt', hc'⟩
      · exfalso; have := (List.getElem?_eq_some_iff.1 hy).1; omega
      rw [hu] at e
      rw [hv] at e'
      cases e
      cases e'
      exact ⟨b, off, b', off', rfl, rfl, hlt, hlt', row_val hc k x hx, row_val hc' k y hy⟩
    rw [hu, hv, ← hn]
    have HN := hide hn
    clear h h' hu hv
    obtain ⟨n, hN⟩ : ∃ n, L.length = n := ⟨_, rfl⟩
    rw [hN] at hL ⊢
    go_enter Tryz.func27, Tryz.ntmps27
    go_wp2
    go_loopw [5] (fun i wl => ∃ k : Nat, k ≤ n ∧ i = .int .i64 k ∧ Below w.heap.size w wl ∧ Hid (∀ j, j < k → L[j]? = M[j]?)) (fun i _ => n - (intOf i).toNat)
    case atStart => exact ⟨0, Nat.zero_le _, rfl, Below.refl _ _, fun j hj => absurd hj (Nat.not_lt_zero _)⟩
    case round =>
      obtain ⟨k, hk, rfl, hnx, HA⟩ := hrel
      by_cases hlt : k < n
      · obtain ⟨x, hx⟩ : ∃ x, L[k]? = some x := ⟨L[k], List.getElem?_eq_getElem (by omega)⟩
        obtain ⟨y, hy⟩ : ∃ y, M[k]? = some y := ⟨M[k]'(by have := HN.out; omega), List.getElem?_eq_getElem (by have := HN.out; omega)⟩
        obtain ⟨g, o, g', o', rfl, rfl, hg, hg', ⟨a0, a1, a2⟩, d0, d1, d2⟩ := H3.out k x y hx hy
        have c0 := (hnx.cell (p := ⟨g, o + k * 3, none⟩) hg).trans a0
        have c1 := (hnx.cell (p := ⟨g, o + k * 3 + 1, none⟩) hg).trans a1
        have c2 := (hnx.cell (p := ⟨g, o + k * 3 + 2, none⟩) hg).trans a2
        have f0 := (hnx.cell (p := ⟨g', o' + k * 3, none⟩) hg').trans d0
        have f1 := (hnx.cell (p := ⟨g', o' + k * 3 + 1, none⟩) hg').trans d1
        have f2 := (hnx.cell (p := ⟨g', o' + k * 3 + 2, none⟩) hg').trans d2
        have hlt' : (k : Int) < (n : Int) := by omega
        have HX := hide hx
        have HY := hide hy
        have HQ := hide (eqV_iff x y)
        have hsv := sameV_any x y
        clear a0 a1 a2 d0 d1 d2 hx hy H3
        generalize eqV x y = q at hsv HQ
        go_wp2_with fail
        go_region_held3 (fun w' => w'.cell? ⟨g, o + k * 3, none⟩ = some (.int .i64 x.k) ∧ w'.cell? ⟨g, o + k * 3 + 1, none⟩ = some (.int .i64 x.n) ∧ w'.cell? ⟨g, o + k * 3 + 2, none⟩ = some (.string ⟨x.s.toArray⟩) ∧ w'.cell? ⟨g', o' + k * 3, none⟩ = some (.int .i64 y.k) ∧ w'.cell? ⟨g', o' + k * 3 + 1, none⟩ = some (.int .i64 y.n) ∧ w'.cell? ⟨g', o' + k * 3 + 2, none⟩ = some (.string ⟨y.s.toArray⟩) ∧ Below w.heap.size w w') (first | exact ⟨c0, c1, c2, f0, f1, f2, hnx.drew⟩ | exact keepV hg hg' (by assumption) (by assumption)) (first | (go_at_call 25; refine (hsv _).mono ?_; rintro e w' ⟨rfl, hb⟩))
        rename_i hH
        have q8 := hH.2.2.2.2.2.2
        clear hH c0 c1 c2 f0 f1 f2 hsv
        cases q with
        | true =>
          go_wp2
          go_roundw
          case rel =>
            refine ⟨k + 1, by omega, by go_num, q8, fun j hj => ?_⟩
            rcases Nat.lt_or_ge j k with hjk | hjk
            · exact HA.out j hjk
            · rw [show j = k by omega, HX.out, HY.out, HQ.out.1 rfl]
          case measure => simp [intOf]; omega
        | false =>
          go_wp2
          go_ret
          refine ⟨⟨false, rfl, ⟨fun e => Bool.noConfusion e, fun e => ?_⟩⟩, q8⟩
          have h1 := HX.out
          rw [e, HY.out] at h1
          cases h1
          exact HQ.out.2 rfl
      · clear H3
        go_wp2
        go_ret
        refine ⟨⟨true, rfl, ⟨fun _ => List.ext_getElem? fun j => ?_, fun _ => rfl⟩⟩, hnx⟩
        rcases Nat.lt_or_ge j k with hjk | hjk
        · exact HA.out j hjk
        · have := HN.out
          rw [List.getElem?_eq_none (by omega), List.getElem?_eq_none (by omega)]
  · have hn' : ((L.length : Int) == (M.length : Int)) = false := by rw [beq_eq_false_iff_ne]; omega
    rw [hu, hv]
    have HN := hide hn
    clear h h' hu hv hn
    go_enter Tryz.func27, Tryz.ntmps27
    go_wp2
    go_ret
    exact ⟨⟨false, rfl, ⟨fun e => Bool.noConfusion e, fun e => absurd (congrArg List.length e) HN.out⟩⟩, Below.refl _ _⟩
theorem size_ne {a b : List UInt8} (h : a ≠ b) : ((⟨a.toArray⟩ : ByteArray).toList == (⟨b.toArray⟩ : ByteArray).toList) = false := by
  rw [Lib.toList_data, Lib.toList_data, beq_eq_false_iff_ne]; simpa using h
theorem sameE_no (k k' : Int) (x x' : Vl) (nm nm' : List UInt8) (ao ao' : Option Addr) (n n' ca ca' : Nat) (w : World) (hne : ¬ (k = k' ∧ nm = nm' ∧ x = x' ∧ n = n')) :
    Calls Tryz.prog 26 #[exV k x nm (.slice ao n ca), exV k' x' nm' (.slice ao' n' ca')] w fun e w' => e = .returned (.bool false) ∧ Below w.heap.size w w' := by
  have bb : ∀ (o o' : Obj), Below w.heap.size w ((w.alloc o).alloc o') := fun o o' => ((Below.refl _ _).alloc (Nat.le_refl _) _).alloc (by simp) _
  have hsv := sameV_any x x'
  have HQ := hide (eqV_iff x x')
  generalize eqV x x' = q at hsv HQ
  unfold exV
  by_cases h1 : k = k'
  · subst h1
    by_cases h2 : nm = nm'
    · subst h2
      cases q with
      | false =>
        go_enter Tryz.func26, Tryz.ntmps26
        go_wp2_with (go_at_call 25; refine (hsv _).mono ?_; rintro e w1 ⟨rfl, b1⟩)
        go_ret
        exact ⟨rfl, (bb _ _).trans (b1.mono (by simp; omega))⟩
      | true =>
        have h3 : ¬ n = n' := fun e => hne ⟨rfl, rfl, HQ.out.1 rfl, e⟩
        have h3' : ((n : Int) == (n' : Int)) = false := by rw [beq_eq_false_iff_ne]; omega
        clear hne
        go_enter Tryz.func26, Tryz.ntmps26
        go_wp2_with fail
        refine (hsv _).mono ?_
        rintro e w1 ⟨rfl, b1⟩
        have c0 := b1.cell (p := ⟨w.heap.size, 5, none⟩) (by simp; omega)
        have c1 := b1.cell (p := ⟨w.heap.size + 1, 5, none⟩) (by simp)
        simp at c0 c1
        go_wp2
        go_ret
        exact ⟨rfl, (bb _ _).trans (b1.mono (by simp; omega))⟩
    · have h2' := size_ne h2
      clear hne
      go_enter Tryz.func26, Tryz.ntmps26
      go_wp2
      go_ret
      exact ⟨rfl, bb _ _⟩
  · have h1' : (k == k') = false := by simpa using h1
    clear hne
    go_enter Tryz.func26, Tryz.ntmps26
    go_wp2
    go_ret
    exact ⟨rfl, bb _ _⟩
theorem six_up {w W W' : World} {g o : Nat} {x0 x1 x2 x3 x4 x5 : Value} (hg : g < w.heap.size) (hw : Below w.heap.size w W) (hb : Below W.heap.size W W')
    (h : W.cell? ⟨g, o, none⟩ = some x0 ∧ W.cell? ⟨g, o + 1, none⟩ = some x1 ∧ W.cell? ⟨g, o + 2, none⟩ = some x2 ∧ W.cell? ⟨g, o + 3, none⟩ = some x3 ∧ W.cell? ⟨g, o + 4, none⟩ = some x4 ∧ W.cell? ⟨g, o + 5, none⟩ = some x5) :
    W'.cell? ⟨g, o, none⟩ = some x0 ∧ W'.cell? ⟨g, o + 1, none⟩ = some x1 ∧ W'.cell? ⟨g, o + 2, none⟩ = some x2 ∧ W'.cell? ⟨g, o + 3, none⟩ = some x3 ∧ W'.cell? ⟨g, o + 4, none⟩ = some x4 ∧ W'.cell? ⟨g, o + 5, none⟩ = some x5 := by
  obtain ⟨h0, h1, h2, h3, h4, h5⟩ := h
  have s := hw.size
  have up : ∀ o, W'.cell? ⟨g, o, none⟩ = W.cell? ⟨g, o, none⟩ := fun o => hb.cell (p := ⟨g, o, none⟩) (by show g < _; omega)
  exact ⟨(up _).trans h0, (up _).trans h1, (up _).trans h2, (up _).trans h3, (up _).trans h4, (up _).trans h5⟩
theorem keepE {w W W' : World} {g o g' o' : Nat} {x0 x1 x2 x3 x4 x5 y0 y1 y2 y3 y4 y5 a b : Value} (hg : g < w.heap.size) (hg' : g' < w.heap.size)
    (h : (W.cell? ⟨g, o, none⟩ = some x0 ∧ W.cell? ⟨g, o + 1, none⟩ = some x1 ∧ W.cell? ⟨g, o + 2, none⟩ = some x2 ∧ W.cell? ⟨g, o + 3, none⟩ = some x3 ∧ W.cell? ⟨g, o + 4, none⟩ = some x4 ∧ W.cell? ⟨g, o + 5, none⟩ = some x5) ∧ (W.cell? ⟨g', o', none⟩ = some y0 ∧ W.cell? ⟨g', o' + 1, none⟩ = some y1 ∧ W.cell? ⟨g', o' + 2, none⟩ = some y2 ∧ W.cell? ⟨g', o' + 3, none⟩ = some y3 ∧ W.cell? ⟨g', o' + 4, none⟩ = some y4 ∧ W.cell? ⟨g', o' + 5, none⟩ = some y5) ∧ W.cell? ⟨w.heap.size, 5, none⟩ = some a ∧ W.cell? ⟨w.heap.size + 1, 5, none⟩ = some b ∧ Below w.heap.size w W ∧ w.heap.size + 2 ≤ W.heap.size) (hb : Below W.heap.size W W') :
    (W'.cell? ⟨g, o, none⟩ = some x0 ∧ W'.cell? ⟨g, o + 1, none⟩ = some x1 ∧ W'.cell? ⟨g, o + 2, none⟩ = some x2 ∧ W'.cell? ⟨g, o + 3, none⟩ = some x3 ∧ W'.cell? ⟨g, o + 4, none⟩ = some x4 ∧ W'.cell? ⟨g, o + 5, none⟩ = some x5) ∧ (W'.cell? ⟨g', o', none⟩ = some y0 ∧ W'.cell? ⟨g', o' + 1, none⟩ = some y1 ∧ W'.cell? ⟨g', o' + 2, none⟩ = some y2 ∧ W'.cell? ⟨g', o' + 3, none⟩ = some y3 ∧ W'.cell? ⟨g', o' + 4, none⟩ = some y4 ∧ W'.cell? ⟨g', o' + 5, none⟩ = some y5) ∧ W'.cell? ⟨w.heap.size, 5, none⟩ = some a ∧ W'.cell? ⟨w.heap.size + 1, 5, none⟩ = some b ∧ Below w.heap.size w W' ∧ w.heap.size + 2 ≤ W'.heap.size := by
  obtain ⟨h1, h2, h3, h4, h5, h6⟩ := h
  exact ⟨six_up hg h5 hb h1, six_up hg' h5 hb h2, (hb.cell (p := ⟨w.heap.size, 5, none⟩) (by show w.heap.size < _; omega)).trans h3, (hb.cell (p := ⟨w.heap.size + 1, 5, none⟩) (by show w.heap.size + 1 < _; omega)).trans h4, h5.trans (hb.mono h5.size), Nat.le_trans h6 hb.size⟩
theorem ofS {A B C D E F : Prop} (h : A ∧ B ∧ C ∧ D ∧ E ∧ F) : E := h.2.2.2.2.1
theorem is_bool (P : Prop) : ∃ b : Bool, (b = true ↔ P) := by
  by_cases h : P
  · exact ⟨true, by simp [h]⟩
  · exact ⟨false, by simp [h]⟩
theorem sameE_yes (k : Int) (x : Vl) (nm : List UInt8) (ao ao' : Option Addr) (n ca ca' : Nat) (xs ys : List Ex) (us vs : Nat → Value) (w : World) (hx : xs.length = n) (hy : ys.length = n) (hn : n ≤ 1000000000000000)
    (h1 : 0 < n → ∃ g o g' o', ao = some ⟨g, o, none⟩ ∧ ao' = some ⟨g', o', none⟩ ∧ g < w.heap.size ∧ g' < w.heap.size ∧ (∀ i, i < n → Six w g (o + 6 * i) (us i)) ∧ (∀ i, i < n → Six w g' (o' + 6 * i) (vs i)))
    (hc : ∀ i y z, xs[i]? = some y → ys[i]? = some z → ∀ b : Bool, (b = true ↔ y = z) → ∀ W, Below w.heap.size w W → Calls Tryz.prog 26 #[us i, vs i] W fun e w' => e = .returned (.bool b) ∧ Below W.heap.size W w') :
    Calls Tryz.prog 26 #[exV k x nm (.slice ao n ca), exV k x nm (.slice ao' n ca')] w fun e w' => (∃ b, e = .returned (.bool b) ∧ (b = true ↔ xs = ys)) ∧ Below w.heap.size w w' := by
  have bb : ∀ (o o' : Obj), Below w.heap.size w ((w.alloc o).alloc o') := fun o o' => ((Below.refl _ _).alloc (Nat.le_refl _) _).alloc (by simp) _
  have hsv := sameV_any x x
  have hq : eqV x x = true := (eqV_iff x x).2 rfl
  rw [hq] at hsv
  have H1 := hide h1
  have HC := hide hc
  clear hq h1 hc
  unfold exV
  go_enter Tryz.func26, Tryz.ntmps26
  go_wp2_with fail
  refine (hsv _).mono ?_
  rintro e w1 ⟨rfl, b1⟩
  have c0 := b1.cell (p := ⟨w.heap.size, 5, none⟩) (by simp; omega)
  have c1 := b1.cell (p := ⟨w.heap.size + 1, 5, none⟩) (by simp)
  simp at c0 c1
  have q1 : Below w.heap.size w w1 := (bb _ _).trans (b1.mono (by simp; omega))
  have s1 : w.heap.size + 2 ≤ w1.heap.size := by have := b1.size; simp at this; omega
  clear b1 hsv bb
  go_wp2
  go_loopw [5] (fun i wl => ∃ k : Nat, k ≤ n ∧ i = .int .i64 k ∧ wl.cell? ⟨w.heap.size, 5, none⟩ = some (.slice ao n ca) ∧ wl.cell? ⟨w.heap.size + 1, 5, none⟩ = some (.slice ao' n ca') ∧ Below w.heap.size w wl ∧ w.heap.size + 2 ≤ wl.heap.size ∧ Hid (∀ j, j < k → xs[j]? = ys[j]?)) (fun i _ => n - (intOf i).toNat)
  case atStart => exact ⟨0, Nat.zero_le _, rfl, c0, c1, q1, s1, fun j hj => absurd hj (Nat.not_lt_zero _)⟩
  case round =>
    obtain ⟨i, hi, rfl, d0, d1, hnx, hsz, HA⟩ := hrel
    clear c0 c1 q1 s1
    by_cases hlt : i < n
    · obtain ⟨y, hy1⟩ : ∃ y, xs[i]? = some y := ⟨xs[i]'(by omega), List.getElem?_eq_getElem (by omega)⟩
      obtain ⟨z, hz1⟩ : ∃ z, ys[i]? = some z := ⟨ys[i]'(by omega), List.getElem?_eq_getElem (by omega)⟩
      obtain ⟨g, o, g', o', rfl, rfl, hg, hg', f1, f2⟩ := H1.out (by omega)
      obtain ⟨q, hq⟩ := is_bool (y = z)
      have kc := HC.out i y z hy1 hz1 q hq
      obtain ⟨ky, vy, ny, ay, ey, s0, s1, s2, s3, s4, s5⟩ := f1 i hlt
      obtain ⟨kz, vz, nz, az, ez, t0, t1, t2, t3, t4, t5⟩ := f2 i hlt
      rw [ey, ez] at kc
      unfold exV at kc
      have up : ∀ b o, b < w.heap.size → wr.cell? ⟨b, o, none⟩ = w.cell? ⟨b, o, none⟩ := fun b o hb => hnx.cell (p := ⟨b, o, none⟩) hb
      have e0 := (up _ _ hg).trans s0
      have e1 := (up _ _ hg).trans s1
      have e2 := (up _ _ hg).trans s2
      have e3 := (up _ _ hg).trans s3
      have e4 := (up _ _ hg).trans s4
      have e5 := (up _ _ hg).trans s5
      have f0 := (up _ _ hg').trans t0
      have f1 := (up _ _ hg').trans t1
      have f2 := (up _ _ hg').trans t2
      have f3 := (up _ _ hg').trans t3
      have f4 := (up _ _ hg').trans t4
      have f5 := (up _ _ hg').trans t5
      have HX := hide hy1
      have HY := hide hz1
      have HQ := hide hq
      have hlt' : (i : Int) < (n : Int) := by omega
      rw [Nat.mul_comm 6 i] at e0 e1 e2 e3 e4 e5 f0 f1 f2 f3 f4 f5
      clear s0 s1 s2 s3 s4 s5 t0 t1 t2 t3 t4 t5 hy1 hz1 H1 HC up ey ez hq
      go_wp2_with fail
      go_region_held3 (fun w' => (w'.cell? ⟨g, o + i * 6, none⟩ = some (.int .i64 ky) ∧ w'.cell? ⟨g, o + i * 6 + 1, none⟩ = some (.int .i64 vy.k) ∧ w'.cell? ⟨g, o + i * 6 + 2, none⟩ = some (.int .i64 vy.n) ∧ w'.cell? ⟨g, o + i * 6 + 3, none⟩ = some (.string ⟨vy.s.toArray⟩) ∧ w'.cell? ⟨g, o + i * 6 + 4, none⟩ = some (.string ⟨ny.toArray⟩) ∧ w'.cell? ⟨g, o + i * 6 + 5, none⟩ = some ay) ∧ (w'.cell? ⟨g', o' + i * 6, none⟩ = some (.int .i64 kz) ∧ w'.cell? ⟨g', o' + i * 6 + 1, none⟩ = some (.int .i64 vz.k) ∧ w'.cell? ⟨g', o' + i * 6 + 2, none⟩ = some (.int .i64 vz.n) ∧ w'.cell? ⟨g', o' + i * 6 + 3, none⟩ = some (.string ⟨vz.s.toArray⟩) ∧ w'.cell? ⟨g', o' + i * 6 + 4, none⟩ = some (.string ⟨nz.toArray⟩) ∧ w'.cell? ⟨g', o' + i * 6 + 5, none⟩ = some az) ∧ w'.cell? ⟨w.heap.size, 5, none⟩ = some (.slice (some ⟨g, o, none⟩) n ca) ∧ w'.cell? ⟨w.heap.size + 1, 5, none⟩ = some (.slice (some ⟨g', o', none⟩) n ca') ∧ Below w.heap.size w w' ∧ w.heap.size + 2 ≤ w'.heap.size) (first | exact ⟨⟨e0, e1, e2, e3, e4, e5⟩, ⟨f0, f1, f2, f3, f4, f5⟩, d0, d1, hnx.drew, hsz⟩ | exact keepE hg hg' (by assumption) (by assumption)) (first | (go_at_call 26; refine (kc _ (ofS (by assumption))).mono ?_; rintro e w' ⟨rfl, hb⟩))
      rename_i hH
      obtain ⟨-, -, z0, z1, q8, q9⟩ := hH
      clear e0 e1 e2 e3 e4 e5 f0 f1 f2 f3 f4 f5 kc
      cases q with
      | true =>
        go_wp2
        go_roundw
        case rel =>
          refine ⟨i + 1, by omega, by go_num, z0, z1, q8, q9, fun j hj => ?_⟩
          rcases Nat.lt_or_ge j i with hjk | hjk
          · exact HA.out j hjk
          · rw [show j = i by omega, HX.out, HY.out, HQ.out.1 rfl]
        case measure => simp [intOf]; omega
      | false =>
        go_wp2
        go_ret
        refine ⟨⟨false, rfl, ⟨fun e => Bool.noConfusion e, fun e => ?_⟩⟩, q8⟩
        have h1 := HX.out
        rw [e, HY.out] at h1
        cases h1
        exact HQ.out.2 rfl
    · clear H1 HC
      go_wp2
      go_ret
      refine ⟨⟨true, rfl, ⟨fun _ => List.ext_getElem? fun j => ?_, fun _ => rfl⟩⟩, hnx⟩
      rcases Nat.lt_or_ge j i with hjk | hjk
      · exact HA.out j hjk
      · rw [List.getElem?_eq_none (by omega), List.getElem?_eq_none (by omega)]
theorem ExAt.spread {B : Nat} {w : World} {u : Value} {x : Ex} (h : ExAt B w u x) : ∃ (ao : Option Addr) (ca : Nat) (us : Nat → Value), u = exV x.k x.v x.nm (.slice ao x.args.length ca) ∧
    (0 < x.args.length → ∃ g o, ao = some ⟨g, o, none⟩ ∧ B ≤ g ∧ g < w.heap.size ∧ (∀ i, i < x.args.length → Six w g (o + 6 * i) (us i)) ∧ ∀ i y, x.args[i]? = some y → ExAt B w (us i) y) := by
  cases h with
  | nil k x nm ao cap hz => exact ⟨ao, cap, fun _ => .pointer none, rfl, fun hh => absurd hh (Nat.lt_irrefl 0)⟩
  | args k x nm b off cap xs us hx hB hs hc h => exact ⟨_, cap, us, rfl, fun _ => ⟨b, off, rfl, hB, hs, hc, h⟩⟩
theorem ex_ext {x y : Ex} : x = y ↔ x.k = y.k ∧ x.nm = y.nm ∧ x.v = y.v ∧ x.args = y.args := by
  obtain ⟨k, v, nm, a⟩ := x
  obtain ⟨k', v', nm', a'⟩ := y
  simp only [Ex.mk.injEq, Ex.k, Ex.v, Ex.nm, Ex.args]
  constructor
  · rintro ⟨h1, h2, h3, h4⟩; exact ⟨h1, h3, h2, h4⟩
  · rintro ⟨h1, h2, h3, h4⟩; exact ⟨h1, h3, h2, h4⟩
theorem Fit.few {x : Ex} (h : Fit x) : x.args.length ≤ 1000000000000000 := by
  cases h with
  | mk k v nm args hv hn ha hh => show args.length ≤ _; omega
theorem Fit.arg {x y : Ex} (h : Fit x) {i : Nat} (hy : x.args[i]? = some y) : Fit y := by
  cases h with
  | mk k v nm args hv hn ha hh => exact hh y (List.mem_of_getElem? hy)
theorem size_arg {x y : Ex} {i : Nat} (hy : x.args[i]? = some y) : sizeE y < sizeE x := by
  rw [sizeE_args x]
  have go : ∀ (l : List Ex) (i : Nat), l[i]? = some y → sizeE y ≤ sizeL l := by
    intro l
    induction l with
    | nil => intro i h; simp at h
    | cons z r ih =>
      intro i h
      rw [sizeL]
      cases i with
      | zero => simp at h; subst h; omega
      | succ i => have := ih i (by simpa using h); omega
  have := go _ _ hy
  omega
theorem sameE_any (n : Nat) : ∀ (x y : Ex) (u v : Value) (w0 : World), sizeE x ≤ n → ExAt 0 w0 u x → ExAt 0 w0 v y → Fit x → ∀ b : Bool, (b = true ↔ x = y) → ∀ W, Below w0.heap.size w0 W →
    Calls Tryz.prog 26 #[u, v] W fun e w' => e = .returned (.bool b) ∧ Below W.heap.size W w' := by
  induction n with
  | zero => intro x y u v w0 h; have := sizeE_pos x; omega
  | succ n ih =>
    intro x y u v w0 hs hx hy hf b hb W hW
    obtain ⟨ao, ca, us, rfl, h1⟩ := hx.spread
    obtain ⟨ao', ca', vs, rfl, h2⟩ := hy.spread
    by_cases hh : x.k = y.k ∧ x.nm = y.nm ∧ x.v = y.v ∧ x.args.length = y.args.length
    · obtain ⟨e1, e2, e3, e4⟩ := hh
      rw [← e1, ← e2, ← e3, ← e4]
      have keep : ∀ {g o : Nat} {u : Value}, g < w0.heap.size → Six w0 g o u → Six W g o u := fun hg h => h.keep (hW.block _ hg)
      refine (sameE_yes x.k x.v x.nm ao ao' x.args.length ca ca' x.args y.args us vs W rfl e4.symm hf.few ?_ ?_).mono ?_
      · intro h0
        obtain ⟨g, o, rfl, -, hg, hc, -⟩ := h1 h0
        obtain ⟨g', o', rfl, -, hg', hc', -⟩ := h2 (by omega)
        exact ⟨g, o, g', o', rfl, rfl, Nat.lt_of_lt_of_le hg hW.size, Nat.lt_of_lt_of_le hg' hW.size, fun i hi => keep hg (hc i hi), fun i hi => keep hg' (hc' i (by omega))⟩
      · intro i y' z' hy' hz' b' hb' W' hW'
        have h0 : 0 < x.args.length := by have := (List.getElem?_eq_some_iff.1 hy').1; omega
        obtain ⟨g, o, -, -, -, -, he⟩ := h1 h0
        obtain ⟨g', o', -, -, -, -, he'⟩ := h2 (by omega)
        exact ih y' z' (us i) (vs i) w0 (by have := size_arg hy'; omega) (he i y' hy') (he' i z' hz') (hf.arg hy') b' hb' W' (hW.trans (hW'.mono hW.size))
      · rintro e w' ⟨⟨b', rfl, hb'⟩, bel⟩
        refine ⟨ret_bool ?_, bel⟩
        rw [Bool.eq_iff_iff, hb', hb, ex_ext]
        exact ⟨fun h => ⟨e1, e2, e3, h⟩, fun h => h.2.2.2⟩
    · refine (sameE_no x.k y.k x.v y.v x.nm y.nm ao ao' x.args.length y.args.length ca ca' W hh).mono ?_
      rintro e w' ⟨rfl, bel⟩
      refine ⟨ret_bool ?_, bel⟩
      cases b with
      | false => rfl
      | true =>
        have := ex_ext.1 (hb.1 rfl)
        exact absurd ⟨this.1, this.2.1, this.2.2.1, congrArg List.length this.2.2.2⟩ hh
structure Rd (w : World) (base rb : Nat) (v : Value) (T : List Tk) (en : Int) (s : Sx) (cs : List Value) : Prop where
  blk : w.heap[rb]? = some (.cells (v :: .int .i64 ((s.1 : Nat) : Int) :: .int .i64 en :: .bool s.2 :: cs).toArray 50)
  own : w.ownsRow base 63 3 v T.length (cellsT T)
  lt : ∀ g, v.ownBlock = some g → g < rb
  le : s.1 ≤ T.length
  few : T.length ≤ 2000
  toks : ∀ x ∈ T, TokOk x
  ist : ∀ x ∈ T, TokIs x
theorem rd4 {W : World} {rb : Nat} {v : Value} {i en : Int} {F : Bool} {cs : List Value} (h : W.heap[rb]? = some (.cells (v :: .int .i64 i :: .int .i64 en :: .bool F :: cs).toArray 50)) :
    (W.cell? ⟨rb, 0, none⟩ = some v ∧ W.cell? ⟨rb, 1, none⟩ = some (.int .i64 i) ∧ W.cell? ⟨rb, 2, none⟩ = some (.int .i64 en) ∧ W.cell? ⟨rb, 3, none⟩ = some (.bool F)) ∧ (W.frozen? ⟨rb, 1, none⟩ = false ∧ W.frozen? ⟨rb, 3, none⟩ = false) := by
  refine ⟨⟨?_, ?_, ?_, ?_⟩, Lib.frozen_of_heap h 1, Lib.frozen_of_heap h 3⟩
  all_goals (rw [Lib.cell_of_heap h]; simp)
theorem Rd.rb_lt {w : World} {base rb : Nat} {v : Value} {T : List Tk} {en : Int} {s : Sx} {cs : List Value} (h : Rd w base rb v T en s cs) : rb < w.heap.size := (ltS h.blk)
theorem Rd.ne {w : World} {base rb : Nat} {v : Value} {T : List Tk} {en : Int} {s : Sx} {cs : List Value} (h : Rd w base rb v T en s cs) : v.ownBlock ≠ some rb := fun e => absurd (h.lt rb e) (Nat.lt_irrefl _)
theorem Rd.below {w w' : World} {base rb : Nat} {v : Value} {T : List Tk} {en : Int} {s : Sx} {cs : List Value} (h : Rd w base rb v T en s cs) (hb : Below w.heap.size w w') : Rd w' base rb v T en s cs :=
  ⟨(hb.block rb h.rb_lt).trans h.blk, owns_below h.own hb, h.lt, h.le, h.few, h.toks, h.ist⟩
theorem textF (w : World) (rb : Nat) (c3 : w.cell? ⟨rb, 3, none⟩ = some (.bool true)) :
    Calls Tryz.prog 115 #[.pointer (some ⟨rb, 0, none⟩)] w fun e w' => e = .returned (.string ⟨#[]⟩) ∧ Below w.heap.size w w' := by
  go_enter Tryz.func115, Tryz.ntmps115
  go_wp2
  go_quiet (fail)
  go_wp2
  go_ret
  exact ⟨rfl, below_drewN (Below.refl _ _) _⟩
theorem textE (w : World) (rb n cap : Nat) (ao : Option Addr) (c0 : w.cell? ⟨rb, 0, none⟩ = some (.slice ao n cap)) (c1 : w.cell? ⟨rb, 1, none⟩ = some (.int .i64 (n : Int))) (c3 : w.cell? ⟨rb, 3, none⟩ = some (.bool false)) :
    Calls Tryz.prog 115 #[.pointer (some ⟨rb, 0, none⟩)] w fun e w' => e = .returned (.string ⟨#[]⟩) ∧ Below w.heap.size w w' := by
  go_enter Tryz.func115, Tryz.ntmps115
  go_wp2
  go_quiet (fail)
  go_wp2
  go_ret
  exact ⟨rfl, below_drewN (Below.refl _ _) _⟩
theorem textI (w : World) (rb n cap g i : Nat) (t : ByteArray) (c0 : w.cell? ⟨rb, 0, none⟩ = some (.slice (some ⟨g, 0, none⟩) n cap)) (c1 : w.cell? ⟨rb, 1, none⟩ = some (.int .i64 (i : Int))) (c3 : w.cell? ⟨rb, 3, none⟩ = some (.bool false))
    (hi : (i : Int) < (n : Int)) (e2 : w.cell? ⟨g, i * 3 + 2, none⟩ = some (.string t)) :
    Calls Tryz.prog 115 #[.pointer (some ⟨rb, 0, none⟩)] w fun e w' => e = .returned (.string t) ∧ Below w.heap.size w w' := by
  have hge : ¬ ((n : Int) ≤ (i : Int)) := by omega
  go_enter Tryz.func115, Tryz.ntmps115
  go_wp2
  go_quiet (fail)
  go_wp2
  go_quiet (fail)
  go_wp2
  go_ret
  exact ⟨rfl, below_drewN (below_drewN (Below.refl _ _) _) _⟩
theorem text_any {w : World} {base rb : Nat} {v : Value} {T : List Tk} {en : Int} {s : Sx} {cs : List Value} (h : Rd w base rb v T en s cs) :
    Calls Tryz.prog 115 #[.pointer (some ⟨rb, 0, none⟩)] w fun e w' => e = .returned (.string ⟨(txS T s).toArray⟩) ∧ Below w.heap.size w w' := by
  obtain ⟨i, F⟩ := s
  obtain ⟨⟨c0, c1, c2, c3⟩, -⟩ := rd4 h.blk
  cases F with
  | true => exact textF w rb c3
  | false =>
    have e0 : txS T (i, false) = tx T i := by simp [txS]
    rw [e0]
    by_cases hi : i = T.length
    · obtain ⟨ao, cap, hv⟩ := owns_slice h.own
      subst hi
      rw [hv] at c0
      have e3 : tx T T.length = [] := by simp [tx]
      rw [e3]
      exact textE w rb T.length cap ao c0 c1 c3
    · have hlt : i < T.length := by have := h.le; simp only at this; omega
      obtain ⟨g, cap, hv, hg1, hg2⟩ := owns_some h.own (by omega)
      have ho := h.own
      rw [hv] at c0 ho
      have hx : T[i]? = some T[i] := List.getElem?_eq_getElem hlt
      obtain ⟨a0, a1, a2⟩ := cellsT_at T i _ hx
      have e3 : tx T i = T[i].t := by simp [tx, hx]
      rw [e3]
      exact textI w rb T.length cap g i _ c0 c1 c3 (by omega) (owned_at ho _ _ a2)
theorem hereE (w : World) (rb n cap : Nat) (ao : Option Addr) (en : Int) (c0 : w.cell? ⟨rb, 0, none⟩ = some (.slice ao n cap)) (c1 : w.cell? ⟨rb, 1, none⟩ = some (.int .i64 (n : Int))) (c2 : w.cell? ⟨rb, 2, none⟩ = some (.int .i64 en)) :
    Calls Tryz.prog 24 #[.pointer (some ⟨rb, 0, none⟩)] w fun e w' => e = .returned (.int .i64 en) ∧ Below w.heap.size w w' := by
  go_enter Tryz.func24, Tryz.ntmps24
  go_wp2
  go_quiet (fail)
  go_wp2
  go_ret
  exact ⟨rfl, below_drewN (Below.refl _ _) _⟩
theorem hereI (w : World) (rb n cap g i : Nat) (a : Int) (c0 : w.cell? ⟨rb, 0, none⟩ = some (.slice (some ⟨g, 0, none⟩) n cap)) (c1 : w.cell? ⟨rb, 1, none⟩ = some (.int .i64 (i : Int)))
    (hi : (i : Int) < (n : Int)) (e1 : w.cell? ⟨g, i * 3 + 1, none⟩ = some (.int .i64 a)) :
    Calls Tryz.prog 24 #[.pointer (some ⟨rb, 0, none⟩)] w fun e w' => e = .returned (.int .i64 a) ∧ Below w.heap.size w w' := by
  go_enter Tryz.func24, Tryz.ntmps24
  go_wp2
  go_quiet (fail)
  go_wp2
  go_quiet (fail)
  go_wp2
  go_ret
  exact ⟨rfl, below_drewN (below_drewN (Below.refl _ _) _) _⟩
theorem rhere_any {w : World} {base rb : Nat} {v : Value} {T : List Tk} {en : Int} {s : Sx} {cs : List Value} (h : Rd w base rb v T en s cs) :
    Calls Tryz.prog 24 #[.pointer (some ⟨rb, 0, none⟩)] w fun e w' => e = .returned (.int .i64 (pl T en s.1)) ∧ Below w.heap.size w w' := by
  obtain ⟨i, F⟩ := s
  obtain ⟨⟨c0, c1, c2, c3⟩, -⟩ := rd4 h.blk
  by_cases hi : i = T.length
  · obtain ⟨ao, cap, hv⟩ := owns_slice h.own
    subst hi
    rw [hv] at c0
    have e3 : pl T en T.length = en := by simp [pl]
    rw [e3]
    exact hereE w rb T.length cap ao en c0 c1 c2
  · have hlt : i < T.length := by have := h.le; simp only at this; omega
    obtain ⟨g, cap, hv, hg1, hg2⟩ := owns_some h.own (by omega)
    have ho := h.own
    rw [hv] at c0 ho
    have hx : T[i]? = some T[i] := List.getElem?_eq_getElem hlt
    obtain ⟨a0, a1, a2⟩ := cellsT_at T i _ hx
    have e3 : pl T en i = T[i].a := by simp [pl, hx]
    rw [e3]
    exact hereI w rb T.length cap g i _ c0 c1 (by omega) (owned_at ho _ _ a1)
theorem Rd.step {w : World} {base rb : Nat} {v : Value} {T : List Tk} {en : Int} {i : Nat} {F : Bool} {cs : List Value} (h : Rd w base rb v T en (i, F) cs) (j : Nat) (hj : j ≤ T.length) :
    Rd (w.setCell ⟨rb, 1, none⟩ (.int .i64 (j : Int))) base rb v T en (j, F) cs := by
  refine ⟨?_, h.own.kept (grown_set w rb 1 _) (.inr h.ne), h.lt, hj, h.few, h.toks, h.ist⟩
  have := heap_setCell_same _ rb 1 _ 50 (.int .i64 (j : Int)) h.blk
  simpa using this
theorem Rd.fail {w : World} {base rb : Nat} {v : Value} {T : List Tk} {en : Int} {i : Nat} {F : Bool} {cs : List Value} (h : Rd w base rb v T en (i, F) cs) :
    Rd (w.setCell ⟨rb, 3, none⟩ (.bool true)) base rb v T en (i, true) cs := by
  refine ⟨?_, h.own.kept (grown_set w rb 3 _) (.inr h.ne), h.lt, h.le, h.few, h.toks, h.ist⟩
  have := heap_setCell_same _ rb 3 _ 50 (.bool true) h.blk
  simpa using this
theorem tx_more {T : List Tk} {i : Nat} (h : tx T i ≠ []) : i + 1 ≤ T.length := by
  apply Classical.byContradiction
  intro hn
  exact h (by unfold tx; rw [List.getElem?_eq_none (by omega)])
theorem take_any {w : World} {base rb : Nat} {v : Value} {T : List Tk} {en : Int} {s : Sx} {cs : List Value} (h : Rd w base rb v T en s cs) (W : List UInt8) (hW : W ≠ []) :
    Calls Tryz.prog 60 #[.pointer (some ⟨rb, 0, none⟩), .string ⟨W.toArray⟩] w fun e w' => e = .returned (.bool (takeS T W s).1) ∧ Rd w' base rb v T en (takeS T W s).2 cs ∧ w.grownBy w' (some rb) := by
  obtain ⟨i, F⟩ := s
  have ht := text_any h
  have H := hide h
  obtain ⟨⟨c0, c1, c2, c3⟩, f1, f3⟩ := rd4 h.blk
  have hlt := h.rb_lt
  have hle := h.le
  have hfew := h.few
  cases F with
  | true =>
    have e0 : takeS T W (i, true) = (false, (i, true)) := by simp [takeS]
    rw [e0]
    clear h ht
    go_enter Tryz.func60, Tryz.ntmps60
    go_wp2
    go_ret
    exact ⟨rfl, H.out, grown_refl _ _⟩
  | false =>
    have e1 : txS T (i, false) = tx T i := by simp [txS]
    rw [e1] at ht
    by_cases he : tx T i = W
    · have e0 : takeS T W (i, false) = (true, (i + 1, false)) := by simp [takeS, he]
      have hm := tx_more (T := T) (i := i) (by rw [he]; exact hW)
      rw [e0]
      rw [he] at ht
      have HM := hide hm
      clear h he hm
      go_enter Tryz.func60, Tryz.ntmps60
      go_wp2_with (go_at_call 115; refine ht.mono ?_; rintro e w1 ⟨rfl, b1⟩; have d1 := (b1.cell (p := ⟨rb, 1, none⟩) hlt).trans c1; have R1 := hide (H.out.below b1); have g1 := (rd4 R1.out.blk).2.1)
      go_ret
      have R2 := R1.out.step (i + 1) HM.out
      have e2 : (((i + 1 : Nat) : Nat) : Int) = (i : Int) + 1 := by omega
      rw [e2] at R2
      exact ⟨rfl, R2, grown_trans (grown_below b1 _) (grown_set _ rb 1 _)⟩
    · have e0 : takeS T W (i, false) = (false, (i, false)) := by simp [takeS, he]
      rw [e0]
      have hne : (tx T i == W) = false := by simpa using he
      clear h he
      go_enter Tryz.func60, Tryz.ntmps60
      go_wp2_with (go_at_call 115; refine ht.mono ?_; rintro e w1 ⟨rfl, b1⟩)
      go_ret
      exact ⟨rfl, H.out.below b1, grown_below b1 _⟩
theorem need_any {w : World} {base rb : Nat} {v : Value} {T : List Tk} {en : Int} {s : Sx} {cs : List Value} (h : Rd w base rb v T en s cs) (W : List UInt8) (hW : W ≠ []) :
    Calls Tryz.prog 62 #[.pointer (some ⟨rb, 0, none⟩), .string ⟨W.toArray⟩] w fun e w' => e = .returned (.tuple #[]) ∧ Rd w' base rb v T en (needS T W s).2 cs ∧ w.grownBy w' (some rb) := by
  obtain ⟨i, F⟩ := s
  have ht := take_any h W hW
  have e0 : (needS T W (i, F)).2 = if (takeS T W (i, F)).1 = true then (takeS T W (i, F)).2 else (i, true) := by unfold needS; split <;> rfl
  rw [e0]
  have e1 : (takeS T W (i, F)).1 = false → (takeS T W (i, F)).2 = (i, F) := by
    unfold takeS; split
    · intro h; cases h
    · intro _; rfl
  generalize takeS T W (i, F) = p at ht e1
  obtain ⟨b, s2⟩ := p
  cases b with
  | true =>
    clear h e1
    go_enter Tryz.func62, Tryz.ntmps62
    go_wp2_with (go_at_call 60; refine ht.mono ?_; rintro e w1 ⟨rfl, R1, g1⟩)
    go_end0
    exact ⟨rfl, by simpa using R1, g1⟩
  | false =>
    have e2 := e1 rfl
    simp only at e2
    subst e2
    clear h e1
    go_enter Tryz.func62, Tryz.ntmps62
    go_wp2_with (go_at_call 60; refine ht.mono ?_; rintro e w1 ⟨rfl, R1, g1⟩; obtain ⟨⟨c0, c1, c2, c3⟩, f1, f3⟩ := rd4 R1.blk)
    go_end0
    exact ⟨rfl, by simpa using R1.fail, grown_trans g1 (grown_set _ rb 3 _)⟩
theorem isTok_any (K : Int) (t : ByteArray) (w : World) (hm : t.size ≤ 9223372036854775000) :
    Calls Tryz.prog 83 #[.int .i64 K, .string t] w fun e w' => e = .returned (.bool (aloneB K t.data.toList)) ∧ w' = w := by
  rw [isTok_iff]
  have hl : t.data.toList.length = t.size := by simp
  have hem : t.toList.isEmpty = decide (t.data.toList = []) := by rw [Lib.toList_data]; cases t.data.toList <;> simp
  by_cases h0 : t.data.toList = []
  · rw [show isTokB K t.data.toList = false by simp [isTokB, h0]]
    exact isTok_empty K t w (by rw [hem]; simp [h0])
  have he : t.toList.isEmpty = false := by rw [hem]; simp [h0]
  by_cases h1 : 2000 < t.size
  · rw [show isTokB K t.data.toList = false by simp only [isTokB, decide_eq_false_iff_not]; omega]
    exact isTok_long K t w he h1 hm
  have hpos : 0 < t.size := by rw [← hl]; exact List.length_pos_iff.2 h0
  obtain ⟨k, N, hp⟩ : ∃ k N, tokL t.data.toList = (k, N) := ⟨_, _, rfl⟩
  have hk4 := (tokL_kind t.data.toList).1
  rw [hp] at hk4
  cases hk : (K == 0)
  · have e : isTokB K t.data.toList = (((k : Int) == K) && ((N : Int) == (t.size : Int)) && (((wrongL k t.data.toList : Nat) : Int) == 0)) := by
      rw [Bool.eq_iff_iff]
      simp only [isTokB, hp, decide_eq_true_eq, Bool.and_eq_true, beq_iff_eq]
      constructor
      · rintro ⟨_, _, a, b, c⟩; exact ⟨⟨a, by omega⟩, by omega⟩
      · rintro ⟨⟨a, b⟩, c⟩; exact ⟨h0, by omega, a, by omega, by omega⟩
    rw [e]
    exact isTok_go K t w he hpos (by omega) hk k N _ hp hk4 rfl
  · have hk0 : K = 0 := eq_of_beq hk
    rw [show isTokB K t.data.toList = false by
      simp only [isTokB, hp, decide_eq_false_iff_not]
      rintro ⟨_, _, a, _, c⟩
      have : k = 0 := by omega
      subst this; simp [wrongL] at c]
    exact isTok_kind0 K t w he (by omega) hk
theorem isWord_any (s : ByteArray) (w : World) : Calls Tryz.prog 84 #[.string s] w fun e w' => e = .returned (.bool (takenL.contains s.data.toList)) ∧ Below w.heap.size w w' := by
  go_enter Tryz.func84, Tryz.ntmps84
  go_wp2
  go_loopw [4] (fun i wl => ∃ k : Nat, k ≤ 36 ∧ i = .int .i64 k ∧ Below w.heap.size w wl ∧ Hid (∀ j x, takenL[j]? = some x → wl.cell? ⟨w.heap.size, j, none⟩ = some (.string ⟨x.toArray⟩)) ∧ Hid (∀ j, j < k → takenL[j]? ≠ some s.data.toList)) (fun i _ => 36 - (intOf i).toNat)
  case atStart =>
    refine ⟨0, by decide, rfl, (Below.refl _ _).alloc (Nat.le_refl _) _, fun j x hx => ?_, fun j hj => absurd hj (Nat.not_lt_zero _)⟩
    have h1 := Lib.cell_of_heap (heap_alloc_new w (.cells (takenL.map fun x => Value.string ⟨x.toArray⟩).toArray 9)) j
    refine h1.trans ?_
    simp [hx]
  case round =>
    obtain ⟨k, hk, rfl, hnx, HC, HA⟩ := hrel
    by_cases hlt : k < 36
    · obtain ⟨x, hx⟩ : ∃ x, takenL[k]? = some x := ⟨takenL[k]'(by simpa [takenL] using hlt), List.getElem?_eq_getElem _⟩
      have c0 := HC.out k x hx
      have HX := hide hx
      have hlt' : (k : Int) < 36 := by omega
      by_cases he : x = s.data.toList
      · have e1 : s = ⟨x.toArray⟩ := by rw [he]
        have HE := hide he
        clear he hx
        subst e1
        go_wp2
        go_ret
        refine ⟨ret_bool ?_, hnx⟩
        have : x ∈ takenL := List.mem_of_getElem? HX.out
        simp [this]
      · have e1 : (x == s.toList) = false := by rw [Lib.toList_data]; simpa using he
        have HE := hide he
        clear he hx
        go_wp2
        go_roundw
        case rel =>
          refine ⟨k + 1, by omega, by go_num, hnx, HC, fun j hj => ?_⟩
          rcases Nat.lt_or_ge j k with hjk | hjk
          · exact HA.out j hjk
          · rw [show j = k by omega, HX.out]
            intro e; cases e; exact HE.out rfl
        case measure => simp [intOf]; omega
    · have hk36 : ¬ (k : Int) < 36 := by omega
      go_wp2
      go_ret
      refine ⟨ret_bool ?_, hnx⟩
      symm
      rw [Bool.eq_false_iff]
      intro h
      have hm : s.data.toList ∈ takenL := by simpa using h
      obtain ⟨j, hj⟩ := List.getElem?_of_mem hm
      have := (List.getElem?_eq_some_iff.1 hj).1
      exact HA.out j (by simp [takenL] at this; omega) hj
theorem rname_any (s : ByteArray) (w : World) (hm : s.size ≤ 9223372036854775000) : Calls Tryz.prog 34 #[.string s] w fun e w' => e = .returned (.bool (nameW s.data.toList)) ∧ Below w.heap.size w w' := by
  have h1 := isTok_any 1 s w hm
  have h2 := isWord_any s w
  unfold nameW
  generalize aloneB 1 s.data.toList = a at *
  generalize takenL.contains s.data.toList = b at *
  cases a with
  | false =>
    go_enter Tryz.func34, Tryz.ntmps34
    go_wp2_with (first | (go_at_call 83; refine h1.mono ?_; rintro e w' ⟨rfl, hw'⟩; obtain rfl := hw'.symm; clear hw'))
    go_ret
    exact ⟨rfl, Below.refl _ _⟩
  | true =>
    go_enter Tryz.func34, Tryz.ntmps34
    go_wp2_with (first | (go_at_call 83; refine h1.mono ?_; rintro e w' ⟨rfl, hw'⟩; obtain rfl := hw'.symm; clear hw') | (go_at_call 84; refine h2.mono ?_; rintro e w2 ⟨rfl, b2⟩))
    go_ret
    exact ⟨ret_bool (by simp), b2⟩
theorem txS_len {w : World} {base rb : Nat} {v : Value} {T : List Tk} {en : Int} {s : Sx} {cs : List Value} (h : Rd w base rb v T en s cs) : (txS T s).length ≤ 22 := by
  unfold txS
  split
  · simp
  · cases e : T[s.1]? with
    | none => simp [tx, e]
    | some x => have := (h.toks x (List.mem_of_getElem? e)).short; simpa [tx, e] using this
theorem txS_some {T : List Tk} {i : Nat} {F : Bool} (h : txS T (i, F) ≠ []) : F = false ∧ txS T (i, F) = tx T i ∧ i + 1 ≤ T.length := by
  cases F with
  | true => exact absurd (by simp [txS]) h
  | false =>
    have e : txS T (i, false) = tx T i := by simp [txS]
    rw [e] at h
    exact ⟨rfl, e, tx_more h⟩
theorem rnm_any {w : World} {base rb : Nat} {v : Value} {T : List Tk} {en : Int} {s : Sx} {cs : List Value} (h : Rd w base rb v T en s cs) :
    Calls Tryz.prog 63 #[.pointer (some ⟨rb, 0, none⟩)] w fun e w' => e = .returned (.string ⟨(nameS T s).1.toArray⟩) ∧ Rd w' base rb v T en (nameS T s).2 cs ∧ w.grownBy w' (some rb) := by
  obtain ⟨i, F⟩ := s
  have ht := text_any h
  have hl := txS_len h
  have hn := fun W => rname_any ⟨(txS T (i, F)).toArray⟩ W (by rw [size_mk]; omega)
  have e0 : (⟨(txS T (i, F)).toArray⟩ : ByteArray).data.toList = txS T (i, F) := by simp
  rw [e0] at hn
  unfold nameS
  have H := hide h
  by_cases hN : nameW (txS T (i, F)) = true
  · rw [if_pos hN]
    rw [hN] at hn
    obtain ⟨rfl, -, hm⟩ := txS_some (T := T) (i := i) (F := F) (by intro e; rw [e, name_nil] at hN; cases hN)
    have hle : (i : Int) ≤ 2000 := by have := h.le; have := h.few; simp only at *; omega
    have HM := hide hm
    generalize txS T (i, false) = t at *
    clear h hN hl hm e0
    go_enter Tryz.func63, Tryz.ntmps63
    go_wp2_with (first | (go_at_call 115; refine ht.mono ?_; rintro e w1 ⟨rfl, b1⟩; have R1 := hide (H.out.below b1)) | (go_at_call 34; refine (hn _).mono ?_; rintro e w2 ⟨rfl, b2⟩; have R2 := hide (R1.out.below b2); obtain ⟨⟨c0, c1, c2, c3⟩, f1, f3⟩ := rd4 R2.out.blk))
    go_ret
    have R3 := R2.out.step (i + 1) HM.out
    have e2 : (((i + 1 : Nat) : Nat) : Int) = (i : Int) + 1 := by omega
    rw [e2] at R3
    exact ⟨rfl, R3, grown_trans (grown_trans (grown_below b1 _) (grown_below b2 _)) (grown_set _ rb 1 _)⟩
  · rw [if_neg hN]
    have hN' : nameW (txS T (i, F)) = false := by simpa using hN
    rw [hN'] at hn
    generalize txS T (i, F) = t at *
    clear h hN hN' hl e0
    go_enter Tryz.func63, Tryz.ntmps63
    go_wp2_with (first | (go_at_call 115; refine ht.mono ?_; rintro e w1 ⟨rfl, b1⟩; have R1 := hide (H.out.below b1)) | (go_at_call 34; refine (hn _).mono ?_; rintro e w2 ⟨rfl, b2⟩; have R2 := hide (R1.out.below b2); obtain ⟨⟨c0, c1, c2, c3⟩, f1, f3⟩ := rd4 R2.out.blk))
    go_ret
    exact ⟨rfl, R2.out.fail, grown_trans (grown_trans (grown_below b1 _) (grown_below b2 _)) (grown_set _ rb 3 _)⟩
theorem decN_snoc (l : List UInt8) (c : UInt8) : decN (l ++ [c]) = 10 * decN l + (c.toNat - 48) := by
  unfold decN; rw [List.foldl_append]; rfl
theorem rnum_any {w : World} {base rb : Nat} {v : Value} {T : List Tk} {en : Int} {s : Sx} {cs : List Value} (h : Rd w base rb v T en s cs) :
    Calls Tryz.prog 119 #[.pointer (some ⟨rb, 0, none⟩)] w fun e w' => e = .returned (.int .i64 ((numberS T s).1 : Nat)) ∧ Rd w' base rb v T en (numberS T s).2 cs ∧ w.grownBy w' (some rb) := by
  obtain ⟨i, F⟩ := s
  have ht := text_any h
  have H := hide h
  unfold numberS
  by_cases hD : headB isD (txS T (i, F)) = true
  · rw [if_pos hD]
    obtain ⟨rfl, ex, hm⟩ := txS_some (T := T) (i := i) (F := F) (by intro e; rw [e] at hD; cases hD)
    rw [ex] at hD ht ⊢
    have hle : (i : Int) ≤ 2000 := by have := h.le; have := h.few; simp only at *; omega
    obtain ⟨x, hx, e1, e2⟩ := tx_ne (T := T) (i := i) (by intro e; rw [e] at hD; cases hD)
    have hk : x.k = 2 := (h.ist x (List.mem_of_getElem? hx)).num.2 (by rw [← e1]; exact hD)
    obtain ⟨n1, n2, n3⟩ := (h.toks x (List.mem_of_getElem? hx)).num hk
    rw [← e1] at n1 n2 n3
    generalize hq : tx T i = t at *
    have hd0 : isD (t[0]'(List.length_pos_iff.2 n1)) = true := n3 _ (List.getElem_mem _)
    obtain ⟨S, hS⟩ : ∃ S : ByteArray, S = ⟨t.toArray⟩ := ⟨_, rfl⟩
    have hz : S.size = t.length := by rw [hS, size_mk]
    have hat : ∀ j (hj : j < S.size) (hj' : j < t.length), S[j] = t[j] := by intro j hj hj'; subst hS; rfl
    rw [← hS] at ht
    have hpos : 0 < S.size := by rw [hz]; exact List.length_pos_iff.2 n1
    have hemp : S.toList.isEmpty = false := by rw [Lib.toList_data, hS]; cases t with | nil => exact absurd rfl n1 | cons _ _ => rfl
    have hdig := fun W => refD_rw (c := S[0]) (b := true) (by rw [hat 0 hpos (by omega)]; exact hd0) W
    have HM := hide hm
    have HT := hide n3
    have HAT := hide hat
    have h9 : S.size ≤ 9 := by omega
    have HZ := hide hz
    clear h hD hm hx e1 e2 hk n1 n3 hat hd0 ex hS hz
    go_enter Tryz.func119, Tryz.ntmps119
    go_wp2_with (first | (go_at_call 115; refine ht.mono ?_; rintro e w1 ⟨rfl, b1⟩; have R1 := hide (H.out.below b1)) | (go_at_call 114; refine (hdig _).mono ?_; rintro e w' ⟨rfl, hw'⟩; obtain rfl := hw'.symm; clear hw'))
    go_loopw [4, 5] (fun n k wl => ∃ (a : Nat) (m : Nat), a ≤ S.size ∧ k = .int .i64 a ∧ n = .int .i64 m ∧ Hid (m = decN (t.take a)) ∧ wl = w1) (fun _ k _ => S.size - (intOf k).toNat)
    case atStart => exact ⟨0, 0, Nat.zero_le _, rfl, rfl, by show 0 = decN []; rfl, rfl⟩
    case round =>
      obtain ⟨a, m, ha, rfl, rfl, HA, rfl⟩ := hrel
      have hml : m < 10 ^ 9 := by
        rw [HA.out]
        refine Nat.lt_of_lt_of_le (decN_lt _ fun c hc => HT.out c (List.mem_of_mem_take hc)) (Nat.pow_le_pow_right (by decide) ?_)
        rw [List.length_take]; omega
      have hml' : (m : Int) ≤ 999999999 := by omega
      by_cases hlt : a < S.size
      · have hc := HT.out (t[a]'(by have := HZ.out; omega)) (List.getElem_mem _)
        rw [← HAT.out a hlt (by have := HZ.out; omega)] at hc
        simp only [isD, Bool.and_eq_true, decide_eq_true_eq] at hc
        obtain ⟨hc1, hc2⟩ := hc
        have HE : Hid (decN (t.take (a + 1)) = 10 * m + (S[a].toNat - 48)) := by
          show decN (t.take (a + 1)) = _
          rw [List.take_succ_eq_append_getElem (by have := HZ.out; omega), decN_snoc, ← HA.out, ← HAT.out a hlt (by have := HZ.out; omega)]
        go_wp2
        go_roundw
        case rel => exact ⟨a + 1, 10 * m + (S[a].toNat - 48), by omega, by go_num, by go_num, HE.out.symm, trivial⟩
        case measure => simp [intOf]; omega
      · have e3 : decN t = m := by rw [HA.out, List.take_of_length_le (by have := HZ.out; omega)]
        have E3 := hide e3
        obtain ⟨⟨c0, c1, c2, c3⟩, f1, f3⟩ := rd4 R1.out.blk
        clear e3 HA HT HAT
        go_wp2
        go_ret
        have R3 := R1.out.step (i + 1) HM.out
        have e2 : (((i + 1 : Nat) : Nat) : Int) = (i : Int) + 1 := by omega
        rw [e2] at R3
        exact ⟨by rw [E3.out]; rfl, R3, grown_trans (grown_below b1 _) (grown_set _ rb 1 _)⟩
  · rw [if_neg hD]
    cases hq : txS T (i, F) with
    | nil =>
      rw [hq] at ht
      clear h hD
      go_enter Tryz.func119, Tryz.ntmps119
      go_wp2_with (first | (go_at_call 115; refine ht.mono ?_; rintro e w1 ⟨rfl, b1⟩; have R1 := hide (H.out.below b1); obtain ⟨⟨c0, c1, c2, c3⟩, f1, f3⟩ := rd4 R1.out.blk))
      go_ret
      exact ⟨rfl, R1.out.fail, grown_trans (grown_below b1 _) (grown_set _ rb 3 _)⟩
    | cons c r =>
      rw [hq] at ht hD
      have hc : isD c = false := by simpa [headB] using hD
      have hdig := fun W => refD_rw hc W
      have hpos : 0 < (⟨(c :: r).toArray⟩ : ByteArray).size := by rw [size_mk]; simp
      have h0 : (⟨(c :: r).toArray⟩ : ByteArray)[0] = c := rfl
      have hemp : (⟨(c :: r).toArray⟩ : ByteArray).toList.isEmpty = false := by rw [Lib.toList_data]; rfl
      rw [← h0] at hdig
      generalize (⟨(c :: r).toArray⟩ : ByteArray) = S at *
      clear h hD hc h0 hq
      go_enter Tryz.func119, Tryz.ntmps119
      go_wp2_with (first | (go_at_call 115; refine ht.mono ?_; rintro e w1 ⟨rfl, b1⟩; have R1 := hide (H.out.below b1); obtain ⟨⟨c0, c1, c2, c3⟩, f1, f3⟩ := rd4 R1.out.blk) | (go_at_call 114; refine (hdig _).mono ?_; rintro e w' ⟨rfl, hw'⟩; obtain rfl := hw'.symm; clear hw'))
      go_ret
      exact ⟨rfl, R1.out.fail, grown_trans (grown_below b1 _) (grown_set _ rb 3 _)⟩
section
variable {P : Program} {ops : Array Oper} {rest : List Oper} {op : Oper} {a : Act} {w : World} {Q : Exit → Act → World → Prop}
theorem wpList_box_blk (slot : Nat) (ty : TypeId) (x : Operand) (cs : List Value) (hd : op.dst = some slot) (hgd : op.guard = none) (ho : op.op = .box ty x) (hx : a.eval x = .agg cs.toArray)
    (h : ∀ w' b, Hid (b = w.heap.size) → w'.heap[b]? = some (.cells cs.toArray ty) → Below w.heap.size w w' → wpList P ops Q rest (a.put (some slot) (.pointer (some ⟨b, 0, none⟩))) w') : wpList P ops Q (op :: rest) a w := by
  refine wpList_plain hgd fun K hK => ?_
  rw [← hd] at h
  unfold Oper.wp execOp
  simp only [ho, Sem.run_bind, Instr.box, newVar, newRow, run_newObj_alloc, Sem.run_pure, Result.andThen_ok, hx]
  exact hK _ _ (h _ _ (hide rfl) (heap_alloc_new _ _) ((Below.refl _ _).alloc (Nat.le_refl _) _))
end
theorem at_head {W : World} {b : Nat} {t : TypeId} {c : Cm} {cv vv fv ea wa : Value} (h : W.heap[b]? = some (.cells (cmL c cv vv fv ea wa).toArray t)) :
    W.cell? ⟨b, 0, none⟩ = some (.int .i64 c.kind) ∧ W.cell? ⟨b, 1, none⟩ = some (.string ⟨c.name.toArray⟩) ∧ W.cell? ⟨b, 2, none⟩ = some (.string ⟨c.other.toArray⟩) ∧ W.cell? ⟨b, 3, none⟩ = some (.string ⟨c.column.toArray⟩) ∧ W.cell? ⟨b, 4, none⟩ = some (cv) ∧ W.cell? ⟨b, 5, none⟩ = some (.int .i64 c.ty) ∧ W.cell? ⟨b, 6, none⟩ = some (.int .i64 c.val.k) ∧ W.cell? ⟨b, 7, none⟩ = some (.int .i64 c.val.n) ∧ W.cell? ⟨b, 8, none⟩ = some (.string ⟨c.val.s.toArray⟩) ∧ W.cell? ⟨b, 17, none⟩ = some (.bool c.all) ∧ W.cell? ⟨b, 24, none⟩ = some (.string ⟨c.order.toArray⟩) ∧ W.cell? ⟨b, 25, none⟩ = some (.int .i64 c.limit) := by
  refine ⟨?_, ?_, ?_, ?_, ?_, ?_, ?_, ?_, ?_, ?_, ?_, ?_⟩ <;> exact (Lib.cell_of_heap h _).trans rfl
theorem at_mid {W : World} {b : Nat} {t : TypeId} {c : Cm} {cv vv fv ea wa : Value} (h : W.heap[b]? = some (.cells (cmL c cv vv fv ea wa).toArray t)) :
    W.cell? ⟨b, 11, none⟩ = some (.int .i64 c.expr.k) ∧ W.cell? ⟨b, 12, none⟩ = some (.int .i64 c.expr.v.k) ∧ W.cell? ⟨b, 13, none⟩ = some (.int .i64 c.expr.v.n) ∧ W.cell? ⟨b, 14, none⟩ = some (.string ⟨c.expr.v.s.toArray⟩) ∧ W.cell? ⟨b, 15, none⟩ = some (.string ⟨c.expr.nm.toArray⟩) ∧ W.cell? ⟨b, 16, none⟩ = some (ea) ∧ W.cell? ⟨b, 17, none⟩ = some (.bool c.all) ∧ W.cell? ⟨b, 18, none⟩ = some (.int .i64 c.wh.k) ∧ W.cell? ⟨b, 19, none⟩ = some (.int .i64 c.wh.v.k) ∧ W.cell? ⟨b, 20, none⟩ = some (.int .i64 c.wh.v.n) ∧ W.cell? ⟨b, 21, none⟩ = some (.string ⟨c.wh.v.s.toArray⟩) ∧ W.cell? ⟨b, 22, none⟩ = some (.string ⟨c.wh.nm.toArray⟩) ∧ W.cell? ⟨b, 23, none⟩ = some (wa) ∧ W.cell? ⟨b, 24, none⟩ = some (.string ⟨c.order.toArray⟩) ∧ W.cell? ⟨b, 25, none⟩ = some (.int .i64 c.limit) := by
  refine ⟨?_, ?_, ?_, ?_, ?_, ?_, ?_, ?_, ?_, ?_, ?_, ?_, ?_, ?_, ?_⟩ <;> exact (Lib.cell_of_heap h _).trans rfl
theorem at_where {W : World} {b : Nat} {t : TypeId} {c : Cm} {cv vv fv ea wa : Value} (h : W.heap[b]? = some (.cells (cmL c cv vv fv ea wa).toArray t)) :
    W.cell? ⟨b, 18, none⟩ = some (.int .i64 c.wh.k) ∧ W.cell? ⟨b, 19, none⟩ = some (.int .i64 c.wh.v.k) ∧ W.cell? ⟨b, 20, none⟩ = some (.int .i64 c.wh.v.n) ∧ W.cell? ⟨b, 21, none⟩ = some (.string ⟨c.wh.v.s.toArray⟩) ∧ W.cell? ⟨b, 22, none⟩ = some (.string ⟨c.wh.nm.toArray⟩) ∧ W.cell? ⟨b, 23, none⟩ = some (wa) := by
  refine ⟨?_, ?_, ?_, ?_, ?_, ?_⟩ <;> exact (Lib.cell_of_heap h _).trans rfl
theorem at_lists {W : World} {b : Nat} {t : TypeId} {c : Cm} {cv vv fv ea wa : Value} (h : W.heap[b]? = some (.cells (cmL c cv vv fv ea wa).toArray t)) :
    W.cell? ⟨b, 4, none⟩ = some (cv) ∧ W.cell? ⟨b, 9, none⟩ = some (vv) ∧ W.cell? ⟨b, 10, none⟩ = some (fv) := by
  refine ⟨?_, ?_, ?_⟩ <;> exact (Lib.cell_of_heap h _).trans rfl
theorem Tryz.fields56 : (Tryz.prog.fieldsOf 56).toList.map (fun f => (f.name, f.type, f.offset)) = [("Name", 9, 0), ("Type", 3, 1)] := by kernel_rfl
theorem Tryz.under56 : Tryz.prog.underlying 56 = some (.struct (Tryz.prog.fieldsOf 56)) := by kernel_rfl
theorem Tryz.stood56 : Tryz.prog.stoodInHeld 56 = false := by kernel_rfl
theorem fields_two {l : List Field} {a b : String} {i j k m : Nat} (h : l.map (fun f => (f.name, f.type, f.offset)) = [(a, i, j), (b, k, m)]) :
    ∃ f0 f1 : Field, l = [f0, f1] ∧ f0.name = a ∧ f0.type = i ∧ f0.offset = j ∧ f1.name = b ∧ f1.type = k ∧ f1.offset = m := by
  match l, h with
  | [f0, f1], h => simp at h; exact ⟨f0, f1, rfl, h.1.1, h.1.2.1, h.1.2.2, h.2.1, h.2.2.1, h.2.2.2⟩
def sameCl (x y : Cl) : Bool := decide (x.name = y.name) && decide (x.ty = y.ty)
theorem neq56 (n n' : List UInt8) (t t' : Int) (w : World) :
    (binOp .neq 56 (.agg #[.string ⟨n.toArray⟩, .int .i64 t]) (.agg #[.string ⟨n'.toArray⟩, .int .i64 t'])).run Tryz.prog w = .ok (.bool (!sameCl ⟨n, t⟩ ⟨n', t'⟩)) w := by
  rw [run_neq_struct, run_equalIn_struct w 9999 56 _ _ Tryz.under56 Tryz.stood56]
  obtain ⟨f0, f1, hf, n0, t0, o0, n1, t1, o1⟩ := fields_two Tryz.fields56
  rw [hf]
  simp [Op.eqFields, n0, t0, o0, n1, t1, o1, go_sem]
  unfold sameCl
  by_cases h1 : n = n' <;> by_cases h2 : t = t' <;> simp [h1, h2]
theorem row_col {w : World} {b off : Nat} {L : List Cl} (hc : ∀ j x, (L.flatMap clC)[j]? = some x → w.cell? ⟨b, off + j, none⟩ = some x) (k : Nat) (x : Cl) (hx : L[k]? = some x) :
    w.cell? ⟨b, off + k * 2, none⟩ = some (.string ⟨x.name.toArray⟩) ∧ w.cell? ⟨b, off + k * 2 + 1, none⟩ = some (.int .i64 x.ty) := by
  have g0 := flat_get clC 2 (fun _ => rfl) L k x hx 0 (by decide)
  have g1 := flat_get clC 2 (fun _ => rfl) L k x hx 1 (by decide)
  exact ⟨hc _ _ g0, hc _ _ g1⟩
theorem row_str {w : World} {b off : Nat} {L : List (List UInt8)} (hc : ∀ j x, (L.flatMap stC)[j]? = some x → w.cell? ⟨b, off + j, none⟩ = some x) (k : Nat) (x : List UInt8) (hx : L[k]? = some x) :
    w.cell? ⟨b, off + k, none⟩ = some (.string ⟨x.toArray⟩) := by
  have g0 := flat_get stC 1 (fun _ => rfl) L k x hx 0 (by decide)
  rw [Nat.mul_one, Nat.add_zero] at g0
  exact hc _ _ g0
theorem RowAt.spread {B : Nat} {w : World} {ao : Option Addr} {n cap : Nat} {xs : List Value} (h : RowAt B w (.slice ao n cap) n xs) (hn : 0 < n) : ∃ g o, ao = some ⟨g, o, none⟩ ∧ B ≤ g ∧ g < w.heap.size ∧ ∀ j x, xs[j]? = some x → w.cell? ⟨g, o + j, none⟩ = some x := by
  rcases h with ⟨h0, -⟩ | ⟨b, off, cp, e, hB, hlt, hc⟩
  · omega
  · cases e
    exact ⟨b, off, rfl, hB, hlt, hc⟩
theorem sameC_same (c : Cm) (cv vv fv ea wa cv' vv' fv' ea' wa' : Value) (w : World) (h : CmIn 0 w c cv vv fv ea wa) (h' : CmIn 0 w c cv' vv' fv' ea' wa') (hf : CmFit c) :
    Calls Tryz.prog 11 #[.agg (cmL c cv vv fv ea wa).toArray, .agg (cmL c cv' vv' fv' ea' wa').toArray] w fun e w' => e = .returned (.bool true) ∧ Below w.heap.size w w' := by
  obtain ⟨a1, c1, e1⟩ := h.cols.form
  obtain ⟨a2, c2, e2⟩ := h.vals.form
  obtain ⟨a3, c3, e3⟩ := h.fields.form
  obtain ⟨a1', c1', e1'⟩ := h'.cols.form
  obtain ⟨a2', c2', e2'⟩ := h'.vals.form
  obtain ⟨a3', c3', e3'⟩ := h'.fields.form
  subst e1 e2 e3 e1' e2' e3'
  have hsv := sameV_any c.val c.val
  have hq : eqV c.val c.val = true := (eqV_iff _ _).2 rfl
  rw [hq] at hsv
  have hse : ∀ W, Below w.heap.size w W → Calls Tryz.prog 26 #[exV c.expr.k c.expr.v c.expr.nm ea, exV c.expr.k c.expr.v c.expr.nm ea'] W fun e w' => e = .returned (.bool true) ∧ Below W.heap.size W w' :=
    fun W hW => sameE_any _ c.expr c.expr _ _ w (Nat.le_refl _) h.expr h'.expr hf.expr true (by simp) W hW
  have hsw : ∀ W, Below w.heap.size w W → Calls Tryz.prog 26 #[exV c.wh.k c.wh.v c.wh.nm wa, exV c.wh.k c.wh.v c.wh.nm wa'] W fun e w' => e = .returned (.bool true) ∧ Below W.heap.size W w' :=
    fun W hW => sameE_any _ c.wh c.wh _ _ w (Nat.le_refl _) h.wh h'.wh hf.wh true (by simp) W hW
  have hsl : ∀ W, Below w.heap.size w W → Calls Tryz.prog 27 #[.slice a2 c.vals.length c2, .slice a2' c.vals.length c2'] W fun e w' => e = .returned (.bool true) ∧ Below W.heap.size W w' := by
    intro W hW
    refine (sameVs_any c.vals c.vals _ _ W (h.vals.under hW) (h'.vals.under hW) hf.vals).mono ?_
    rintro e w' ⟨⟨b, rfl, hb⟩, bel⟩
    rw [hb.2 rfl]
    exact ⟨rfl, bel⟩
  simp only [exV] at hse hsw
  have HC : Hid (∀ k x, c.cols[k]? = some x → ∃ g o g' o', a1 = some ⟨g, o, none⟩ ∧ a1' = some ⟨g', o', none⟩ ∧ g < w.heap.size ∧ g' < w.heap.size ∧ (w.cell? ⟨g, o + k * 2, none⟩ = some (.string ⟨x.name.toArray⟩) ∧ w.cell? ⟨g, o + k * 2 + 1, none⟩ = some (.int .i64 x.ty)) ∧ (w.cell? ⟨g', o' + k * 2, none⟩ = some (.string ⟨x.name.toArray⟩) ∧ w.cell? ⟨g', o' + k * 2 + 1, none⟩ = some (.int .i64 x.ty))) := by
    intro k x hx
    have h0 : 0 < c.cols.length := by have := (List.getElem?_eq_some_iff.1 hx).1; omega
    obtain ⟨g, o, rfl, -, hg, hc⟩ := h.cols.spread h0
    obtain ⟨g', o', rfl, -, hg', hc'⟩ := h'.cols.spread h0
    exact ⟨g, o, g', o', rfl, rfl, hg, hg', row_col hc k x hx, row_col hc' k x hx⟩
  have HF : Hid (∀ k x, c.fields[k]? = some x → ∃ g o g' o', a3 = some ⟨g, o, none⟩ ∧ a3' = some ⟨g', o', none⟩ ∧ g < w.heap.size ∧ g' < w.heap.size ∧ w.cell? ⟨g, o + k, none⟩ = some (.string ⟨x.toArray⟩) ∧ w.cell? ⟨g', o' + k, none⟩ = some (.string ⟨x.toArray⟩)) := by
    intro k x hx
    have h0 : 0 < c.fields.length := by have := (List.getElem?_eq_some_iff.1 hx).1; omega
    obtain ⟨g, o, rfl, -, hg, hc⟩ := h.fields.spread h0
    obtain ⟨g', o', rfl, -, hg', hc'⟩ := h'.fields.spread h0
    exact ⟨g, o, g', o', rfl, rfl, hg, hg', row_str hc k x hx, row_str hc' k x hx⟩
  have n1 := hf.cols
  have n3 := hf.fields
  have HI := hide h.one
  clear h h' hf hq
  go_enter Tryz.func11, Tryz.ntmps11
  go_wp2_with (first | (refine wpList_box_blk 2 31 _ (cmL c (.slice a1 c.cols.length c1) (.slice a2 c.vals.length c2) (.slice a3 c.fields.length c3) ea wa) rfl rfl rfl rfl ?_; intro W0 rb hrb k0 b0) | (refine wpList_box_blk 3 31 _ (cmL c (.slice a1' c.cols.length c1') (.slice a2' c.vals.length c2') (.slice a3' c.fields.length c3') ea' wa') rfl rfl rfl rfl ?_; intro W1 sb hsb j1 b1; have k1 := (b1.block rb (ltS k0)).trans k0; have B1 : Hid (Below w.heap.size w W1) := b0.trans (b1.mono b0.size); obtain ⟨pa0, pa1, pa2, pa3, pa4, pa5, pa6, pa7, pa8, pa9, pa10, pa11⟩ := at_head k1; obtain ⟨qa0, qa1, qa2, qa3, qa4, qa5, qa6, qa7, qa8, qa9, qa10, qa11⟩ := at_head j1) | (go_at_call 25; refine (hsv _).mono ?_; rintro e W2 ⟨rfl, b2⟩; have k2 := (b2.block rb (ltS k1)).trans k1; have j2 := (b2.block sb (ltS j1)).trans j1; obtain ⟨pb0, pb1, pb2, pb3, pb4, pb5, pb6, pb7, pb8, pb9, pb10, pb11, pb12, pb13, pb14⟩ := at_mid k2; obtain ⟨qb0, qb1, qb2, qb3, qb4, qb5, qb6, qb7, qb8, qb9, qb10, qb11, qb12, qb13, qb14⟩ := at_mid j2; have B2 : Hid (Below w.heap.size w W2) := B1.out.trans (b2.mono B1.out.size)))
  refine (hse _ B2.out).mono ?_
  rintro e W3 ⟨rfl, b3⟩
  have k3 := (b3.block rb (ltS k2)).trans k2
  have j3 := (b3.block sb (ltS j2)).trans j2
  obtain ⟨pc0, pc1, pc2, pc3, pc4, pc5⟩ := at_where k3
  obtain ⟨qc0, qc1, qc2, qc3, qc4, qc5⟩ := at_where j3
  have B3 : Hid (Below w.heap.size w W3) := B2.out.trans (b3.mono B2.out.size)
  go_wp2_with fail
  refine (hsw _ B3.out).mono ?_
  rintro e W4 ⟨rfl, b4⟩
  have k4 := (b4.block rb (ltS k3)).trans k3
  have j4 := (b4.block sb (ltS j3)).trans j3
  obtain ⟨pd0, pd1, pd2⟩ := at_lists k4
  obtain ⟨qd0, qd1, qd2⟩ := at_lists j4
  have B4 : Hid (Below w.heap.size w W4) := B3.out.trans (b4.mono B3.out.size)
  go_wp2_with fail
  refine (hsl _ B4.out).mono ?_
  rintro e W5 ⟨rfl, b5⟩
  have k5 := (b5.block rb (ltS k4)).trans k4
  have j5 := (b5.block sb (ltS j4)).trans j4
  obtain ⟨pe0, pe1, pe2⟩ := at_lists k5
  obtain ⟨qe0, qe1, qe2⟩ := at_lists j5
  have B5 : Hid (Below w.heap.size w W5) := B4.out.trans (b5.mono B4.out.size)
  have HB := hide B5.out
  clear hse hsw hsl hsv b0 b1 b2 b3 b4 b5 k0 k1 k2 k3 k4 j1 j2 j3 j4 HI
  clear pa0 pa1 pa2 pa3 pa4 pa5 pa6 pa7 pa8 pa9 pa10 pa11 qa0 qa1 qa2 qa3 qa4 qa5 qa6 qa7 qa8 qa9 qa10 qa11 pc0 pc1 pc2 pc3 pc4 pc5 qc0 qc1 qc2 qc3 qc4 qc5 pd0 pd1 pd2 qd0 qd1 qd2
  clear pb0 pb1 pb2 pb3 pb4 pb5 pb6 pb7 pb8 pb9 pb10 pb11 pb12 pb13 pb14 qb0 qb1 qb2 qb3 qb4 qb5 qb6 qb7 qb8 qb9 qb10 qb11 qb12 qb13 qb14
  clear B1 B2 B3 B4 B5
  go_wp2
  obtain ⟨n, hn⟩ : ∃ n, c.cols.length = n := ⟨_, rfl⟩
  obtain ⟨m, hm⟩ : ∃ m, c.fields.length = m := ⟨_, rfl⟩
  rw [hn] at pe0 qe0 n1
  rw [hm] at pe2 qe2 n3
  go_loopw [5] (fun i wl => ∃ k : Nat, k ≤ n ∧ i = .int .i64 k ∧ Hid (Below w.heap.size w wl) ∧ wl.cell? ⟨rb, 4, none⟩ = some (.slice a1 n c1) ∧ wl.cell? ⟨sb, 4, none⟩ = some (.slice a1' n c1') ∧ wl.cell? ⟨rb, 10, none⟩ = some (.slice a3 m c3) ∧ wl.cell? ⟨sb, 10, none⟩ = some (.slice a3' m c3')) (fun i _ => n - (intOf i).toNat)
  case atStart => exact ⟨0, Nat.zero_le _, rfl, HB, pe0, qe0, pe2, qe2⟩
  case round =>
    obtain ⟨k, hk, rfl, HN, x1, x2, x3, x4⟩ := hrel
    clear pe0 pe1 pe2 qe0 qe1 qe2 HB
    by_cases hlt : k < n
    · obtain ⟨x, hx⟩ : ∃ x, c.cols[k]? = some x := ⟨c.cols[k]'(by omega), List.getElem?_eq_getElem (by omega)⟩
      obtain ⟨g, o, g', o', rfl, rfl, hg, hg', ⟨r0, r1⟩, s0, s1⟩ := HC.out k x hx
      have d0 := (HN.out.cell (p := ⟨g, o + k * 2, none⟩) hg).trans r0
      have d1 := (HN.out.cell (p := ⟨g, o + k * 2 + 1, none⟩) hg).trans r1
      have f0 := (HN.out.cell (p := ⟨g', o' + k * 2, none⟩) hg').trans s0
      have f1 := (HN.out.cell (p := ⟨g', o' + k * 2 + 1, none⟩) hg').trans s1
      have hq := neq56 x.name x.name x.ty x.ty
      have hs : sameCl ⟨x.name, x.ty⟩ ⟨x.name, x.ty⟩ = true := by simp [sameCl]
      rw [hs] at hq
      have hlt' : (k : Int) < (n : Int) := by omega
      clear r0 r1 s0 s1 hx hs HC
      go_wp2
      go_quiet (fail)
      go_wp2
      go_roundw
      case rel => exact ⟨k + 1, by omega, by go_num, below_drewN HN.out _, x1, x2, x3, x4⟩
      case measure => simp [intOf]; omega
    · clear HC
      go_wp2
      go_loopw [6] (fun i wl => ∃ k : Nat, k ≤ m ∧ i = .int .i64 k ∧ Hid (Below w.heap.size w wl) ∧ wl.cell? ⟨rb, 10, none⟩ = some (.slice a3 m c3) ∧ wl.cell? ⟨sb, 10, none⟩ = some (.slice a3' m c3')) (fun i _ => m - (intOf i).toNat)
      case atStart => exact ⟨0, Nat.zero_le _, rfl, HN, x3, x4⟩
      case round =>
        obtain ⟨k, hk, rfl, HM, y3, y4⟩ := hrel
        clear x1 x2 x3 x4 HN
        by_cases hlt : k < m
        · obtain ⟨x, hx⟩ : ∃ x, c.fields[k]? = some x := ⟨c.fields[k]'(by omega), List.getElem?_eq_getElem (by omega)⟩
          obtain ⟨g, o, g', o', rfl, rfl, hg, hg', r0, s0⟩ := HF.out k x hx
          have d0 := (HM.out.cell (p := ⟨g, o + k, none⟩) hg).trans r0
          have f0 := (HM.out.cell (p := ⟨g', o' + k, none⟩) hg').trans s0
          have hlt' : (k : Int) < (m : Int) := by omega
          clear r0 s0 hx HF
          go_wp2
          go_quiet (fail)
          go_wp2
          go_roundw
          case rel => exact ⟨k + 1, by omega, by go_num, below_drewN HM.out _, y3, y4⟩
          case measure => simp [intOf]; omega
        · clear HF
          go_wp2
          go_ret
          exact ⟨rfl, HM.out⟩
def parseF (s : List UInt8) : Int × Int × Cm :=
  if (scanS s).2.2 = 0 then
    match wholeP (scanS s).1 with
    | .bad j => (1, pl (scanS s).1 (s.length : Nat) j, cm0)
    | .ok c _ => if chkC (manyC c) (rightC c) = 0 then (0, 0, c) else (chkC (manyC c) (rightC c), 0, cm0)
  else (((scanS s).2.2 : Nat), ((scanS s).2.1 : Nat), cm0)
theorem cmZ_at (B : Nat) (w : World) : CmAt B w (.agg cmZ.toArray) cm0 := ⟨_, _, _, _, _, rfl, cmIn0 B w cm0 rfl rfl rfl rfl rfl⟩
theorem parse_all (s : List UInt8) (w : World) (hs : s.length ≤ 9223372036854775000) (hl : Laid w) :
    Calls Tryz.prog 8 #[.string ⟨s.toArray⟩] w fun e w' => (∃ u, e = .returned (.tuple #[u, .int .i64 (parseF s).2.1, .int .i64 (parseF s).1]) ∧ CmAt w.heap.size w' u (parseF s).2.2) ∧ Below w.heap.size w w' := by
  unfold parseF
  by_cases hE : (scanS s).2.2 = 0
  · rw [if_pos hE]
    cases hw : wholeP (scanS s).1 with
    | bad j =>
      refine (Parse_bad s j hs hl hE hw).mono ?_
      rintro e w' ⟨rfl, hb⟩
      exact ⟨⟨_, rfl, cmZ_at _ _⟩, hb⟩
    | ok c j =>
      simp only
      by_cases hq : chkC (manyC c) (rightC c) = 0
      · rw [if_pos hq]
        refine (Parse_right s c j hs hl hE hw hq).mono ?_
        rintro e w' ⟨⟨u, rfl, hu⟩, hb⟩
        exact ⟨⟨u, rfl, hu⟩, hb⟩
      · rw [if_neg hq]
        refine (Parse_wrong s c j _ hs hl hE hw rfl hq).mono ?_
        rintro e w' ⟨rfl, hb⟩
        exact ⟨⟨_, rfl, cmZ_at _ _⟩, hb⟩
  · rw [if_neg hE]
    refine (Parse_scan s _ _ hs rfl rfl hE).mono ?_
    rintro e w' ⟨rfl, hb⟩
    exact ⟨⟨_, rfl, cmZ_at _ _⟩, hb⟩
theorem parseF_fit (s : List UInt8) : CmFit (parseF s).2.2 := by
  unfold parseF
  split
  · split
    · exact fit0
    · rename_i c j hw
      split
      · exact scanned_fit hw
      · exact fit0
  · exact fit0
theorem below_put {w2 w4 w6 : World} {cb : Nat} {xs : List Value} (hc : Hid (cb = w2.heap.size)) (b4 : Below w2.heap.size w2 w4) (p6 : Hid (w6 = putAll w4 cb 0 xs)) : Below w2.heap.size w2 w6 := by
  have h := hc.out
  have p := p6.out
  subst p
  exact b4.trans ⟨(putAll_misc cb _ w4 0).1, (putAll_misc cb _ w4 0).2.1, (putAll_misc cb _ w4 0).2.2, Nat.le_of_eq (putAll_size cb _ w4 0).symm, fun k hk => putAll_other cb _ w4 0 k (by omega)⟩
section
variable {P : Program} {ops : Array Oper} {rest : List Oper} {op : Oper} {a : Act} {w : World} {Q : Exit → Act → World → Prop}
theorem wpList_load_if (ty : TypeId) (x : Operand) (hw : Region.wanted op (yielded ops a.tmps) = true) (ho : op.op = .load ty x) (b : Nat) (cs : List Value) (t : TypeId) (d : TypeDesc)
    (hx : a.eval x = .pointer (some ⟨b, 0, none⟩)) (hb : w.heap[b]? = some (.cells cs.toArray t)) (hu : P.underlying ty = some d) (hd : d.isRow = true) (hi : (P.info? ty).map (·.size) = some cs.length)
    (h : wpList P ops Q rest (a.put op.dst (.agg cs.toArray)) w) : wpList P ops Q (op :: rest) a w := by
  refine wpList_step fun K hK => ?_
  rw [if_pos hw]
  exact wp_load_mid ty x ho b 0 hx cs d (fun j v hv => by rw [Nat.zero_add, Lib.cell_of_heap hb]; simpa using hv) hu hd hi (hK _ _ h)
end
def smallL : List UInt8 := [117, 112, 100, 97, 116, 101, 32, 116, 32, 115, 101, 116, 32, 97, 32, 61, 32, 40, 97, 32, 43, 32, 49, 41, 32, 119, 104, 101, 114, 101, 32, 40, 98, 32, 61, 32, 39, 120, 39, 41, 32]
def smallC : Cm := { cm0 with kind := 12, name := [116], column := [97], expr := .mk 7 vl0 [] [.mk 2 vl0 [97] [], .mk 1 ⟨1, 1, []⟩ [] []], wh := .mk 11 vl0 [] [.mk 2 vl0 [98] [], .mk 1 ⟨2, 0, [120]⟩ [] []] }
theorem small_parse : parseF smallL = (0, 0, smallC) := by kernel_rfl
theorem small_fit : CmFit smallC := by have := parseF_fit smallL; rw [small_parse] at this; exact this
theorem small_check : chkC (manyC smallC) (rightC smallC) = 0 := by kernel_rfl
theorem zeroIs24 : (#[.int .i64 0, .int .i64 0, .string ⟨#[]⟩] : Array Value) = ([.int .i64 0, .int .i64 0, .string ⟨#[]⟩] : List Value).toArray := rfl
theorem Tryz.alloc24 (w : World) : (Instr.alloc 24 true (.tuple #[])).run Tryz.prog w = .ok (.pointer (some ⟨w.heap.size, 0, none⟩)) (w.alloc (.cells ([.int .i64 0, .int .i64 0, .string ⟨#[]⟩] : List Value).toArray 24)) := by
  rw [← zeroIs24]
  simp [Instr.alloc, Tryz.zeroValue24, go_sem]
theorem risv_any {w : World} {base rb : Nat} {v : Value} {T : List Tk} {en : Int} {s : Sx} {cs : List Value} (h : Rd w base rb v T en s cs) :
    Calls Tryz.prog 117 #[.pointer (some ⟨rb, 0, none⟩)] w fun e w' => e = .returned (.bool (isVR (txS T s))) ∧ Below w.heap.size w w' := by
  have ht := text_any h
  generalize txS T s = t at *
  clear h
  unfold isVR
  by_cases h1 : t = w_true
  · subst h1
    go_enter Tryz.func117, Tryz.ntmps117
    go_wp2_with (go_at_call 115; refine ht.mono ?_; rintro e w1 ⟨rfl, b1⟩)
    go_ret
    exact ⟨rfl, b1⟩
  by_cases h2 : t = w_false
  · subst h2
    go_enter Tryz.func117, Tryz.ntmps117
    go_wp2_with (go_at_call 115; refine ht.mono ?_; rintro e w1 ⟨rfl, b1⟩)
    go_ret
    exact ⟨rfl, b1⟩
  by_cases h3 : t = w_null
  · subst h3
    go_enter Tryz.func117, Tryz.ntmps117
    go_wp2_with (go_at_call 115; refine ht.mono ?_; rintro e w1 ⟨rfl, b1⟩)
    go_ret
    exact ⟨rfl, b1⟩
  by_cases h4 : t = [45]
  · subst h4
    go_enter Tryz.func117, Tryz.ntmps117
    go_wp2_with (go_at_call 115; refine ht.mono ?_; rintro e w1 ⟨rfl, b1⟩)
    go_ret
    exact ⟨rfl, b1⟩
  rw [decide_eq_false h1, decide_eq_false h2, decide_eq_false h3, decide_eq_false h4]
  simp only [Bool.false_or]
  have q1 : (t == [116, 114, 117, 101]) = false := by simpa using h1
  have q2 : (t == [102, 97, 108, 115, 101]) = false := by simpa using h2
  have q3 : (t == [110, 117, 108, 108]) = false := by simpa using h3
  have q4 : (t == [45]) = false := by simpa using h4
  clear h1 h2 h3 h4
  cases t with
  | nil =>
    go_enter Tryz.func117, Tryz.ntmps117
    go_wp2_with (go_at_call 115; refine ht.mono ?_; rintro e w1 ⟨rfl, b1⟩)
    go_ret
    exact ⟨rfl, b1⟩
  | cons c r =>
    have hpos : 0 < (⟨(c :: r).toArray⟩ : ByteArray).size := by rw [size_mk]; simp
    have h0 : (⟨(c :: r).toArray⟩ : ByteArray)[0] = c := rfl
    have hl : (⟨(c :: r).toArray⟩ : ByteArray).toList = c :: r := by rw [Lib.toList_data]
    have hemp : (⟨(c :: r).toArray⟩ : ByteArray).toList.isEmpty = false := by rw [hl]; rfl
    have hd := fun W => refD_any c W
    have hq := u8_39 c
    rw [← h0] at hd hq
    have hh : headB (fun c => isD c || decide (c = 39)) (c :: r) = (isD c || decide (c = 39)) := rfl
    rw [hh]
    rw [← hl] at q1 q2 q3 q4
    rw [← h0]
    generalize (⟨(c :: r).toArray⟩ : ByteArray) = S at *
    clear h0 hl hh
    cases hD : isD S[0] with
    | true =>
      rw [hD] at hd
      go_enter Tryz.func117, Tryz.ntmps117
      go_wp2_with (first | (go_at_call 115; refine ht.mono ?_; rintro e w1 ⟨rfl, b1⟩) | (go_at_call 114; refine (hd _).mono ?_; rintro e w' ⟨rfl, hw'⟩; obtain rfl := hw'.symm; clear hw'))
      go_ret
      exact ⟨rfl, b1⟩
    | false =>
      rw [hD] at hd
      cases hC : decide (S[0] = 39) with
      | true =>
        rw [hC] at hq
        go_enter Tryz.func117, Tryz.ntmps117
        go_wp2_with (first | (go_at_call 115; refine ht.mono ?_; rintro e w1 ⟨rfl, b1⟩) | (go_at_call 114; refine (hd _).mono ?_; rintro e w' ⟨rfl, hw'⟩; obtain rfl := hw'.symm; clear hw'))
        go_ret
        exact ⟨rfl, b1⟩
      | false =>
        rw [hC] at hq
        go_enter Tryz.func117, Tryz.ntmps117
        go_wp2_with (first | (go_at_call 115; refine ht.mono ?_; rintro e w1 ⟨rfl, b1⟩) | (go_at_call 114; refine (hd _).mono ?_; rintro e w' ⟨rfl, hw'⟩; obtain rfl := hw'.symm; clear hw'))
        go_ret
        exact ⟨rfl, b1⟩
theorem truth_any (b : Bool) (w : World) : Calls Tryz.prog 118 #[.bool b] w fun e w' => e = .returned (.agg #[.int .i64 3, .int .i64 (if b = true then 1 else 0), .string ⟨#[]⟩]) ∧ Below w.heap.size w w' := by
  cases b with
  | true =>
    go_enter Tryz.func118, Tryz.ntmps118
    go_wp2
    exact bodyPost_ret (v := .agg #[.int .i64 3, .int .i64 1, .string ⟨#[]⟩]) (by simp [results, Tryz.results118, go_sem]) rfl ⟨rfl, (Below.refl _ _).alloc (Nat.le_refl _) _⟩
  | false =>
    go_enter Tryz.func118, Tryz.ntmps118
    go_wp2
    exact bodyPost_ret (v := .agg #[.int .i64 3, .int .i64 0, .string ⟨#[]⟩]) (by simp [results, Tryz.results118, go_sem]) rfl ⟨rfl, (Below.refl _ _).alloc (Nat.le_refl _) _⟩
theorem rtyp_any {w : World} {base rb : Nat} {v : Value} {T : List Tk} {en : Int} {s : Sx} {cs : List Value} (h : Rd w base rb v T en s cs) :
    Calls Tryz.prog 116 #[.pointer (some ⟨rb, 0, none⟩)] w fun e w' => e = .returned (.int .i64 ((typeS T s).1 : Nat)) ∧ Rd w' base rb v T en (typeS T s).2 cs ∧ w.grownBy w' (some rb) := by
  have h1 := take_any h w_int (by decide)
  have h2 := fun {W : World} (hh : Rd W base rb v T en s cs) => take_any hh w_text (by decide)
  have h3 := fun {W : World} (hh : Rd W base rb v T en s cs) => need_any hh w_bool (by decide)
  have e1 : ∀ W, (takeS T W s).1 = false → (takeS T W s).2 = s := by
    intro W; unfold takeS; split
    · intro h; cases h
    · intro _; rfl
  have k1 := e1 w_int
  have k2 := e1 w_text
  unfold typeS
  clear h e1
  generalize takeS T w_int s = p at *
  generalize takeS T w_text s = q at *
  generalize (needS T w_bool s).2 = n at *
  obtain ⟨b, s2⟩ := p
  obtain ⟨b', s3⟩ := q
  cases b with
  | true =>
    go_enter Tryz.func116, Tryz.ntmps116
    go_wp2_with (refine h1.mono ?_; rintro e w1 ⟨rfl, R1, g1⟩)
    go_ret
    exact ⟨rfl, R1, g1⟩
  | false =>
    have := k1 rfl
    simp only at this
    subst this
    cases b' with
    | true =>
      go_enter Tryz.func116, Tryz.ntmps116
      go_wp2_with fail
      refine h1.mono ?_
      rintro e w1 ⟨rfl, R1, g1⟩
      go_wp2_with fail
      refine (h2 R1).mono ?_
      rintro e w2 ⟨rfl, R2, g2⟩
      go_wp2
      go_ret
      exact ⟨rfl, R2, grown_trans g1 g2⟩
    | false =>
      have := k2 rfl
      simp only at this
      subst this
      go_enter Tryz.func116, Tryz.ntmps116
      go_wp2_with fail
      refine h1.mono ?_
      rintro e w1 ⟨rfl, R1, g1⟩
      go_wp2_with fail
      refine (h2 R1).mono ?_
      rintro e w2 ⟨rfl, R2, g2⟩
      go_wp2_with fail
      refine (h3 R2).mono ?_
      rintro e w3 ⟨rfl, R3, g3⟩
      go_wp2
      go_ret
      exact ⟨rfl, R3, grown_trans g1 (grown_trans g2 g3)⟩
theorem Rd.putNew {w w' : World} {base rb b : Nat} {v : Value} {T : List Tk} {en : Int} {s : Sx} {cs xs : List Value} {o : Nat} (p : Hid (w' = putAll w b o xs)) (h : Rd w base rb v T en s cs) (hb : rb < b) : Rd w' base rb v T en s cs := by
  rw [p.out]
  exact ⟨(putAll_other b xs w o rb (by omega)).trans h.blk, h.own.kept (putAll_grown b xs w o) (.inr (fun e => by have := h.lt b e; omega)), h.lt, h.le, h.few, h.toks, h.ist⟩
theorem grown_new {w w1 w' : World} {rb b o : Nat} {xs : List Value} (p : Hid (w' = putAll w1 b o xs)) (g : w.grownBy w1 (some rb)) (hb : w.heap.size ≤ b) : w.grownBy w' (some rb) := by
  rw [p.out]; exact grown_putAll g hb o xs
theorem rval_not {w : World} {base rb : Nat} {v : Value} {T : List Tk} {en : Int} {i : Nat} {F : Bool} {cs : List Value} (h : Rd w base rb v T en (i, F) cs) (hV : isVR (txS T (i, F)) = false) :
    Calls Tryz.prog 65 #[.pointer (some ⟨rb, 0, none⟩)] w fun e w' => e = .returned (.agg ([.int .i64 0, .int .i64 0, .string ⟨#[]⟩] : List Value).toArray) ∧ Rd w' base rb v T en (i, true) cs ∧ w.grownBy w' (some rb) := by
  have H := hide h
  have hlt := h.rb_lt
  have hle : (i : Int) ≤ 2000 := by have := h.le; have := h.few; simp only at *; omega
  have hx : ∀ W, Rd W base rb v T en (i, F) cs → Calls Tryz.prog 115 #[.pointer (some ⟨rb, 0, none⟩)] W fun e w' => e = .returned (.string ⟨(txS T (i, F)).toArray⟩) ∧ Below W.heap.size W w' := fun W hh => text_any hh
  have hv : ∀ W, Rd W base rb v T en (i, F) cs → Calls Tryz.prog 117 #[.pointer (some ⟨rb, 0, none⟩)] W fun e w' => e = .returned (.bool false) ∧ Below W.heap.size W w' := fun W hh => by have := risv_any hh; rw [hV] at this; exact this
  generalize txS T (i, F) = t at *
  clear hV
  clear h
  go_enter Tryz.func65, Tryz.ntmps65
  go_wp2_with (first | (refine wpList_alloc_blk 2 24 [.int .i64 0, .int .i64 0, .string ⟨#[]⟩] rfl rfl rfl Tryz.alloc24 ?_; intro W0 vb hvb k0 b0; have R0 := hide (H.out.below b0)) | (go_at_call 115; refine (hx _ R0.out).mono ?_; rintro e w1 ⟨rfl, b1⟩; have R1 := hide (R0.out.below b1); have k1 := (b1.block vb (ltS k0)).trans k0) | (go_at_call 117; refine (hv _ R1.out).mono ?_; rintro e w2 ⟨rfl, b2⟩; have R2 := hide (R1.out.below b2); have k2 := (b2.block vb (ltS k1)).trans k1; obtain ⟨⟨c0, c1, c2, c3⟩, f1, f3⟩ := rd4 R2.out.blk; have hne : vb ≠ rb := (by have := hvb.out; omega)) | (refine wpList_store_whole 24 _ _ rfl rfl vb [.int .i64 0, .int .i64 0, .string ⟨#[]⟩] [.int .i64 0, .int .i64 0, .string ⟨#[]⟩] 24 rfl rfl (by first | exact k2 | exact (heap_setCell_other _ _ vb _ hne).trans k2) rfl Tryz.size24 (by intro z hz; simp only [List.mem_cons, List.not_mem_nil, or_false] at hz; rcases hz with rfl | rfl | rfl <;> rfl) ?_; intro w6 k6 p6))
  exact bodyPost_ret (results_whole Tryz.results65 _ _ vb _ 24 _ rfl k6 Tryz.underlying24 rfl Tryz.size24) rfl ⟨rfl, Rd.putNew p6 R2.out.fail (by have := hvb.out; omega), grown_new p6 (grown_trans (grown_below b0 _) (grown_trans (grown_below b1 _) (grown_trans (grown_below b2 _) (grown_set _ rb 3 _)))) (by have := hvb.out; omega)⟩
theorem rval_true {w : World} {base rb : Nat} {v : Value} {T : List Tk} {en : Int} {i : Nat} {F : Bool} {cs : List Value} (h : Rd w base rb v T en (i, F) cs) (ht : txS T (i, F) = w_true) (hm : i + 1 ≤ T.length) :
    Calls Tryz.prog 65 #[.pointer (some ⟨rb, 0, none⟩)] w fun e w' => e = .returned (.agg ([.int .i64 3, .int .i64 1, .string ⟨#[]⟩] : List Value).toArray) ∧ Rd w' base rb v T en (i + 1, F) cs ∧ w.grownBy w' (some rb) := by
  have H := hide h
  have hlt := h.rb_lt
  have hle : (i : Int) ≤ 2000 := by have := h.le; have := h.few; simp only at *; omega
  have hx : ∀ W, Rd W base rb v T en (i, F) cs → Calls Tryz.prog 115 #[.pointer (some ⟨rb, 0, none⟩)] W fun e w' => e = .returned (.string ⟨#[116, 114, 117, 101]⟩) ∧ Below W.heap.size W w' := fun W hh => by have := text_any hh; rw [ht] at this; exact this
  have hV : isVR (txS T (i, F)) = true := by rw [ht]; decide
  have hv : ∀ W, Rd W base rb v T en (i, F) cs → Calls Tryz.prog 117 #[.pointer (some ⟨rb, 0, none⟩)] W fun e w' => e = .returned (.bool true) ∧ Below W.heap.size W w' := fun W hh => by have := risv_any hh; rw [hV] at this; exact this
  clear hV ht
  clear h
  go_enter Tryz.func65, Tryz.ntmps65
  go_wp2_with (first | (refine wpList_alloc_blk 2 24 [.int .i64 0, .int .i64 0, .string ⟨#[]⟩] rfl rfl rfl Tryz.alloc24 ?_; intro W0 vb hvb k0 b0; have R0 := hide (H.out.below b0)) | (go_at_call 115; refine (hx _ R0.out).mono ?_; rintro e w1 ⟨rfl, b1⟩; have R1 := hide (R0.out.below b1); have k1 := (b1.block vb (ltS k0)).trans k0) | (go_at_call 117; refine (hv _ R1.out).mono ?_; rintro e w2 ⟨rfl, b2⟩; have R2 := hide (R1.out.below b2); have k2 := (b2.block vb (ltS k1)).trans k1; obtain ⟨⟨c0, c1, c2, c3⟩, f1, f3⟩ := rd4 R2.out.blk; have hne : vb ≠ rb := (by have := hvb.out; omega)) | (go_at_call 118; refine (truth_any _ _).mono ?_; rintro e w5 ⟨rfl, b5⟩; have k5 := (b5.block vb (by have := (ltS k2); simpa [World.setCell] using this)).trans ((heap_setCell_other _ _ vb _ hne).trans k2)) | (refine wpList_store_whole 24 _ _ rfl rfl vb [.int .i64 0, .int .i64 0, .string ⟨#[]⟩] [.int .i64 3, .int .i64 1, .string ⟨#[]⟩] 24 rfl rfl (by exact k5) rfl Tryz.size24 (by intro z hz; simp only [List.mem_cons, List.not_mem_nil, or_false] at hz; rcases hz with rfl | rfl | rfl <;> rfl) ?_; intro w6 k6 p6))
  exact bodyPost_ret (results_whole Tryz.results65 _ _ vb _ 24 _ rfl k6 Tryz.underlying24 rfl Tryz.size24) rfl ⟨rfl, Rd.putNew p6 (Rd.below (by have := R2.out.step (i + 1) hm; have e2 : (((i + 1 : Nat) : Nat) : Int) = (i : Int) + 1 := (by omega); rw [e2] at this; exact this) b5) (by have := hvb.out; omega), grown_new p6 (grown_trans (grown_below b0 _) (grown_trans (grown_below b1 _) (grown_trans (grown_below b2 _) (grown_trans (grown_set _ rb 1 _) (grown_below b5 _))))) (by have := hvb.out; omega)⟩
theorem rval_false {w : World} {base rb : Nat} {v : Value} {T : List Tk} {en : Int} {i : Nat} {F : Bool} {cs : List Value} (h : Rd w base rb v T en (i, F) cs) (ht : txS T (i, F) = w_false) (hm : i + 1 ≤ T.length) :
    Calls Tryz.prog 65 #[.pointer (some ⟨rb, 0, none⟩)] w fun e w' => e = .returned (.agg ([.int .i64 3, .int .i64 0, .string ⟨#[]⟩] : List Value).toArray) ∧ Rd w' base rb v T en (i + 1, F) cs ∧ w.grownBy w' (some rb) := by
  have H := hide h
  have hlt := h.rb_lt
  have hle : (i : Int) ≤ 2000 := by have := h.le; have := h.few; simp only at *; omega
  have hx : ∀ W, Rd W base rb v T en (i, F) cs → Calls Tryz.prog 115 #[.pointer (some ⟨rb, 0, none⟩)] W fun e w' => e = .returned (.string ⟨#[102, 97, 108, 115, 101]⟩) ∧ Below W.heap.size W w' := fun W hh => by have := text_any hh; rw [ht] at this; exact this
  have hV : isVR (txS T (i, F)) = true := by rw [ht]; decide
  have hv : ∀ W, Rd W base rb v T en (i, F) cs → Calls Tryz.prog 117 #[.pointer (some ⟨rb, 0, none⟩)] W fun e w' => e = .returned (.bool true) ∧ Below W.heap.size W w' := fun W hh => by have := risv_any hh; rw [hV] at this; exact this
  clear hV ht
  clear h
  go_enter Tryz.func65, Tryz.ntmps65
  go_wp2_with (first | (refine wpList_alloc_blk 2 24 [.int .i64 0, .int .i64 0, .string ⟨#[]⟩] rfl rfl rfl Tryz.alloc24 ?_; intro W0 vb hvb k0 b0; have R0 := hide (H.out.below b0)) | (go_at_call 115; refine (hx _ R0.out).mono ?_; rintro e w1 ⟨rfl, b1⟩; have R1 := hide (R0.out.below b1); have k1 := (b1.block vb (ltS k0)).trans k0) | (go_at_call 117; refine (hv _ R1.out).mono ?_; rintro e w2 ⟨rfl, b2⟩; have R2 := hide (R1.out.below b2); have k2 := (b2.block vb (ltS k1)).trans k1; obtain ⟨⟨c0, c1, c2, c3⟩, f1, f3⟩ := rd4 R2.out.blk; have hne : vb ≠ rb := (by have := hvb.out; omega)) | (go_at_call 118; refine (truth_any _ _).mono ?_; rintro e w5 ⟨rfl, b5⟩; have k5 := (b5.block vb (by have := (ltS k2); simpa [World.setCell] using this)).trans ((heap_setCell_other _ _ vb _ hne).trans k2)) | (refine wpList_store_whole 24 _ _ rfl rfl vb [.int .i64 0, .int .i64 0, .string ⟨#[]⟩] [.int .i64 3, .int .i64 0, .string ⟨#[]⟩] 24 rfl rfl (by exact k5) rfl Tryz.size24 (by intro z hz; simp only [List.mem_cons, List.not_mem_nil, or_false] at hz; rcases hz with rfl | rfl | rfl <;> rfl) ?_; intro w6 k6 p6))
  exact bodyPost_ret (results_whole Tryz.results65 _ _ vb _ 24 _ rfl k6 Tryz.underlying24 rfl Tryz.size24) rfl ⟨rfl, Rd.putNew p6 (Rd.below (by have := R2.out.step (i + 1) hm; have e2 : (((i + 1 : Nat) : Nat) : Int) = (i : Int) + 1 := (by omega); rw [e2] at this; exact this) b5) (by have := hvb.out; omega), grown_new p6 (grown_trans (grown_below b0 _) (grown_trans (grown_below b1 _) (grown_trans (grown_below b2 _) (grown_trans (grown_set _ rb 1 _) (grown_below b5 _))))) (by have := hvb.out; omega)⟩
theorem rval_null {w : World} {base rb : Nat} {v : Value} {T : List Tk} {en : Int} {i : Nat} {F : Bool} {cs : List Value} (h : Rd w base rb v T en (i, F) cs) (ht : txS T (i, F) = w_null) (hm : i + 1 ≤ T.length) :
    Calls Tryz.prog 65 #[.pointer (some ⟨rb, 0, none⟩)] w fun e w' => e = .returned (.agg ([.int .i64 0, .int .i64 0, .string ⟨#[]⟩] : List Value).toArray) ∧ Rd w' base rb v T en (i + 1, F) cs ∧ w.grownBy w' (some rb) := by
  have H := hide h
  have hlt := h.rb_lt
  have hle : (i : Int) ≤ 2000 := by have := h.le; have := h.few; simp only at *; omega
  have hx : ∀ W, Rd W base rb v T en (i, F) cs → Calls Tryz.prog 115 #[.pointer (some ⟨rb, 0, none⟩)] W fun e w' => e = .returned (.string ⟨#[110, 117, 108, 108]⟩) ∧ Below W.heap.size W w' := fun W hh => by have := text_any hh; rw [ht] at this; exact this
  have hV : isVR (txS T (i, F)) = true := by rw [ht]; decide
  have hv : ∀ W, Rd W base rb v T en (i, F) cs → Calls Tryz.prog 117 #[.pointer (some ⟨rb, 0, none⟩)] W fun e w' => e = .returned (.bool true) ∧ Below W.heap.size W w' := fun W hh => by have := risv_any hh; rw [hV] at this; exact this
  clear hV ht
  clear h
  go_enter Tryz.func65, Tryz.ntmps65
  go_wp2_with (first | (refine wpList_alloc_blk 2 24 [.int .i64 0, .int .i64 0, .string ⟨#[]⟩] rfl rfl rfl Tryz.alloc24 ?_; intro W0 vb hvb k0 b0; have R0 := hide (H.out.below b0)) | (go_at_call 115; refine (hx _ R0.out).mono ?_; rintro e w1 ⟨rfl, b1⟩; have R1 := hide (R0.out.below b1); have k1 := (b1.block vb (ltS k0)).trans k0) | (go_at_call 117; refine (hv _ R1.out).mono ?_; rintro e w2 ⟨rfl, b2⟩; have R2 := hide (R1.out.below b2); have k2 := (b2.block vb (ltS k1)).trans k1; obtain ⟨⟨c0, c1, c2, c3⟩, f1, f3⟩ := rd4 R2.out.blk; have hne : vb ≠ rb := (by have := hvb.out; omega)) | (refine wpList_store_whole 24 _ _ rfl rfl vb [.int .i64 0, .int .i64 0, .string ⟨#[]⟩] [.int .i64 0, .int .i64 0, .string ⟨#[]⟩] 24 rfl rfl (by first | exact k2 | exact (heap_setCell_other _ _ vb _ hne).trans k2) rfl Tryz.size24 (by intro z hz; simp only [List.mem_cons, List.not_mem_nil, or_false] at hz; rcases hz with rfl | rfl | rfl <;> rfl) ?_; intro w6 k6 p6))
  exact bodyPost_ret (results_whole Tryz.results65 _ _ vb _ 24 _ rfl k6 Tryz.underlying24 rfl Tryz.size24) rfl ⟨rfl, Rd.putNew p6 (by have := R2.out.step (i + 1) hm; have e2 : (((i + 1 : Nat) : Nat) : Int) = (i : Int) + 1 := (by omega); rw [e2] at this; exact this) (by have := hvb.out; omega), grown_new p6 (grown_trans (grown_below b0 _) (grown_trans (grown_below b1 _) (grown_trans (grown_below b2 _) (grown_set _ rb 1 _)))) (by have := hvb.out; omega)⟩
theorem rval_quote {w : World} {base rb : Nat} {v : Value} {T : List Tk} {en : Int} {i : Nat} {F : Bool} {cs : List Value} (h : Rd w base rb v T en (i, F) cs) (c : UInt8) (r : List UInt8) (ht : txS T (i, F) = c :: r) (hm : i + 1 ≤ T.length) (hc : c = 39) (h2 : 1 ≤ r.length) (h22 : r.length ≤ 21) :
    Calls Tryz.prog 65 #[.pointer (some ⟨rb, 0, none⟩)] w fun e w' => e = .returned (.agg ([.int .i64 2, .int .i64 0, .string ⟨(((c :: r).drop 1).take ((c :: r).length - 2)).toArray⟩] : List Value).toArray) ∧ Rd w' base rb v T en (i + 1, F) cs ∧ w.grownBy w' (some rb) := by
  have H := hide h
  have hlt := h.rb_lt
  have hle : (i : Int) ≤ 2000 := by have := h.le; have := h.few; simp only at *; omega
  have hV : isVR (txS T (i, F)) = true := by rw [ht, hc]; simp [isVR, headB]
  have hv : ∀ W, Rd W base rb v T en (i, F) cs → Calls Tryz.prog 117 #[.pointer (some ⟨rb, 0, none⟩)] W fun e w' => e = .returned (.bool true) ∧ Below W.heap.size W w' := fun W hh => by have := risv_any hh; rw [hV] at this; exact this
  have hx : ∀ W, Rd W base rb v T en (i, F) cs → Calls Tryz.prog 115 #[.pointer (some ⟨rb, 0, none⟩)] W fun e w' => e = .returned (.string ⟨(c :: r).toArray⟩) ∧ Below W.heap.size W w' := fun W hh => by have := text_any hh; rw [ht] at this; exact this
  have q1 : ((c :: r) == [116, 114, 117, 101]) = false := by rw [beq_eq_false_iff_ne]; intro e; cases e; revert hc; decide
  have q2 : ((c :: r) == [102, 97, 108, 115, 101]) = false := by rw [beq_eq_false_iff_ne]; intro e; cases e; revert hc; decide
  have q3 : ((c :: r) == [110, 117, 108, 108]) = false := by rw [beq_eq_false_iff_ne]; intro e; cases e; revert hc; decide
  have q4 : ((c :: r) == [45]) = false := by rw [beq_eq_false_iff_ne]; intro e; cases e; revert hc; decide
  have hpos : 0 < (⟨(c :: r).toArray⟩ : ByteArray).size := by rw [size_mk]; simp
  have h0 : (⟨(c :: r).toArray⟩ : ByteArray)[0] = c := rfl
  have hz : (⟨(c :: r).toArray⟩ : ByteArray).size = (c :: r).length := size_mk _
  have hl : (⟨(c :: r).toArray⟩ : ByteArray).toList = c :: r := by rw [Lib.toList_data]
  have hq := u8_39 c
  have hin : (⟨(((c :: r).drop 1).take ((c :: r).length - 2)).toArray⟩ : ByteArray) = (⟨(c :: r).toArray⟩ : ByteArray).extract 1 ((⟨(c :: r).toArray⟩ : ByteArray).size - 1) := by
    rw [inner, size_mk, Nat.sub_sub]
  rw [hin]
  rw [decide_eq_true hc] at hq
  rw [← h0] at hq
  rw [← hl] at q1 q2 q3 q4
  have h3 : (2 : Int) ≤ ((⟨(c :: r).toArray⟩ : ByteArray).size : Int) := by rw [hz]; simp; omega
  have h4 : ((⟨(c :: r).toArray⟩ : ByteArray).size : Int) ≤ 22 := by rw [hz]; simp; omega
  generalize (⟨(c :: r).toArray⟩ : ByteArray) = S at *
  clear hV ht hin h0 hl hz hc
  clear h
  go_enter Tryz.func65, Tryz.ntmps65
  go_wp2_with (first | (refine wpList_alloc_blk 2 24 [.int .i64 0, .int .i64 0, .string ⟨#[]⟩] rfl rfl rfl Tryz.alloc24 ?_; intro W0 vb hvb k0 b0; have R0 := hide (H.out.below b0)) | (go_at_call 115; refine (hx _ R0.out).mono ?_; rintro e w1 ⟨rfl, b1⟩; have R1 := hide (R0.out.below b1); have k1 := (b1.block vb (ltS k0)).trans k0) | (go_at_call 117; refine (hv _ R1.out).mono ?_; rintro e w2 ⟨rfl, b2⟩; have R2 := hide (R1.out.below b2); have k2 := (b2.block vb (ltS k1)).trans k1; obtain ⟨⟨c0, c1, c2, c3⟩, f1, f3⟩ := rd4 R2.out.blk; have hne : vb ≠ rb := (by have := hvb.out; omega)) | (refine wpList_store_whole 24 _ _ rfl rfl vb [.int .i64 0, .int .i64 0, .string ⟨#[]⟩] [.int .i64 2, .int .i64 0, .string (S.extract 1 (S.size - 1))] 24 rfl rfl (by first | exact k2 | exact (heap_setCell_other _ _ vb _ hne).trans k2) rfl Tryz.size24 (by intro z hz; simp only [List.mem_cons, List.not_mem_nil, or_false] at hz; rcases hz with rfl | rfl | rfl <;> rfl) ?_; intro w6 k6 p6))
  exact bodyPost_ret (results_whole Tryz.results65 _ _ vb _ 24 _ rfl k6 Tryz.underlying24 rfl Tryz.size24) rfl ⟨rfl, Rd.putNew p6 (by have := R2.out.step (i + 1) hm; have e2 : (((i + 1 : Nat) : Nat) : Int) = (i : Int) + 1 := (by omega); rw [e2] at this; exact this) (by have := hvb.out; omega), grown_new p6 (grown_trans (grown_below b0 _) (grown_trans (grown_below b1 _) (grown_trans (grown_below b2 _) (grown_set _ rb 1 _)))) (by have := hvb.out; omega)⟩
theorem rval_num {w : World} {base rb : Nat} {v : Value} {T : List Tk} {en : Int} {i : Nat} {F : Bool} {cs : List Value} (h : Rd w base rb v T en (i, F) cs) (c : UInt8) (r : List UInt8) (ht : txS T (i, F) = c :: r) (hc : isD c = true) :
    Calls Tryz.prog 65 #[.pointer (some ⟨rb, 0, none⟩)] w fun e w' => e = .returned (.agg ([.int .i64 1, .int .i64 ((numberS T (i, F)).1 : Nat), .string ⟨#[]⟩] : List Value).toArray) ∧ Rd w' base rb v T en (numberS T (i, F)).2 cs ∧ w.grownBy w' (some rb) := by
  have H := hide h
  have hlt := h.rb_lt
  have hle : (i : Int) ≤ 2000 := by have := h.le; have := h.few; simp only at *; omega
  have hV : isVR (txS T (i, F)) = true := by rw [ht]; simp [isVR, headB, hc]
  have hv : ∀ W, Rd W base rb v T en (i, F) cs → Calls Tryz.prog 117 #[.pointer (some ⟨rb, 0, none⟩)] W fun e w' => e = .returned (.bool true) ∧ Below W.heap.size W w' := fun W hh => by have := risv_any hh; rw [hV] at this; exact this
  have hc39 : c ≠ 39 := by intro e; rw [e] at hc; revert hc; decide
  have hx : ∀ W, Rd W base rb v T en (i, F) cs → Calls Tryz.prog 115 #[.pointer (some ⟨rb, 0, none⟩)] W fun e w' => e = .returned (.string ⟨(c :: r).toArray⟩) ∧ Below W.heap.size W w' := fun W hh => by have := text_any hh; rw [ht] at this; exact this
  have q1 : ((c :: r) == [116, 114, 117, 101]) = false := by rw [beq_eq_false_iff_ne]; intro e; cases e; revert hc; decide
  have q2 : ((c :: r) == [102, 97, 108, 115, 101]) = false := by rw [beq_eq_false_iff_ne]; intro e; cases e; revert hc; decide
  have q3 : ((c :: r) == [110, 117, 108, 108]) = false := by rw [beq_eq_false_iff_ne]; intro e; cases e; revert hc; decide
  have q4 : ((c :: r) == [45]) = false := by rw [beq_eq_false_iff_ne]; intro e; cases e; revert hc; decide
  have hpos : 0 < (⟨(c :: r).toArray⟩ : ByteArray).size := by rw [size_mk]; simp
  have h0 : (⟨(c :: r).toArray⟩ : ByteArray)[0] = c := rfl
  have hz : (⟨(c :: r).toArray⟩ : ByteArray).size = (c :: r).length := size_mk _
  have hl : (⟨(c :: r).toArray⟩ : ByteArray).toList = c :: r := by rw [Lib.toList_data]
  have hq := u8_39 c
  rw [decide_eq_false hc39] at hq
  rw [← h0] at hq
  rw [← hl] at q1 q2 q3 q4
  have hnum : ∀ W, Rd W base rb v T en (i, F) cs → Calls Tryz.prog 119 #[.pointer (some ⟨rb, 0, none⟩)] W fun e w' => e = .returned (.int .i64 ((numberS T (i, F)).1 : Nat)) ∧ Rd w' base rb v T en (numberS T (i, F)).2 cs ∧ W.grownBy w' (some rb) := fun W hh => rnum_any hh
  generalize numberS T (i, F) = p at *
  generalize (⟨(c :: r).toArray⟩ : ByteArray) = S at *
  clear hV ht h0 hl hz hc hc39
  clear h
  go_enter Tryz.func65, Tryz.ntmps65
  go_wp2_with (first | (refine wpList_alloc_blk 2 24 [.int .i64 0, .int .i64 0, .string ⟨#[]⟩] rfl rfl rfl Tryz.alloc24 ?_; intro W0 vb hvb k0 b0; have R0 := hide (H.out.below b0)) | (go_at_call 115; refine (hx _ R0.out).mono ?_; rintro e w1 ⟨rfl, b1⟩; have R1 := hide (R0.out.below b1); have k1 := (b1.block vb (ltS k0)).trans k0) | (go_at_call 117; refine (hv _ R1.out).mono ?_; rintro e w2 ⟨rfl, b2⟩; have R2 := hide (R1.out.below b2); have k2 := (b2.block vb (ltS k1)).trans k1; obtain ⟨⟨c0, c1, c2, c3⟩, f1, f3⟩ := rd4 R2.out.blk; have hne : vb ≠ rb := (by have := hvb.out; omega)) | (go_at_call 119; refine (hnum _ R2.out).mono ?_; rintro e w5 ⟨rfl, R5, g5⟩; have k5 := (g5.block vb (ltS k2) (by simp only [ne_eq, Option.some.injEq]; exact hne)).trans k2) | (refine wpList_store_whole 24 _ _ rfl rfl vb [.int .i64 0, .int .i64 0, .string ⟨#[]⟩] [.int .i64 1, .int .i64 (p.1 : Nat), .string ⟨#[]⟩] 24 rfl rfl (by exact k5) rfl Tryz.size24 (by intro z hz; simp only [List.mem_cons, List.not_mem_nil, or_false] at hz; rcases hz with rfl | rfl | rfl <;> rfl) ?_; intro w6 k6 p6))
  exact bodyPost_ret (results_whole Tryz.results65 _ _ vb _ 24 _ rfl k6 Tryz.underlying24 rfl Tryz.size24) rfl ⟨rfl, Rd.putNew p6 R5 (by have := hvb.out; omega), grown_new p6 (grown_trans (grown_below b0 _) (grown_trans (grown_below b1 _) (grown_trans (grown_below b2 _) g5))) (by have := hvb.out; omega)⟩
theorem num_le {T : List Tk} (h1 : ∀ x ∈ T, TokOk x) (h2 : ∀ x ∈ T, TokIs x) (s : Sx) : (numberS T s).1 ≤ 999999999 := by
  obtain ⟨i, F⟩ := s
  unfold numberS
  split
  · rename_i hD
    obtain ⟨rfl, ex, hm⟩ := txS_some (T := T) (i := i) (F := F) (by intro e; rw [e] at hD; cases hD)
    rw [ex] at hD ⊢
    obtain ⟨x, hx, e1, e2⟩ := tx_ne (T := T) (i := i) (by intro e; rw [e] at hD; cases hD)
    have hk : x.k = 2 := (h2 x (List.mem_of_getElem? hx)).num.2 (by rw [← e1]; exact hD)
    obtain ⟨n1, n2, n3⟩ := (h1 x (List.mem_of_getElem? hx)).num hk
    rw [← e1] at n1 n2 n3
    have := decN_lt _ n3
    have h9 : 10 ^ (tx T i).length ≤ 10 ^ 9 := Nat.pow_le_pow_right (by decide) n2
    simp only
    omega
  · exact Nat.zero_le _
theorem rval_minus_zero {w : World} {base rb : Nat} {v : Value} {T : List Tk} {en : Int} {i : Nat} {F : Bool} {cs : List Value} (h : Rd w base rb v T en (i, F) cs) (ht : txS T (i, F) = [45]) (hm : i + 1 ≤ T.length) (h48 : txS T (i + 1, F) = [48]) :
    Calls Tryz.prog 65 #[.pointer (some ⟨rb, 0, none⟩)] w fun e w' => e = .returned (.agg ([.int .i64 1, .int .i64 (-((numberS T (i + 1, true)).1 : Nat)), .string ⟨#[]⟩] : List Value).toArray) ∧ Rd w' base rb v T en (numberS T (i + 1, true)).2 cs ∧ w.grownBy w' (some rb) := by
  have H := hide h
  have hlt := h.rb_lt
  have hle : (i : Int) ≤ 2000 := by have := h.le; have := h.few; simp only at *; omega
  have hV : isVR (txS T (i, F)) = true := by rw [ht]; decide
  have hv : ∀ W, Rd W base rb v T en (i, F) cs → Calls Tryz.prog 117 #[.pointer (some ⟨rb, 0, none⟩)] W fun e w' => e = .returned (.bool true) ∧ Below W.heap.size W w' := fun W hh => by have := risv_any hh; rw [hV] at this; exact this
  have hx : ∀ W, Rd W base rb v T en (i, F) cs → Calls Tryz.prog 115 #[.pointer (some ⟨rb, 0, none⟩)] W fun e w' => e = .returned (.string ⟨#[45]⟩) ∧ Below W.heap.size W w' := fun W hh => by have := text_any hh; rw [ht] at this; exact this
  have hx2 : ∀ W, Rd W base rb v T en (i + 1, F) cs → Calls Tryz.prog 115 #[.pointer (some ⟨rb, 0, none⟩)] W fun e w' => e = .returned (.string ⟨(txS T (i + 1, F)).toArray⟩) ∧ Below W.heap.size W w' := fun W hh => text_any hh
  have hnum : ∀ W, Rd W base rb v T en (i + 1, true) cs → Calls Tryz.prog 119 #[.pointer (some ⟨rb, 0, none⟩)] W fun e w' => e = .returned (.int .i64 ((numberS T (i + 1, true)).1 : Nat)) ∧ Rd w' base rb v T en (numberS T (i + 1, true)).2 cs ∧ W.grownBy w' (some rb) := fun W hh => rnum_any hh
  have hnl : (((numberS T (i + 1, true)).1 : Nat) : Int) ≤ 999999999 := by have := num_le h.toks h.ist (i + 1, true); omega
  rw [h48] at hx2
  generalize numberS T (i + 1, true) = p at *
  clear hV ht h48
  clear h
  go_enter Tryz.func65, Tryz.ntmps65
  go_wp2_with (first | (refine wpList_alloc_blk 2 24 [.int .i64 0, .int .i64 0, .string ⟨#[]⟩] rfl rfl rfl Tryz.alloc24 ?_; intro W0 vb hvb k0 b0; have R0 := hide (H.out.below b0)) | (go_at_call 115; refine (hx _ R0.out).mono ?_; rintro e w1 ⟨rfl, b1⟩; have R1 := hide (R0.out.below b1); have k1 := (b1.block vb (ltS k0)).trans k0) | (go_at_call 117; refine (hv _ R1.out).mono ?_; rintro e w2 ⟨rfl, b2⟩; have R2 := hide (R1.out.below b2); have k2 := (b2.block vb (ltS k1)).trans k1; obtain ⟨⟨c0, c1, c2, c3⟩, f1, f3⟩ := rd4 R2.out.blk; have hne : vb ≠ rb := (by have := hvb.out; omega); have R3 := hide (by have := R2.out.step (i + 1) hm; have e2 : (((i + 1 : Nat) : Nat) : Int) = (i : Int) + 1 := (by omega); rw [e2] at this; exact this)))
  go_wp2_with fail
  refine (hx2 _ R3.out).mono ?_
  rintro e w4 ⟨rfl, b4⟩
  have R4 := hide (R3.out.below b4)
  have k4 := (b4.block vb (by have := (ltS k2); simpa [World.setCell] using this)).trans ((heap_setCell_other _ _ vb _ hne).trans k2)
  obtain ⟨⟨d0, d1, d2, d3⟩, g1, g3⟩ := rd4 R4.out.blk
  go_wp2_with (first | (go_at_call 119; refine (hnum _ R4.out.fail).mono ?_; rintro e w5 ⟨rfl, R5, g5⟩; have k5 := (g5.block vb (by have := (ltS k4); first | exact this | simpa [World.setCell] using this) (by simp only [ne_eq, Option.some.injEq]; exact hne)).trans ((heap_setCell_other _ _ vb _ hne).trans k4)) | (refine wpList_store_whole 24 _ _ rfl rfl vb [.int .i64 0, .int .i64 0, .string ⟨#[]⟩] [.int .i64 1, .int .i64 (-(p.1 : Nat)), .string ⟨#[]⟩] 24 rfl rfl (by exact k5) rfl Tryz.size24 (by intro z hz; simp only [List.mem_cons, List.not_mem_nil, or_false] at hz; rcases hz with rfl | rfl | rfl <;> rfl) ?_; intro w6 k6 p6))
  exact bodyPost_ret (results_whole Tryz.results65 _ _ vb _ 24 _ rfl k6 Tryz.underlying24 rfl Tryz.size24) rfl ⟨rfl, Rd.putNew p6 R5 (by have := hvb.out; omega), grown_new p6 (grown_trans (grown_below b0 _) (grown_trans (grown_below b1 _) (grown_trans (grown_below b2 _) (grown_trans (grown_set _ rb 1 _) (grown_trans (grown_below b4 _) (grown_trans (grown_set _ rb 3 _) g5)))))) (by have := hvb.out; omega)⟩
theorem rval_minus_any {w : World} {base rb : Nat} {v : Value} {T : List Tk} {en : Int} {i : Nat} {F : Bool} {cs : List Value} (h : Rd w base rb v T en (i, F) cs) (ht : txS T (i, F) = [45]) (hm : i + 1 ≤ T.length) (h48 : txS T (i + 1, F) ≠ [48]) :
    Calls Tryz.prog 65 #[.pointer (some ⟨rb, 0, none⟩)] w fun e w' => e = .returned (.agg ([.int .i64 1, .int .i64 (-((numberS T (i + 1, F)).1 : Nat)), .string ⟨#[]⟩] : List Value).toArray) ∧ Rd w' base rb v T en (numberS T (i + 1, F)).2 cs ∧ w.grownBy w' (some rb) := by
  have H := hide h
  have hlt := h.rb_lt
  have hle : (i : Int) ≤ 2000 := by have := h.le; have := h.few; simp only at *; omega
  have hV : isVR (txS T (i, F)) = true := by rw [ht]; decide
  have hv : ∀ W, Rd W base rb v T en (i, F) cs → Calls Tryz.prog 117 #[.pointer (some ⟨rb, 0, none⟩)] W fun e w' => e = .returned (.bool true) ∧ Below W.heap.size W w' := fun W hh => by have := risv_any hh; rw [hV] at this; exact this
  have hx : ∀ W, Rd W base rb v T en (i, F) cs → Calls Tryz.prog 115 #[.pointer (some ⟨rb, 0, none⟩)] W fun e w' => e = .returned (.string ⟨#[45]⟩) ∧ Below W.heap.size W w' := fun W hh => by have := text_any hh; rw [ht] at this; exact this
  have hx2 : ∀ W, Rd W base rb v T en (i + 1, F) cs → Calls Tryz.prog 115 #[.pointer (some ⟨rb, 0, none⟩)] W fun e w' => e = .returned (.string ⟨(txS T (i + 1, F)).toArray⟩) ∧ Below W.heap.size W w' := fun W hh => text_any hh
  have hnum : ∀ W, Rd W base rb v T en (i + 1, F) cs → Calls Tryz.prog 119 #[.pointer (some ⟨rb, 0, none⟩)] W fun e w' => e = .returned (.int .i64 ((numberS T (i + 1, F)).1 : Nat)) ∧ Rd w' base rb v T en (numberS T (i + 1, F)).2 cs ∧ W.grownBy w' (some rb) := fun W hh => rnum_any hh
  have hnl : (((numberS T (i + 1, F)).1 : Nat) : Int) ≤ 999999999 := by have := num_le h.toks h.ist (i + 1, F); omega
  have hne48 : (txS T (i + 1, F) == [48]) = false := by simpa using h48
  generalize numberS T (i + 1, F) = p at *
  generalize txS T (i + 1, F) = t2 at *
  clear hV ht h48
  clear h
  go_enter Tryz.func65, Tryz.ntmps65
  go_wp2_with (first | (refine wpList_alloc_blk 2 24 [.int .i64 0, .int .i64 0, .string ⟨#[]⟩] rfl rfl rfl Tryz.alloc24 ?_; intro W0 vb hvb k0 b0; have R0 := hide (H.out.below b0)) | (go_at_call 115; refine (hx _ R0.out).mono ?_; rintro e w1 ⟨rfl, b1⟩; have R1 := hide (R0.out.below b1); have k1 := (b1.block vb (ltS k0)).trans k0) | (go_at_call 117; refine (hv _ R1.out).mono ?_; rintro e w2 ⟨rfl, b2⟩; have R2 := hide (R1.out.below b2); have k2 := (b2.block vb (ltS k1)).trans k1; obtain ⟨⟨c0, c1, c2, c3⟩, f1, f3⟩ := rd4 R2.out.blk; have hne : vb ≠ rb := (by have := hvb.out; omega); have R3 := hide (by have := R2.out.step (i + 1) hm; have e2 : (((i + 1 : Nat) : Nat) : Int) = (i : Int) + 1 := (by omega); rw [e2] at this; exact this)))
  go_wp2_with fail
  refine (hx2 _ R3.out).mono ?_
  rintro e w4 ⟨rfl, b4⟩
  have R4 := hide (R3.out.below b4)
  have k4 := (b4.block vb (by have := (ltS k2); simpa [World.setCell] using this)).trans ((heap_setCell_other _ _ vb _ hne).trans k2)
  obtain ⟨⟨d0, d1, d2, d3⟩, g1, g3⟩ := rd4 R4.out.blk
  go_wp2_with (first | (go_at_call 119; refine (hnum _ R4.out).mono ?_; rintro e w5 ⟨rfl, R5, g5⟩; have k5 := (g5.block vb (by have := (ltS k4); first | exact this | simpa [World.setCell] using this) (by simp only [ne_eq, Option.some.injEq]; exact hne)).trans k4) | (refine wpList_store_whole 24 _ _ rfl rfl vb [.int .i64 0, .int .i64 0, .string ⟨#[]⟩] [.int .i64 1, .int .i64 (-(p.1 : Nat)), .string ⟨#[]⟩] 24 rfl rfl (by exact k5) rfl Tryz.size24 (by intro z hz; simp only [List.mem_cons, List.not_mem_nil, or_false] at hz; rcases hz with rfl | rfl | rfl <;> rfl) ?_; intro w6 k6 p6))
  exact bodyPost_ret (results_whole Tryz.results65 _ _ vb _ 24 _ rfl k6 Tryz.underlying24 rfl Tryz.size24) rfl ⟨rfl, Rd.putNew p6 R5 (by have := hvb.out; omega), grown_new p6 (grown_trans (grown_below b0 _) (grown_trans (grown_below b1 _) (grown_trans (grown_below b2 _) (grown_trans (grown_set _ rb 1 _) (grown_trans (grown_below b4 _) g5))))) (by have := hvb.out; omega)⟩
theorem rval_any {w : World} {base rb : Nat} {v : Value} {T : List Tk} {en : Int} {s : Sx} {cs : List Value} (h : Rd w base rb v T en s cs) :
    Calls Tryz.prog 65 #[.pointer (some ⟨rb, 0, none⟩)] w fun e w' => e = .returned (.agg (vlC (valueS T s).1).toArray) ∧ Rd w' base rb v T en (valueS T s).2 cs ∧ w.grownBy w' (some rb) := by
  obtain ⟨i, F⟩ := s
  unfold valueS
  by_cases h0 : isVR (txS T (i, F)) = false
  · rw [if_pos h0]
    exact rval_not h h0
  rw [if_neg h0]
  have hne : txS T (i, F) ≠ [] := by intro e; rw [e] at h0; exact h0 isV_nil
  obtain ⟨hF, ex, hm⟩ := txS_some hne
  by_cases h1 : txS T (i, F) = w_true ∨ txS T (i, F) = w_false
  · rw [if_pos h1]
    rcases h1 with h1 | h1
    · rw [if_pos h1]
      exact rval_true h h1 hm
    · rw [if_neg (by rw [h1]; decide)]
      exact rval_false h h1 hm
  rw [if_neg h1]
  by_cases h2 : txS T (i, F) = w_null
  · rw [if_pos h2]
    exact rval_null h h2 hm
  rw [if_neg h2]
  by_cases h3 : txS T (i, F) = [45]
  · rw [if_pos h3]
    unfold minusS
    by_cases h4 : txS T (i + 1, F) = [48]
    · have := rval_minus_zero h h3 hm h4
      simp only [h4, if_true]
      exact this
    · have := rval_minus_any h h3 hm h4
      simp only [h4, if_false]
      exact this
  rw [if_neg h3]
  cases ht : txS T (i, F) with
  | nil => exact absurd ht hne
  | cons c r =>
    by_cases h4 : c = 39
    · have hh : headB (fun c => decide (c = 39)) (c :: r) = true := by simp [headB, h4]
      rw [if_pos hh]
      obtain ⟨x, hx, e1, e2⟩ := tx_ne (T := T) (i := i) (by rw [← ex]; exact hne)
      have hk : x.k = 3 := (h.ist x (List.mem_of_getElem? hx)).txt.2 (by rw [← e1, ← ex, ht]; exact hh)
      have hl := (h.toks x (List.mem_of_getElem? hx)).txt hk
      have hs := (h.toks x (List.mem_of_getElem? hx)).short
      rw [← e1, ← ex, ht] at hl hs
      simp only [List.length_cons] at hl hs
      exact rval_quote h c r ht hm h4 (by omega) (by omega)
    · rw [if_neg (by simp [headB, h4])]
      have hd : isD c = true := by
        rw [ht] at h0 h1 h2 h3
        simp only [not_or] at h1
        have hq : isVR (c :: r) = true := by simpa using h0
        unfold isVR at hq
        rw [decide_eq_false h1.1, decide_eq_false h1.2, decide_eq_false h2, decide_eq_false h3] at hq
        simpa [headB, h4] using hq
      exact rval_num h c r ht hd
abbrev z29 : List Value := [.int .i64 0, .int .i64 0, .int .i64 0, .string ⟨#[]⟩, .string ⟨#[]⟩, .slice none 0 0]
abbrev exL (k : Int) (x : Vl) (nm : List UInt8) (a : Value) : List Value := [.int .i64 k, .int .i64 x.k, .int .i64 x.n, .string ⟨x.s.toArray⟩, .string ⟨nm.toArray⟩, a]
theorem Tryz.alloc29 (w : World) : (Instr.alloc 29 true (.tuple #[])).run Tryz.prog w = .ok (.pointer (some ⟨w.heap.size, 0, none⟩)) (w.alloc (.cells z29.toArray 29)) := by
  have e : z29.toArray = #[.int .i64 0, .int .i64 0, .int .i64 0, .string ⟨#[]⟩, .string ⟨#[]⟩, .slice none 0 0] := rfl
  rw [e]
  simp [Instr.alloc, Tryz.zeroValue29, go_sem]
theorem exL_one (k : Int) (x : Vl) (nm : List UInt8) (ao : Option Addr) (n cap : Nat) : ∀ z ∈ exL k x nm (.slice ao n cap), z.oneCell' = true := by
  intro z hz
  simp only [List.mem_cons, List.not_mem_nil, or_false] at hz
  rcases hz with rfl | rfl | rfl | rfl | rfl | rfl <;> rfl
def RExp (W : World) (base rb : Nat) (v : Value) (T : List Tk) (en : Int) (p : Ex × Sx) (cs : List Value) (e : Ending) (w' : World) : Prop :=
  (∃ u, e = .returned u ∧ ExAt W.heap.size w' u p.1) ∧ Rd w' base rb v T en p.2 cs ∧ W.grownBy w' (some rb)
theorem old_block {w : World} (o : Obj) {b : Nat} (hb : b < w.heap.size) : (w.alloc o).heap[b]? = w.heap[b]? := ((Below.refl w.heap.size w).alloc (Nat.le_refl _) o).block b hb
theorem step_eq {i : Nat} {w : World} {base rb : Nat} {v : Value} {T : List Tk} {en : Int} {F : Bool} {cs : List Value} (h : Rd w base rb v T en (i, F) cs) (hm : i + 1 ≤ T.length) : Rd (w.setCell ⟨rb, 1, none⟩ (.int .i64 ((i : Int) + 1))) base rb v T en (i + 1, F) cs := by
  have := h.step (i + 1) hm
  have e2 : (((i + 1 : Nat) : Nat) : Int) = (i : Int) + 1 := by omega
  rw [e2] at this
  exact this
theorem set_size (w : World) (a : Addr) (x : Value) : (w.setCell a x).heap.size = w.heap.size := by simp [World.setCell]
theorem kept_rb {w w' : World} {rb b : Nat} {o : Obj} (g : w.grownBy w' (some rb)) (h : w.heap[b]? = some o) (hne : b ≠ rb) : w'.heap[b]? = some o :=
  (g.block b (ltS h) (by simp only [ne_eq, Option.some.injEq]; exact hne)).trans h
theorem rexp_not {w : World} {base rb : Nat} {v : Value} {T : List Tk} {en : Int} {i : Nat} {F : Bool} {cs : List Value} (h : Rd w base rb v T en (i, F) cs) (f : Nat) (hf : f < 60) (ht : txS T (i, F) = w_not)
    (ih : ∀ (W : World) (s : Sx), Rd W base rb v T en s cs → Calls Tryz.prog 67 #[.pointer (some ⟨rb, 0, none⟩), .int .i64 ((60 - f : Nat) : Int)] W fun e w' => RExp W base rb v T en (exprS T f s) cs e w') :
    Calls Tryz.prog 67 #[.pointer (some ⟨rb, 0, none⟩), .int .i64 ((59 - f : Nat) : Int)] w fun e w' => RExp w base rb v T en (exprS T (f + 1) (i, F)) cs e w' := by
  have H := hide h
  have hlt := h.rb_lt
  have hle : (i : Int) ≤ 2000 := by have := h.le; have := h.few; simp only at *; omega
  obtain ⟨hF, ex, hm⟩ := txS_some (T := T) (i := i) (F := F) (by rw [ht]; decide)
  have hx : ∀ W, Rd W base rb v T en (i, F) cs → Calls Tryz.prog 115 #[.pointer (some ⟨rb, 0, none⟩)] W fun e w' => e = .returned (.string ⟨#[110, 111, 116]⟩) ∧ Below W.heap.size W w' := fun W hh => by have := text_any hh; rw [ht] at this; exact this
  have HR : Hid (exprS T (f + 1) (i, F) = (.mk 3 vl0 [] [(exprS T f (i + 1, F)).1], (exprS T f (i + 1, F)).2)) := by show _ = _; rw [exprS, if_pos ht]
  have ih1 := fun W => ih W (i + 1, F)
  have hm0 : ((60 - f : Nat) : Int) = ((59 - f : Nat) : Int) + 1 := by omega
  have hm1 : ((59 - f : Nat) : Int) < 60 := by omega
  have hm2 : 0 ≤ ((59 - f : Nat) : Int) := by omega
  rw [hm0] at ih1
  rw [HR.out]
  generalize exprS T f (i + 1, F) = p at *
  generalize ((59 - f : Nat) : Int) = m at *
  have hm3 : (m == 60) = false := by rw [beq_eq_false_iff_ne]; omega
  clear h ih HR ht ex hm0 hf
  go_enter Tryz.func67, Tryz.ntmps67
  go_wp2_with (first | (refine wpList_alloc_blk 4 29 z29 rfl rfl rfl Tryz.alloc29 ?_; intro W0 eb heb k0 b0; have R0 := hide (H.out.below b0)) | (go_at_call 115; refine (hx _ R0.out).mono ?_; rintro e w1 ⟨rfl, b1⟩; have R1 := hide (R0.out.below b1); have k1 := (b1.block eb (ltS k0)).trans k0; obtain ⟨⟨c0, c1, c2, c3⟩, f1, f3⟩ := rd4 R1.out.blk))
  refine (ih1 _ (step_eq R1.out hm)).mono ?_
  rintro e w3 ⟨⟨u, rfl, x3⟩, R3, g3⟩
  obtain ⟨k, x, nm, ao, na, ca, rfl⟩ := ExAt.form x3
  have hne : eb ≠ rb := by have := heb.out; omega
  have k2 := (heap_setCell_other w1 ⟨rb, 1, none⟩ eb (.int .i64 ((i : Int) + 1)) hne).trans k1
  have k3 := kept_rb g3 k2 hne
  have X3 := hide x3
  have HR3 := hide R3
  rw [set_size] at X3
  have hb3 := g3.size
  rw [set_size] at hb3
  have he1 := (ltS k1)
  unfold exV
  clear x3 R3
  go_wp2_with (first | (refine wpList_alloc_blk 6 29 z29 rfl rfl rfl Tryz.alloc29 ?_; intro w4 ab hab k4 b4) | (refine wpList_store_whole 29 _ _ rfl rfl ab z29 (exL k x nm (.slice ao na ca)) 29 rfl rfl (by exact k4) rfl Tryz.size29 (exL_one _ _ _ _ _ _) ?_; intro w5 k5 p5; have B5 := below_put hab b4 p5; have R5 := hide (HR3.out.below B5); have X5 := hide (X3.out.under B5); have e5 := (B5.block eb (ltS k3)).trans k3; clear p5) | (refine wpList_load_whole 29 _ rfl rfl ab (exL k x nm (.slice ao na ca)) 29 _ rfl (by exact k5) Tryz.underlying29 rfl Tryz.size29 ?_) | (refine wpList_store_whole 29 _ _ rfl rfl eb z29 (exL 3 vl0 [] (.slice (some ⟨w5.heap.size, 0, none⟩) 1 1)) 29 rfl rfl (by exact (old_block _ (ltS e5)).trans e5) rfl Tryz.size29 (exL_one _ _ _ _ _ _) ?_; intro w6 k6 p6))
  have hE := heb.out
  have n1 : (w5.alloc (.cells (exL k x nm (.slice ao na ca)).toArray 29)).heap[w5.heap.size]? = some (.cells (exL k x nm (.slice ao na ca)).toArray 29) := heap_alloc_new _ _
  have n6 : w6.heap[w5.heap.size]? = some (.cells (exL k x nm (.slice ao na ca)).toArray 29) := by
    rw [p6.out]
    exact (putAll_other eb _ _ 0 _ (by have := (ltS e5); omega)).trans n1
  have x6 : ExAt w1.heap.size w6 (exV k x nm (.slice ao na ca)) p.1 := by
    rw [p6.out]
    exact (X5.out.alloc _).putAll he1 0 _
  have b0s := b0.size
  have b1s := b1.size
  have b5s := B5.size
  refine bodyPost_ret (results_whole Tryz.results67 _ _ eb _ 29 _ rfl k6 Tryz.underlying29 rfl Tryz.size29) rfl ⟨⟨_, rfl, ?_⟩, Rd.putNew p6 (R5.out.below ((Below.refl _ _).alloc (Nat.le_refl _) _)) (by omega), ?_⟩
  · exact (ex_one n6 (by omega) x6 3 1).weak (by omega)
  · exact grown_new p6 (grown_trans (grown_below b0 _) (grown_trans (grown_below b1 _) (grown_trans (grown_set _ rb 1 _) (grown_trans g3 (grown_trans (grown_below B5 _) (grown_below ((Below.refl _ _).alloc (Nat.le_refl _) _) _)))))) (by omega)
theorem rexp_deep {w : World} {base rb : Nat} {v : Value} {T : List Tk} {en : Int} {i : Nat} {F : Bool} {cs : List Value} (h : Rd w base rb v T en (i, F) cs) (ht : txS T (i, F) = [40] ∨ txS T (i, F) = w_not) :
    Calls Tryz.prog 67 #[.pointer (some ⟨rb, 0, none⟩), .int .i64 60] w fun e w' => RExp w base rb v T en (ex0, (i, true)) cs e w' := by
  have H := hide h
  have hlt := h.rb_lt
  have hle : (i : Int) ≤ 2000 := by have := h.le; have := h.few; simp only at *; omega
  have hx : ∀ W, Rd W base rb v T en (i, F) cs → Calls Tryz.prog 115 #[.pointer (some ⟨rb, 0, none⟩)] W fun e w' => e = .returned (.string ⟨(txS T (i, F)).toArray⟩) ∧ Below W.heap.size W w' := fun W hh => text_any hh
  rcases ht with ht | ht
  all_goals
    rw [ht] at hx
    clear h
    go_enter Tryz.func67, Tryz.ntmps67
    go_wp2_with (first | (refine wpList_alloc_blk 4 29 z29 rfl rfl rfl Tryz.alloc29 ?_; intro W0 eb heb k0 b0; have R0 := hide (H.out.below b0)) | (go_at_call 115; refine (hx _ R0.out).mono ?_; rintro e w1 ⟨rfl, b1⟩; have R1 := hide (R0.out.below b1); have k1 := (b1.block eb (ltS k0)).trans k0; obtain ⟨⟨c0, c1, c2, c3⟩, f1, f3⟩ := rd4 R1.out.blk) | (refine wpList_store_whole 29 _ _ rfl rfl eb z29 z29 29 rfl rfl (by exact (heap_setCell_other _ _ eb _ (by have := heb.out; show eb ≠ rb; omega)).trans k1) rfl Tryz.size29 (by exact exL_one 0 vl0 [] none 0 0) ?_; intro w6 k6 p6))
    have hE := heb.out
    have b0s := b0.size
    have b1s := b1.size
    exact bodyPost_ret (results_whole Tryz.results67 _ _ eb _ 29 _ rfl k6 Tryz.underlying29 rfl Tryz.size29) rfl ⟨⟨_, rfl, ExAt.nil 0 vl0 [] none 0 (fun _ => rfl)⟩, Rd.putNew p6 R1.out.fail (by omega), grown_new p6 (grown_trans (grown_below b0 _) (grown_trans (grown_below b1 _) (grown_set _ rb 3 _))) (by omega)⟩
theorem rexp_val {w : World} {base rb : Nat} {v : Value} {T : List Tk} {en : Int} {i : Nat} {F : Bool} {cs : List Value} (h : Rd w base rb v T en (i, F) cs) (m : Int) (h1 : txS T (i, F) ≠ [40]) (h2 : txS T (i, F) ≠ w_not) (hV : isVR (txS T (i, F)) = true) :
    Calls Tryz.prog 67 #[.pointer (some ⟨rb, 0, none⟩), .int .i64 m] w fun e w' => RExp w base rb v T en (.mk 1 (valueS T (i, F)).1 [] [], (valueS T (i, F)).2) cs e w' := by
  have H := hide h
  have hlt := h.rb_lt
  have hle : (i : Int) ≤ 2000 := by have := h.le; have := h.few; simp only at *; omega
  have hx : ∀ W, Rd W base rb v T en (i, F) cs → Calls Tryz.prog 115 #[.pointer (some ⟨rb, 0, none⟩)] W fun e w' => e = .returned (.string ⟨(txS T (i, F)).toArray⟩) ∧ Below W.heap.size W w' := fun W hh => text_any hh
  have hv : ∀ W, Rd W base rb v T en (i, F) cs → Calls Tryz.prog 117 #[.pointer (some ⟨rb, 0, none⟩)] W fun e w' => e = .returned (.bool true) ∧ Below W.heap.size W w' := fun W hh => by have := risv_any hh; rw [hV] at this; exact this
  have q1 : (txS T (i, F) == [40]) = false := by simpa using h1
  have q2 : (txS T (i, F) == [110, 111, 116]) = false := by simpa using h2
  have hc : ∀ W, Rd W base rb v T en (i, F) cs → Calls Tryz.prog 65 #[.pointer (some ⟨rb, 0, none⟩)] W fun e w' => e = .returned (.agg #[.int .i64 (valueS T (i, F)).1.k, .int .i64 (valueS T (i, F)).1.n, .string ⟨(valueS T (i, F)).1.s.toArray⟩]) ∧ Rd w' base rb v T en (valueS T (i, F)).2 cs ∧ W.grownBy w' (some rb) := fun W hh => rval_any hh
  generalize valueS T (i, F) = p at *
  generalize txS T (i, F) = t at *
  clear h h1 h2 hV
  go_enter Tryz.func67, Tryz.ntmps67
  go_wp2_with (first | (refine wpList_alloc_blk 4 29 z29 rfl rfl rfl Tryz.alloc29 ?_; intro W0 eb heb k0 b0; have R0 := hide (H.out.below b0)) | (go_at_call 115; refine (hx _ R0.out).mono ?_; rintro e w1 ⟨rfl, b1⟩; have R1 := hide (R0.out.below b1); have k1 := (b1.block eb (ltS k0)).trans k0; obtain ⟨⟨c0, c1, c2, c3⟩, f1, f3⟩ := rd4 R1.out.blk) | (go_at_call 117; refine (hv _ R1.out).mono ?_; rintro e w2 ⟨rfl, b2⟩; have R2 := hide (R1.out.below b2); have k2 := (b2.block eb (ltS k1)).trans k1) | (go_at_call 65; refine (hc _ R2.out).mono ?_; rintro e w3 ⟨rfl, r3, g3⟩; have R3 := hide r3; have k3 := kept_rb g3 k2 (by have := heb.out; show eb ≠ rb; omega)) | (refine wpList_store_whole 29 _ _ rfl rfl eb z29 (exL 1 p.1 [] (.slice none 0 0)) 29 rfl rfl (by exact k3) rfl Tryz.size29 (exL_one _ _ _ _ _ _) ?_; intro w6 k6 p6))
  have hE := heb.out
  have b0s := b0.size
  have b1s := b1.size
  have b2s := b2.size
  exact bodyPost_ret (results_whole Tryz.results67 _ _ eb _ 29 _ rfl k6 Tryz.underlying29 rfl Tryz.size29) rfl ⟨⟨_, rfl, ExAt.nil _ _ _ none 0 (fun _ => rfl)⟩, Rd.putNew p6 R3.out (by omega), grown_new p6 (grown_trans (grown_below b0 _) (grown_trans (grown_below b1 _) (grown_trans (grown_below b2 _) g3))) (by omega)⟩
theorem rexp_nam {w : World} {base rb : Nat} {v : Value} {T : List Tk} {en : Int} {i : Nat} {F : Bool} {cs : List Value} (h : Rd w base rb v T en (i, F) cs) (m : Int) (h1 : txS T (i, F) ≠ [40]) (h2 : txS T (i, F) ≠ w_not) (hV : isVR (txS T (i, F)) = false) :
    Calls Tryz.prog 67 #[.pointer (some ⟨rb, 0, none⟩), .int .i64 m] w fun e w' => RExp w base rb v T en (.mk 2 vl0 (nameS T (i, F)).1 [], (nameS T (i, F)).2) cs e w' := by
  have H := hide h
  have hlt := h.rb_lt
  have hle : (i : Int) ≤ 2000 := by have := h.le; have := h.few; simp only at *; omega
  have hx : ∀ W, Rd W base rb v T en (i, F) cs → Calls Tryz.prog 115 #[.pointer (some ⟨rb, 0, none⟩)] W fun e w' => e = .returned (.string ⟨(txS T (i, F)).toArray⟩) ∧ Below W.heap.size W w' := fun W hh => text_any hh
  have hv : ∀ W, Rd W base rb v T en (i, F) cs → Calls Tryz.prog 117 #[.pointer (some ⟨rb, 0, none⟩)] W fun e w' => e = .returned (.bool false) ∧ Below W.heap.size W w' := fun W hh => by have := risv_any hh; rw [hV] at this; exact this
  have q1 : (txS T (i, F) == [40]) = false := by simpa using h1
  have q2 : (txS T (i, F) == [110, 111, 116]) = false := by simpa using h2
  have hc : ∀ W, Rd W base rb v T en (i, F) cs → Calls Tryz.prog 63 #[.pointer (some ⟨rb, 0, none⟩)] W fun e w' => e = .returned (.string ⟨(nameS T (i, F)).1.toArray⟩) ∧ Rd w' base rb v T en (nameS T (i, F)).2 cs ∧ W.grownBy w' (some rb) := fun W hh => rnm_any hh
  generalize nameS T (i, F) = p at *
  generalize txS T (i, F) = t at *
  clear h h1 h2 hV
  go_enter Tryz.func67, Tryz.ntmps67
  go_wp2_with (first | (refine wpList_alloc_blk 4 29 z29 rfl rfl rfl Tryz.alloc29 ?_; intro W0 eb heb k0 b0; have R0 := hide (H.out.below b0)) | (go_at_call 115; refine (hx _ R0.out).mono ?_; rintro e w1 ⟨rfl, b1⟩; have R1 := hide (R0.out.below b1); have k1 := (b1.block eb (ltS k0)).trans k0; obtain ⟨⟨c0, c1, c2, c3⟩, f1, f3⟩ := rd4 R1.out.blk) | (go_at_call 117; refine (hv _ R1.out).mono ?_; rintro e w2 ⟨rfl, b2⟩; have R2 := hide (R1.out.below b2); have k2 := (b2.block eb (ltS k1)).trans k1) | (go_at_call 63; refine (hc _ R2.out).mono ?_; rintro e w3 ⟨rfl, r3, g3⟩; have R3 := hide r3; have k3 := kept_rb g3 k2 (by have := heb.out; show eb ≠ rb; omega)) | (refine wpList_store_whole 29 _ _ rfl rfl eb z29 (exL 2 vl0 p.1 (.slice none 0 0)) 29 rfl rfl (by exact k3) rfl Tryz.size29 (exL_one _ _ _ _ _ _) ?_; intro w6 k6 p6))
  have hE := heb.out
  have b0s := b0.size
  have b1s := b1.size
  have b2s := b2.size
  exact bodyPost_ret (results_whole Tryz.results67 _ _ eb _ 29 _ rfl k6 Tryz.underlying29 rfl Tryz.size29) rfl ⟨⟨_, rfl, ExAt.nil _ _ _ none 0 (fun _ => rfl)⟩, Rd.putNew p6 R3.out (by omega), grown_new p6 (grown_trans (grown_below b0 _) (grown_trans (grown_below b1 _) (grown_trans (grown_below b2 _) g3))) (by omega)⟩
def ops7 : List (List UInt8) := [w_and, w_or, [43], [45], [124, 124], [60], [61]]
theorem ops7_iff (t : List UInt8) (k : Nat) (op : List UInt8) (h : ops7[k]? = some op) : t = op ↔ operK t = 5 + k := by
  constructor
  · rintro rfl
    match k, h with
    | 0, h => cases h; decide
    | 1, h => cases h; decide
    | 2, h => cases h; decide
    | 3, h => cases h; decide
    | 4, h => cases h; decide
    | 5, h => cases h; decide
    | 6, h => cases h; decide
  · intro hk
    unfold operK at hk
    by_cases a0 : t = w_and
    · rw [if_pos a0] at hk
      have : k = 0 := by omega
      subst this
      cases h
      exact a0
    rw [if_neg a0] at hk
    by_cases a1 : t = w_or
    · rw [if_pos a1] at hk
      have : k = 1 := by omega
      subst this
      cases h
      exact a1
    rw [if_neg a1] at hk
    by_cases a2 : t = [43]
    · rw [if_pos a2] at hk
      have : k = 2 := by omega
      subst this
      cases h
      exact a2
    rw [if_neg a2] at hk
    by_cases a3 : t = [45]
    · rw [if_pos a3] at hk
      have : k = 3 := by omega
      subst this
      cases h
      exact a3
    rw [if_neg a3] at hk
    by_cases a4 : t = [124, 124]
    · rw [if_pos a4] at hk
      have : k = 4 := by omega
      subst this
      cases h
      exact a4
    rw [if_neg a4] at hk
    by_cases a5 : t = [60]
    · rw [if_pos a5] at hk
      have : k = 5 := by omega
      subst this
      cases h
      exact a5
    rw [if_neg a5] at hk
    by_cases a6 : t = [61]
    · rw [if_pos a6] at hk
      have : k = 6 := by omega
      subst this
      cases h
      exact a6
    rw [if_neg a6] at hk
    omega
theorem operK_le (t : List UInt8) : operK t = 0 ∨ (5 ≤ operK t ∧ operK t ≤ 11) := by
  unfold operK
  repeat' split
  all_goals omega
def seenK (t : List UInt8) (k : Nat) : Nat := if operK t < 5 + k then operK t else 0
theorem seenK_yes {t : List UInt8} {k : Nat} {op : List UInt8} (h : ops7[k]? = some op) (e : t = op) : seenK t (k + 1) = 5 + k := by
  have := (ops7_iff t k op h).1 e
  unfold seenK; rw [if_pos (by omega), this]
theorem seenK_no {t : List UInt8} {k : Nat} {op : List UInt8} (h : ops7[k]? = some op) (e : t ≠ op) : seenK t (k + 1) = seenK t k := by
  have h1 : operK t ≠ 5 + k := fun hh => e ((ops7_iff t k op h).2 hh)
  unfold seenK
  by_cases h2 : operK t < 5 + k
  · rw [if_pos h2, if_pos (by omega)]
  · rw [if_neg h2, if_neg (by omega)]
theorem keepT {w W W' : World} {b k : Nat} {x : Value} (hb : b < w.heap.size) (h : W.cell? ⟨b, k, none⟩ = some x ∧ Below w.heap.size w W) (hB : Below W.heap.size W W') : W'.cell? ⟨b, k, none⟩ = some x ∧ Below w.heap.size w W' :=
  ⟨(hB.cell (p := ⟨b, k, none⟩) (Nat.lt_of_lt_of_le hb h.2.size)).trans h.1, h.2.trans (hB.mono h.2.size)⟩
theorem ofT {A B : Prop} (h : A ∧ B) : B := h.2
theorem rexp_null {w : World} {base rb : Nat} {v : Value} {T : List Tk} {en : Int} {i : Nat} {F : Bool} {cs : List Value} (h : Rd w base rb v T en (i, F) cs) (f : Nat) (hf : f < 60) (ht : txS T (i, F) = [40])
    (ih : ∀ (W : World) (s : Sx), Rd W base rb v T en s cs → Calls Tryz.prog 67 #[.pointer (some ⟨rb, 0, none⟩), .int .i64 ((60 - f : Nat) : Int)] W fun e w' => RExp W base rb v T en (exprS T f s) cs e w')
    (hb : (takeS T w_is (exprS T f (i + 1, F)).2).1 = true) :
    Calls Tryz.prog 67 #[.pointer (some ⟨rb, 0, none⟩), .int .i64 ((59 - f : Nat) : Int)] w fun e w' => RExp w base rb v T en (.mk 4 vl0 [] [(exprS T f (i + 1, F)).1], (needS T [41] (needS T w_null (takeS T w_is (exprS T f (i + 1, F)).2).2).2).2) cs e w' := by
  have H := hide h
  have hlt := h.rb_lt
  have hle : (i : Int) ≤ 2000 := by have := h.le; have := h.few; simp only at *; omega
  obtain ⟨hF, ex, hm⟩ := txS_some (T := T) (i := i) (F := F) (by rw [ht]; decide)
  have hx : ∀ W, Rd W base rb v T en (i, F) cs → Calls Tryz.prog 115 #[.pointer (some ⟨rb, 0, none⟩)] W fun e w' => e = .returned (.string ⟨#[40]⟩) ∧ Below W.heap.size W w' := fun W hh => by have := text_any hh; rw [ht] at this; exact this
  have ih1 := fun W => ih W (i + 1, F)
  have hm0 : ((60 - f : Nat) : Int) = ((59 - f : Nat) : Int) + 1 := by omega
  have hm1 : ((59 - f : Nat) : Int) < 60 := by omega
  have hm2 : 0 ≤ ((59 - f : Nat) : Int) := by omega
  rw [hm0] at ih1
  have t1 : ∀ W, Rd W base rb v T en (exprS T f (i + 1, F)).2 cs → Calls Tryz.prog 60 #[.pointer (some ⟨rb, 0, none⟩), .string ⟨#[105, 115]⟩] W fun e w' => e = .returned (.bool true) ∧ Rd w' base rb v T en (takeS T w_is (exprS T f (i + 1, F)).2).2 cs ∧ W.grownBy w' (some rb) := fun W hh => by have := take_any hh w_is (by decide); rw [hb] at this; exact this
  have t2 : ∀ W, Rd W base rb v T en (takeS T w_is (exprS T f (i + 1, F)).2).2 cs → Calls Tryz.prog 62 #[.pointer (some ⟨rb, 0, none⟩), .string ⟨#[110, 117, 108, 108]⟩] W fun e w' => e = .returned (.tuple #[]) ∧ Rd w' base rb v T en (needS T w_null (takeS T w_is (exprS T f (i + 1, F)).2).2).2 cs ∧ W.grownBy w' (some rb) := fun W hh => need_any hh w_null (by decide)
  have t3 : ∀ W, Rd W base rb v T en (needS T w_null (takeS T w_is (exprS T f (i + 1, F)).2).2).2 cs → Calls Tryz.prog 62 #[.pointer (some ⟨rb, 0, none⟩), .string ⟨#[41]⟩] W fun e w' => e = .returned (.tuple #[]) ∧ Rd w' base rb v T en (needS T [41] (needS T w_null (takeS T w_is (exprS T f (i + 1, F)).2).2).2).2 cs ∧ W.grownBy w' (some rb) := fun W hh => need_any hh [41] (by decide)
  generalize (needS T [41] (needS T w_null (takeS T w_is (exprS T f (i + 1, F)).2).2).2).2 = s4 at *
  generalize (needS T w_null (takeS T w_is (exprS T f (i + 1, F)).2).2).2 = s3 at *
  generalize (takeS T w_is (exprS T f (i + 1, F)).2).2 = s2 at *
  generalize exprS T f (i + 1, F) = p at *
  generalize ((59 - f : Nat) : Int) = m at *
  have hm3 : (m == 60) = false := by rw [beq_eq_false_iff_ne]; omega
  clear h ih ht ex hm0 hf hb
  go_enter Tryz.func67, Tryz.ntmps67
  go_wp2_with (first | (refine wpList_alloc_blk 4 29 z29 rfl rfl rfl Tryz.alloc29 ?_; intro W0 eb heb k0 b0; have R0 := hide (H.out.below b0)) | (go_at_call 115; refine (hx _ R0.out).mono ?_; rintro e w1 ⟨rfl, b1⟩; have R1 := hide (R0.out.below b1); have k1 := (b1.block eb (ltS k0)).trans k0; obtain ⟨⟨c0, c1, c2, c3⟩, f1, f3⟩ := rd4 R1.out.blk))
  refine (ih1 _ (step_eq R1.out hm)).mono ?_
  rintro e w3 ⟨⟨u, rfl, x3⟩, R3, g3⟩
  obtain ⟨k, x, nm, ao, na, ca, rfl⟩ := ExAt.form x3
  have hne : eb ≠ rb := by have := heb.out; omega
  have k2 := (heap_setCell_other w1 ⟨rb, 1, none⟩ eb (.int .i64 ((i : Int) + 1)) hne).trans k1
  have k3 := kept_rb g3 k2 hne
  have X3 := hide x3
  have HR3 := hide R3
  rw [set_size] at X3
  have hb3 := g3.size
  rw [set_size] at hb3
  have he1 := (ltS k1)
  have hr1 := R1.out.rb_lt
  unfold exV
  clear x3 R3
  go_wp2_with (first | (refine wpList_alloc_blk 7 29 z29 rfl rfl rfl Tryz.alloc29 ?_; intro w4 ab hab k4 b4) | (refine wpList_store_whole 29 _ _ rfl rfl ab z29 (exL k x nm (.slice ao na ca)) 29 rfl rfl (by exact k4) rfl Tryz.size29 (exL_one _ _ _ _ _ _) ?_; intro w5 k5 p5; have B5 := below_put hab b4 p5; have R5 := hide (HR3.out.below B5); have X5 := hide (X3.out.under B5); have e5 := (B5.block eb (ltS k3)).trans k3; clear p5))
  have hane : ab ≠ rb := by have := hab.out; omega
  refine (t1 _ R5.out).mono ?_
  rintro e w6 ⟨rfl, R6, g6⟩
  go_wp2_with fail
  refine (t2 _ R6).mono ?_
  rintro e w7 ⟨rfl, R7, g7⟩
  go_wp2_with fail
  refine (t3 _ R7).mono ?_
  rintro e w8 ⟨rfl, R8, g8⟩
  have G := grown_trans g6 (grown_trans g7 g8)
  have k8 := kept_rb G k5 hane
  have e8 := kept_rb G e5 hne
  have X8 := hide (X5.out.grown hr1 G)
  have HR8 := hide R8
  clear R6 R7 R8 g6 g7 g8
  go_wp2_with (first | (refine wpList_load_whole 29 _ rfl rfl ab (exL k x nm (.slice ao na ca)) 29 _ rfl (by exact k8) Tryz.underlying29 rfl Tryz.size29 ?_) | (refine wpList_store_whole 29 _ _ rfl rfl eb z29 (exL 4 vl0 [] (.slice (some ⟨w8.heap.size, 0, none⟩) 1 1)) 29 rfl rfl (by exact (old_block _ (ltS e8)).trans e8) rfl Tryz.size29 (exL_one _ _ _ _ _ _) ?_; intro w9 k9 p9))
  have hE := heb.out
  have n1 : (w8.alloc (.cells (exL k x nm (.slice ao na ca)).toArray 29)).heap[w8.heap.size]? = some (.cells (exL k x nm (.slice ao na ca)).toArray 29) := heap_alloc_new _ _
  have n6 : w9.heap[w8.heap.size]? = some (.cells (exL k x nm (.slice ao na ca)).toArray 29) := by
    rw [p9.out]
    exact (putAll_other eb _ _ 0 _ (by have := (ltS e8); omega)).trans n1
  have x9 : ExAt w1.heap.size w9 (exV k x nm (.slice ao na ca)) p.1 := by
    rw [p9.out]
    exact (X8.out.alloc _).putAll he1 0 _
  have b0s := b0.size
  have b1s := b1.size
  have b5s := B5.size
  have gs := G.size
  refine bodyPost_ret (results_whole Tryz.results67 _ _ eb _ 29 _ rfl k9 Tryz.underlying29 rfl Tryz.size29) rfl ⟨⟨_, rfl, ?_⟩, Rd.putNew p9 (HR8.out.below ((Below.refl _ _).alloc (Nat.le_refl _) _)) (by omega), ?_⟩
  · exact (ex_one n6 (by omega) x9 4 1).weak (by omega)
  · exact grown_new p9 (grown_trans (grown_below b0 _) (grown_trans (grown_below b1 _) (grown_trans (grown_set _ rb 1 _) (grown_trans g3 (grown_trans (grown_below B5 _) (grown_trans G (grown_below ((Below.refl _ _).alloc (Nat.le_refl _) _) _))))))) (by omega)
theorem oper_need {T : List Tk} {s s2 : Sx} {K : Nat} (ho : operS T s = (K, s2)) (hk : operK (txS T s) ≠ 0) : (needS T (txS T s) s).2 = s2 := by
  obtain ⟨j, G⟩ := s
  have hne : txS T (j, G) ≠ [] := by intro e; rw [e] at hk; exact hk (by decide)
  obtain ⟨rfl, e3, -⟩ := txS_some hne
  unfold operS at ho
  rw [if_neg hk] at ho
  rw [← (Prod.mk.inj ho).2]
  unfold needS takeS
  simp [e3]
theorem rexp_two {w : World} {base rb : Nat} {v : Value} {T : List Tk} {en : Int} {i : Nat} {F : Bool} {cs : List Value} (h : Rd w base rb v T en (i, F) cs) (f : Nat) (hf : f < 60) (ht : txS T (i, F) = [40])
    (ih : ∀ (W : World) (s : Sx), Rd W base rb v T en s cs → Calls Tryz.prog 67 #[.pointer (some ⟨rb, 0, none⟩), .int .i64 ((60 - f : Nat) : Int)] W fun e w' => RExp W base rb v T en (exprS T f s) cs e w')
    (p : Ex × Sx) (hp : exprS T f (i + 1, F) = p) (hb : takeS T w_is p.2 = (false, p.2)) (K : Nat) (s2 : Sx) (ho : operS T p.2 = (K, s2)) (q : Ex × Sx) (hq : exprS T f s2 = q) (s4 : Sx) (hs4 : (needS T [41] q.2).2 = s4) :
    Calls Tryz.prog 67 #[.pointer (some ⟨rb, 0, none⟩), .int .i64 ((59 - f : Nat) : Int)] w fun e w' => RExp w base rb v T en (.mk (K : Nat) vl0 [] [p.1, q.1], s4) cs e w' := by
  have H := hide h
  have hlt := h.rb_lt
  have hle : (i : Int) ≤ 2000 := by have := h.le; have := h.few; simp only at *; omega
  obtain ⟨hF, ex, hm⟩ := txS_some (T := T) (i := i) (F := F) (by rw [ht]; decide)
  have hx : ∀ W, Rd W base rb v T en (i, F) cs → Calls Tryz.prog 115 #[.pointer (some ⟨rb, 0, none⟩)] W fun e w' => e = .returned (.string ⟨#[40]⟩) ∧ Below W.heap.size W w' := fun W hh => by have := text_any hh; rw [ht] at this; exact this
  have ih1 := fun W => ih W (i + 1, F)
  have ih2 := fun W => ih W s2
  have hm0 : ((60 - f : Nat) : Int) = ((59 - f : Nat) : Int) + 1 := by omega
  have hm1 : ((59 - f : Nat) : Int) < 60 := by omega
  have hm2 : 0 ≤ ((59 - f : Nat) : Int) := by omega
  rw [hm0, hp] at ih1
  rw [hm0, hq] at ih2
  have t1 : ∀ W, Rd W base rb v T en p.2 cs → Calls Tryz.prog 60 #[.pointer (some ⟨rb, 0, none⟩), .string ⟨#[105, 115]⟩] W fun e w' => e = .returned (.bool false) ∧ Rd w' base rb v T en p.2 cs ∧ W.grownBy w' (some rb) := fun W hh => by have := take_any hh w_is (by decide); rw [hb] at this; exact this
  have t2 : ∀ W, Rd W base rb v T en p.2 cs → Calls Tryz.prog 115 #[.pointer (some ⟨rb, 0, none⟩)] W fun e w' => e = .returned (.string ⟨(txS T p.2).toArray⟩) ∧ Below W.heap.size W w' := fun W hh => text_any hh
  have t4 : ∀ W, Rd W base rb v T en q.2 cs → Calls Tryz.prog 62 #[.pointer (some ⟨rb, 0, none⟩), .string ⟨#[41]⟩] W fun e w' => e = .returned (.tuple #[]) ∧ Rd w' base rb v T en s4 cs ∧ W.grownBy w' (some rb) := fun W hh => by have := need_any hh [41] (by decide); rw [hs4] at this; exact this
  have HO : Hid (operS T p.2 = (K, s2)) := ho
  have t3 : operK (txS T p.2) ≠ 0 → ∀ W, Rd W base rb v T en p.2 cs → Calls Tryz.prog 62 #[.pointer (some ⟨rb, 0, none⟩), .string ⟨(txS T p.2).toArray⟩] W fun e w' => e = .returned (.tuple #[]) ∧ Rd w' base rb v T en s2 cs ∧ W.grownBy w' (some rb) := by
    intro hk W hh
    have hne : txS T p.2 ≠ [] := by intro e; rw [e] at hk; exact hk (by decide)
    have := need_any hh (txS T p.2) hne
    have e : (needS T (txS T p.2) p.2).2 = s2 := oper_need HO.out hk
    rw [e] at this
    exact this
  have t5 : operK (txS T p.2) = 0 → K = 0 ∧ s2 = (p.2.1, true) := by
    intro hk
    have e1 := HO.out
    unfold operS at e1
    rw [if_pos hk] at e1
    exact ⟨(Prod.mk.inj e1).1.symm, (Prod.mk.inj e1).2.symm⟩
  have t6 : operK (txS T p.2) ≠ 0 → K = operK (txS T p.2) := by
    intro hk
    have e1 := HO.out
    unfold operS at e1
    rw [if_neg hk] at e1
    exact (Prod.mk.inj e1).1.symm
  have T3 := hide t3
  have T5 := hide t5
  have T6 := hide t6
  generalize ((59 - f : Nat) : Int) = m at *
  generalize hT2 : txS T p.2 = t at *
  have hm3 : (m == 60) = false := by rw [beq_eq_false_iff_ne]; omega
  clear h ih ht ex hm0 hf hb ho t3 t5 t6 hp hq hs4 HO hT2
  go_enter Tryz.func67, Tryz.ntmps67
  go_wp2_with (first | (refine wpList_alloc_blk 4 29 z29 rfl rfl rfl Tryz.alloc29 ?_; intro W0 eb heb k0 b0; have R0 := hide (H.out.below b0)) | (go_at_call 115; refine (hx _ R0.out).mono ?_; rintro e w1 ⟨rfl, b1⟩; have R1 := hide (R0.out.below b1); have k1 := (b1.block eb (ltS k0)).trans k0; obtain ⟨⟨c0, c1, c2, c3⟩, f1, f3⟩ := rd4 R1.out.blk))
  refine (ih1 _ (step_eq R1.out hm)).mono ?_
  rintro e w3 ⟨⟨u, rfl, x3⟩, R3, g3⟩
  obtain ⟨k, x, nm, ao, na, ca, rfl⟩ := ExAt.form x3
  have hne : eb ≠ rb := by have := heb.out; omega
  have k2 := (heap_setCell_other w1 ⟨rb, 1, none⟩ eb (.int .i64 ((i : Int) + 1)) hne).trans k1
  have k3 := kept_rb g3 k2 hne
  have X3 := hide x3
  have HR3 := hide R3
  rw [set_size] at X3
  have hb3 := g3.size
  rw [set_size] at hb3
  have he1 := (ltS k1)
  have hr1 := R1.out.rb_lt
  unfold exV
  clear x3 R3
  go_wp2_with (first | (refine wpList_alloc_blk 7 29 z29 rfl rfl rfl Tryz.alloc29 ?_; intro w4 ab hab k4 b4) | (refine wpList_store_whole 29 _ _ rfl rfl ab z29 (exL k x nm (.slice ao na ca)) 29 rfl rfl (by exact k4) rfl Tryz.size29 (exL_one _ _ _ _ _ _) ?_; intro w5 k5 p5; have B5 := below_put hab b4 p5; have R5 := hide (HR3.out.below B5); have X5 := hide (X3.out.under B5); have e5 := (B5.block eb (ltS k3)).trans k3; clear p5))
  have hane : ab ≠ rb := by have := hab.out; omega
  refine (t1 _ R5.out).mono ?_
  rintro e w6 ⟨rfl, R6, g6⟩
  have k6 := kept_rb g6 k5 hane
  have e6 := kept_rb g6 e5 hne
  have X6 := hide (X5.out.grown hr1 g6)
  have HR6 := hide R6
  have G6 : w.grownBy w6 (some rb) := grown_trans (grown_below b0 _) (grown_trans (grown_below b1 _) (grown_trans (grown_set _ rb 1 _) (grown_trans g3 (grown_trans (grown_below B5 _) g6))))
  have hw6 : w1.heap.size ≤ w6.heap.size := Nat.le_trans hb3 (Nat.le_trans B5.size g6.size)
  obtain ⟨wX, hX⟩ : ∃ wX, wX = w6.alloc (.cells (ops7.map fun x => Value.string ⟨x.toArray⟩).toArray 9) := ⟨_, rfl⟩
  have bX : Below w6.heap.size w6 wX := by rw [hX]; exact (Below.refl _ _).alloc (Nat.le_refl _) _
  have cX : ∀ j op, ops7[j]? = some op → wX.cell? ⟨w6.heap.size, j, none⟩ = some (.string ⟨op.toArray⟩) := by
    intro j op hj
    rw [hX]
    refine (Lib.cell_of_heap (heap_alloc_new w6 (.cells (ops7.map fun x => Value.string ⟨x.toArray⟩).toArray 9)) j).trans ?_
    simp [hj]
  have lX : w6.heap.size < wX.heap.size := by rw [hX]; simp
  have HX := hide hX
  have CX := hide cX
  clear R6 g6 k3 k2 k1 k0 hX cX
  go_wp2
  go_loopw [8, 10] (fun kd n wl => ∃ a : Nat, a ≤ 7 ∧ n = .int .i64 a ∧ kd = .int .i64 (seenK t a : Nat) ∧ Below wX.heap.size wX wl) (fun _ n _ => 7 - (intOf n).toNat)
  case atStart =>
    refine ⟨0, by decide, rfl, ?_, by rw [HX.out]; exact Below.refl _ _⟩
    have : seenK t 0 = 0 := by unfold seenK; rcases operK_le t with h | h; rw [h]; rfl; rw [if_neg (by omega)]
    rw [this]; rfl
  case round =>
    obtain ⟨a, ha, rfl, rfl, hnx⟩ := hrel
    by_cases hlt7 : a < 7
    · obtain ⟨op, hop⟩ : ∃ op, ops7[a]? = some op := ⟨ops7[a]'(by simpa [ops7] using hlt7), List.getElem?_eq_getElem _⟩
      have c0 := (hnx.cell (p := ⟨w6.heap.size, a, none⟩) lX).trans (CX.out a op hop)
      have HP := hide hop
      have hlt' : (a : Int) < 7 := by omega
      have tt : ∀ W, Below wX.heap.size wX W → Calls Tryz.prog 115 #[.pointer (some ⟨rb, 0, none⟩)] W fun e w' => e = .returned (.string ⟨t.toArray⟩) ∧ Below W.heap.size W w' := fun W hW => t2 W ((HR6.out.below bX).below hW)
      clear hop
      by_cases he : t = op
      · have hs := seenK_yes HP.out he
        have HS := hide hs
        subst he
        generalize seenK t a = sa at *
        clear hs
        go_wp2_with fail
        go_region_held3 (fun w' => w'.cell? ⟨w6.heap.size, a, none⟩ = some (.string ⟨t.toArray⟩) ∧ Below wX.heap.size wX w') (first | exact ⟨c0, hnx.drew⟩ | exact keepT lX (by assumption) (by assumption)) (first | (go_at_call 115; refine (tt _ (ofT (by assumption))).mono ?_; rintro e w' ⟨rfl, hb⟩))
        rename_i hH
        have q8 := hH.2
        clear hH
        go_wp2
        go_roundw
        case rel => exact ⟨a + 1, by omega, by go_num, by rw [HS.out]; go_num, q8⟩
        case measure => simp [intOf]; omega
      · have hs := seenK_no HP.out he
        have HS := hide hs
        have hq : (t == op) = false := by simpa using he
        generalize seenK t a = sa at *
        clear hs he
        go_wp2_with fail
        go_region_held3 (fun w' => w'.cell? ⟨w6.heap.size, a, none⟩ = some (.string ⟨op.toArray⟩) ∧ Below wX.heap.size wX w') (first | exact ⟨c0, hnx.drew⟩ | exact keepT lX (by assumption) (by assumption)) (first | (go_at_call 115; refine (tt _ (ofT (by assumption))).mono ?_; rintro e w' ⟨rfl, hb⟩))
        rename_i hH
        have q8 := hH.2
        clear hH
        go_wp2
        go_roundw
        case rel => exact ⟨a + 1, by omega, by go_num, by rw [HS.out], q8⟩
        case measure => simp [intOf]; omega
    · have ha7 : a = 7 := by omega
      subst ha7
      have hs : seenK t 7 = operK t := by unfold seenK; rw [if_pos (by rcases operK_le t with h | h <;> omega)]
      rw [hs]
      have kX := (bX.block ab (ltS k6)).trans k6
      have eX := (bX.block eb (ltS e6)).trans e6
      have kX := (hnx.block ab (ltS kX)).trans kX
      have eX := (hnx.block eb (ltS eX)).trans eX
      have XX := hide ((X6.out.under bX).under hnx)
      have RX := hide ((HR6.out.below bX).below hnx)
      have GX : w.grownBy wr (some rb) := grown_trans G6 (grown_trans (grown_below bX _) (grown_below hnx _))
      have sX : w1.heap.size ≤ wr.heap.size := Nat.le_trans hw6 (Nat.le_trans bX.size hnx.size)
      clear hs k6 e6 X6
      by_cases hK : operK t = 0
      · obtain ⟨rfl, rfl⟩ := T5.out hK
        rw [hK]
        obtain ⟨⟨c0, c1, c2, c3⟩, f1, f3⟩ := rd4 RX.out.blk
        have RF := hide (show Rd (wr.setCell ⟨rb, 3, none⟩ (.bool true)) base rb v T en (p.2.1, true) cs from Rd.fail (i := p.2.1) (F := p.2.2) RX.out)
        clear T3 T5 T6 CX HX hK
        go_wp2_with fail
        refine (ih2 _ RF.out).mono ?_
        rintro e wE ⟨⟨u', rfl, xE⟩, RE, gE⟩
        obtain ⟨k', x', nm', ao', na', ca', rfl⟩ := ExAt.form xE
        have XE := hide xE
        have HRE := hide RE
        have gXE := grown_trans (grown_set wr rb 3 (.bool true)) gE
        have kE := kept_rb gXE kX hane
        have eE := kept_rb gXE eX hne
        have X1 := hide (XX.out.grown hr1 gXE)
        have sE := gXE.size
        rw [set_size] at XE
        unfold exV
        clear xE RE
        go_wp2_with (first | (refine wpList_alloc_blk 11 29 z29 rfl rfl rfl Tryz.alloc29 ?_; intro w10 bb hbb k10 b10) | (refine wpList_store_whole 29 _ _ rfl rfl bb z29 (exL k' x' nm' (.slice ao' na' ca')) 29 rfl rfl (by exact k10) rfl Tryz.size29 (exL_one _ _ _ _ _ _) ?_; intro w11 k11 p11; have B11 := below_put hbb b10 p11; have R11 := hide (HRE.out.below B11); have Y11 := hide (XE.out.under B11); have X11 := hide (X1.out.under B11); have e11 := (B11.block eb (ltS eE)).trans eE; have a11 := (B11.block ab (ltS kE)).trans kE; clear p11))
        have hbne : bb ≠ rb := by have := hbb.out; omega
        refine (t4 _ R11.out).mono ?_
        rintro e w12 ⟨rfl, R12, g12⟩
        have k12 := kept_rb g12 k11 hbne
        have e12 := kept_rb g12 e11 hne
        have a12 := kept_rb g12 a11 hane
        have Y12 := hide (Y11.out.grown (by omega) g12)
        have X12 := hide (X11.out.grown hr1 g12)
        have HR12 := hide R12
        clear R12
        go_wp2_with (first | (refine wpList_load_whole 29 _ rfl rfl ab (exL k x nm (.slice ao na ca)) 29 _ rfl (by exact a12) Tryz.underlying29 rfl Tryz.size29 ?_) | (refine wpList_load_whole 29 _ rfl rfl bb (exL k' x' nm' (.slice ao' na' ca')) 29 _ rfl (by exact k12) Tryz.underlying29 rfl Tryz.size29 ?_) | (refine wpList_store_whole 29 _ _ rfl rfl eb z29 (exL 0 vl0 [] (.slice (some ⟨w12.heap.size, 0, none⟩) 2 2)) 29 rfl rfl (by exact (old_block _ (ltS e12)).trans e12) rfl Tryz.size29 (exL_one _ _ _ _ _ _) ?_; intro w13 k13 p13))
        have hE := heb.out
        have n1 : (w12.alloc (.cells (exL k x nm (.slice ao na ca) ++ exL k' x' nm' (.slice ao' na' ca')).toArray 29)).heap[w12.heap.size]? = some (.cells (exL k x nm (.slice ao na ca) ++ exL k' x' nm' (.slice ao' na' ca')).toArray 29) := heap_alloc_new _ _
        have n6 : w13.heap[w12.heap.size]? = some (.cells (exL k x nm (.slice ao na ca) ++ exL k' x' nm' (.slice ao' na' ca')).toArray 29) := by
          rw [p13.out]
          exact (putAll_other eb _ _ 0 _ (by have := (ltS e12); omega)).trans n1
        have x13 : ExAt w1.heap.size w13 (exV k x nm (.slice ao na ca)) p.1 := by
          rw [p13.out]
          exact (X12.out.alloc _).putAll he1 0 _
        have y13 : ExAt w1.heap.size w13 (exV k' x' nm' (.slice ao' na' ca')) q.1 := by
          rw [p13.out]
          exact ((Y12.out.weak (by omega)).alloc _).putAll he1 0 _
        have b0s := b0.size
        have b1s := b1.size
        have b11s := B11.size
        have gs := g12.size
        refine bodyPost_ret (results_whole Tryz.results67 _ _ eb _ 29 _ rfl k13 Tryz.underlying29 rfl Tryz.size29) rfl ⟨⟨_, rfl, ?_⟩, Rd.putNew p13 (HR12.out.below ((Below.refl _ _).alloc (Nat.le_refl _) _)) (by omega), ?_⟩
        · exact (ex_two n6 (by omega) x13 y13 0 2).weak (by omega)
        · exact grown_new p13 (grown_trans GX (grown_trans gXE (grown_trans (grown_below B11 _) (grown_trans g12 (grown_below ((Below.refl _ _).alloc (Nat.le_refl _) _) _))))) (by omega)
      · have hk := operK_le t
        have T3 := T3.out hK
        have hKK := T6.out hK
        have cK : wr.cell? ⟨w6.heap.size, operK t - 5, none⟩ = some (.string ⟨t.toArray⟩) := by
          obtain ⟨op, hop⟩ : ∃ op, ops7[operK t - 5]? = some op := ⟨ops7[operK t - 5]'(by simp [ops7]; omega), List.getElem?_eq_getElem _⟩
          have : t = op := (ops7_iff t (operK t - 5) op hop).2 (by omega)
          rw [← this] at hop
          exact (hnx.cell (p := ⟨w6.heap.size, operK t - 5, none⟩) lX).trans (CX.out _ _ hop)
        have hK5 : (5 : Int) ≤ (operK t : Nat) := by omega
        have hK11 : ((operK t : Nat) : Int) ≤ 11 := by omega
        have hK0 : (((operK t : Nat) : Int) == 0) = false := by rw [beq_eq_false_iff_ne]; omega
        have hKs : (((operK t : Nat) : Int) - 5).toNat = operK t - 5 := by omega
        have cK2 := cK
        rw [← hKs] at cK
        rw [← hKK] at *
        clear T5 T6 CX HX hK hk hKK hKs
        go_wp2_with fail
        refine (T3 _ RX.out).mono ?_
        rintro e wN ⟨rfl, RN, gN⟩
        go_wp2_with fail
        refine (ih2 _ RN).mono ?_
        rintro e wE ⟨⟨u', rfl, xE⟩, RE, gE⟩
        obtain ⟨k', x', nm', ao', na', ca', rfl⟩ := ExAt.form xE
        have XE := hide xE
        have HRE := hide RE
        have gXE := grown_trans gN gE
        have kE := kept_rb gXE kX hane
        have eE := kept_rb gXE eX hne
        have X1 := hide (XX.out.grown hr1 gXE)
        have sE := gXE.size
        have sN := gN.size
        unfold exV
        clear xE RE
        go_wp2_with (first | (refine wpList_alloc_blk 11 29 z29 rfl rfl rfl Tryz.alloc29 ?_; intro w10 bb hbb k10 b10) | (refine wpList_store_whole 29 _ _ rfl rfl bb z29 (exL k' x' nm' (.slice ao' na' ca')) 29 rfl rfl (by exact k10) rfl Tryz.size29 (exL_one _ _ _ _ _ _) ?_; intro w11 k11 p11; have B11 := below_put hbb b10 p11; have R11 := hide (HRE.out.below B11); have Y11 := hide (XE.out.under B11); have X11 := hide (X1.out.under B11); have e11 := (B11.block eb (ltS eE)).trans eE; have a11 := (B11.block ab (ltS kE)).trans kE; clear p11))
        have hbne : bb ≠ rb := by have := hbb.out; omega
        refine (t4 _ R11.out).mono ?_
        rintro e w12 ⟨rfl, R12, g12⟩
        have k12 := kept_rb g12 k11 hbne
        have e12 := kept_rb g12 e11 hne
        have a12 := kept_rb g12 a11 hane
        have Y12 := hide (Y11.out.grown (by omega) g12)
        have X12 := hide (X11.out.grown hr1 g12)
        have HR12 := hide R12
        clear R12
        go_wp2_with (first | (refine wpList_load_whole 29 _ rfl rfl ab (exL k x nm (.slice ao na ca)) 29 _ rfl (by exact a12) Tryz.underlying29 rfl Tryz.size29 ?_) | (refine wpList_load_whole 29 _ rfl rfl bb (exL k' x' nm' (.slice ao' na' ca')) 29 _ rfl (by exact k12) Tryz.underlying29 rfl Tryz.size29 ?_) | (refine wpList_store_whole 29 _ _ rfl rfl eb z29 (exL (K : Nat) vl0 [] (.slice (some ⟨w12.heap.size, 0, none⟩) 2 2)) 29 rfl rfl (by exact (old_block _ (ltS e12)).trans e12) rfl Tryz.size29 (exL_one _ _ _ _ _ _) ?_; intro w13 k13 p13))
        have hE := heb.out
        have n1 : (w12.alloc (.cells (exL k x nm (.slice ao na ca) ++ exL k' x' nm' (.slice ao' na' ca')).toArray 29)).heap[w12.heap.size]? = some (.cells (exL k x nm (.slice ao na ca) ++ exL k' x' nm' (.slice ao' na' ca')).toArray 29) := heap_alloc_new _ _
        have n6 : w13.heap[w12.heap.size]? = some (.cells (exL k x nm (.slice ao na ca) ++ exL k' x' nm' (.slice ao' na' ca')).toArray 29) := by
          rw [p13.out]
          exact (putAll_other eb _ _ 0 _ (by have := (ltS e12); omega)).trans n1
        have x13 : ExAt w1.heap.size w13 (exV k x nm (.slice ao na ca)) p.1 := by
          rw [p13.out]
          exact (X12.out.alloc _).putAll he1 0 _
        have y13 : ExAt w1.heap.size w13 (exV k' x' nm' (.slice ao' na' ca')) q.1 := by
          rw [p13.out]
          exact ((Y12.out.weak (by omega)).alloc _).putAll he1 0 _
        have b0s := b0.size
        have b1s := b1.size
        have b11s := B11.size
        have gs := g12.size
        refine bodyPost_ret (results_whole Tryz.results67 _ _ eb _ 29 _ rfl k13 Tryz.underlying29 rfl Tryz.size29) rfl ⟨⟨_, rfl, ?_⟩, Rd.putNew p13 (HR12.out.below ((Below.refl _ _).alloc (Nat.le_refl _) _)) (by omega), ?_⟩
        · exact (ex_two n6 (by omega) x13 y13 (K : Nat) 2).weak (by omega)
        · exact grown_new p13 (grown_trans GX (grown_trans gXE (grown_trans (grown_below B11 _) (grown_trans g12 (grown_below ((Below.refl _ _).alloc (Nat.le_refl _) _) _))))) (by omega)
theorem rexp_any {base rb : Nat} {v : Value} {T : List Tk} {en : Int} {cs : List Value} (f : Nat) : ∀ (_ : f ≤ 60) (w : World) (s : Sx), Rd w base rb v T en s cs →
    Calls Tryz.prog 67 #[.pointer (some ⟨rb, 0, none⟩), .int .i64 ((60 - f : Nat) : Int)] w fun e w' => RExp w base rb v T en (exprS T f s) cs e w' := by
  induction f with
  | zero =>
    intro _ w s h
    obtain ⟨i, F⟩ := s
    rw [exprS]
    by_cases h1 : txS T (i, F) = [40] ∨ txS T (i, F) = w_not
    · rw [if_pos h1]
      exact rexp_deep h h1
    · rw [if_neg h1]
      rw [not_or] at h1
      cases hV : isVR (txS T (i, F)) with
      | true => rw [if_pos rfl]; exact rexp_val h _ h1.1 h1.2 hV
      | false => rw [if_neg (by simp)]; exact rexp_nam h _ h1.1 h1.2 hV
  | succ f ih =>
    intro hf w s h
    obtain ⟨i, F⟩ := s
    have ih := fun W s => ih (by omega) W s
    have e : ((60 - (f + 1) : Nat) : Int) = ((59 - f : Nat) : Int) := by omega
    rw [e]
    by_cases h1 : txS T (i, F) = w_not
    · exact rexp_not h f (by omega) h1 ih
    by_cases h2 : txS T (i, F) = [40]
    · rw [exprS, if_neg h1, if_pos h2]
      unfold thenS elseS
      cases hb : (takeS T w_is (exprS T f (i + 1, F)).2).1 with
      | true =>
        simp only [hb, if_true]
        exact rexp_null h f (by omega) h2 ih hb
      | false =>
        simp only [hb, Bool.false_eq_true, if_false]
        have hb2 : takeS T w_is (exprS T f (i + 1, F)).2 = (false, (exprS T f (i + 1, F)).2) := by
          revert hb
          unfold takeS
          split
          · intro hb; cases hb
          · intro _; rfl
        exact rexp_two h f (by omega) h2 ih _ rfl hb2 _ _ rfl _ rfl _ rfl
    · rw [exprS, if_neg h1, if_neg h2]
      cases hV : isVR (txS T (i, F)) with
      | true => rw [if_pos rfl]; exact rexp_val h _ h2 h1 hV
      | false => rw [if_neg (by simp)]; exact rexp_nam h _ h2 h1 hV
def RdC (w : World) (base rb : Nat) (v : Value) (T : List Tk) (en : Int) (L : Value × Value × Value) (s : Sx) (c : Cm) : Prop :=
  ∃ ea wa, Rd w base rb v T en s (cmL c L.1 L.2.1 L.2.2 ea wa) ∧ CmIn (rb + 1) w c L.1 L.2.1 L.2.2 ea wa
theorem RdC.rb_lt {w : World} {base rb : Nat} {v : Value} {T : List Tk} {en : Int} {L : Value × Value × Value} {s : Sx} {c : Cm} (h : RdC w base rb v T en L s c) : rb < w.heap.size := by
  obtain ⟨ea, wa, h1, h2⟩ := h
  exact h1.rb_lt
theorem lift_rd {w : World} {base rb : Nat} {v : Value} {T : List Tk} {en : Int} {L : Value × Value × Value} {s : Sx} {c : Cm} {f : Nat} {args : Array Value} {s' : Sx} {Q : Ending → World → Prop} (h : RdC w base rb v T en L s c)
    (k : ∀ cs, Rd w base rb v T en s cs → Calls Tryz.prog f args w fun e w' => Q e w' ∧ Rd w' base rb v T en s' cs ∧ w.grownBy w' (some rb)) :
    Calls Tryz.prog f args w fun e w' => Q e w' ∧ RdC w' base rb v T en L s' c ∧ w.grownBy w' (some rb) := by
  obtain ⟨ea, wa, h1, h2⟩ := h
  refine (k _ h1).mono ?_
  rintro e w' ⟨hq, hr, hg⟩
  exact ⟨hq, ⟨ea, wa, hr, h2.grown (Nat.lt_succ_self rb) hg⟩, hg⟩
theorem needC {w : World} {base rb : Nat} {v : Value} {T : List Tk} {en : Int} {L : Value × Value × Value} {s : Sx} {c : Cm} {s' : Sx} (h : RdC w base rb v T en L s c) (W : List UInt8) (hW : W ≠ []) (e : needS T W s = ((), s')) :
    Calls Tryz.prog 62 #[.pointer (some ⟨rb, 0, none⟩), .string ⟨W.toArray⟩] w fun e w' => e = .returned (.tuple #[]) ∧ RdC w' base rb v T en L s' c ∧ w.grownBy w' (some rb) :=
  lift_rd h fun cs hr => by have := need_any hr W hW; rw [e] at this; exact this
theorem takeC {w : World} {base rb : Nat} {v : Value} {T : List Tk} {en : Int} {L : Value × Value × Value} {s : Sx} {c : Cm} {b : Bool} {s' : Sx} (h : RdC w base rb v T en L s c) (W : List UInt8) (hW : W ≠ []) (e : takeS T W s = (b, s')) :
    Calls Tryz.prog 60 #[.pointer (some ⟨rb, 0, none⟩), .string ⟨W.toArray⟩] w fun e w' => e = .returned (.bool b) ∧ RdC w' base rb v T en L s' c ∧ w.grownBy w' (some rb) :=
  lift_rd h fun cs hr => by have := take_any hr W hW; rw [e] at this; exact this
theorem nameC {w : World} {base rb : Nat} {v : Value} {T : List Tk} {en : Int} {L : Value × Value × Value} {s : Sx} {c : Cm} {n : List UInt8} {s' : Sx} (h : RdC w base rb v T en L s c) (e : nameS T s = (n, s')) :
    Calls Tryz.prog 63 #[.pointer (some ⟨rb, 0, none⟩)] w fun e w' => e = .returned (.string ⟨n.toArray⟩) ∧ RdC w' base rb v T en L s' c ∧ w.grownBy w' (some rb) :=
  lift_rd h fun cs hr => by have := rnm_any hr; rw [e] at this; exact this
theorem typeC {w : World} {base rb : Nat} {v : Value} {T : List Tk} {en : Int} {L : Value × Value × Value} {s : Sx} {c : Cm} {n : Nat} {s' : Sx} (h : RdC w base rb v T en L s c) (e : typeS T s = (n, s')) :
    Calls Tryz.prog 116 #[.pointer (some ⟨rb, 0, none⟩)] w fun e w' => e = .returned (.int .i64 (n : Nat)) ∧ RdC w' base rb v T en L s' c ∧ w.grownBy w' (some rb) :=
  lift_rd h fun cs hr => by have := rtyp_any hr; rw [e] at this; exact this
theorem numC {w : World} {base rb : Nat} {v : Value} {T : List Tk} {en : Int} {L : Value × Value × Value} {s : Sx} {c : Cm} {n : Nat} {s' : Sx} (h : RdC w base rb v T en L s c) (e : numberS T s = (n, s')) :
    Calls Tryz.prog 119 #[.pointer (some ⟨rb, 0, none⟩)] w fun e w' => e = .returned (.int .i64 (n : Nat)) ∧ RdC w' base rb v T en L s' c ∧ w.grownBy w' (some rb) :=
  lift_rd h fun cs hr => by have := rnum_any hr; rw [e] at this; exact this
theorem valC {w : World} {base rb : Nat} {v : Value} {T : List Tk} {en : Int} {L : Value × Value × Value} {s : Sx} {c : Cm} {x : Vl} {s' : Sx} (h : RdC w base rb v T en L s c) (e : valueS T s = (x, s')) :
    Calls Tryz.prog 65 #[.pointer (some ⟨rb, 0, none⟩)] w fun e w' => e = .returned (.agg #[.int .i64 x.k, .int .i64 x.n, .string ⟨x.s.toArray⟩]) ∧ RdC w' base rb v T en L s' c ∧ w.grownBy w' (some rb) :=
  lift_rd h fun cs hr => by have := rval_any hr; rw [e] at this; exact this
theorem expC {w : World} {base rb : Nat} {v : Value} {T : List Tk} {en : Int} {L : Value × Value × Value} {s : Sx} {c : Cm} {x : Ex} {s' : Sx} (h : RdC w base rb v T en L s c) (e : exprS T 60 s = (x, s')) :
    Calls Tryz.prog 67 #[.pointer (some ⟨rb, 0, none⟩), .int .i64 0] w fun e w' => (∃ a, e = .returned (.agg (exL x.k x.v x.nm a).toArray) ∧ ExAt w.heap.size w' (exV x.k x.v x.nm a) x) ∧ RdC w' base rb v T en L s' c ∧ w.grownBy w' (some rb) :=
  lift_rd h fun cs hr => by
    have := rexp_any (T := T) (cs := cs) 60 (Nat.le_refl _) w s hr
    rw [e] at this
    refine this.mono ?_
    rintro e w' ⟨⟨u, rfl, hu⟩, hr, hg⟩
    obtain ⟨k, y, nm, ao, n, ca, rfl⟩ := hu.form
    obtain ⟨rfl, rfl, rfl⟩ := hu.parts
    exact ⟨⟨_, rfl, hu⟩, hr, hg⟩
theorem take_false {T : List Tk} {W : List UInt8} {s s' : Sx} (h : takeS T W s = (false, s')) : s' = s := by
  revert h
  unfold takeS
  split
  · intro h; cases h
  · intro h; cases h; rfl
theorem hereC {w : World} {base rb : Nat} {v : Value} {T : List Tk} {en : Int} {L : Value × Value × Value} {s : Sx} {c : Cm} (h : RdC w base rb v T en L s c) : Calls Tryz.prog 24 #[.pointer (some ⟨rb, 0, none⟩)] w fun e w' => e = .returned (.int .i64 (pl T en s.1)) ∧ Below w.heap.size w w' := by
  obtain ⟨ea, wa, h1, h2⟩ := h
  exact rhere_any h1
theorem Rd.field {w : World} {base rb : Nat} {v : Value} {T : List Tk} {en : Int} {s : Sx} {cs : List Value} (h : Rd w base rb v T en s cs) (k : Nat) (x : Value) : Rd (w.setCell ⟨rb, 4 + k, none⟩ x) base rb v T en s (cs.set k x) := by
  refine ⟨?_, h.own.kept (grown_set w rb _ _) (.inr h.ne), h.lt, h.le, h.few, h.toks, h.ist⟩
  have := heap_setCell_same _ rb (4 + k) _ 50 x h.blk
  rw [this]
  rw [show 4 + k = k + 1 + 1 + 1 + 1 by omega]
  simp
theorem set_kind {w : World} {base rb : Nat} {v : Value} {T : List Tk} {en : Int} {L : Value × Value × Value} {s : Sx} {c : Cm} (h : RdC w base rb v T en L s c) (n : Int) : RdC (w.setCell ⟨rb, 4, none⟩ (.int .i64 n)) base rb v T en L s { c with kind := n } := by
  obtain ⟨ea, wa, h1, h2⟩ := h
  have q := h2.put (Nat.lt_succ_self rb) 4 (.int .i64 n)
  exact ⟨ea, wa, h1.field 0 (.int .i64 n), ⟨q.cols, q.vals, q.fields, q.expr, q.wh⟩⟩
theorem fld_kind {w : World} {base rb : Nat} {v : Value} {T : List Tk} {en : Int} {L : Value × Value × Value} {s : Sx} {c : Cm} (h : RdC w base rb v T en L s c) : (∃ x, w.cell? ⟨rb, 4, none⟩ = some x) ∧ w.frozen? ⟨rb, 4, none⟩ = false := by
  obtain ⟨ea, wa, h1, h2⟩ := h
  exact ⟨⟨_, (Lib.cell_of_heap h1.blk _).trans rfl⟩, Lib.frozen_of_heap h1.blk _⟩
theorem set_name {w : World} {base rb : Nat} {v : Value} {T : List Tk} {en : Int} {L : Value × Value × Value} {s : Sx} {c : Cm} (h : RdC w base rb v T en L s c) (n : List UInt8) : RdC (w.setCell ⟨rb, 5, none⟩ (.string ⟨n.toArray⟩)) base rb v T en L s { c with name := n } := by
  obtain ⟨ea, wa, h1, h2⟩ := h
  have q := h2.put (Nat.lt_succ_self rb) 5 (.string ⟨n.toArray⟩)
  exact ⟨ea, wa, h1.field 1 (.string ⟨n.toArray⟩), ⟨q.cols, q.vals, q.fields, q.expr, q.wh⟩⟩
theorem fld_name {w : World} {base rb : Nat} {v : Value} {T : List Tk} {en : Int} {L : Value × Value × Value} {s : Sx} {c : Cm} (h : RdC w base rb v T en L s c) : (∃ x, w.cell? ⟨rb, 5, none⟩ = some x) ∧ w.frozen? ⟨rb, 5, none⟩ = false := by
  obtain ⟨ea, wa, h1, h2⟩ := h
  exact ⟨⟨_, (Lib.cell_of_heap h1.blk _).trans rfl⟩, Lib.frozen_of_heap h1.blk _⟩
theorem set_other {w : World} {base rb : Nat} {v : Value} {T : List Tk} {en : Int} {L : Value × Value × Value} {s : Sx} {c : Cm} (h : RdC w base rb v T en L s c) (n : List UInt8) : RdC (w.setCell ⟨rb, 6, none⟩ (.string ⟨n.toArray⟩)) base rb v T en L s { c with other := n } := by
  obtain ⟨ea, wa, h1, h2⟩ := h
  have q := h2.put (Nat.lt_succ_self rb) 6 (.string ⟨n.toArray⟩)
  exact ⟨ea, wa, h1.field 2 (.string ⟨n.toArray⟩), ⟨q.cols, q.vals, q.fields, q.expr, q.wh⟩⟩
theorem fld_other {w : World} {base rb : Nat} {v : Value} {T : List Tk} {en : Int} {L : Value × Value × Value} {s : Sx} {c : Cm} (h : RdC w base rb v T en L s c) : (∃ x, w.cell? ⟨rb, 6, none⟩ = some x) ∧ w.frozen? ⟨rb, 6, none⟩ = false := by
  obtain ⟨ea, wa, h1, h2⟩ := h
  exact ⟨⟨_, (Lib.cell_of_heap h1.blk _).trans rfl⟩, Lib.frozen_of_heap h1.blk _⟩
theorem set_column {w : World} {base rb : Nat} {v : Value} {T : List Tk} {en : Int} {L : Value × Value × Value} {s : Sx} {c : Cm} (h : RdC w base rb v T en L s c) (n : List UInt8) : RdC (w.setCell ⟨rb, 7, none⟩ (.string ⟨n.toArray⟩)) base rb v T en L s { c with column := n } := by
  obtain ⟨ea, wa, h1, h2⟩ := h
  have q := h2.put (Nat.lt_succ_self rb) 7 (.string ⟨n.toArray⟩)
  exact ⟨ea, wa, h1.field 3 (.string ⟨n.toArray⟩), ⟨q.cols, q.vals, q.fields, q.expr, q.wh⟩⟩
theorem fld_column {w : World} {base rb : Nat} {v : Value} {T : List Tk} {en : Int} {L : Value × Value × Value} {s : Sx} {c : Cm} (h : RdC w base rb v T en L s c) : (∃ x, w.cell? ⟨rb, 7, none⟩ = some x) ∧ w.frozen? ⟨rb, 7, none⟩ = false := by
  obtain ⟨ea, wa, h1, h2⟩ := h
  exact ⟨⟨_, (Lib.cell_of_heap h1.blk _).trans rfl⟩, Lib.frozen_of_heap h1.blk _⟩
theorem set_ty {w : World} {base rb : Nat} {v : Value} {T : List Tk} {en : Int} {L : Value × Value × Value} {s : Sx} {c : Cm} (h : RdC w base rb v T en L s c) (n : Int) : RdC (w.setCell ⟨rb, 9, none⟩ (.int .i64 n)) base rb v T en L s { c with ty := n } := by
  obtain ⟨ea, wa, h1, h2⟩ := h
  have q := h2.put (Nat.lt_succ_self rb) 9 (.int .i64 n)
  exact ⟨ea, wa, h1.field 5 (.int .i64 n), ⟨q.cols, q.vals, q.fields, q.expr, q.wh⟩⟩
theorem fld_ty {w : World} {base rb : Nat} {v : Value} {T : List Tk} {en : Int} {L : Value × Value × Value} {s : Sx} {c : Cm} (h : RdC w base rb v T en L s c) : (∃ x, w.cell? ⟨rb, 9, none⟩ = some x) ∧ w.frozen? ⟨rb, 9, none⟩ = false := by
  obtain ⟨ea, wa, h1, h2⟩ := h
  exact ⟨⟨_, (Lib.cell_of_heap h1.blk _).trans rfl⟩, Lib.frozen_of_heap h1.blk _⟩
theorem set_all {w : World} {base rb : Nat} {v : Value} {T : List Tk} {en : Int} {L : Value × Value × Value} {s : Sx} {c : Cm} (h : RdC w base rb v T en L s c) (n : Bool) : RdC (w.setCell ⟨rb, 21, none⟩ (.bool n)) base rb v T en L s { c with all := n } := by
  obtain ⟨ea, wa, h1, h2⟩ := h
  have q := h2.put (Nat.lt_succ_self rb) 21 (.bool n)
  exact ⟨ea, wa, h1.field 17 (.bool n), ⟨q.cols, q.vals, q.fields, q.expr, q.wh⟩⟩
theorem fld_all {w : World} {base rb : Nat} {v : Value} {T : List Tk} {en : Int} {L : Value × Value × Value} {s : Sx} {c : Cm} (h : RdC w base rb v T en L s c) : (∃ x, w.cell? ⟨rb, 21, none⟩ = some x) ∧ w.frozen? ⟨rb, 21, none⟩ = false := by
  obtain ⟨ea, wa, h1, h2⟩ := h
  exact ⟨⟨_, (Lib.cell_of_heap h1.blk _).trans rfl⟩, Lib.frozen_of_heap h1.blk _⟩
theorem set_order {w : World} {base rb : Nat} {v : Value} {T : List Tk} {en : Int} {L : Value × Value × Value} {s : Sx} {c : Cm} (h : RdC w base rb v T en L s c) (n : List UInt8) : RdC (w.setCell ⟨rb, 28, none⟩ (.string ⟨n.toArray⟩)) base rb v T en L s { c with order := n } := by
  obtain ⟨ea, wa, h1, h2⟩ := h
  have q := h2.put (Nat.lt_succ_self rb) 28 (.string ⟨n.toArray⟩)
  exact ⟨ea, wa, h1.field 24 (.string ⟨n.toArray⟩), ⟨q.cols, q.vals, q.fields, q.expr, q.wh⟩⟩
theorem fld_order {w : World} {base rb : Nat} {v : Value} {T : List Tk} {en : Int} {L : Value × Value × Value} {s : Sx} {c : Cm} (h : RdC w base rb v T en L s c) : (∃ x, w.cell? ⟨rb, 28, none⟩ = some x) ∧ w.frozen? ⟨rb, 28, none⟩ = false := by
  obtain ⟨ea, wa, h1, h2⟩ := h
  exact ⟨⟨_, (Lib.cell_of_heap h1.blk _).trans rfl⟩, Lib.frozen_of_heap h1.blk _⟩
theorem set_limit {w : World} {base rb : Nat} {v : Value} {T : List Tk} {en : Int} {L : Value × Value × Value} {s : Sx} {c : Cm} (h : RdC w base rb v T en L s c) (n : Int) : RdC (w.setCell ⟨rb, 29, none⟩ (.int .i64 n)) base rb v T en L s { c with limit := n } := by
  obtain ⟨ea, wa, h1, h2⟩ := h
  have q := h2.put (Nat.lt_succ_self rb) 29 (.int .i64 n)
  exact ⟨ea, wa, h1.field 25 (.int .i64 n), ⟨q.cols, q.vals, q.fields, q.expr, q.wh⟩⟩
theorem fld_limit {w : World} {base rb : Nat} {v : Value} {T : List Tk} {en : Int} {L : Value × Value × Value} {s : Sx} {c : Cm} (h : RdC w base rb v T en L s c) : (∃ x, w.cell? ⟨rb, 29, none⟩ = some x) ∧ w.frozen? ⟨rb, 29, none⟩ = false := by
  obtain ⟨ea, wa, h1, h2⟩ := h
  exact ⟨⟨_, (Lib.cell_of_heap h1.blk _).trans rfl⟩, Lib.frozen_of_heap h1.blk _⟩
section
variable {P : Program} {ops : Array Oper} {rest : List Oper} {op : Oper} {a : Act} {w : World} {Q : Exit → Act → World → Prop} {base rb : Nat} {v : Value} {T : List Tk} {en : Int} {L : Value × Value × Value} {s : Sx} {c : Cm}
theorem Rd.putIn {w w' : World} {s : Sx} {cs cs' xs : List Value} {o : Nat} (h : Rd w base rb v T en s cs) (p : Hid (w' = putAll w rb o xs)) (hb : w'.heap[rb]? = some (.cells (v :: .int .i64 ((s.1 : Nat) : Int) :: .int .i64 en :: .bool s.2 :: cs').toArray 50)) : Rd w' base rb v T en s cs' := by
  refine ⟨hb, ?_, h.lt, h.le, h.few, h.toks, h.ist⟩
  rw [p.out]
  exact h.own.kept (putAll_grown rb xs w o) (.inr h.ne)
theorem wpList_rd_val (h : RdC w base rb v T en L s c) (x : Vl) (X Y : Operand) (hi : (P.info? 24).map (·.size) = some 3) (hgd : op.guard = none) (ho : op.op = .store 24 X Y) (hx : a.eval X = .pointer (some ⟨rb, 10, none⟩)) (hy : a.eval Y = .agg #[.int .i64 x.k, .int .i64 x.n, .string ⟨x.s.toArray⟩])
    (k : ∀ w', RdC w' base rb v T en L s { c with val := x } → w.grownBy w' (some rb) → wpList P ops Q rest (a.put op.dst undef) w') : wpList P ops Q (op :: rest) a w := by
  obtain ⟨ea, wa, h1, h2⟩ := h
  refine wpList_store_part 24 X Y hgd ho rb ([v, .int .i64 ((s.1 : Nat) : Int), .int .i64 en, .bool s.2] ++ (cmL c L.1 L.2.1 L.2.2 ea wa).take 6) [.int .i64 c.val.k, .int .i64 c.val.n, .string ⟨c.val.s.toArray⟩] ((cmL c L.1 L.2.1 L.2.2 ea wa).drop 9) [.int .i64 x.k, .int .i64 x.n, .string ⟨x.s.toArray⟩] 50 hx hy h1.blk rfl hi (by intro z hz; simp only [List.mem_cons, List.not_mem_nil, or_false] at hz; rcases hz with rfl | rfl | rfl <;> rfl) ?_
  intro w' hk hp
  have q := h2.putAll (Nat.lt_succ_self rb) 10 [.int .i64 x.k, .int .i64 x.n, .string ⟨x.s.toArray⟩]
  refine k w' ⟨ea, wa, h1.putIn hp hk, ?_⟩ (by rw [hp.out]; exact putAll_grown rb _ w _)
  rw [hp.out]
  exact ⟨q.cols, q.vals, q.fields, q.expr, q.wh⟩
theorem wpList_rd_expr (h : RdC w base rb v T en L s c) (x : Ex) (ea' : Value) (hu : ExAt (rb + 1) w (exV x.k x.v x.nm ea') x) (X Y : Operand) (hi : (P.info? 29).map (·.size) = some 6) (hgd : op.guard = none) (ho : op.op = .store 29 X Y) (hx : a.eval X = .pointer (some ⟨rb, 15, none⟩)) (hy : a.eval Y = .agg (exL x.k x.v x.nm ea').toArray)
    (k : ∀ w', RdC w' base rb v T en L s { c with expr := x } → w.grownBy w' (some rb) → wpList P ops Q rest (a.put op.dst undef) w') : wpList P ops Q (op :: rest) a w := by
  obtain ⟨ea, wa, h1, h2⟩ := h
  obtain ⟨k', y', nm', ao', n', ca', e'⟩ := hu.form
  have ho1 := hu.one
  refine wpList_store_part 29 X Y hgd ho rb ([v, .int .i64 ((s.1 : Nat) : Int), .int .i64 en, .bool s.2] ++ (cmL c L.1 L.2.1 L.2.2 ea wa).take 11) (exL c.expr.k c.expr.v c.expr.nm ea) ((cmL c L.1 L.2.1 L.2.2 ea wa).drop 17) (exL x.k x.v x.nm ea') 50 hx hy h1.blk rfl hi (by intro z hz; simp only [List.mem_cons, List.not_mem_nil, or_false] at hz; rcases hz with rfl | rfl | rfl | rfl | rfl | rfl <;> first | rfl | exact ho1) ?_
  intro w' hk hp
  have q := h2.putAll (Nat.lt_succ_self rb) 15 (exL x.k x.v x.nm ea')
  have u := hu.putAll (Nat.lt_succ_self rb) 15 (exL x.k x.v x.nm ea')
  refine k w' ⟨ea', wa, h1.putIn hp hk, ?_⟩ (by rw [hp.out]; exact putAll_grown rb _ w _)
  rw [hp.out]
  exact ⟨q.cols, q.vals, q.fields, u, q.wh⟩
theorem wpList_rd_where (h : RdC w base rb v T en L s c) (x : Ex) (ea' : Value) (hu : ExAt (rb + 1) w (exV x.k x.v x.nm ea') x) (X Y : Operand) (hi : (P.info? 29).map (·.size) = some 6) (hgd : op.guard = none) (ho : op.op = .store 29 X Y) (hx : a.eval X = .pointer (some ⟨rb, 22, none⟩)) (hy : a.eval Y = .agg (exL x.k x.v x.nm ea').toArray)
    (k : ∀ w', RdC w' base rb v T en L s { c with wh := x } → w.grownBy w' (some rb) → wpList P ops Q rest (a.put op.dst undef) w') : wpList P ops Q (op :: rest) a w := by
  obtain ⟨ea, wa, h1, h2⟩ := h
  have ho1 := hu.one
  refine wpList_store_part 29 X Y hgd ho rb ([v, .int .i64 ((s.1 : Nat) : Int), .int .i64 en, .bool s.2] ++ (cmL c L.1 L.2.1 L.2.2 ea wa).take 18) (exL c.wh.k c.wh.v c.wh.nm wa) ((cmL c L.1 L.2.1 L.2.2 ea wa).drop 24) (exL x.k x.v x.nm ea') 50 hx hy h1.blk rfl hi (by intro z hz; simp only [List.mem_cons, List.not_mem_nil, or_false] at hz; rcases hz with rfl | rfl | rfl | rfl | rfl | rfl <;> first | rfl | exact ho1) ?_
  intro w' hk hp
  have q := h2.putAll (Nat.lt_succ_self rb) 22 (exL x.k x.v x.nm ea')
  have u := hu.putAll (Nat.lt_succ_self rb) 22 (exL x.k x.v x.nm ea')
  refine k w' ⟨ea, ea', h1.putIn hp hk, ?_⟩ (by rw [hp.out]; exact putAll_grown rb _ w _)
  rw [hp.out]
  exact ⟨q.cols, q.vals, q.fields, q.expr, u⟩
end
theorem whereC {w : World} {base rb : Nat} {v : Value} {T : List Tk} {en : Int} {L : Value × Value × Value} {s s' : Sx} {c c' : Cm} (h : RdC w base rb v T en L s c) (e : whereS T c s = (c', s')) :
    Calls Tryz.prog 66 #[.pointer (some ⟨rb, 0, none⟩)] w fun e w' => e = .returned (.tuple #[]) ∧ RdC w' base rb v T en L s' c' ∧ w.grownBy w' (some rb) := by
  obtain ⟨b, s1, h1⟩ : ∃ b s1, takeS T w_where s = (b, s1) := ⟨_, _, rfl⟩
  obtain ⟨⟨x0, c0⟩, z0⟩ := fld_all h
  have H1 := hide (set_all h true)
  have hlt := h.rb_lt
  have E := hide e
  have T1 := hide h1
  clear h e h1
  cases b with
  | false =>
    go_enter Tryz.func66, Tryz.ntmps66
    go_wp2_with fail
    refine (takeC H1.out w_where (by decide) T1.out).mono ?_
    rintro e w1 ⟨rfl, R1, g1⟩
    go_wp2
    go_end0
    have e1 : whereS T c s = ({ c with all := true }, s) := by unfold whereS elseS; rw [T1.out]; rfl
    have := E.out
    rw [e1] at this
    cases this
    rw [take_false T1.out] at R1
    exact ⟨rfl, R1, grown_trans (grown_set _ rb _ _) g1⟩
  | true =>
    obtain ⟨x, s2, h2⟩ : ∃ x s2, exprS T 60 s1 = (x, s2) := ⟨_, _, rfl⟩
    have T2 := hide h2
    clear h2
    go_enter Tryz.func66, Tryz.ntmps66
    go_wp2_with fail
    refine (takeC H1.out w_where (by decide) T1.out).mono ?_
    rintro e w1 ⟨rfl, R1, g1⟩
    obtain ⟨⟨x1, c1⟩, z1⟩ := fld_all R1
    have R2 := hide (set_all R1 false)
    clear R1
    go_wp2_with fail
    refine (expC R2.out T2.out).mono ?_
    rintro e w3 ⟨⟨ea, rfl, hu⟩, R3, g3⟩
    have HU := hide (hu.weak (B' := rb + 1) (by rw [set_size]; have := g1.size; rw [set_size] at this; omega))
    have HR3 := hide R3
    clear hu R3
    go_wp2_with (refine wpList_rd_where HR3.out x ea HU.out _ _ Tryz.size29 rfl rfl rfl rfl ?_; intro w4 R4 g4)
    go_end0
    have e1 : whereS T c s = ({ c with all := false, wh := x }, s2) := by unfold whereS elseS thenS; rw [T1.out]; simp only [if_true]; rw [T2.out]; rfl
    have := E.out
    rw [e1] at this
    cases this
    exact ⟨rfl, R4, grown_trans (grown_set _ rb _ _) (grown_trans g1 (grown_trans (grown_set _ rb _ _) (grown_trans g3 g4)))⟩
theorem alterC_add {w : World} {base rb : Nat} {v : Value} {T : List Tk} {en : Int} {L : Value × Value × Value} {s : Sx} {s1 s2 s3 s4 s5 s6 s7 : Sx} {n2 : List UInt8} {n4 : List UInt8} {t5 : Nat} {x7 : Vl} (h : RdC w base rb v T en L s cm0) (e1 : needS T w_table s = ((), s1)) (e2 : nameS T s1 = (n2, s2)) (e3 : takeS T w_add s2 = (true, s3)) (e4 : nameS T s3 = (n4, s4)) (e5 : typeS T s4 = (t5, s5)) (e6 : needS T w_default s5 = ((), s6)) (e7 : valueS T s6 = (x7, s7)) :
    Calls Tryz.prog 64 #[.pointer (some ⟨rb, 0, none⟩)] w fun e w' => e = .returned (.tuple #[]) ∧ RdC w' base rb v T en L s7 { cm0 with name := n2, kind := 3, column := n4, ty := (t5 : Nat), val := x7 } ∧ w.grownBy w' (some rb) := by
  have R0 := hide h
  have E1 := hide e1
  have E2 := hide e2
  have E3 := hide e3
  have E4 := hide e4
  have E5 := hide e5
  have E6 := hide e6
  have E7 := hide e7
  clear h e1 e2 e3 e4 e5 e6 e7
  go_enter Tryz.func64, Tryz.ntmps64
  go_wp2_with fail
  refine (needC R0.out w_table (by decide) E1.out).mono ?_
  rintro e w1 ⟨rfl, r1, g1⟩
  have R1 := hide r1
  clear r1
  go_wp2_with fail
  refine (nameC R1.out E2.out).mono ?_
  rintro e w2 ⟨rfl, r2, g2⟩
  obtain ⟨⟨xname2, cname2⟩, zname2⟩ := fld_name r2
  have R2 := hide (set_name r2 n2)
  clear r2
  go_wp2_with fail
  refine (takeC R2.out w_add (by decide) E3.out).mono ?_
  rintro e w3 ⟨rfl, r3, g3⟩
  obtain ⟨⟨xkind3, ckind3⟩, zkind3⟩ := fld_kind r3
  have R3 := hide (set_kind r3 3)
  clear r3
  go_wp2_with fail
  refine (nameC R3.out E4.out).mono ?_
  rintro e w4 ⟨rfl, r4, g4⟩
  obtain ⟨⟨xcolumn4, ccolumn4⟩, zcolumn4⟩ := fld_column r4
  have R4 := hide (set_column r4 n4)
  clear r4
  go_wp2_with fail
  refine (typeC R4.out E5.out).mono ?_
  rintro e w5 ⟨rfl, r5, g5⟩
  obtain ⟨⟨xty5, cty5⟩, zty5⟩ := fld_ty r5
  have R5 := hide (set_ty r5 (t5 : Nat))
  clear r5
  go_wp2_with fail
  refine (needC R5.out w_default (by decide) E6.out).mono ?_
  rintro e w6 ⟨rfl, r6, g6⟩
  have R6 := hide r6
  clear r6
  go_wp2_with fail
  refine (valC R6.out E7.out).mono ?_
  rintro e w7 ⟨rfl, r7, g7⟩
  have R7 := hide r7
  clear r7
  go_wp2_with (refine wpList_rd_val R7.out x7 _ _ Tryz.size24 rfl rfl rfl rfl ?_; intro v7 rv7 gv7; have RV7 := hide rv7; clear rv7)
  go_end0
  exact ⟨rfl, RV7.out, grown_trans g1 (grown_trans g2 (grown_trans (grown_set _ rb _ _) (grown_trans g3 (grown_trans (grown_set _ rb _ _) (grown_trans g4 (grown_trans (grown_set _ rb _ _) (grown_trans g5 (grown_trans (grown_set _ rb _ _) (grown_trans g6 (grown_trans g7 (gv7)))))))))))⟩
theorem alterC_drop {w : World} {base rb : Nat} {v : Value} {T : List Tk} {en : Int} {L : Value × Value × Value} {s : Sx} {s1 s2 s3 s4 s5 : Sx} {n2 : List UInt8} {n5 : List UInt8} (h : RdC w base rb v T en L s cm0) (e1 : needS T w_table s = ((), s1)) (e2 : nameS T s1 = (n2, s2)) (e3 : takeS T w_add s2 = (false, s3)) (e4 : takeS T w_drop s3 = (true, s4)) (e5 : nameS T s4 = (n5, s5)) :
    Calls Tryz.prog 64 #[.pointer (some ⟨rb, 0, none⟩)] w fun e w' => e = .returned (.tuple #[]) ∧ RdC w' base rb v T en L s5 { cm0 with name := n2, kind := 4, column := n5 } ∧ w.grownBy w' (some rb) := by
  have R0 := hide h
  have E1 := hide e1
  have E2 := hide e2
  have E3 := hide e3
  have E4 := hide e4
  have E5 := hide e5
  clear h e1 e2 e3 e4 e5
  go_enter Tryz.func64, Tryz.ntmps64
  go_wp2_with fail
  refine (needC R0.out w_table (by decide) E1.out).mono ?_
  rintro e w1 ⟨rfl, r1, g1⟩
  have R1 := hide r1
  clear r1
  go_wp2_with fail
  refine (nameC R1.out E2.out).mono ?_
  rintro e w2 ⟨rfl, r2, g2⟩
  obtain ⟨⟨xname2, cname2⟩, zname2⟩ := fld_name r2
  have R2 := hide (set_name r2 n2)
  clear r2
  go_wp2_with fail
  refine (takeC R2.out w_add (by decide) E3.out).mono ?_
  rintro e w3 ⟨rfl, r3, g3⟩
  have R3 := hide r3
  clear r3
  go_wp2_with fail
  refine (takeC R3.out w_drop (by decide) E4.out).mono ?_
  rintro e w4 ⟨rfl, r4, g4⟩
  obtain ⟨⟨xkind4, ckind4⟩, zkind4⟩ := fld_kind r4
  have R4 := hide (set_kind r4 4)
  clear r4
  go_wp2_with fail
  refine (nameC R4.out E5.out).mono ?_
  rintro e w5 ⟨rfl, r5, g5⟩
  obtain ⟨⟨xcolumn5, ccolumn5⟩, zcolumn5⟩ := fld_column r5
  have R5 := hide (set_column r5 n5)
  clear r5
  go_wp2
  go_end0
  exact ⟨rfl, R5.out, grown_trans g1 (grown_trans g2 (grown_trans (grown_set _ rb _ _) (grown_trans g3 (grown_trans g4 (grown_trans (grown_set _ rb _ _) (grown_trans g5 ((grown_set _ rb _ _))))))))⟩
theorem alterC_to {w : World} {base rb : Nat} {v : Value} {T : List Tk} {en : Int} {L : Value × Value × Value} {s : Sx} {s1 s2 s3 s4 s5 s6 s7 : Sx} {n2 : List UInt8} {n7 : List UInt8} (h : RdC w base rb v T en L s cm0) (e1 : needS T w_table s = ((), s1)) (e2 : nameS T s1 = (n2, s2)) (e3 : takeS T w_add s2 = (false, s3)) (e4 : takeS T w_drop s3 = (false, s4)) (e5 : takeS T w_rename s4 = (true, s5)) (e6 : takeS T w_to s5 = (true, s6)) (e7 : nameS T s6 = (n7, s7)) :
    Calls Tryz.prog 64 #[.pointer (some ⟨rb, 0, none⟩)] w fun e w' => e = .returned (.tuple #[]) ∧ RdC w' base rb v T en L s7 { cm0 with name := n2, kind := 7, other := n7 } ∧ w.grownBy w' (some rb) := by
  have R0 := hide h
  have E1 := hide e1
  have E2 := hide e2
  have E3 := hide e3
  have E4 := hide e4
  have E5 := hide e5
  have E6 := hide e6
  have E7 := hide e7
  clear h e1 e2 e3 e4 e5 e6 e7
  go_enter Tryz.func64, Tryz.ntmps64
  go_wp2_with fail
  refine (needC R0.out w_table (by decide) E1.out).mono ?_
  rintro e w1 ⟨rfl, r1, g1⟩
  have R1 := hide r1
  clear r1
  go_wp2_with fail
  refine (nameC R1.out E2.out).mono ?_
  rintro e w2 ⟨rfl, r2, g2⟩
  obtain ⟨⟨xname2, cname2⟩, zname2⟩ := fld_name r2
  have R2 := hide (set_name r2 n2)
  clear r2
  go_wp2_with fail
  refine (takeC R2.out w_add (by decide) E3.out).mono ?_
  rintro e w3 ⟨rfl, r3, g3⟩
  have R3 := hide r3
  clear r3
  go_wp2_with fail
  refine (takeC R3.out w_drop (by decide) E4.out).mono ?_
  rintro e w4 ⟨rfl, r4, g4⟩
  have R4 := hide r4
  clear r4
  go_wp2_with fail
  refine (takeC R4.out w_rename (by decide) E5.out).mono ?_
  rintro e w5 ⟨rfl, r5, g5⟩
  have R5 := hide r5
  clear r5
  go_wp2_with fail
  refine (takeC R5.out w_to (by decide) E6.out).mono ?_
  rintro e w6 ⟨rfl, r6, g6⟩
  obtain ⟨⟨xkind6, ckind6⟩, zkind6⟩ := fld_kind r6
  have R6 := hide (set_kind r6 7)
  clear r6
  go_wp2_with fail
  refine (nameC R6.out E7.out).mono ?_
  rintro e w7 ⟨rfl, r7, g7⟩
  obtain ⟨⟨xother7, cother7⟩, zother7⟩ := fld_other r7
  have R7 := hide (set_other r7 n7)
  clear r7
  go_wp2
  go_end0
  exact ⟨rfl, R7.out, grown_trans g1 (grown_trans g2 (grown_trans (grown_set _ rb _ _) (grown_trans g3 (grown_trans g4 (grown_trans g5 (grown_trans g6 (grown_trans (grown_set _ rb _ _) (grown_trans g7 ((grown_set _ rb _ _))))))))))⟩
theorem alterC_ren {w : World} {base rb : Nat} {v : Value} {T : List Tk} {en : Int} {L : Value × Value × Value} {s : Sx} {s1 s2 s3 s4 s5 s6 s7 s8 s9 : Sx} {n2 : List UInt8} {n7 : List UInt8} {n9 : List UInt8} (h : RdC w base rb v T en L s cm0) (e1 : needS T w_table s = ((), s1)) (e2 : nameS T s1 = (n2, s2)) (e3 : takeS T w_add s2 = (false, s3)) (e4 : takeS T w_drop s3 = (false, s4)) (e5 : takeS T w_rename s4 = (true, s5)) (e6 : takeS T w_to s5 = (false, s6)) (e7 : nameS T s6 = (n7, s7)) (e8 : needS T w_to s7 = ((), s8)) (e9 : nameS T s8 = (n9, s9)) :
    Calls Tryz.prog 64 #[.pointer (some ⟨rb, 0, none⟩)] w fun e w' => e = .returned (.tuple #[]) ∧ RdC w' base rb v T en L s9 { cm0 with name := n2, kind := 5, column := n7, other := n9 } ∧ w.grownBy w' (some rb) := by
  have R0 := hide h
  have E1 := hide e1
  have E2 := hide e2
  have E3 := hide e3
  have E4 := hide e4
  have E5 := hide e5
  have E6 := hide e6
  have E7 := hide e7
  have E8 := hide e8
  have E9 := hide e9
  clear h e1 e2 e3 e4 e5 e6 e7 e8 e9
  go_enter Tryz.func64, Tryz.ntmps64
  go_wp2_with fail
  refine (needC R0.out w_table (by decide) E1.out).mono ?_
  rintro e w1 ⟨rfl, r1, g1⟩
  have R1 := hide r1
  clear r1
  go_wp2_with fail
  refine (nameC R1.out E2.out).mono ?_
  rintro e w2 ⟨rfl, r2, g2⟩
  obtain ⟨⟨xname2, cname2⟩, zname2⟩ := fld_name r2
  have R2 := hide (set_name r2 n2)
  clear r2
  go_wp2_with fail
  refine (takeC R2.out w_add (by decide) E3.out).mono ?_
  rintro e w3 ⟨rfl, r3, g3⟩
  have R3 := hide r3
  clear r3
  go_wp2_with fail
  refine (takeC R3.out w_drop (by decide) E4.out).mono ?_
  rintro e w4 ⟨rfl, r4, g4⟩
  have R4 := hide r4
  clear r4
  go_wp2_with fail
  refine (takeC R4.out w_rename (by decide) E5.out).mono ?_
  rintro e w5 ⟨rfl, r5, g5⟩
  have R5 := hide r5
  clear r5
  go_wp2_with fail
  refine (takeC R5.out w_to (by decide) E6.out).mono ?_
  rintro e w6 ⟨rfl, r6, g6⟩
  obtain ⟨⟨xkind6, ckind6⟩, zkind6⟩ := fld_kind r6
  have R6 := hide (set_kind r6 5)
  clear r6
  go_wp2_with fail
  refine (nameC R6.out E7.out).mono ?_
  rintro e w7 ⟨rfl, r7, g7⟩
  obtain ⟨⟨xcolumn7, ccolumn7⟩, zcolumn7⟩ := fld_column r7
  have R7 := hide (set_column r7 n7)
  clear r7
  go_wp2_with fail
  refine (needC R7.out w_to (by decide) E8.out).mono ?_
  rintro e w8 ⟨rfl, r8, g8⟩
  have R8 := hide r8
  clear r8
  go_wp2_with fail
  refine (nameC R8.out E9.out).mono ?_
  rintro e w9 ⟨rfl, r9, g9⟩
  obtain ⟨⟨xother9, cother9⟩, zother9⟩ := fld_other r9
  have R9 := hide (set_other r9 n9)
  clear r9
  go_wp2
  go_end0
  exact ⟨rfl, R9.out, grown_trans g1 (grown_trans g2 (grown_trans (grown_set _ rb _ _) (grown_trans g3 (grown_trans g4 (grown_trans g5 (grown_trans g6 (grown_trans (grown_set _ rb _ _) (grown_trans g7 (grown_trans (grown_set _ rb _ _) (grown_trans g8 (grown_trans g9 ((grown_set _ rb _ _)))))))))))))⟩
theorem alterC_ret {w : World} {base rb : Nat} {v : Value} {T : List Tk} {en : Int} {L : Value × Value × Value} {s : Sx} {s1 s2 s3 s4 s5 s6 s7 s8 : Sx} {n2 : List UInt8} {n7 : List UInt8} {t8 : Nat} (h : RdC w base rb v T en L s cm0) (e1 : needS T w_table s = ((), s1)) (e2 : nameS T s1 = (n2, s2)) (e3 : takeS T w_add s2 = (false, s3)) (e4 : takeS T w_drop s3 = (false, s4)) (e5 : takeS T w_rename s4 = (false, s5)) (e6 : needS T w_retype s5 = ((), s6)) (e7 : nameS T s6 = (n7, s7)) (e8 : typeS T s7 = (t8, s8)) :
    Calls Tryz.prog 64 #[.pointer (some ⟨rb, 0, none⟩)] w fun e w' => e = .returned (.tuple #[]) ∧ RdC w' base rb v T en L s8 { cm0 with name := n2, kind := 6, column := n7, ty := (t8 : Nat) } ∧ w.grownBy w' (some rb) := by
  have R0 := hide h
  have E1 := hide e1
  have E2 := hide e2
  have E3 := hide e3
  have E4 := hide e4
  have E5 := hide e5
  have E6 := hide e6
  have E7 := hide e7
  have E8 := hide e8
  clear h e1 e2 e3 e4 e5 e6 e7 e8
  go_enter Tryz.func64, Tryz.ntmps64
  go_wp2_with fail
  refine (needC R0.out w_table (by decide) E1.out).mono ?_
  rintro e w1 ⟨rfl, r1, g1⟩
  have R1 := hide r1
  clear r1
  go_wp2_with fail
  refine (nameC R1.out E2.out).mono ?_
  rintro e w2 ⟨rfl, r2, g2⟩
  obtain ⟨⟨xname2, cname2⟩, zname2⟩ := fld_name r2
  have R2 := hide (set_name r2 n2)
  clear r2
  go_wp2_with fail
  refine (takeC R2.out w_add (by decide) E3.out).mono ?_
  rintro e w3 ⟨rfl, r3, g3⟩
  have R3 := hide r3
  clear r3
  go_wp2_with fail
  refine (takeC R3.out w_drop (by decide) E4.out).mono ?_
  rintro e w4 ⟨rfl, r4, g4⟩
  have R4 := hide r4
  clear r4
  go_wp2_with fail
  refine (takeC R4.out w_rename (by decide) E5.out).mono ?_
  rintro e w5 ⟨rfl, r5, g5⟩
  have R5 := hide r5
  clear r5
  go_wp2_with fail
  refine (needC R5.out w_retype (by decide) E6.out).mono ?_
  rintro e w6 ⟨rfl, r6, g6⟩
  obtain ⟨⟨xkind6, ckind6⟩, zkind6⟩ := fld_kind r6
  have R6 := hide (set_kind r6 6)
  clear r6
  go_wp2_with fail
  refine (nameC R6.out E7.out).mono ?_
  rintro e w7 ⟨rfl, r7, g7⟩
  obtain ⟨⟨xcolumn7, ccolumn7⟩, zcolumn7⟩ := fld_column r7
  have R7 := hide (set_column r7 n7)
  clear r7
  go_wp2_with fail
  refine (typeC R7.out E8.out).mono ?_
  rintro e w8 ⟨rfl, r8, g8⟩
  obtain ⟨⟨xty8, cty8⟩, zty8⟩ := fld_ty r8
  have R8 := hide (set_ty r8 (t8 : Nat))
  clear r8
  go_wp2
  go_end0
  exact ⟨rfl, R8.out, grown_trans g1 (grown_trans g2 (grown_trans (grown_set _ rb _ _) (grown_trans g3 (grown_trans g4 (grown_trans g5 (grown_trans g6 (grown_trans (grown_set _ rb _ _) (grown_trans g7 (grown_trans (grown_set _ rb _ _) (grown_trans g8 ((grown_set _ rb _ _))))))))))))⟩
theorem alterC {w : World} {base rb : Nat} {v : Value} {T : List Tk} {en : Int} {L : Value × Value × Value} {s s' : Sx} {c' : Cm} (h : RdC w base rb v T en L s cm0) (e : alterS T s = (c', s')) :
    Calls Tryz.prog 64 #[.pointer (some ⟨rb, 0, none⟩)] w fun e w' => e = .returned (.tuple #[]) ∧ RdC w' base rb v T en L s' c' ∧ w.grownBy w' (some rb) := by
  obtain ⟨s1, h1⟩ : ∃ s1, needS T w_table s = ((), s1) := ⟨_, rfl⟩
  obtain ⟨n, s2, h2⟩ : ∃ n s2, nameS T s1 = (n, s2) := ⟨_, _, rfl⟩
  unfold alterS thenS elseS at e
  simp only [h1, h2] at e
  obtain ⟨b1, s3, h3⟩ : ∃ b s3, takeS T w_add s2 = (b, s3) := ⟨_, _, rfl⟩
  simp only [h3] at e
  cases b1 with
  | true =>
    obtain ⟨l, s4, h4⟩ : ∃ l s4, nameS T s3 = (l, s4) := ⟨_, _, rfl⟩
    obtain ⟨t, s5, h5⟩ : ∃ t s5, typeS T s4 = (t, s5) := ⟨_, _, rfl⟩
    obtain ⟨s6, h6⟩ : ∃ s6, needS T w_default s5 = ((), s6) := ⟨_, rfl⟩
    obtain ⟨x, s7, h7⟩ : ∃ x s7, valueS T s6 = (x, s7) := ⟨_, _, rfl⟩
    simp only [if_true, h4, h5, h6, h7, retS, Prod.mk.injEq] at e
    obtain ⟨rfl, rfl⟩ := e
    exact alterC_add h h1 h2 h3 h4 h5 h6 h7
  | false =>
    have k3 := take_false h3
    subst k3
    simp only [Bool.false_eq_true, if_false] at e
    obtain ⟨b2, s4, h4⟩ : ∃ b s4, takeS T w_drop s3 = (b, s4) := ⟨_, _, rfl⟩
    simp only [h4] at e
    cases b2 with
    | true =>
      obtain ⟨l, s5, h5⟩ : ∃ l s5, nameS T s4 = (l, s5) := ⟨_, _, rfl⟩
      simp only [if_true, h5, retS, Prod.mk.injEq] at e
      obtain ⟨rfl, rfl⟩ := e
      exact alterC_drop h h1 h2 h3 h4 h5
    | false =>
      have k4 := take_false h4
      subst k4
      simp only [Bool.false_eq_true, if_false] at e
      obtain ⟨b3, s5, h5⟩ : ∃ b s5, takeS T w_rename s4 = (b, s5) := ⟨_, _, rfl⟩
      simp only [h5] at e
      cases b3 with
      | true =>
        simp only [if_true] at e
        obtain ⟨b4, s6, h6⟩ : ∃ b s6, takeS T w_to s5 = (b, s6) := ⟨_, _, rfl⟩
        simp only [h6] at e
        cases b4 with
        | true =>
          obtain ⟨o, s7, h7⟩ : ∃ o s7, nameS T s6 = (o, s7) := ⟨_, _, rfl⟩
          simp only [if_true, h7, retS, Prod.mk.injEq] at e
          obtain ⟨rfl, rfl⟩ := e
          exact alterC_to h h1 h2 h3 h4 h5 h6 h7
        | false =>
          have k6 := take_false h6
          subst k6
          simp only [Bool.false_eq_true, if_false] at e
          obtain ⟨l, s7, h7⟩ : ∃ l s7, nameS T s6 = (l, s7) := ⟨_, _, rfl⟩
          obtain ⟨s8, h8⟩ : ∃ s8, needS T w_to s7 = ((), s8) := ⟨_, rfl⟩
          obtain ⟨o, s9, h9⟩ : ∃ o s9, nameS T s8 = (o, s9) := ⟨_, _, rfl⟩
          simp only [h7, h8, h9, retS, Prod.mk.injEq] at e
          obtain ⟨rfl, rfl⟩ := e
          exact alterC_ren h h1 h2 h3 h4 h5 h6 h7 h8 h9
      | false =>
        have k5 := take_false h5
        subst k5
        simp only [Bool.false_eq_true, if_false] at e
        obtain ⟨s6, h6⟩ : ∃ s6, needS T w_retype s5 = ((), s6) := ⟨_, rfl⟩
        obtain ⟨l, s7, h7⟩ : ∃ l s7, nameS T s6 = (l, s7) := ⟨_, _, rfl⟩
        obtain ⟨t, s8, h8⟩ : ∃ t s8, typeS T s7 = (t, s8) := ⟨_, _, rfl⟩
        simp only [h6, h7, h8, retS, Prod.mk.injEq] at e
        obtain ⟨rfl, rfl⟩ := e
        exact alterC_ret h h1 h2 h3 h4 h5 h6 h7 h8
abbrev nilS : Value := .slice none 0 0
theorem Rd.at {w : World} {base rb : Nat} {v : Value} {T : List Tk} {en : Int} {s : Sx} {cs : List Value} (h : Rd w base rb v T en s cs) : atP w rb = s.1 := by
  obtain ⟨⟨-, c1, -⟩, -⟩ := rd4 h.blk
  simp [atP, c1, intOf]
theorem Rd.far {w w' : World} {base rb : Nat} {v : Value} {T : List Tk} {en : Int} {s : Sx} {cs : List Value} (h : Rd w base rb v T en s cs) {r : Option Nat} (g : w.grownBy w' r) (hr : ∀ b, r = some b → rb < b) : Rd w' base rb v T en s cs := by
  refine ⟨(g.block rb h.rb_lt (fun e => by have := hr rb e.symm; omega)).trans h.blk, h.own.kept g ?_, h.lt, h.le, h.few, h.toks, h.ist⟩
  rcases hv : v.ownBlock with _ | b
  · exact .inl rfl
  · right
    intro e
    have h1 := h.lt b hv
    have h2 := hr b e.symm
    omega
theorem Rd.other {w : World} {base rb : Nat} {v : Value} {T : List Tk} {en : Int} {s : Sx} {cs : List Value} (h : Rd w base rb v T en s cs) {b : Nat} (hb : rb < b) (o : Nat) (x : Value) : Rd (w.setCell ⟨b, o, none⟩ x) base rb v T en s cs :=
  h.far (grown_set w b o x) (by intro c e; cases e; exact hb)
def InvL {α : Type} (T : List Tk) (one : Sx → α × Sx) (R : List α × Sx) (b : Bool) (acc : List α) (j : Sx) (f : Nat) : Prop :=
  if b = true ∧ j.2 = false then thenS one (fun x => listGoS T one f (acc ++ [x])) j = R ∧ T.length < f + j.1 else R = (acc, j)
theorem InvL.start {α : Type} {T : List Tk} {one : Sx → α × Sx} {R : List α × Sx} {s : Sx} (h : listS T one s = R) : InvL T one R true [] s (T.length + 1) := by
  unfold InvL
  unfold listS at h
  cases hF : s.2 with
  | true => rw [if_neg (by simp)]; rw [hF, if_pos rfl] at h; exact h.symm
  | false => rw [if_pos ⟨rfl, rfl⟩]; rw [hF, if_neg (by simp)] at h; exact ⟨h, by omega⟩
theorem InvL.done {α : Type} {T : List Tk} {one : Sx → α × Sx} {R : List α × Sx} {b : Bool} {acc : List α} {j : Sx} {f : Nat} (h : InvL T one R b acc j f) (hb : ¬ (b = true ∧ j.2 = false)) : R = (acc, j) := by
  unfold InvL at h; rw [if_neg hb] at h; exact h
theorem InvL.step {α : Type} {T : List Tk} {one : Sx → α × Sx} {R : List α × Sx} {acc : List α} {j : Sx} {f : Nat} (h : InvL T one R true acc j f) (hF : j.2 = false) {x : α} {s1 s2 : Sx} {b : Bool} (h1 : one j = (x, s1)) (hm : j.1 ≤ s1.1) (hl : s1.1 ≤ T.length) (h2 : takeS T [44] s1 = (b, s2)) :
    ∃ f', InvL T one R b (acc ++ [x]) s2 f' := by
  unfold InvL at h
  rw [if_pos ⟨rfl, hF⟩] at h
  obtain ⟨h, hf⟩ := h
  unfold thenS at h
  rw [h1] at h
  simp only at h
  cases b with
  | false =>
    have := take_false h2
    subst this
    refine ⟨0, ?_⟩
    unfold InvL
    rw [if_neg (by simp)]
    cases f with
    | zero => exact h.symm
    | succ f => rw [listGoS, elseS, h2] at h; exact h.symm
  | true =>
    have h3 : s1.2 = false ∧ tx T s1.1 = [44] ∧ s2 = (s1.1 + 1, false) := by
      revert h2
      unfold takeS
      split
      · rename_i hh; intro e; exact ⟨hh.1, hh.2, (Prod.mk.inj e).2.symm⟩
      · intro e; cases e
    have hlt : s1.1 < T.length := by have := tx_more (T := T) (i := s1.1) (by rw [h3.2.1]; decide); omega
    obtain ⟨f', rfl⟩ : ∃ f', f = f' + 1 := ⟨f - 1, by omega⟩
    refine ⟨f', ?_⟩
    rw [listGoS, elseS, h2] at h
    unfold InvL
    rw [if_pos ⟨rfl, by rw [h3.2.2]⟩]
    exact ⟨h, by rw [h3.2.2]; simp only; omega⟩
theorem name_mono (T : List Tk) (s : Sx) : s.1 ≤ (nameS T s).2.1 := by unfold nameS; split <;> simp
theorem take_mono (T : List Tk) (W : List UInt8) (s : Sx) : s.1 ≤ (takeS T W s).2.1 := by unfold takeS; split <;> simp
theorem need_mono (T : List Tk) (W : List UInt8) (s : Sx) : s.1 ≤ (needS T W s).2.1 := by
  unfold needS; split
  · exact take_mono T W s
  · exact Nat.le_refl _
theorem number_mono (T : List Tk) (s : Sx) : s.1 ≤ (numberS T s).2.1 := by unfold numberS; split <;> simp
theorem value_mono (T : List Tk) (s : Sx) : s.1 ≤ (valueS T s).2.1 := by
  unfold valueS
  split
  · simp
  split
  · simp
  split
  · simp
  split
  · unfold minusS
    simp only
    have := number_mono T (if txS T (s.1 + 1, s.2) = [48] then (s.1 + 1, true) else (s.1 + 1, s.2))
    split at this <;> simp only at this <;> split <;> simp_all <;> omega
  split
  · simp
  · exact number_mono T s
theorem type_mono (T : List Tk) (s : Sx) : s.1 ≤ (typeS T s).2.1 := by
  unfold typeS
  split
  · exact take_mono _ _ _
  split
  · exact take_mono _ _ _
  · exact need_mono _ _ _
theorem Tryz.alloc56 (w : World) : (Instr.alloc 56 true (.tuple #[])).run Tryz.prog w = .ok (.pointer (some ⟨w.heap.size, 0, none⟩)) (w.alloc (.cells ([.string ⟨#[]⟩, .int .i64 0] : List Value).toArray 56)) := by
  have e : ([.string ⟨#[]⟩, .int .i64 0] : List Value).toArray = #[.string ⟨#[]⟩, .int .i64 0] := rfl
  rw [e]
  simp [Instr.alloc, Tryz.zeroValue56, go_sem]
theorem Tryz.size56 : (Tryz.prog.info? 56).map (·.size) = some 2 := by kernel_rfl
theorem two_cells {W : World} {b : Nat} {x y : Value} {t : TypeId} (h : W.heap[b]? = some (.cells ([x, y] : List Value).toArray t)) :
    (W.cell? ⟨b, 0, none⟩ = some x ∧ W.cell? ⟨b, 1, none⟩ = some y) ∧ (W.frozen? ⟨b, 0, none⟩ = false ∧ W.frozen? ⟨b, 1, none⟩ = false) :=
  ⟨⟨(Lib.cell_of_heap h _).trans rfl, (Lib.cell_of_heap h _).trans rfl⟩, Lib.frozen_of_heap h 0, Lib.frozen_of_heap h 1⟩
theorem ExAt.anywhere {B : Nat} {w : World} {ea : Value} (h : ExAt B w (exV 0 vl0 [] ea) ex0) (B' : Nat) (w' : World) : ExAt B' w' (exV 0 vl0 [] ea) ex0 := by
  have go : ∀ u x, ExAt B w u x → x = ex0 → ExAt B' w' u ex0 := by
    intro u x hu hx
    cases hu with
    | nil k x nm ao cap hz => cases hx; exact .nil 0 vl0 [] ao cap hz
    | args k x nm b off cap xs us hx' => cases hx; exact absurd rfl hx'
  exact go _ _ h rfl
theorem column_mono (T : List Tk) (s : Sx) : s.1 ≤ (columnS T s).2.1 := by
  unfold columnS thenS retS
  exact Nat.le_trans (name_mono T s) (type_mono T _)
theorem slice_at (rb : Nat) (v : Value) (i en : Int) (F : Bool) (c : Cm) (cv vv fv ea wa : Value) {W : World} (h : W.heap[rb]? = some (.cells (v :: .int .i64 i :: .int .i64 en :: .bool F :: cmL c cv vv fv ea wa).toArray 50)) :
    (W.cell? ⟨rb, 8, none⟩ = some cv ∧ W.cell? ⟨rb, 13, none⟩ = some vv ∧ W.cell? ⟨rb, 14, none⟩ = some fv) ∧ (W.frozen? ⟨rb, 8, none⟩ = false ∧ W.frozen? ⟨rb, 13, none⟩ = false ∧ W.frozen? ⟨rb, 14, none⟩ = false) :=
  ⟨⟨(Lib.cell_of_heap h _).trans rfl, (Lib.cell_of_heap h _).trans rfl, (Lib.cell_of_heap h _).trans rfl⟩, Lib.frozen_of_heap h _, Lib.frozen_of_heap h _, Lib.frozen_of_heap h _⟩
theorem own_ge {w : World} {base : Nat} {e : TypeId} {size : Nat} {v : Value} {n : Nat} {xs : List Value} (h : w.ownsRow base e size v n xs) : ∀ b, v.ownBlock = some b → base ≤ b ∧ b < w.heap.size := by
  intro b hb
  rcases h.2 with ⟨hv, -⟩ | ⟨g, cap, cur, hv, hg, hgg, -⟩
  · rw [hv] at hb; cases hb
  · rw [hv] at hb
    simp only [Value.ownBlock, Option.some.injEq] at hb
    subst hb
    exact ⟨hg, (ltS hgg)⟩
theorem keepC {W : World} {rb cb o1 o2 o3 o4 : Nat} {x y z : Value} (h1 : rb < W.heap.size) (h2 : cb < W.heap.size) (h : W.cell? ⟨rb, o1, none⟩ = some x ∧ W.cell? ⟨cb, o2, none⟩ = some y ∧ W.cell? ⟨cb, o3, none⟩ = some z ∧ W.frozen? ⟨rb, o4, none⟩ = false) (o : Obj) :
    (W.alloc o).drew.cell? ⟨rb, o1, none⟩ = some x ∧ (W.alloc o).drew.cell? ⟨cb, o2, none⟩ = some y ∧ (W.alloc o).drew.cell? ⟨cb, o3, none⟩ = some z ∧ (W.alloc o).drew.frozen? ⟨rb, o4, none⟩ = false := by
  obtain ⟨a, b, c, d⟩ := h
  exact ⟨(World.cell?_of_block (w := W) (old_block o h1)).trans a, (World.cell?_of_block (w := W) (old_block o h2)).trans b, (World.cell?_of_block (w := W) (old_block o h2)).trans c, (World.frozen?_of_block (w := W) (old_block o h1)).trans d⟩
theorem take_eq {w : World} {base rb : Nat} {v : Value} {T : List Tk} {en : Int} {s s' : Sx} {cs : List Value} {b : Bool} (h : Rd w base rb v T en s cs) (W : List UInt8) (hW : W ≠ []) (e : takeS T W s = (b, s')) :
    Calls Tryz.prog 60 #[.pointer (some ⟨rb, 0, none⟩), .string ⟨W.toArray⟩] w fun e w' => e = .returned (.bool b) ∧ Rd w' base rb v T en s' cs ∧ w.grownBy w' (some rb) := by
  have := take_any h W hW; rw [e] at this; exact this
theorem need_eq {w : World} {base rb : Nat} {v : Value} {T : List Tk} {en : Int} {s s' : Sx} {cs : List Value} (h : Rd w base rb v T en s cs) (W : List UInt8) (hW : W ≠ []) (e : needS T W s = ((), s')) :
    Calls Tryz.prog 62 #[.pointer (some ⟨rb, 0, none⟩), .string ⟨W.toArray⟩] w fun e w' => e = .returned (.tuple #[]) ∧ Rd w' base rb v T en s' cs ∧ w.grownBy w' (some rb) := by
  have := need_any h W hW; rw [e] at this; exact this
theorem take_true {T : List Tk} {W : List UInt8} {s s' : Sx} (h : takeS T W s = (true, s')) : s.1 < s'.1 := by
  revert h
  unfold takeS
  split
  · intro h; cases h; simp
  · intro h; cases h
theorem pushed {w0 wr wB wX w1 : World} {base rb : Nat} {v : Value} {T : List Tk} {en : Int} {s : Sx} {cs : List Value} {e : TypeId} {sz n n' : Nat} {cv nv : Value} {xs xs' : List Value} (hrb : rb < w0.heap.size) (hg0 : w0.grownBy wr (some rb)) (gB : wr.grownBy wB (some rb)) (RB : Rd wB base rb v T en s cs)
    (oB : wB.ownsRow w0.heap.size e sz cv n xs) (hX : Below wB.heap.size wB wX) (hgrow : wX.grownBy w1 cv.ownBlock) (hown : w1.ownsRow w0.heap.size e sz nv n' xs') (k : Nat) :
    Rd (w1.setCell ⟨rb, 4 + k, none⟩ nv) base rb v T en s (cs.set k nv) ∧ (w1.setCell ⟨rb, 4 + k, none⟩ nv).ownsRow w0.heap.size e sz nv n' xs' ∧ w0.grownBy (w1.setCell ⟨rb, 4 + k, none⟩ nv) (some rb) := by
  have gA : wB.grownBy w1 cv.ownBlock := grown_trans (grown_below hX _) hgrow
  have hlb := own_ge oB
  have r1 : Rd w1 base rb v T en s cs := RB.far gA fun b hb => by have := hlb b hb; omega
  have q := grown_trans hg0 gB
  have q1 : w0.grownBy w1 (some rb) := ⟨gA.os.trans q.os, gA.tape.trans q.tape, gA.output.trans q.output, Nat.le_trans q.size gA.size, fun b hb hr => (gA.block b (Nat.lt_of_lt_of_le hb q.size) (fun e => by have := hlb b e.symm; omega)).trans (q.block b hb hr)⟩
  refine ⟨r1.field k nv, hown.kept (grown_set w1 rb _ _) ?_, grown_trans q1 (grown_set _ rb _ _)⟩
  rcases hv : nv.ownBlock with _ | b
  · exact .inl rfl
  · right
    intro e
    simp only [Option.some.injEq] at e
    have := own_ge hown b hv
    omega
theorem createC_table {w : World} {base rb : Nat} {v : Value} {T : List Tk} {en : Int} {s s1 s2 s3 s4 s5 : Sx} {n : List UInt8} {l : List Cl} (h : RdC w base rb v T en (nilS, nilS, nilS) s cm0) (e0 : takeS T w_index s = (false, s)) (e1 : needS T w_table s = ((), s1)) (e2 : nameS T s1 = (n, s2)) (e3 : needS T [40] s2 = ((), s3))
    (e4 : listS T (columnS T) s3 = (l, s4)) (e5 : needS T [41] s4 = ((), s5)) :
    Calls Tryz.prog 61 #[.pointer (some ⟨rb, 0, none⟩)] w fun e w' => e = .returned (.tuple #[]) ∧ (∃ L', RdC w' base rb v T en L' s5 { cm0 with kind := 1, name := n, cols := l }) ∧ w.grownBy w' (some rb) := by
  obtain ⟨i0, hi, hz0, hz1, hz2⟩ := info_parts Tryz.info_col
  have R0 := hide h
  have E0 := hide e0
  have E1 := hide e1
  have E2 := hide e2
  have E3 := hide e3
  have E4 := hide e4
  have E5 := hide e5
  have hlt := h.rb_lt
  clear h e0 e1 e2 e3 e4 e5
  go_enter Tryz.func61, Tryz.ntmps61
  go_wp2_with fail
  refine (takeC R0.out w_index (by decide) E0.out).mono ?_
  rintro e w1 ⟨rfl, r1, g1⟩
  have R1 := hide r1
  go_wp2_with fail
  refine (needC R1.out w_table (by decide) E1.out).mono ?_
  rintro e w2 ⟨rfl, r2, g2⟩
  obtain ⟨⟨xk, ck⟩, zk⟩ := fld_kind r2
  have R2 := hide (set_kind r2 1)
  clear r1 r2
  go_wp2_with fail
  refine (nameC R2.out E2.out).mono ?_
  rintro e w3 ⟨rfl, r3, g3⟩
  obtain ⟨⟨xn, cn⟩, zn⟩ := fld_name r3
  have R3 := hide (set_name r3 n)
  clear r3
  go_wp2_with fail
  refine (needC R3.out [40] (by decide) E3.out).mono ?_
  rintro e w4 ⟨rfl, ⟨ea, wa, r4, i4⟩, g4⟩
  have G4 : w.grownBy w4 (some rb) := grown_trans g1 (grown_trans g2 (grown_trans (grown_set _ rb _ _) (grown_trans g3 (grown_trans (grown_set _ rb _ _) g4))))
  have HE := hide i4.expr
  have HW := hide i4.wh
  have r4 : Rd w4 base rb v T en s3 (cmL { cm0 with kind := 1, name := n, cols := [] } nilS nilS nilS ea wa) := r4
  have R4 := hide r4
  have hfew := r4.few
  have o4 : w4.ownsRow w4.heap.size 56 2 nilS 0 [] := ⟨rfl, .inl ⟨rfl, rfl⟩⟩
  have rb4 := r4.rb_lt
  clear r4 i4 g1 g2 g3 g4 R0 R1 R2 R3 E0 E1 E2 E3 ck zk cn zn
  go_wp2
  go_loopw [2] (fun more wl => ∃ (b : Bool) (acc : List Cl) (j : Sx) (cv : Value) (f : Nat), more = .bool b ∧ Hid (InvL T (columnS T) (l, s4) b acc j f) ∧ Hid (Rd wl base rb v T en j (cmL { cm0 with kind := 1, name := n, cols := acc } cv nilS nilS ea wa)) ∧ Hid (wl.ownsRow w4.heap.size 56 2 cv acc.length (acc.flatMap clC)) ∧ w4.grownBy wl (some rb) ∧ (b = true → acc.length ≤ j.1)) (fun more wl => match more with | .bool true => T.length + 2 - atP wl rb | _ => 0)
  case atStart => exact ⟨true, [], s3, nilS, _, rfl, InvL.start E4.out, R4, o4, grown_refl _ _, fun _ => Nat.zero_le _⟩
  case round =>
    obtain ⟨b, acc, j, cv, f, rfl, HI, HR, HO, hg, hacc⟩ := hrel
    have hat := HR.out.at
    obtain ⟨⟨c0, c1, c2, c3⟩, z1, z3⟩ := rd4 HR.out.blk
    have hjl := HR.out.le
    by_cases hgo : b = true ∧ j.2 = false
    · obtain ⟨rfl, hF⟩ := hgo
      rw [hF] at c3
      have hacc := hacc rfl
      have hgs := hg.size
      obtain ⟨nm, j1, hn1⟩ : ∃ nm j1, nameS T j = (nm, j1) := ⟨_, _, rfl⟩
      obtain ⟨t, j2, hn2⟩ : ∃ t j2, typeS T j1 = (t, j2) := ⟨_, _, rfl⟩
      obtain ⟨b', j3, hn3⟩ : ∃ b' j3, takeS T [44] j2 = (b', j3) := ⟨_, _, rfl⟩
      have hcol : columnS T j = (⟨nm, (t : Nat)⟩, j2) := by unfold columnS thenS retS; rw [hn1]; simp only; rw [hn2]
      have hmono : j.1 ≤ j2.1 := by have := column_mono T j; rw [hcol] at this; exact this
      have m1 : ∀ W, Rd W base rb v T en j (cmL { cm0 with kind := 1, name := n, cols := acc } cv nilS nilS ea wa) → Calls Tryz.prog 63 #[.pointer (some ⟨rb, 0, none⟩)] W fun e w' => e = .returned (.string ⟨nm.toArray⟩) ∧ Rd w' base rb v T en j1 (cmL { cm0 with kind := 1, name := n, cols := acc } cv nilS nilS ea wa) ∧ W.grownBy w' (some rb) := fun W hh => by have := rnm_any hh; rw [hn1] at this; exact this
      have m2 : ∀ W, Rd W base rb v T en j1 (cmL { cm0 with kind := 1, name := n, cols := acc } cv nilS nilS ea wa) → Calls Tryz.prog 116 #[.pointer (some ⟨rb, 0, none⟩)] W fun e w' => e = .returned (.int .i64 (t : Nat)) ∧ Rd w' base rb v T en j2 (cmL { cm0 with kind := 1, name := n, cols := acc } cv nilS nilS ea wa) ∧ W.grownBy w' (some rb) := fun W hh => by have := rtyp_any hh; rw [hn2] at this; exact this
      have HC := hide hcol
      have HT := hide hn3
      clear hn1 hn2 hn3 hcol
      go_wp2_with (first | (refine wpList_alloc_blk 3 56 [.string ⟨#[]⟩, .int .i64 0] rfl rfl rfl Tryz.alloc56 ?_; intro wa1 cb hcb ka ba; have Ra := hide (HR.out.below ba)) | (refine wpList_store_whole 56 _ _ rfl rfl cb [.string ⟨#[]⟩, .int .i64 0] [.string ⟨#[]⟩, .int .i64 0] 56 rfl rfl (by exact ka) rfl Tryz.size56 (by decide) ?_; intro wb1 kb pb1; have Bb := below_put hcb ba pb1; have Rb := hide (HR.out.below Bb); clear pb1))
      have hcbr : rb < cb := by have := hcb.out; have := HR.out.rb_lt; omega
      refine (m1 _ Rb.out).mono ?_
      rintro e wc ⟨rfl, rc, gc⟩
      have kc := kept_rb gc kb (by omega)
      obtain ⟨⟨d0, d1⟩, y0, y1⟩ := two_cells kc
      have Rc := hide (rc.other hcbr 0 (.string ⟨nm.toArray⟩))
      have kd : (wc.setCell ⟨cb, 0, none⟩ (.string ⟨nm.toArray⟩)).heap[cb]? = some (.cells ([.string ⟨nm.toArray⟩, .int .i64 0] : List Value).toArray 56) := heap_setCell_same wc cb 0 _ 56 (.string ⟨nm.toArray⟩) kc
      clear rc
      go_wp2_with fail
      refine (m2 _ Rc.out).mono ?_
      rintro e wd ⟨rfl, rd, gd⟩
      have ke := kept_rb gd kd (by omega)
      obtain ⟨⟨p0, p1⟩, q0, q1⟩ := two_cells ke
      have Rd' := hide (rd.other hcbr 1 (.int .i64 (t : Nat)))
      have kf : (wd.setCell ⟨cb, 1, none⟩ (.int .i64 (t : Nat))).heap[cb]? = some (.cells ([.string ⟨nm.toArray⟩, .int .i64 (t : Nat)] : List Value).toArray 56) := heap_setCell_same wd cb 1 _ 56 (.int .i64 (t : Nat)) ke
      clear rd
      go_wp2_with fail
      have gB : wr.grownBy (wd.setCell ⟨cb, 1, none⟩ (.int .i64 (t : Nat))) (some rb) :=
        grown_put (grown_trans (grown_put (grown_trans (grown_below Bb _) gc) (by have := hcb.out; omega) 0 _) gd) (by have := hcb.out; omega) 1 _
      have oB := HO.out.kept gB (by
        rcases ho : cv.ownBlock with _ | b
        · exact .inl rfl
        · right; intro e; simp only [Option.some.injEq] at e; have := own_ge HO.out b ho; omega)
      have hlb := own_ge oB
      obtain ⟨⟨s8, -, -⟩, y8, -, -⟩ := slice_at rb v _ en _ _ cv nilS nilS ea wa Rd'.out.blk
      obtain ⟨⟨u0, u1⟩, -⟩ := two_cells kf
      have hrbB := Rd'.out.rb_lt
      have hcbB := (ltS kf)
      have hsB := gB.size
      have RB := hide Rd'.out
      have OB := hide oB
      have hj2 := Rd'.out.le
      have hne8 : cv.ownBlock ≠ some rb := fun e => by have := hlb rb e; omega
      have hnec : cv.ownBlock ≠ some cb := fun e => by have := own_ge HO.out cb e; have := hcb.out; omega
      generalize wd.setCell ⟨cb, 1, none⟩ (.int .i64 (t : Nat)) = wB at *
      clear d0 d1 y0 y1 p0 p1 q0 q1 kd ke kc kb Rc Rb gc gd Bb oB Rd' c0 c1 c2 c3 z1 z3
      go_region_law (refine step_append_lies _ (by rfl) _ _ _ (by rfl) w4.heap.size 56 i0 _ 2 24 Tryz.underlying22 hi hz0 hz1 hz2 rfl (by omega) cv acc.length (acc.flatMap clC) (by rfl) ((OB.out.alloc _).drew) ⟨wB.heap.size, 0, none⟩ 1 1 [.string ⟨nm.toArray⟩, .int .i64 (t : Nat)] (by rfl) (by rfl) (World.news_of_block (cs := #[.string ⟨nm.toArray⟩, .int .i64 (t : Nat)]) (t := 56) (fr := (0, 0)) (heap_alloc_new wB _)) (by simp [Value.oneCell']) (by omega) (by unfold maxLen; omega) (by omega) (by simp; omega) (wB.heap.size + 1) (by simp) ?_; intro gg cap w1 hown1 hgrow hat1 hlt1; have hs8 : w1.cell? ⟨rb, 8, none⟩ = some cv := (hgrow.cell_far ⟨rb, 8, none⟩ (by simp; omega) (Ne.symm hne8)).trans (keepC hrbB hcbB ⟨s8, u0, u1, y8⟩ _).1; have hy8 : w1.frozen? ⟨rb, 8, none⟩ = false := (hgrow.frozen_far ⟨rb, 8, none⟩ (by simp; omega) (Ne.symm hne8)).trans (keepC hrbB hcbB ⟨s8, u0, u1, y8⟩ _).2.2.2)
      all_goals (
        obtain ⟨rz, oz, gz⟩ := pushed rb4 hg gB RB.out OB.out (((Below.refl _ _).alloc (Nat.le_refl _) _).drew) hgrow hown1 4
        have Rz : Hid (Rd _ base rb v T en j2 (cmL { cm0 with kind := 1, name := n, cols := acc ++ [⟨nm, (t : Nat)⟩] } (.slice (some ⟨gg, 0, none⟩) (acc.length + 1) cap) nilS nilS ea wa)) := rz
        have Oz : Hid (World.ownsRow _ w4.heap.size 56 2 (.slice (some ⟨gg, 0, none⟩) (acc.length + 1) cap) (acc.length + 1) (acc.flatMap clC ++ [.string ⟨nm.toArray⟩, .int .i64 (t : Nat)])) := oz
        have Gz := hide gz
        clear rz oz gz hown1 hgrow hat1 hlt1 hs8 hy8
        generalize w1.setCell ⟨rb, 8, none⟩ (.slice (some ⟨gg, 0, none⟩) (acc.length + 1) cap) = wz at *
        go_wp2_with fail
        refine (take_eq Rz.out [44] (by decide) HT.out).mono ?_
        rintro e wy ⟨rfl, ry, gy⟩
        have Ry := hide ry
        have haty := ry.at
        have oy := Oz.out.kept gy (.inr (fun e => by have := own_ge Oz.out rb e; omega))
        obtain ⟨f', HI'⟩ := InvL.step HI.out hF HC.out hmono hj2 HT.out
        have HJ := hide HI'
        have Oy : Hid (wy.ownsRow w4.heap.size 56 2 (.slice (some ⟨gg, 0, none⟩) (acc.length + 1) cap) (acc ++ [(⟨nm, (t : Nat)⟩ : Cl)]).length ((acc ++ [(⟨nm, (t : Nat)⟩ : Cl)]).flatMap clC)) := by
          show World.ownsRow _ _ _ _ _ _ _
          rw [List.length_append, List.flatMap_append]
          exact oy
        have gY := grown_trans Gz.out gy
        clear ry oy HI'
        go_wp2
        go_roundw
        case rel => exact ⟨b', _, j3, _, f', rfl, HJ, Ry, Oy, gY, fun hb => by have := take_true (hb ▸ HT.out); simp; omega⟩
        case measure =>
          cases b' with
          | false => simp; omega
          | true => have := take_true HT.out; simp only; omega)
    · have HD : Hid ((l, s4) = (acc, j)) := HI.out.done hgo
      have HN : Hid (needS T [41] j = ((), s5)) := by show _ = _; rw [← (Prod.mk.inj HD.out).2]; exact E5.out
      have HL : Hid (acc = l) := (Prod.mk.inj HD.out).1.symm
      have fin : ∀ w', Rd w' base rb v T en s5 (cmL { cm0 with kind := 1, name := n, cols := acc } cv nilS nilS ea wa) → wr.grownBy w' (some rb) → (∃ L', RdC w' base rb v T en L' s5 { cm0 with kind := 1, name := n, cols := l }) ∧ w.grownBy w' (some rb) := by
        intro w' r' g'
        rw [← HL.out]
        have ow := HO.out.kept g' (.inr (fun e => by have := own_ge HO.out rb e; omega))
        exact ⟨⟨(cv, nilS, nilS), ea, wa, r', ⟨(row_of ow).weak (by omega), RowAt.nil _ _ _, RowAt.nil _ _ _, HE.out.anywhere _ _, HW.out.anywhere _ _⟩⟩, grown_trans G4 (grown_trans hg g')⟩
      have Fin := hide fin
      clear fin HL HD HI HE HW HO E4 E5 R4 o4 G4
      cases b with
      | false =>
        go_wp2_with fail
        refine (need_eq HR.out [41] (by decide) HN.out).mono ?_
        rintro e w' ⟨rfl, r', g'⟩
        have q := Fin.out w' r' g'
        clear r' g'
        go_wp2
        go_end0
        exact ⟨rfl, q⟩
      | true =>
        have hF : j.2 = true := by cases hh : j.2 <;> simp_all
        rw [hF] at c3
        go_wp2_with fail
        refine (need_eq HR.out [41] (by decide) HN.out).mono ?_
        rintro e w' ⟨rfl, r', g'⟩
        have q := Fin.out w' r' g'
        clear r' g'
        go_wp2
        go_end0
        exact ⟨rfl, q⟩
theorem createC_index {w : World} {base rb : Nat} {v : Value} {T : List Tk} {en : Int} {L : Value × Value × Value} {s : Sx} {s1 s2 s3 s4 s5 s6 s7 : Sx} {n2 : List UInt8} {n4 : List UInt8} {n6 : List UInt8} (h : RdC w base rb v T en L s cm0) (e1 : takeS T w_index s = (true, s1)) (e2 : nameS T s1 = (n2, s2)) (e3 : needS T w_on s2 = ((), s3)) (e4 : nameS T s3 = (n4, s4)) (e5 : needS T [40] s4 = ((), s5)) (e6 : nameS T s5 = (n6, s6)) (e7 : needS T [41] s6 = ((), s7)) :
    Calls Tryz.prog 61 #[.pointer (some ⟨rb, 0, none⟩)] w fun e w' => e = .returned (.tuple #[]) ∧ RdC w' base rb v T en L s7 { cm0 with kind := 8, name := n2, other := n4, column := n6 } ∧ w.grownBy w' (some rb) := by
  have R0 := hide h
  have E1 := hide e1
  have E2 := hide e2
  have E3 := hide e3
  have E4 := hide e4
  have E5 := hide e5
  have E6 := hide e6
  have E7 := hide e7
  clear h e1 e2 e3 e4 e5 e6 e7
  go_enter Tryz.func61, Tryz.ntmps61
  go_wp2_with fail
  refine (takeC R0.out w_index (by decide) E1.out).mono ?_
  rintro e w1 ⟨rfl, r1, g1⟩
  obtain ⟨⟨xkind1, ckind1⟩, zkind1⟩ := fld_kind r1
  have R1 := hide (set_kind r1 8)
  clear r1
  go_wp2_with fail
  refine (nameC R1.out E2.out).mono ?_
  rintro e w2 ⟨rfl, r2, g2⟩
  obtain ⟨⟨xname2, cname2⟩, zname2⟩ := fld_name r2
  have R2 := hide (set_name r2 n2)
  clear r2
  go_wp2_with fail
  refine (needC R2.out w_on (by decide) E3.out).mono ?_
  rintro e w3 ⟨rfl, r3, g3⟩
  have R3 := hide r3
  clear r3
  go_wp2_with fail
  refine (nameC R3.out E4.out).mono ?_
  rintro e w4 ⟨rfl, r4, g4⟩
  obtain ⟨⟨xother4, cother4⟩, zother4⟩ := fld_other r4
  have R4 := hide (set_other r4 n4)
  clear r4
  go_wp2_with fail
  refine (needC R4.out [40] (by decide) E5.out).mono ?_
  rintro e w5 ⟨rfl, r5, g5⟩
  have R5 := hide r5
  clear r5
  go_wp2_with fail
  refine (nameC R5.out E6.out).mono ?_
  rintro e w6 ⟨rfl, r6, g6⟩
  obtain ⟨⟨xcolumn6, ccolumn6⟩, zcolumn6⟩ := fld_column r6
  have R6 := hide (set_column r6 n6)
  clear r6
  go_wp2_with fail
  refine (needC R6.out [41] (by decide) E7.out).mono ?_
  rintro e w7 ⟨rfl, r7, g7⟩
  have R7 := hide r7
  clear r7
  go_wp2
  first | go_end0 | ((try simp only [Exit.inBlock, Exit.then]); refine bodyPost_ret (results_none rfl _ _ _) rfl ?_)
  exact ⟨rfl, R7.out, grown_trans g1 (grown_trans (grown_set _ rb _ _) (grown_trans g2 (grown_trans (grown_set _ rb _ _) (grown_trans g3 (grown_trans g4 (grown_trans (grown_set _ rb _ _) (grown_trans g5 (grown_trans g6 (grown_trans (grown_set _ rb _ _) (g7))))))))))⟩
theorem createC {w : World} {base rb : Nat} {v : Value} {T : List Tk} {en : Int} {s s' : Sx} {c' : Cm} (h : RdC w base rb v T en (nilS, nilS, nilS) s cm0) (e : createS T s = (c', s')) :
    Calls Tryz.prog 61 #[.pointer (some ⟨rb, 0, none⟩)] w fun e w' => e = .returned (.tuple #[]) ∧ (∃ L', RdC w' base rb v T en L' s' c') ∧ w.grownBy w' (some rb) := by
  unfold createS elseS at e
  obtain ⟨b1, s1, h1⟩ : ∃ b s1, takeS T w_index s = (b, s1) := ⟨_, _, rfl⟩
  simp only [h1] at e
  cases b1 with
  | true =>
    obtain ⟨n, s2, h2⟩ : ∃ n s2, nameS T s1 = (n, s2) := ⟨_, _, rfl⟩
    obtain ⟨s3, h3⟩ : ∃ s3, needS T w_on s2 = ((), s3) := ⟨_, rfl⟩
    obtain ⟨o, s4, h4⟩ : ∃ n s4, nameS T s3 = (n, s4) := ⟨_, _, rfl⟩
    obtain ⟨s5, h5⟩ : ∃ s5, needS T [40] s4 = ((), s5) := ⟨_, rfl⟩
    obtain ⟨l, s6, h6⟩ : ∃ n s6, nameS T s5 = (n, s6) := ⟨_, _, rfl⟩
    obtain ⟨s7, h7⟩ : ∃ s7, needS T [41] s6 = ((), s7) := ⟨_, rfl⟩
    simp only [if_true, thenS, h2, h3, h4, h5, h6, h7, retS, Prod.mk.injEq] at e
    obtain ⟨rfl, rfl⟩ := e
    refine (createC_index h h1 h2 h3 h4 h5 h6 h7).mono ?_
    rintro e w' ⟨he, hr, hg⟩
    exact ⟨he, ⟨_, hr⟩, hg⟩
  | false =>
    have k1 := take_false h1
    subst k1
    obtain ⟨s2, h2⟩ : ∃ s2, needS T w_table s1 = ((), s2) := ⟨_, rfl⟩
    obtain ⟨n, s3, h3⟩ : ∃ n s3, nameS T s2 = (n, s3) := ⟨_, _, rfl⟩
    obtain ⟨s4, h4⟩ : ∃ s4, needS T [40] s3 = ((), s4) := ⟨_, rfl⟩
    obtain ⟨l, s5, h5⟩ : ∃ l s5, listS T (columnS T) s4 = (l, s5) := ⟨_, _, rfl⟩
    obtain ⟨s6, h6⟩ : ∃ s6, needS T [41] s5 = ((), s6) := ⟨_, rfl⟩
    simp only [Bool.false_eq_true, if_false, thenS, h2, h3, h4, h5, h6, retS, Prod.mk.injEq] at e
    obtain ⟨rfl, rfl⟩ := e
    exact createC_table h h1 h2 h3 h4 h5 h6
theorem keep1 {W : World} {rb o1 : Nat} {x : Value} (h1 : rb < W.heap.size) (a : W.cell? ⟨rb, o1, none⟩ = some x) (d : W.frozen? ⟨rb, o1, none⟩ = false) (o : Obj) :
    (W.alloc o).cell? ⟨rb, o1, none⟩ = some x ∧ (W.alloc o).frozen? ⟨rb, o1, none⟩ = false :=
  ⟨(World.cell?_of_block (w := W) (old_block o h1)).trans a, (World.frozen?_of_block (w := W) (old_block o h1)).trans d⟩
theorem cell_at14 (rb : Nat) (v : Value) (i en : Int) (F : Bool) (c : Cm) (cv vv fv ea wa : Value) {W : World} (h : W.heap[rb]? = some (.cells (v :: .int .i64 i :: .int .i64 en :: .bool F :: cmL c cv vv fv ea wa).toArray 50)) :
    W.cell? ⟨rb, 14, none⟩ = some fv ∧ W.frozen? ⟨rb, 14, none⟩ = false := ⟨(slice_at rb v i en F c cv vv fv ea wa h).1.2.2, (slice_at rb v i en F c cv vv fv ea wa h).2.2.2⟩
theorem cell_at13 (rb : Nat) (v : Value) (i en : Int) (F : Bool) (c : Cm) (cv vv fv ea wa : Value) {W : World} (h : W.heap[rb]? = some (.cells (v :: .int .i64 i :: .int .i64 en :: .bool F :: cmL c cv vv fv ea wa).toArray 50)) :
    W.cell? ⟨rb, 13, none⟩ = some vv ∧ W.frozen? ⟨rb, 13, none⟩ = false := ⟨(slice_at rb v i en F c cv vv fv ea wa h).1.2.1, (slice_at rb v i en F c cv vv fv ea wa h).2.2.1⟩
theorem selectC_star_by_to {w : World} {base rb : Nat} {v : Value} {T : List Tk} {en : Int} {s s1 s2 s3 s4 s5 s6 s7 s8 s9 : Sx} {n3 : List UInt8} {c4 : Cm} {n7 : List UInt8} {m9 : Nat} (h : RdC w base rb v T en (nilS, nilS, nilS) s cm0) (e1 : takeS T [42] s = (true, s1)) (e2 : needS T w_from s1 = ((), s2)) (e3 : nameS T s2 = (n3, s3)) (e4 : whereS T { cm0 with kind := 13, name := n3 } s3 = (c4, s4)) (e5 : takeS T w_order s4 = (true, s5)) (e6 : needS T w_by s5 = ((), s6)) (e7 : nameS T s6 = (n7, s7)) (e8 : takeS T w_limit s7 = (true, s8)) (e9 : numberS T s8 = (m9, s9)) :
    Calls Tryz.prog 68 #[.pointer (some ⟨rb, 0, none⟩)] w fun e w' => e = .returned (.tuple #[]) ∧ (∃ L', RdC w' base rb v T en L' s9 { c4 with order := n7, limit := (m9 : Nat) }) ∧ w.grownBy w' (some rb) := by
  obtain ⟨⟨xkind0, ckind0⟩, zkind0⟩ := fld_kind h
  have R0 := hide (set_kind h 13)
  have E1 := hide e1
  have E2 := hide e2
  have E3 := hide e3
  have E4 := hide e4
  have E5 := hide e5
  have E6 := hide e6
  have E7 := hide e7
  have E8 := hide e8
  have E9 := hide e9
  clear e1 e2 e3 e4 e5 e6 e7 e8 e9
  go_enter Tryz.func68, Tryz.ntmps68
  go_wp2_with fail
  refine (takeC R0.out [42] (by decide) E1.out).mono ?_
  rintro e w1 ⟨rfl, r1, g1⟩
  have R1 := hide r1
  clear r1
  go_wp2_with fail
  refine (needC R1.out w_from (by decide) E2.out).mono ?_
  rintro e w2 ⟨rfl, r2, g2⟩
  have R2 := hide r2
  clear r2
  go_wp2_with fail
  refine (nameC R2.out E3.out).mono ?_
  rintro e w3 ⟨rfl, r3, g3⟩
  obtain ⟨⟨xname3, cname3⟩, zname3⟩ := fld_name r3
  have R3 := hide (set_name r3 n3)
  clear r3
  go_wp2_with fail
  refine (whereC R3.out E4.out).mono ?_
  rintro e w4 ⟨rfl, r4, g4⟩
  have R4 := hide r4
  clear r4
  go_wp2_with fail
  refine (takeC R4.out w_order (by decide) E5.out).mono ?_
  rintro e w5 ⟨rfl, r5, g5⟩
  have R5 := hide r5
  clear r5
  go_wp2_with fail
  refine (needC R5.out w_by (by decide) E6.out).mono ?_
  rintro e w6 ⟨rfl, r6, g6⟩
  have R6 := hide r6
  clear r6
  go_wp2_with fail
  refine (nameC R6.out E7.out).mono ?_
  rintro e w7 ⟨rfl, r7, g7⟩
  obtain ⟨⟨xorder7, corder7⟩, zorder7⟩ := fld_order r7
  obtain ⟨⟨xlimit7, climit7⟩, zlimit7⟩ := fld_limit r7
  have R7 := hide (set_limit (set_order r7 n7) (-1))
  clear r7
  go_wp2_with fail
  refine (takeC R7.out w_limit (by decide) E8.out).mono ?_
  rintro e w8 ⟨rfl, r8, g8⟩
  have R8 := hide r8
  clear r8
  go_wp2_with fail
  refine (numC R8.out E9.out).mono ?_
  rintro e w9 ⟨rfl, r9, g9⟩
  obtain ⟨⟨xlimit9, climit9⟩, zlimit9⟩ := fld_limit r9
  have R9 := hide (set_limit r9 (m9 : Nat))
  clear r9
  go_wp2
  first | go_end0 | ((try simp only [Exit.inBlock, Exit.then]); refine bodyPost_ret (results_none rfl _ _ _) rfl ?_)
  exact ⟨rfl, ⟨_, R9.out⟩, grown_trans (grown_set _ rb _ _) (grown_trans g1 (grown_trans g2 (grown_trans g3 (grown_trans (grown_set _ rb _ _) (grown_trans g4 (grown_trans g5 (grown_trans g6 (grown_trans g7 (grown_trans (grown_set _ rb _ _) (grown_trans (grown_set _ rb _ _) (grown_trans g8 (grown_trans g9 ((grown_set _ rb _ _))))))))))))))⟩
theorem selectC_star_by_no {w : World} {base rb : Nat} {v : Value} {T : List Tk} {en : Int} {s s1 s2 s3 s4 s5 s6 s7 s8 : Sx} {n3 : List UInt8} {c4 : Cm} {n7 : List UInt8} (h : RdC w base rb v T en (nilS, nilS, nilS) s cm0) (e1 : takeS T [42] s = (true, s1)) (e2 : needS T w_from s1 = ((), s2)) (e3 : nameS T s2 = (n3, s3)) (e4 : whereS T { cm0 with kind := 13, name := n3 } s3 = (c4, s4)) (e5 : takeS T w_order s4 = (true, s5)) (e6 : needS T w_by s5 = ((), s6)) (e7 : nameS T s6 = (n7, s7)) (e8 : takeS T w_limit s7 = (false, s8)) :
    Calls Tryz.prog 68 #[.pointer (some ⟨rb, 0, none⟩)] w fun e w' => e = .returned (.tuple #[]) ∧ (∃ L', RdC w' base rb v T en L' s8 { c4 with order := n7, limit := (-1) }) ∧ w.grownBy w' (some rb) := by
  obtain ⟨⟨xkind0, ckind0⟩, zkind0⟩ := fld_kind h
  have R0 := hide (set_kind h 13)
  have E1 := hide e1
  have E2 := hide e2
  have E3 := hide e3
  have E4 := hide e4
  have E5 := hide e5
  have E6 := hide e6
  have E7 := hide e7
  have E8 := hide e8
  clear e1 e2 e3 e4 e5 e6 e7 e8
  go_enter Tryz.func68, Tryz.ntmps68
  go_wp2_with fail
  refine (takeC R0.out [42] (by decide) E1.out).mono ?_
  rintro e w1 ⟨rfl, r1, g1⟩
  have R1 := hide r1
  clear r1
  go_wp2_with fail
  refine (needC R1.out w_from (by decide) E2.out).mono ?_
  rintro e w2 ⟨rfl, r2, g2⟩
  have R2 := hide r2
  clear r2
  go_wp2_with fail
  refine (nameC R2.out E3.out).mono ?_
  rintro e w3 ⟨rfl, r3, g3⟩
  obtain ⟨⟨xname3, cname3⟩, zname3⟩ := fld_name r3
  have R3 := hide (set_name r3 n3)
  clear r3
  go_wp2_with fail
  refine (whereC R3.out E4.out).mono ?_
  rintro e w4 ⟨rfl, r4, g4⟩
  have R4 := hide r4
  clear r4
  go_wp2_with fail
  refine (takeC R4.out w_order (by decide) E5.out).mono ?_
  rintro e w5 ⟨rfl, r5, g5⟩
  have R5 := hide r5
  clear r5
  go_wp2_with fail
  refine (needC R5.out w_by (by decide) E6.out).mono ?_
  rintro e w6 ⟨rfl, r6, g6⟩
  have R6 := hide r6
  clear r6
  go_wp2_with fail
  refine (nameC R6.out E7.out).mono ?_
  rintro e w7 ⟨rfl, r7, g7⟩
  obtain ⟨⟨xorder7, corder7⟩, zorder7⟩ := fld_order r7
  obtain ⟨⟨xlimit7, climit7⟩, zlimit7⟩ := fld_limit r7
  have R7 := hide (set_limit (set_order r7 n7) (-1))
  clear r7
  go_wp2_with fail
  refine (takeC R7.out w_limit (by decide) E8.out).mono ?_
  rintro e w8 ⟨rfl, r8, g8⟩
  have R8 := hide r8
  clear r8
  go_wp2
  first | go_end0 | ((try simp only [Exit.inBlock, Exit.then]); refine bodyPost_ret (results_none rfl _ _ _) rfl ?_)
  exact ⟨rfl, ⟨_, R8.out⟩, grown_trans (grown_set _ rb _ _) (grown_trans g1 (grown_trans g2 (grown_trans g3 (grown_trans (grown_set _ rb _ _) (grown_trans g4 (grown_trans g5 (grown_trans g6 (grown_trans g7 (grown_trans (grown_set _ rb _ _) (grown_trans (grown_set _ rb _ _) (g8)))))))))))⟩
theorem selectC_star_no_to {w : World} {base rb : Nat} {v : Value} {T : List Tk} {en : Int} {s s1 s2 s3 s4 s5 s6 s7 : Sx} {n3 : List UInt8} {c4 : Cm} {m7 : Nat} (h : RdC w base rb v T en (nilS, nilS, nilS) s cm0) (e1 : takeS T [42] s = (true, s1)) (e2 : needS T w_from s1 = ((), s2)) (e3 : nameS T s2 = (n3, s3)) (e4 : whereS T { cm0 with kind := 13, name := n3 } s3 = (c4, s4)) (e5 : takeS T w_order s4 = (false, s5)) (e6 : takeS T w_limit s5 = (true, s6)) (e7 : numberS T s6 = (m7, s7)) :
    Calls Tryz.prog 68 #[.pointer (some ⟨rb, 0, none⟩)] w fun e w' => e = .returned (.tuple #[]) ∧ (∃ L', RdC w' base rb v T en L' s7 { c4 with limit := (m7 : Nat) }) ∧ w.grownBy w' (some rb) := by
  obtain ⟨⟨xkind0, ckind0⟩, zkind0⟩ := fld_kind h
  have R0 := hide (set_kind h 13)
  have E1 := hide e1
  have E2 := hide e2
  have E3 := hide e3
  have E4 := hide e4
  have E5 := hide e5
  have E6 := hide e6
  have E7 := hide e7
  clear e1 e2 e3 e4 e5 e6 e7
  go_enter Tryz.func68, Tryz.ntmps68
  go_wp2_with fail
  refine (takeC R0.out [42] (by decide) E1.out).mono ?_
  rintro e w1 ⟨rfl, r1, g1⟩
  have R1 := hide r1
  clear r1
  go_wp2_with fail
  refine (needC R1.out w_from (by decide) E2.out).mono ?_
  rintro e w2 ⟨rfl, r2, g2⟩
  have R2 := hide r2
  clear r2
  go_wp2_with fail
  refine (nameC R2.out E3.out).mono ?_
  rintro e w3 ⟨rfl, r3, g3⟩
  obtain ⟨⟨xname3, cname3⟩, zname3⟩ := fld_name r3
  have R3 := hide (set_name r3 n3)
  clear r3
  go_wp2_with fail
  refine (whereC R3.out E4.out).mono ?_
  rintro e w4 ⟨rfl, r4, g4⟩
  have R4 := hide r4
  clear r4
  go_wp2_with fail
  refine (takeC R4.out w_order (by decide) E5.out).mono ?_
  rintro e w5 ⟨rfl, r5, g5⟩
  obtain ⟨⟨xlimit5, climit5⟩, zlimit5⟩ := fld_limit r5
  have R5 := hide (set_limit r5 (-1))
  clear r5
  go_wp2_with fail
  refine (takeC R5.out w_limit (by decide) E6.out).mono ?_
  rintro e w6 ⟨rfl, r6, g6⟩
  have R6 := hide r6
  clear r6
  go_wp2_with fail
  refine (numC R6.out E7.out).mono ?_
  rintro e w7 ⟨rfl, r7, g7⟩
  obtain ⟨⟨xlimit7, climit7⟩, zlimit7⟩ := fld_limit r7
  have R7 := hide (set_limit r7 (m7 : Nat))
  clear r7
  go_wp2
  first | go_end0 | ((try simp only [Exit.inBlock, Exit.then]); refine bodyPost_ret (results_none rfl _ _ _) rfl ?_)
  exact ⟨rfl, ⟨_, R7.out⟩, grown_trans (grown_set _ rb _ _) (grown_trans g1 (grown_trans g2 (grown_trans g3 (grown_trans (grown_set _ rb _ _) (grown_trans g4 (grown_trans g5 (grown_trans (grown_set _ rb _ _) (grown_trans g6 (grown_trans g7 ((grown_set _ rb _ _)))))))))))⟩
theorem selectC_star_no_no {w : World} {base rb : Nat} {v : Value} {T : List Tk} {en : Int} {s s1 s2 s3 s4 s5 s6 : Sx} {n3 : List UInt8} {c4 : Cm} (h : RdC w base rb v T en (nilS, nilS, nilS) s cm0) (e1 : takeS T [42] s = (true, s1)) (e2 : needS T w_from s1 = ((), s2)) (e3 : nameS T s2 = (n3, s3)) (e4 : whereS T { cm0 with kind := 13, name := n3 } s3 = (c4, s4)) (e5 : takeS T w_order s4 = (false, s5)) (e6 : takeS T w_limit s5 = (false, s6)) :
    Calls Tryz.prog 68 #[.pointer (some ⟨rb, 0, none⟩)] w fun e w' => e = .returned (.tuple #[]) ∧ (∃ L', RdC w' base rb v T en L' s6 { c4 with limit := (-1) }) ∧ w.grownBy w' (some rb) := by
  obtain ⟨⟨xkind0, ckind0⟩, zkind0⟩ := fld_kind h
  have R0 := hide (set_kind h 13)
  have E1 := hide e1
  have E2 := hide e2
  have E3 := hide e3
  have E4 := hide e4
  have E5 := hide e5
  have E6 := hide e6
  clear e1 e2 e3 e4 e5 e6
  go_enter Tryz.func68, Tryz.ntmps68
  go_wp2_with fail
  refine (takeC R0.out [42] (by decide) E1.out).mono ?_
  rintro e w1 ⟨rfl, r1, g1⟩
  have R1 := hide r1
  clear r1
  go_wp2_with fail
  refine (needC R1.out w_from (by decide) E2.out).mono ?_
  rintro e w2 ⟨rfl, r2, g2⟩
  have R2 := hide r2
  clear r2
  go_wp2_with fail
  refine (nameC R2.out E3.out).mono ?_
  rintro e w3 ⟨rfl, r3, g3⟩
  obtain ⟨⟨xname3, cname3⟩, zname3⟩ := fld_name r3
  have R3 := hide (set_name r3 n3)
  clear r3
  go_wp2_with fail
  refine (whereC R3.out E4.out).mono ?_
  rintro e w4 ⟨rfl, r4, g4⟩
  have R4 := hide r4
  clear r4
  go_wp2_with fail
  refine (takeC R4.out w_order (by decide) E5.out).mono ?_
  rintro e w5 ⟨rfl, r5, g5⟩
  obtain ⟨⟨xlimit5, climit5⟩, zlimit5⟩ := fld_limit r5
  have R5 := hide (set_limit r5 (-1))
  clear r5
  go_wp2_with fail
  refine (takeC R5.out w_limit (by decide) E6.out).mono ?_
  rintro e w6 ⟨rfl, r6, g6⟩
  have R6 := hide r6
  clear r6
  go_wp2
  first | go_end0 | ((try simp only [Exit.inBlock, Exit.then]); refine bodyPost_ret (results_none rfl _ _ _) rfl ?_)
  exact ⟨rfl, ⟨_, R6.out⟩, grown_trans (grown_set _ rb _ _) (grown_trans g1 (grown_trans g2 (grown_trans g3 (grown_trans (grown_set _ rb _ _) (grown_trans g4 (grown_trans g5 (grown_trans (grown_set _ rb _ _) (g6))))))))⟩
theorem selectC_list_by_to {w : World} {base rb : Nat} {v : Value} {T : List Tk} {en : Int} {s s1 s2 s3 s4 s5 s6 s7 s8 s9 s10 : Sx} {fl : List (List UInt8)} {n4 : List UInt8} {c5 : Cm} {n8 : List UInt8} {m10 : Nat} (h : RdC w base rb v T en (nilS, nilS, nilS) s cm0) (e1 : takeS T [42] s = (false, s1)) (el : listS T (nameS T) s1 = (fl, s2)) (e3 : needS T w_from s2 = ((), s3)) (e4 : nameS T s3 = (n4, s4)) (e5 : whereS T { cm0 with kind := 13, fields := fl, name := n4 } s4 = (c5, s5)) (e6 : takeS T w_order s5 = (true, s6)) (e7 : needS T w_by s6 = ((), s7)) (e8 : nameS T s7 = (n8, s8)) (e9 : takeS T w_limit s8 = (true, s9)) (e10 : numberS T s9 = (m10, s10)) :
    Calls Tryz.prog 68 #[.pointer (some ⟨rb, 0, none⟩)] w fun e w' => e = .returned (.tuple #[]) ∧ (∃ L', RdC w' base rb v T en L' s10 { c5 with order := n8, limit := (m10 : Nat) }) ∧ w.grownBy w' (some rb) := by
  obtain ⟨i0, hi, hz0, hz1, hz2⟩ := info_parts Tryz.info_str
  obtain ⟨⟨xkind0, ckind0⟩, zkind0⟩ := fld_kind h
  have R0 := hide (set_kind h 13)
  clear h
  have E1 := hide e1
  have E3 := hide e3
  have E4 := hide e4
  have E5 := hide e5
  have E6 := hide e6
  have E7 := hide e7
  have E8 := hide e8
  have E9 := hide e9
  have E10 := hide e10
  have EL := hide el
  clear el e1 e3 e4 e5 e6 e7 e8 e9 e10
  go_enter Tryz.func68, Tryz.ntmps68
  go_wp2_with fail
  refine (takeC R0.out [42] (by decide) E1.out).mono ?_
  rintro e w1 ⟨rfl, r1, g1⟩
  have G4 : w.grownBy w1 (some rb) := grown_trans (grown_set _ rb _ _) (g1)
  clear g1 R0 E1
  obtain ⟨ea, wa, r4, i4⟩ := r1
  have HE := hide i4.expr
  have HW := hide i4.wh
  have r4 : Rd w1 base rb v T en s1 (cmL { cm0 with kind := 13, fields := [] } nilS nilS nilS ea wa) := r4
  have R4 := hide r4
  have hfew := r4.few
  have o4 : w1.ownsRow w1.heap.size 9 1 nilS 0 [] := ⟨rfl, .inl ⟨rfl, rfl⟩⟩
  have rb4 := r4.rb_lt
  clear r4 i4
  go_wp2
  go_loopw [2] (fun more wl => ∃ (b : Bool) (acc : List (List UInt8)) (j : Sx) (cv : Value) (f : Nat), more = .bool b ∧ Hid (InvL T (nameS T) (fl, s2) b acc j f) ∧ Hid (Rd wl base rb v T en j (cmL { cm0 with kind := 13, fields := acc } nilS nilS cv ea wa)) ∧ Hid (wl.ownsRow w1.heap.size 9 1 cv acc.length (acc.flatMap stC)) ∧ w1.grownBy wl (some rb) ∧ (b = true → acc.length ≤ j.1)) (fun more wl => match more with | .bool true => T.length + 2 - atP wl rb | _ => 0)
  case atStart => exact ⟨true, [], s1, nilS, _, rfl, InvL.start EL.out, R4, o4, grown_refl _ _, fun _ => Nat.zero_le _⟩
  case round =>
    obtain ⟨b, acc, j, cv, f, rfl, HI, HR, HO, hg, hacc⟩ := hrel
    have hat := HR.out.at
    obtain ⟨⟨c0, c1, c2, c3⟩, z1, z3⟩ := rd4 HR.out.blk
    have hjl := HR.out.le
    have hrbr := HR.out.rb_lt
    by_cases hgo : b = true ∧ j.2 = false
    · obtain ⟨rfl, hF⟩ := hgo
      rw [hF] at c3
      have hacc := hacc rfl
      have hgs := hg.size
      obtain ⟨x, j2, hn1⟩ : ∃ x j2, nameS T j = (x, j2) := ⟨_, _, rfl⟩
      obtain ⟨b', j3, hn3⟩ : ∃ b' j3, takeS T [44] j2 = (b', j3) := ⟨_, _, rfl⟩
      have hmono : j.1 ≤ j2.1 := by have := name_mono T j; rw [hn1] at this; exact this
      have m1 : ∀ W, Rd W base rb v T en j (cmL { cm0 with kind := 13, fields := acc } nilS nilS cv ea wa) → Calls Tryz.prog 63 #[.pointer (some ⟨rb, 0, none⟩)] W fun e w' => e = .returned (.string ⟨x.toArray⟩) ∧ Rd w' base rb v T en j2 (cmL { cm0 with kind := 13, fields := acc } nilS nilS cv ea wa) ∧ W.grownBy w' (some rb) := fun W hh => by have := rnm_any hh; rw [hn1] at this; exact this
      have HC := hide hn1
      have HT := hide hn3
      clear hn1 hn3
      obtain ⟨sr, yr⟩ := cell_at14 rb v _ en _ _ nilS nilS cv ea wa HR.out.blk
      have hne8 : cv.ownBlock ≠ some rb := fun e => by have := own_ge HO.out rb e; omega
      go_wp2_with fail
      go_region_law (first | (refine step_append_lies _ (by rfl) _ _ _ (by rfl) w1.heap.size 9 i0 _ 1 16 Tryz.underlying26 hi hz0 hz1 hz2 rfl (by omega) cv acc.length (acc.flatMap stC) (by rfl) (OC.out.alloc _) ⟨wc.heap.size, 0, none⟩ 1 1 [.string ⟨x.toArray⟩] (by rfl) (by rfl) (World.news_of_block (cs := #[.string ⟨x.toArray⟩]) (t := 9) (fr := (0, 0)) (heap_alloc_new wc _)) (by simp [Value.oneCell']) (by omega) (by unfold maxLen; omega) (by omega) (by simp; omega) (wc.heap.size + 1) (by simp) ?_; intro gg cap wq hown1 hgrow hat1 hlt1; have hs8 : wq.cell? ⟨rb, 14, none⟩ = some cv := (hgrow.cell_far ⟨rb, 14, none⟩ (by simp; omega) (Ne.symm hne8)).trans (keep1 hrbC s8 y8 _).1; have hy8 : wq.frozen? ⟨rb, 14, none⟩ = false := (hgrow.frozen_far ⟨rb, 14, none⟩ (by simp; omega) (Ne.symm hne8)).trans (keep1 hrbC s8 y8 _).2) | (go_simp; refine (m1 _ (HR.out.below (Below.refl _ _).drew)).mono ?_; rintro e wc ⟨rfl, rc, gc⟩; have RC := hide rc; have gC := hide gc; have OC := hide (HO.out.kept (grown_trans (grown_below (Below.refl _ _).drew _) gc) (.inr hne8)); have hrbC := rc.rb_lt; have hj2 := rc.le; have hsC : wr.heap.size ≤ wc.heap.size := gc.size; obtain ⟨s8, y8⟩ := cell_at14 rb v _ en _ _ nilS nilS cv ea wa rc.blk; clear rc gc; dsimp only))
      all_goals (
        obtain ⟨rz, oz, gz⟩ := pushed rb4 hg (grown_trans (grown_below (Below.refl _ _).drew _) gC.out) RC.out OC.out ((Below.refl _ _).alloc (Nat.le_refl _) _) hgrow hown1 10
        have Rz : Hid (Rd _ base rb v T en j2 (cmL { cm0 with kind := 13, fields := (acc ++ [x]) } nilS nilS (.slice (some ⟨gg, 0, none⟩) (acc.length + 1) cap) ea wa)) := rz
        have Oz : Hid (World.ownsRow _ w1.heap.size 9 1 (.slice (some ⟨gg, 0, none⟩) (acc.length + 1) cap) (acc.length + 1) (acc.flatMap stC ++ [.string ⟨x.toArray⟩])) := oz
        have Gz := hide gz
        clear rz oz gz hown1 hgrow hat1 hlt1 hs8 hy8
        generalize wq.setCell ⟨rb, 14, none⟩ (.slice (some ⟨gg, 0, none⟩) (acc.length + 1) cap) = wz at *
        go_wp2_with fail
        refine (take_eq Rz.out [44] (by decide) HT.out).mono ?_
        rintro e wy ⟨rfl, ry, gy⟩
        have Ry := hide ry
        have haty := ry.at
        have oy := Oz.out.kept gy (.inr (fun e => by have := own_ge Oz.out rb e; omega))
        obtain ⟨f', HI'⟩ := InvL.step HI.out hF HC.out hmono hj2 HT.out
        have HJ := hide HI'
        have Oy : Hid (wy.ownsRow w1.heap.size 9 1 (.slice (some ⟨gg, 0, none⟩) (acc.length + 1) cap) (acc ++ [x]).length ((acc ++ [x]).flatMap stC)) := by
          show World.ownsRow _ _ _ _ _ _ _
          rw [List.length_append, List.flatMap_append]
          exact oy
        have gY := grown_trans Gz.out gy
        clear ry oy HI'
        go_wp2
        go_roundw
        case rel => exact ⟨b', _, j3, _, f', rfl, HJ, Ry, Oy, gY, fun hb => by have := take_true (hb ▸ HT.out); simp; omega⟩
        case measure =>
          cases b' with
          | false => simp; omega
          | true => have := take_true HT.out; simp only; omega)
    · have HD : Hid ((fl, s2) = (acc, j)) := HI.out.done hgo
      have RL : Hid (RdC wr base rb v T en (nilS, nilS, cv) s2 { cm0 with kind := 13, fields := fl }) := by
        show RdC _ _ _ _ _ _ _ _ _
        rw [(Prod.mk.inj HD.out).1, (Prod.mk.inj HD.out).2]
        exact ⟨ea, wa, HR.out, ⟨RowAt.nil _ _ _, RowAt.nil _ _ _, (row_of HO.out).weak (by omega), HE.out.anywhere _ _, HW.out.anywhere _ _⟩⟩
      clear HD HI HE HW HO EL R4 o4
      cases b with
      | false =>
        clear HR c0 c1 c2 c3 z1 z3
        go_wp2_with fail
        refine (needC RL.out w_from (by decide) E3.out).mono ?_
        rintro e w3 ⟨rfl, r3, g3⟩
        have R3 := hide r3
        clear r3
        go_wp2_with fail
        refine (nameC R3.out E4.out).mono ?_
        rintro e w4 ⟨rfl, r4, g4⟩
        obtain ⟨⟨xname4, cname4⟩, zname4⟩ := fld_name r4
        have R4 := hide (set_name r4 n4)
        clear r4
        go_wp2_with fail
        refine (whereC R4.out E5.out).mono ?_
        rintro e w5 ⟨rfl, r5, g5⟩
        have R5 := hide r5
        clear r5
        go_wp2_with fail
        refine (takeC R5.out w_order (by decide) E6.out).mono ?_
        rintro e w6 ⟨rfl, r6, g6⟩
        have R6 := hide r6
        clear r6
        go_wp2_with fail
        refine (needC R6.out w_by (by decide) E7.out).mono ?_
        rintro e w7 ⟨rfl, r7, g7⟩
        have R7 := hide r7
        clear r7
        go_wp2_with fail
        refine (nameC R7.out E8.out).mono ?_
        rintro e w8 ⟨rfl, r8, g8⟩
        obtain ⟨⟨xorder8, corder8⟩, zorder8⟩ := fld_order r8
        obtain ⟨⟨xlimit8, climit8⟩, zlimit8⟩ := fld_limit r8
        have R8 := hide (set_limit (set_order r8 n8) (-1))
        clear r8
        go_wp2_with fail
        refine (takeC R8.out w_limit (by decide) E9.out).mono ?_
        rintro e w9 ⟨rfl, r9, g9⟩
        have R9 := hide r9
        clear r9
        go_wp2_with fail
        refine (numC R9.out E10.out).mono ?_
        rintro e w10 ⟨rfl, r10, g10⟩
        obtain ⟨⟨xlimit10, climit10⟩, zlimit10⟩ := fld_limit r10
        have R10 := hide (set_limit r10 (m10 : Nat))
        clear r10
        go_wp2
        first | go_end0 | ((try simp only [Exit.inBlock, Exit.then]); refine bodyPost_ret (results_none rfl _ _ _) rfl ?_)
        exact ⟨rfl, ⟨_, R10.out⟩, grown_trans G4 (grown_trans hg (grown_trans g3 (grown_trans g4 (grown_trans (grown_set _ rb _ _) (grown_trans g5 (grown_trans g6 (grown_trans g7 (grown_trans g8 (grown_trans (grown_set _ rb _ _) (grown_trans (grown_set _ rb _ _) (grown_trans g9 (grown_trans g10 ((grown_set _ rb _ _))))))))))))))⟩
      | true =>
        have hF : j.2 = true := by cases hh : j.2 <;> simp_all
        rw [hF] at c3
        clear HR
        go_wp2_with fail
        refine (needC RL.out w_from (by decide) E3.out).mono ?_
        rintro e w3 ⟨rfl, r3, g3⟩
        have R3 := hide r3
        clear r3
        go_wp2_with fail
        refine (nameC R3.out E4.out).mono ?_
        rintro e w4 ⟨rfl, r4, g4⟩
        obtain ⟨⟨xname4, cname4⟩, zname4⟩ := fld_name r4
        have R4 := hide (set_name r4 n4)
        clear r4
        go_wp2_with fail
        refine (whereC R4.out E5.out).mono ?_
        rintro e w5 ⟨rfl, r5, g5⟩
        have R5 := hide r5
        clear r5
        go_wp2_with fail
        refine (takeC R5.out w_order (by decide) E6.out).mono ?_
        rintro e w6 ⟨rfl, r6, g6⟩
        have R6 := hide r6
        clear r6
        go_wp2_with fail
        refine (needC R6.out w_by (by decide) E7.out).mono ?_
        rintro e w7 ⟨rfl, r7, g7⟩
        have R7 := hide r7
        clear r7
        go_wp2_with fail
        refine (nameC R7.out E8.out).mono ?_
        rintro e w8 ⟨rfl, r8, g8⟩
        obtain ⟨⟨xorder8, corder8⟩, zorder8⟩ := fld_order r8
        obtain ⟨⟨xlimit8, climit8⟩, zlimit8⟩ := fld_limit r8
        have R8 := hide (set_limit (set_order r8 n8) (-1))
        clear r8
        go_wp2_with fail
        refine (takeC R8.out w_limit (by decide) E9.out).mono ?_
        rintro e w9 ⟨rfl, r9, g9⟩
        have R9 := hide r9
        clear r9
        go_wp2_with fail
        refine (numC R9.out E10.out).mono ?_
        rintro e w10 ⟨rfl, r10, g10⟩
        obtain ⟨⟨xlimit10, climit10⟩, zlimit10⟩ := fld_limit r10
        have R10 := hide (set_limit r10 (m10 : Nat))
        clear r10
        go_wp2
        first | go_end0 | ((try simp only [Exit.inBlock, Exit.then]); refine bodyPost_ret (results_none rfl _ _ _) rfl ?_)
        exact ⟨rfl, ⟨_, R10.out⟩, grown_trans G4 (grown_trans hg (grown_trans g3 (grown_trans g4 (grown_trans (grown_set _ rb _ _) (grown_trans g5 (grown_trans g6 (grown_trans g7 (grown_trans g8 (grown_trans (grown_set _ rb _ _) (grown_trans (grown_set _ rb _ _) (grown_trans g9 (grown_trans g10 ((grown_set _ rb _ _))))))))))))))⟩
theorem selectC_list_by_no {w : World} {base rb : Nat} {v : Value} {T : List Tk} {en : Int} {s s1 s2 s3 s4 s5 s6 s7 s8 s9 : Sx} {fl : List (List UInt8)} {n4 : List UInt8} {c5 : Cm} {n8 : List UInt8} (h : RdC w base rb v T en (nilS, nilS, nilS) s cm0) (e1 : takeS T [42] s = (false, s1)) (el : listS T (nameS T) s1 = (fl, s2)) (e3 : needS T w_from s2 = ((), s3)) (e4 : nameS T s3 = (n4, s4)) (e5 : whereS T { cm0 with kind := 13, fields := fl, name := n4 } s4 = (c5, s5)) (e6 : takeS T w_order s5 = (true, s6)) (e7 : needS T w_by s6 = ((), s7)) (e8 : nameS T s7 = (n8, s8)) (e9 : takeS T w_limit s8 = (false, s9)) :
    Calls Tryz.prog 68 #[.pointer (some ⟨rb, 0, none⟩)] w fun e w' => e = .returned (.tuple #[]) ∧ (∃ L', RdC w' base rb v T en L' s9 { c5 with order := n8, limit := (-1) }) ∧ w.grownBy w' (some rb) := by
  obtain ⟨i0, hi, hz0, hz1, hz2⟩ := info_parts Tryz.info_str
  obtain ⟨⟨xkind0, ckind0⟩, zkind0⟩ := fld_kind h
  have R0 := hide (set_kind h 13)
  clear h
  have E1 := hide e1
  have E3 := hide e3
  have E4 := hide e4
  have E5 := hide e5
  have E6 := hide e6
  have E7 := hide e7
  have E8 := hide e8
  have E9 := hide e9
  have EL := hide el
  clear el e1 e3 e4 e5 e6 e7 e8 e9
  go_enter Tryz.func68, Tryz.ntmps68
  go_wp2_with fail
  refine (takeC R0.out [42] (by decide) E1.out).mono ?_
  rintro e w1 ⟨rfl, r1, g1⟩
  have G4 : w.grownBy w1 (some rb) := grown_trans (grown_set _ rb _ _) (g1)
  clear g1 R0 E1
  obtain ⟨ea, wa, r4, i4⟩ := r1
  have HE := hide i4.expr
  have HW := hide i4.wh
  have r4 : Rd w1 base rb v T en s1 (cmL { cm0 with kind := 13, fields := [] } nilS nilS nilS ea wa) := r4
  have R4 := hide r4
  have hfew := r4.few
  have o4 : w1.ownsRow w1.heap.size 9 1 nilS 0 [] := ⟨rfl, .inl ⟨rfl, rfl⟩⟩
  have rb4 := r4.rb_lt
  clear r4 i4
  go_wp2
  go_loopw [2] (fun more wl => ∃ (b : Bool) (acc : List (List UInt8)) (j : Sx) (cv : Value) (f : Nat), more = .bool b ∧ Hid (InvL T (nameS T) (fl, s2) b acc j f) ∧ Hid (Rd wl base rb v T en j (cmL { cm0 with kind := 13, fields := acc } nilS nilS cv ea wa)) ∧ Hid (wl.ownsRow w1.heap.size 9 1 cv acc.length (acc.flatMap stC)) ∧ w1.grownBy wl (some rb) ∧ (b = true → acc.length ≤ j.1)) (fun more wl => match more with | .bool true => T.length + 2 - atP wl rb | _ => 0)
  case atStart => exact ⟨true, [], s1, nilS, _, rfl, InvL.start EL.out, R4, o4, grown_refl _ _, fun _ => Nat.zero_le _⟩
  case round =>
    obtain ⟨b, acc, j, cv, f, rfl, HI, HR, HO, hg, hacc⟩ := hrel
    have hat := HR.out.at
    obtain ⟨⟨c0, c1, c2, c3⟩, z1, z3⟩ := rd4 HR.out.blk
    have hjl := HR.out.le
    have hrbr := HR.out.rb_lt
    by_cases hgo : b = true ∧ j.2 = false
    · obtain ⟨rfl, hF⟩ := hgo
      rw [hF] at c3
      have hacc := hacc rfl
      have hgs := hg.size
      obtain ⟨x, j2, hn1⟩ : ∃ x j2, nameS T j = (x, j2) := ⟨_, _, rfl⟩
      obtain ⟨b', j3, hn3⟩ : ∃ b' j3, takeS T [44] j2 = (b', j3) := ⟨_, _, rfl⟩
      have hmono : j.1 ≤ j2.1 := by have := name_mono T j; rw [hn1] at this; exact this
      have m1 : ∀ W, Rd W base rb v T en j (cmL { cm0 with kind := 13, fields := acc } nilS nilS cv ea wa) → Calls Tryz.prog 63 #[.pointer (some ⟨rb, 0, none⟩)] W fun e w' => e = .returned (.string ⟨x.toArray⟩) ∧ Rd w' base rb v T en j2 (cmL { cm0 with kind := 13, fields := acc } nilS nilS cv ea wa) ∧ W.grownBy w' (some rb) := fun W hh => by have := rnm_any hh; rw [hn1] at this; exact this
      have HC := hide hn1
      have HT := hide hn3
      clear hn1 hn3
      obtain ⟨sr, yr⟩ := cell_at14 rb v _ en _ _ nilS nilS cv ea wa HR.out.blk
      have hne8 : cv.ownBlock ≠ some rb := fun e => by have := own_ge HO.out rb e; omega
      go_wp2_with fail
      go_region_law (first | (refine step_append_lies _ (by rfl) _ _ _ (by rfl) w1.heap.size 9 i0 _ 1 16 Tryz.underlying26 hi hz0 hz1 hz2 rfl (by omega) cv acc.length (acc.flatMap stC) (by rfl) (OC.out.alloc _) ⟨wc.heap.size, 0, none⟩ 1 1 [.string ⟨x.toArray⟩] (by rfl) (by rfl) (World.news_of_block (cs := #[.string ⟨x.toArray⟩]) (t := 9) (fr := (0, 0)) (heap_alloc_new wc _)) (by simp [Value.oneCell']) (by omega) (by unfold maxLen; omega) (by omega) (by simp; omega) (wc.heap.size + 1) (by simp) ?_; intro gg cap wq hown1 hgrow hat1 hlt1; have hs8 : wq.cell? ⟨rb, 14, none⟩ = some cv := (hgrow.cell_far ⟨rb, 14, none⟩ (by simp; omega) (Ne.symm hne8)).trans (keep1 hrbC s8 y8 _).1; have hy8 : wq.frozen? ⟨rb, 14, none⟩ = false := (hgrow.frozen_far ⟨rb, 14, none⟩ (by simp; omega) (Ne.symm hne8)).trans (keep1 hrbC s8 y8 _).2) | (go_simp; refine (m1 _ (HR.out.below (Below.refl _ _).drew)).mono ?_; rintro e wc ⟨rfl, rc, gc⟩; have RC := hide rc; have gC := hide gc; have OC := hide (HO.out.kept (grown_trans (grown_below (Below.refl _ _).drew _) gc) (.inr hne8)); have hrbC := rc.rb_lt; have hj2 := rc.le; have hsC : wr.heap.size ≤ wc.heap.size := gc.size; obtain ⟨s8, y8⟩ := cell_at14 rb v _ en _ _ nilS nilS cv ea wa rc.blk; clear rc gc; dsimp only))
      all_goals (
        obtain ⟨rz, oz, gz⟩ := pushed rb4 hg (grown_trans (grown_below (Below.refl _ _).drew _) gC.out) RC.out OC.out ((Below.refl _ _).alloc (Nat.le_refl _) _) hgrow hown1 10
        have Rz : Hid (Rd _ base rb v T en j2 (cmL { cm0 with kind := 13, fields := (acc ++ [x]) } nilS nilS (.slice (some ⟨gg, 0, none⟩) (acc.length + 1) cap) ea wa)) := rz
        have Oz : Hid (World.ownsRow _ w1.heap.size 9 1 (.slice (some ⟨gg, 0, none⟩) (acc.length + 1) cap) (acc.length + 1) (acc.flatMap stC ++ [.string ⟨x.toArray⟩])) := oz
        have Gz := hide gz
        clear rz oz gz hown1 hgrow hat1 hlt1 hs8 hy8
        generalize wq.setCell ⟨rb, 14, none⟩ (.slice (some ⟨gg, 0, none⟩) (acc.length + 1) cap) = wz at *
        go_wp2_with fail
        refine (take_eq Rz.out [44] (by decide) HT.out).mono ?_
        rintro e wy ⟨rfl, ry, gy⟩
        have Ry := hide ry
        have haty := ry.at
        have oy := Oz.out.kept gy (.inr (fun e => by have := own_ge Oz.out rb e; omega))
        obtain ⟨f', HI'⟩ := InvL.step HI.out hF HC.out hmono hj2 HT.out
        have HJ := hide HI'
        have Oy : Hid (wy.ownsRow w1.heap.size 9 1 (.slice (some ⟨gg, 0, none⟩) (acc.length + 1) cap) (acc ++ [x]).length ((acc ++ [x]).flatMap stC)) := by
          show World.ownsRow _ _ _ _ _ _ _
          rw [List.length_append, List.flatMap_append]
          exact oy
        have gY := grown_trans Gz.out gy
        clear ry oy HI'
        go_wp2
        go_roundw
        case rel => exact ⟨b', _, j3, _, f', rfl, HJ, Ry, Oy, gY, fun hb => by have := take_true (hb ▸ HT.out); simp; omega⟩
        case measure =>
          cases b' with
          | false => simp; omega
          | true => have := take_true HT.out; simp only; omega)
    · have HD : Hid ((fl, s2) = (acc, j)) := HI.out.done hgo
      have RL : Hid (RdC wr base rb v T en (nilS, nilS, cv) s2 { cm0 with kind := 13, fields := fl }) := by
        show RdC _ _ _ _ _ _ _ _ _
        rw [(Prod.mk.inj HD.out).1, (Prod.mk.inj HD.out).2]
        exact ⟨ea, wa, HR.out, ⟨RowAt.nil _ _ _, RowAt.nil _ _ _, (row_of HO.out).weak (by omega), HE.out.anywhere _ _, HW.out.anywhere _ _⟩⟩
      clear HD HI HE HW HO EL R4 o4
      cases b with
      | false =>
        clear HR c0 c1 c2 c3 z1 z3
        go_wp2_with fail
        refine (needC RL.out w_from (by decide) E3.out).mono ?_
        rintro e w3 ⟨rfl, r3, g3⟩
        have R3 := hide r3
        clear r3
        go_wp2_with fail
        refine (nameC R3.out E4.out).mono ?_
        rintro e w4 ⟨rfl, r4, g4⟩
        obtain ⟨⟨xname4, cname4⟩, zname4⟩ := fld_name r4
        have R4 := hide (set_name r4 n4)
        clear r4
        go_wp2_with fail
        refine (whereC R4.out E5.out).mono ?_
        rintro e w5 ⟨rfl, r5, g5⟩
        have R5 := hide r5
        clear r5
        go_wp2_with fail
        refine (takeC R5.out w_order (by decide) E6.out).mono ?_
        rintro e w6 ⟨rfl, r6, g6⟩
        have R6 := hide r6
        clear r6
        go_wp2_with fail
        refine (needC R6.out w_by (by decide) E7.out).mono ?_
        rintro e w7 ⟨rfl, r7, g7⟩
        have R7 := hide r7
        clear r7
        go_wp2_with fail
        refine (nameC R7.out E8.out).mono ?_
        rintro e w8 ⟨rfl, r8, g8⟩
        obtain ⟨⟨xorder8, corder8⟩, zorder8⟩ := fld_order r8
        obtain ⟨⟨xlimit8, climit8⟩, zlimit8⟩ := fld_limit r8
        have R8 := hide (set_limit (set_order r8 n8) (-1))
        clear r8
        go_wp2_with fail
        refine (takeC R8.out w_limit (by decide) E9.out).mono ?_
        rintro e w9 ⟨rfl, r9, g9⟩
        have R9 := hide r9
        clear r9
        go_wp2
        first | go_end0 | ((try simp only [Exit.inBlock, Exit.then]); refine bodyPost_ret (results_none rfl _ _ _) rfl ?_)
        exact ⟨rfl, ⟨_, R9.out⟩, grown_trans G4 (grown_trans hg (grown_trans g3 (grown_trans g4 (grown_trans (grown_set _ rb _ _) (grown_trans g5 (grown_trans g6 (grown_trans g7 (grown_trans g8 (grown_trans (grown_set _ rb _ _) (grown_trans (grown_set _ rb _ _) (g9)))))))))))⟩
      | true =>
        have hF : j.2 = true := by cases hh : j.2 <;> simp_all
        rw [hF] at c3
        clear HR
        go_wp2_with fail
        refine (needC RL.out w_from (by decide) E3.out).mono ?_
        rintro e w3 ⟨rfl, r3, g3⟩
        have R3 := hide r3
        clear r3
        go_wp2_with fail
        refine (nameC R3.out E4.out).mono ?_
        rintro e w4 ⟨rfl, r4, g4⟩
        obtain ⟨⟨xname4, cname4⟩, zname4⟩ := fld_name r4
        have R4 := hide (set_name r4 n4)
        clear r4
        go_wp2_with fail
        refine (whereC R4.out E5.out).mono ?_
        rintro e w5 ⟨rfl, r5, g5⟩
        have R5 := hide r5
        clear r5
        go_wp2_with fail
        refine (takeC R5.out w_order (by decide) E6.out).mono ?_
        rintro e w6 ⟨rfl, r6, g6⟩
        have R6 := hide r6
        clear r6
        go_wp2_with fail
        refine (needC R6.out w_by (by decide) E7.out).mono ?_
        rintro e w7 ⟨rfl, r7, g7⟩
        have R7 := hide r7
        clear r7
        go_wp2_with fail
        refine (nameC R7.out E8.out).mono ?_
        rintro e w8 ⟨rfl, r8, g8⟩
        obtain ⟨⟨xorder8, corder8⟩, zorder8⟩ := fld_order r8
        obtain ⟨⟨xlimit8, climit8⟩, zlimit8⟩ := fld_limit r8
        have R8 := hide (set_limit (set_order r8 n8) (-1))
        clear r8
        go_wp2_with fail
        refine (takeC R8.out w_limit (by decide) E9.out).mono ?_
        rintro e w9 ⟨rfl, r9, g9⟩
        have R9 := hide r9
        clear r9
        go_wp2
        first | go_end0 | ((try simp only [Exit.inBlock, Exit.then]); refine bodyPost_ret (results_none rfl _ _ _) rfl ?_)
        exact ⟨rfl, ⟨_, R9.out⟩, grown_trans G4 (grown_trans hg (grown_trans g3 (grown_trans g4 (grown_trans (grown_set _ rb _ _) (grown_trans g5 (grown_trans g6 (grown_trans g7 (grown_trans g8 (grown_trans (grown_set _ rb _ _) (grown_trans (grown_set _ rb _ _) (g9)))))))))))⟩
theorem selectC_list_no_to {w : World} {base rb : Nat} {v : Value} {T : List Tk} {en : Int} {s s1 s2 s3 s4 s5 s6 s7 s8 : Sx} {fl : List (List UInt8)} {n4 : List UInt8} {c5 : Cm} {m8 : Nat} (h : RdC w base rb v T en (nilS, nilS, nilS) s cm0) (e1 : takeS T [42] s = (false, s1)) (el : listS T (nameS T) s1 = (fl, s2)) (e3 : needS T w_from s2 = ((), s3)) (e4 : nameS T s3 = (n4, s4)) (e5 : whereS T { cm0 with kind := 13, fields := fl, name := n4 } s4 = (c5, s5)) (e6 : takeS T w_order s5 = (false, s6)) (e7 : takeS T w_limit s6 = (true, s7)) (e8 : numberS T s7 = (m8, s8)) :
    Calls Tryz.prog 68 #[.pointer (some ⟨rb, 0, none⟩)] w fun e w' => e = .returned (.tuple #[]) ∧ (∃ L', RdC w' base rb v T en L' s8 { c5 with limit := (m8 : Nat) }) ∧ w.grownBy w' (some rb) := by
  obtain ⟨i0, hi, hz0, hz1, hz2⟩ := info_parts Tryz.info_str
  obtain ⟨⟨xkind0, ckind0⟩, zkind0⟩ := fld_kind h
  have R0 := hide (set_kind h 13)
  clear h
  have E1 := hide e1
  have E3 := hide e3
  have E4 := hide e4
  have E5 := hide e5
  have E6 := hide e6
  have E7 := hide e7
  have E8 := hide e8
  have EL := hide el
  clear el e1 e3 e4 e5 e6 e7 e8
  go_enter Tryz.func68, Tryz.ntmps68
  go_wp2_with fail
  refine (takeC R0.out [42] (by decide) E1.out).mono ?_
  rintro e w1 ⟨rfl, r1, g1⟩
  have G4 : w.grownBy w1 (some rb) := grown_trans (grown_set _ rb _ _) (g1)
  clear g1 R0 E1
  obtain ⟨ea, wa, r4, i4⟩ := r1
  have HE := hide i4.expr
  have HW := hide i4.wh
  have r4 : Rd w1 base rb v T en s1 (cmL { cm0 with kind := 13, fields := [] } nilS nilS nilS ea wa) := r4
  have R4 := hide r4
  have hfew := r4.few
  have o4 : w1.ownsRow w1.heap.size 9 1 nilS 0 [] := ⟨rfl, .inl ⟨rfl, rfl⟩⟩
  have rb4 := r4.rb_lt
  clear r4 i4
  go_wp2
  go_loopw [2] (fun more wl => ∃ (b : Bool) (acc : List (List UInt8)) (j : Sx) (cv : Value) (f : Nat), more = .bool b ∧ Hid (InvL T (nameS T) (fl, s2) b acc j f) ∧ Hid (Rd wl base rb v T en j (cmL { cm0 with kind := 13, fields := acc } nilS nilS cv ea wa)) ∧ Hid (wl.ownsRow w1.heap.size 9 1 cv acc.length (acc.flatMap stC)) ∧ w1.grownBy wl (some rb) ∧ (b = true → acc.length ≤ j.1)) (fun more wl => match more with | .bool true => T.length + 2 - atP wl rb | _ => 0)
  case atStart => exact ⟨true, [], s1, nilS, _, rfl, InvL.start EL.out, R4, o4, grown_refl _ _, fun _ => Nat.zero_le _⟩
  case round =>
    obtain ⟨b, acc, j, cv, f, rfl, HI, HR, HO, hg, hacc⟩ := hrel
    have hat := HR.out.at
    obtain ⟨⟨c0, c1, c2, c3⟩, z1, z3⟩ := rd4 HR.out.blk
    have hjl := HR.out.le
    have hrbr := HR.out.rb_lt
    by_cases hgo : b = true ∧ j.2 = false
    · obtain ⟨rfl, hF⟩ := hgo
      rw [hF] at c3
      have hacc := hacc rfl
      have hgs := hg.size
      obtain ⟨x, j2, hn1⟩ : ∃ x j2, nameS T j = (x, j2) := ⟨_, _, rfl⟩
      obtain ⟨b', j3, hn3⟩ : ∃ b' j3, takeS T [44] j2 = (b', j3) := ⟨_, _, rfl⟩
      have hmono : j.1 ≤ j2.1 := by have := name_mono T j; rw [hn1] at this; exact this
      have m1 : ∀ W, Rd W base rb v T en j (cmL { cm0 with kind := 13, fields := acc } nilS nilS cv ea wa) → Calls Tryz.prog 63 #[.pointer (some ⟨rb, 0, none⟩)] W fun e w' => e = .returned (.string ⟨x.toArray⟩) ∧ Rd w' base rb v T en j2 (cmL { cm0 with kind := 13, fields := acc } nilS nilS cv ea wa) ∧ W.grownBy w' (some rb) := fun W hh => by have := rnm_any hh; rw [hn1] at this; exact this
      have HC := hide hn1
      have HT := hide hn3
      clear hn1 hn3
      obtain ⟨sr, yr⟩ := cell_at14 rb v _ en _ _ nilS nilS cv ea wa HR.out.blk
      have hne8 : cv.ownBlock ≠ some rb := fun e => by have := own_ge HO.out rb e; omega
      go_wp2_with fail
      go_region_law (first | (refine step_append_lies _ (by rfl) _ _ _ (by rfl) w1.heap.size 9 i0 _ 1 16 Tryz.underlying26 hi hz0 hz1 hz2 rfl (by omega) cv acc.length (acc.flatMap stC) (by rfl) (OC.out.alloc _) ⟨wc.heap.size, 0, none⟩ 1 1 [.string ⟨x.toArray⟩] (by rfl) (by rfl) (World.news_of_block (cs := #[.string ⟨x.toArray⟩]) (t := 9) (fr := (0, 0)) (heap_alloc_new wc _)) (by simp [Value.oneCell']) (by omega) (by unfold maxLen; omega) (by omega) (by simp; omega) (wc.heap.size + 1) (by simp) ?_; intro gg cap wq hown1 hgrow hat1 hlt1; have hs8 : wq.cell? ⟨rb, 14, none⟩ = some cv := (hgrow.cell_far ⟨rb, 14, none⟩ (by simp; omega) (Ne.symm hne8)).trans (keep1 hrbC s8 y8 _).1; have hy8 : wq.frozen? ⟨rb, 14, none⟩ = false := (hgrow.frozen_far ⟨rb, 14, none⟩ (by simp; omega) (Ne.symm hne8)).trans (keep1 hrbC s8 y8 _).2) | (go_simp; refine (m1 _ (HR.out.below (Below.refl _ _).drew)).mono ?_; rintro e wc ⟨rfl, rc, gc⟩; have RC := hide rc; have gC := hide gc; have OC := hide (HO.out.kept (grown_trans (grown_below (Below.refl _ _).drew _) gc) (.inr hne8)); have hrbC := rc.rb_lt; have hj2 := rc.le; have hsC : wr.heap.size ≤ wc.heap.size := gc.size; obtain ⟨s8, y8⟩ := cell_at14 rb v _ en _ _ nilS nilS cv ea wa rc.blk; clear rc gc; dsimp only))
      all_goals (
        obtain ⟨rz, oz, gz⟩ := pushed rb4 hg (grown_trans (grown_below (Below.refl _ _).drew _) gC.out) RC.out OC.out ((Below.refl _ _).alloc (Nat.le_refl _) _) hgrow hown1 10
        have Rz : Hid (Rd _ base rb v T en j2 (cmL { cm0 with kind := 13, fields := (acc ++ [x]) } nilS nilS (.slice (some ⟨gg, 0, none⟩) (acc.length + 1) cap) ea wa)) := rz
        have Oz : Hid (World.ownsRow _ w1.heap.size 9 1 (.slice (some ⟨gg, 0, none⟩) (acc.length + 1) cap) (acc.length + 1) (acc.flatMap stC ++ [.string ⟨x.toArray⟩])) := oz
        have Gz := hide gz
        clear rz oz gz hown1 hgrow hat1 hlt1 hs8 hy8
        generalize wq.setCell ⟨rb, 14, none⟩ (.slice (some ⟨gg, 0, none⟩) (acc.length + 1) cap) = wz at *
        go_wp2_with fail
        refine (take_eq Rz.out [44] (by decide) HT.out).mono ?_
        rintro e wy ⟨rfl, ry, gy⟩
        have Ry := hide ry
        have haty := ry.at
        have oy := Oz.out.kept gy (.inr (fun e => by have := own_ge Oz.out rb e; omega))
        obtain ⟨f', HI'⟩ := InvL.step HI.out hF HC.out hmono hj2 HT.out
        have HJ := hide HI'
        have Oy : Hid (wy.ownsRow w1.heap.size 9 1 (.slice (some ⟨gg, 0, none⟩) (acc.length + 1) cap) (acc ++ [x]).length ((acc ++ [x]).flatMap stC)) := by
          show World.ownsRow _ _ _ _ _ _ _
          rw [List.length_append, List.flatMap_append]
          exact oy
        have gY := grown_trans Gz.out gy
        clear ry oy HI'
        go_wp2
        go_roundw
        case rel => exact ⟨b', _, j3, _, f', rfl, HJ, Ry, Oy, gY, fun hb => by have := take_true (hb ▸ HT.out); simp; omega⟩
        case measure =>
          cases b' with
          | false => simp; omega
          | true => have := take_true HT.out; simp only; omega)
    · have HD : Hid ((fl, s2) = (acc, j)) := HI.out.done hgo
      have RL : Hid (RdC wr base rb v T en (nilS, nilS, cv) s2 { cm0 with kind := 13, fields := fl }) := by
        show RdC _ _ _ _ _ _ _ _ _
        rw [(Prod.mk.inj HD.out).1, (Prod.mk.inj HD.out).2]
        exact ⟨ea, wa, HR.out, ⟨RowAt.nil _ _ _, RowAt.nil _ _ _, (row_of HO.out).weak (by omega), HE.out.anywhere _ _, HW.out.anywhere _ _⟩⟩
      clear HD HI HE HW HO EL R4 o4
      cases b with
      | false =>
        clear HR c0 c1 c2 c3 z1 z3
        go_wp2_with fail
        refine (needC RL.out w_from (by decide) E3.out).mono ?_
        rintro e w3 ⟨rfl, r3, g3⟩
        have R3 := hide r3
        clear r3
        go_wp2_with fail
        refine (nameC R3.out E4.out).mono ?_
        rintro e w4 ⟨rfl, r4, g4⟩
        obtain ⟨⟨xname4, cname4⟩, zname4⟩ := fld_name r4
        have R4 := hide (set_name r4 n4)
        clear r4
        go_wp2_with fail
        refine (whereC R4.out E5.out).mono ?_
        rintro e w5 ⟨rfl, r5, g5⟩
        have R5 := hide r5
        clear r5
        go_wp2_with fail
        refine (takeC R5.out w_order (by decide) E6.out).mono ?_
        rintro e w6 ⟨rfl, r6, g6⟩
        obtain ⟨⟨xlimit6, climit6⟩, zlimit6⟩ := fld_limit r6
        have R6 := hide (set_limit r6 (-1))
        clear r6
        go_wp2_with fail
        refine (takeC R6.out w_limit (by decide) E7.out).mono ?_
        rintro e w7 ⟨rfl, r7, g7⟩
        have R7 := hide r7
        clear r7
        go_wp2_with fail
        refine (numC R7.out E8.out).mono ?_
        rintro e w8 ⟨rfl, r8, g8⟩
        obtain ⟨⟨xlimit8, climit8⟩, zlimit8⟩ := fld_limit r8
        have R8 := hide (set_limit r8 (m8 : Nat))
        clear r8
        go_wp2
        first | go_end0 | ((try simp only [Exit.inBlock, Exit.then]); refine bodyPost_ret (results_none rfl _ _ _) rfl ?_)
        exact ⟨rfl, ⟨_, R8.out⟩, grown_trans G4 (grown_trans hg (grown_trans g3 (grown_trans g4 (grown_trans (grown_set _ rb _ _) (grown_trans g5 (grown_trans g6 (grown_trans (grown_set _ rb _ _) (grown_trans g7 (grown_trans g8 ((grown_set _ rb _ _)))))))))))⟩
      | true =>
        have hF : j.2 = true := by cases hh : j.2 <;> simp_all
        rw [hF] at c3
        clear HR
        go_wp2_with fail
        refine (needC RL.out w_from (by decide) E3.out).mono ?_
        rintro e w3 ⟨rfl, r3, g3⟩
        have R3 := hide r3
        clear r3
        go_wp2_with fail
        refine (nameC R3.out E4.out).mono ?_
        rintro e w4 ⟨rfl, r4, g4⟩
        obtain ⟨⟨xname4, cname4⟩, zname4⟩ := fld_name r4
        have R4 := hide (set_name r4 n4)
        clear r4
        go_wp2_with fail
        refine (whereC R4.out E5.out).mono ?_
        rintro e w5 ⟨rfl, r5, g5⟩
        have R5 := hide r5
        clear r5
        go_wp2_with fail
        refine (takeC R5.out w_order (by decide) E6.out).mono ?_
        rintro e w6 ⟨rfl, r6, g6⟩
        obtain ⟨⟨xlimit6, climit6⟩, zlimit6⟩ := fld_limit r6
        have R6 := hide (set_limit r6 (-1))
        clear r6
        go_wp2_with fail
        refine (takeC R6.out w_limit (by decide) E7.out).mono ?_
        rintro e w7 ⟨rfl, r7, g7⟩
        have R7 := hide r7
        clear r7
        go_wp2_with fail
        refine (numC R7.out E8.out).mono ?_
        rintro e w8 ⟨rfl, r8, g8⟩
        obtain ⟨⟨xlimit8, climit8⟩, zlimit8⟩ := fld_limit r8
        have R8 := hide (set_limit r8 (m8 : Nat))
        clear r8
        go_wp2
        first | go_end0 | ((try simp only [Exit.inBlock, Exit.then]); refine bodyPost_ret (results_none rfl _ _ _) rfl ?_)
        exact ⟨rfl, ⟨_, R8.out⟩, grown_trans G4 (grown_trans hg (grown_trans g3 (grown_trans g4 (grown_trans (grown_set _ rb _ _) (grown_trans g5 (grown_trans g6 (grown_trans (grown_set _ rb _ _) (grown_trans g7 (grown_trans g8 ((grown_set _ rb _ _)))))))))))⟩
theorem selectC_list_no_no {w : World} {base rb : Nat} {v : Value} {T : List Tk} {en : Int} {s s1 s2 s3 s4 s5 s6 s7 : Sx} {fl : List (List UInt8)} {n4 : List UInt8} {c5 : Cm} (h : RdC w base rb v T en (nilS, nilS, nilS) s cm0) (e1 : takeS T [42] s = (false, s1)) (el : listS T (nameS T) s1 = (fl, s2)) (e3 : needS T w_from s2 = ((), s3)) (e4 : nameS T s3 = (n4, s4)) (e5 : whereS T { cm0 with kind := 13, fields := fl, name := n4 } s4 = (c5, s5)) (e6 : takeS T w_order s5 = (false, s6)) (e7 : takeS T w_limit s6 = (false, s7)) :
    Calls Tryz.prog 68 #[.pointer (some ⟨rb, 0, none⟩)] w fun e w' => e = .returned (.tuple #[]) ∧ (∃ L', RdC w' base rb v T en L' s7 { c5 with limit := (-1) }) ∧ w.grownBy w' (some rb) := by
  obtain ⟨i0, hi, hz0, hz1, hz2⟩ := info_parts Tryz.info_str
  obtain ⟨⟨xkind0, ckind0⟩, zkind0⟩ := fld_kind h
  have R0 := hide (set_kind h 13)
  clear h
  have E1 := hide e1
  have E3 := hide e3
  have E4 := hide e4
  have E5 := hide e5
  have E6 := hide e6
  have E7 := hide e7
  have EL := hide el
  clear el e1 e3 e4 e5 e6 e7
  go_enter Tryz.func68, Tryz.ntmps68
  go_wp2_with fail
  refine (takeC R0.out [42] (by decide) E1.out).mono ?_
  rintro e w1 ⟨rfl, r1, g1⟩
  have G4 : w.grownBy w1 (some rb) := grown_trans (grown_set _ rb _ _) (g1)
  clear g1 R0 E1
  obtain ⟨ea, wa, r4, i4⟩ := r1
  have HE := hide i4.expr
  have HW := hide i4.wh
  have r4 : Rd w1 base rb v T en s1 (cmL { cm0 with kind := 13, fields := [] } nilS nilS nilS ea wa) := r4
  have R4 := hide r4
  have hfew := r4.few
  have o4 : w1.ownsRow w1.heap.size 9 1 nilS 0 [] := ⟨rfl, .inl ⟨rfl, rfl⟩⟩
  have rb4 := r4.rb_lt
  clear r4 i4
  go_wp2
  go_loopw [2] (fun more wl => ∃ (b : Bool) (acc : List (List UInt8)) (j : Sx) (cv : Value) (f : Nat), more = .bool b ∧ Hid (InvL T (nameS T) (fl, s2) b acc j f) ∧ Hid (Rd wl base rb v T en j (cmL { cm0 with kind := 13, fields := acc } nilS nilS cv ea wa)) ∧ Hid (wl.ownsRow w1.heap.size 9 1 cv acc.length (acc.flatMap stC)) ∧ w1.grownBy wl (some rb) ∧ (b = true → acc.length ≤ j.1)) (fun more wl => match more with | .bool true => T.length + 2 - atP wl rb | _ => 0)
  case atStart => exact ⟨true, [], s1, nilS, _, rfl, InvL.start EL.out, R4, o4, grown_refl _ _, fun _ => Nat.zero_le _⟩
  case round =>
    obtain ⟨b, acc, j, cv, f, rfl, HI, HR, HO, hg, hacc⟩ := hrel
    have hat := HR.out.at
    obtain ⟨⟨c0, c1, c2, c3⟩, z1, z3⟩ := rd4 HR.out.blk
    have hjl := HR.out.le
    have hrbr := HR.out.rb_lt
    by_cases hgo : b = true ∧ j.2 = false
    · obtain ⟨rfl, hF⟩ := hgo
      rw [hF] at c3
      have hacc := hacc rfl
      have hgs := hg.size
      obtain ⟨x, j2, hn1⟩ : ∃ x j2, nameS T j = (x, j2) := ⟨_, _, rfl⟩
      obtain ⟨b', j3, hn3⟩ : ∃ b' j3, takeS T [44] j2 = (b', j3) := ⟨_, _, rfl⟩
      have hmono : j.1 ≤ j2.1 := by have := name_mono T j; rw [hn1] at this; exact this
      have m1 : ∀ W, Rd W base rb v T en j (cmL { cm0 with kind := 13, fields := acc } nilS nilS cv ea wa) → Calls Tryz.prog 63 #[.pointer (some ⟨rb, 0, none⟩)] W fun e w' => e = .returned (.string ⟨x.toArray⟩) ∧ Rd w' base rb v T en j2 (cmL { cm0 with kind := 13, fields := acc } nilS nilS cv ea wa) ∧ W.grownBy w' (some rb) := fun W hh => by have := rnm_any hh; rw [hn1] at this; exact this
      have HC := hide hn1
      have HT := hide hn3
      clear hn1 hn3
      obtain ⟨sr, yr⟩ := cell_at14 rb v _ en _ _ nilS nilS cv ea wa HR.out.blk
      have hne8 : cv.ownBlock ≠ some rb := fun e => by have := own_ge HO.out rb e; omega
      go_wp2_with fail
      go_region_law (first | (refine step_append_lies _ (by rfl) _ _ _ (by rfl) w1.heap.size 9 i0 _ 1 16 Tryz.underlying26 hi hz0 hz1 hz2 rfl (by omega) cv acc.length (acc.flatMap stC) (by rfl) (OC.out.alloc _) ⟨wc.heap.size, 0, none⟩ 1 1 [.string ⟨x.toArray⟩] (by rfl) (by rfl) (World.news_of_block (cs := #[.string ⟨x.toArray⟩]) (t := 9) (fr := (0, 0)) (heap_alloc_new wc _)) (by simp [Value.oneCell']) (by omega) (by unfold maxLen; omega) (by omega) (by simp; omega) (wc.heap.size + 1) (by simp) ?_; intro gg cap wq hown1 hgrow hat1 hlt1; have hs8 : wq.cell? ⟨rb, 14, none⟩ = some cv := (hgrow.cell_far ⟨rb, 14, none⟩ (by simp; omega) (Ne.symm hne8)).trans (keep1 hrbC s8 y8 _).1; have hy8 : wq.frozen? ⟨rb, 14, none⟩ = false := (hgrow.frozen_far ⟨rb, 14, none⟩ (by simp; omega) (Ne.symm hne8)).trans (keep1 hrbC s8 y8 _).2) | (go_simp; refine (m1 _ (HR.out.below (Below.refl _ _).drew)).mono ?_; rintro e wc ⟨rfl, rc, gc⟩; have RC := hide rc; have gC := hide gc; have OC := hide (HO.out.kept (grown_trans (grown_below (Below.refl _ _).drew _) gc) (.inr hne8)); have hrbC := rc.rb_lt; have hj2 := rc.le; have hsC : wr.heap.size ≤ wc.heap.size := gc.size; obtain ⟨s8, y8⟩ := cell_at14 rb v _ en _ _ nilS nilS cv ea wa rc.blk; clear rc gc; dsimp only))
      all_goals (
        obtain ⟨rz, oz, gz⟩ := pushed rb4 hg (grown_trans (grown_below (Below.refl _ _).drew _) gC.out) RC.out OC.out ((Below.refl _ _).alloc (Nat.le_refl _) _) hgrow hown1 10
        have Rz : Hid (Rd _ base rb v T en j2 (cmL { cm0 with kind := 13, fields := (acc ++ [x]) } nilS nilS (.slice (some ⟨gg, 0, none⟩) (acc.length + 1) cap) ea wa)) := rz
        have Oz : Hid (World.ownsRow _ w1.heap.size 9 1 (.slice (some ⟨gg, 0, none⟩) (acc.length + 1) cap) (acc.length + 1) (acc.flatMap stC ++ [.string ⟨x.toArray⟩])) := oz
        have Gz := hide gz
        clear rz oz gz hown1 hgrow hat1 hlt1 hs8 hy8
        generalize wq.setCell ⟨rb, 14, none⟩ (.slice (some ⟨gg, 0, none⟩) (acc.length + 1) cap) = wz at *
        go_wp2_with fail
        refine (take_eq Rz.out [44] (by decide) HT.out).mono ?_
        rintro e wy ⟨rfl, ry, gy⟩
        have Ry := hide ry
        have haty := ry.at
        have oy := Oz.out.kept gy (.inr (fun e => by have := own_ge Oz.out rb e; omega))
        obtain ⟨f', HI'⟩ := InvL.step HI.out hF HC.out hmono hj2 HT.out
        have HJ := hide HI'
        have Oy : Hid (wy.ownsRow w1.heap.size 9 1 (.slice (some ⟨gg, 0, none⟩) (acc.length + 1) cap) (acc ++ [x]).length ((acc ++ [x]).flatMap stC)) := by
          show World.ownsRow _ _ _ _ _ _ _
          rw [List.length_append, List.flatMap_append]
          exact oy
        have gY := grown_trans Gz.out gy
        clear ry oy HI'
        go_wp2
        go_roundw
        case rel => exact ⟨b', _, j3, _, f', rfl, HJ, Ry, Oy, gY, fun hb => by have := take_true (hb ▸ HT.out); simp; omega⟩
        case measure =>
          cases b' with
          | false => simp; omega
          | true => have := take_true HT.out; simp only; omega)
    · have HD : Hid ((fl, s2) = (acc, j)) := HI.out.done hgo
      have RL : Hid (RdC wr base rb v T en (nilS, nilS, cv) s2 { cm0 with kind := 13, fields := fl }) := by
        show RdC _ _ _ _ _ _ _ _ _
        rw [(Prod.mk.inj HD.out).1, (Prod.mk.inj HD.out).2]
        exact ⟨ea, wa, HR.out, ⟨RowAt.nil _ _ _, RowAt.nil _ _ _, (row_of HO.out).weak (by omega), HE.out.anywhere _ _, HW.out.anywhere _ _⟩⟩
      clear HD HI HE HW HO EL R4 o4
      cases b with
      | false =>
        clear HR c0 c1 c2 c3 z1 z3
        go_wp2_with fail
        refine (needC RL.out w_from (by decide) E3.out).mono ?_
        rintro e w3 ⟨rfl, r3, g3⟩
        have R3 := hide r3
        clear r3
        go_wp2_with fail
        refine (nameC R3.out E4.out).mono ?_
        rintro e w4 ⟨rfl, r4, g4⟩
        obtain ⟨⟨xname4, cname4⟩, zname4⟩ := fld_name r4
        have R4 := hide (set_name r4 n4)
        clear r4
        go_wp2_with fail
        refine (whereC R4.out E5.out).mono ?_
        rintro e w5 ⟨rfl, r5, g5⟩
        have R5 := hide r5
        clear r5
        go_wp2_with fail
        refine (takeC R5.out w_order (by decide) E6.out).mono ?_
        rintro e w6 ⟨rfl, r6, g6⟩
        obtain ⟨⟨xlimit6, climit6⟩, zlimit6⟩ := fld_limit r6
        have R6 := hide (set_limit r6 (-1))
        clear r6
        go_wp2_with fail
        refine (takeC R6.out w_limit (by decide) E7.out).mono ?_
        rintro e w7 ⟨rfl, r7, g7⟩
        have R7 := hide r7
        clear r7
        go_wp2
        first | go_end0 | ((try simp only [Exit.inBlock, Exit.then]); refine bodyPost_ret (results_none rfl _ _ _) rfl ?_)
        exact ⟨rfl, ⟨_, R7.out⟩, grown_trans G4 (grown_trans hg (grown_trans g3 (grown_trans g4 (grown_trans (grown_set _ rb _ _) (grown_trans g5 (grown_trans g6 (grown_trans (grown_set _ rb _ _) (g7))))))))⟩
      | true =>
        have hF : j.2 = true := by cases hh : j.2 <;> simp_all
        rw [hF] at c3
        clear HR
        go_wp2_with fail
        refine (needC RL.out w_from (by decide) E3.out).mono ?_
        rintro e w3 ⟨rfl, r3, g3⟩
        have R3 := hide r3
        clear r3
        go_wp2_with fail
        refine (nameC R3.out E4.out).mono ?_
        rintro e w4 ⟨rfl, r4, g4⟩
        obtain ⟨⟨xname4, cname4⟩, zname4⟩ := fld_name r4
        have R4 := hide (set_name r4 n4)
        clear r4
        go_wp2_with fail
        refine (whereC R4.out E5.out).mono ?_
        rintro e w5 ⟨rfl, r5, g5⟩
        have R5 := hide r5
        clear r5
        go_wp2_with fail
        refine (takeC R5.out w_order (by decide) E6.out).mono ?_
        rintro e w6 ⟨rfl, r6, g6⟩
        obtain ⟨⟨xlimit6, climit6⟩, zlimit6⟩ := fld_limit r6
        have R6 := hide (set_limit r6 (-1))
        clear r6
        go_wp2_with fail
        refine (takeC R6.out w_limit (by decide) E7.out).mono ?_
        rintro e w7 ⟨rfl, r7, g7⟩
        have R7 := hide r7
        clear r7
        go_wp2
        first | go_end0 | ((try simp only [Exit.inBlock, Exit.then]); refine bodyPost_ret (results_none rfl _ _ _) rfl ?_)
        exact ⟨rfl, ⟨_, R7.out⟩, grown_trans G4 (grown_trans hg (grown_trans g3 (grown_trans g4 (grown_trans (grown_set _ rb _ _) (grown_trans g5 (grown_trans g6 (grown_trans (grown_set _ rb _ _) (g7))))))))⟩
theorem where_lim {T : List Tk} {c c' : Cm} {s s' : Sx} (h : whereS T c s = (c', s')) : whereS T { c with limit := -1 } s = ({ c' with limit := -1 }, s') := by
  revert h
  unfold whereS elseS thenS retS
  split
  · intro h; cases h; rfl
  · intro h; cases h; rfl
theorem selectC {w : World} {base rb : Nat} {v : Value} {T : List Tk} {en : Int} {s s' : Sx} {c' : Cm} (h : RdC w base rb v T en (nilS, nilS, nilS) s cm0) (e : selectS T s = (c', s')) :
    Calls Tryz.prog 68 #[.pointer (some ⟨rb, 0, none⟩)] w fun e w' => e = .returned (.tuple #[]) ∧ (∃ L', RdC w' base rb v T en L' s' c') ∧ w.grownBy w' (some rb) := by
  unfold selectS at e
  obtain ⟨b1, s1, h1⟩ : ∃ b s1, takeS T [42] s = (b, s1) := ⟨_, _, rfl⟩
  have tail : ∀ (fl : List (List UInt8)) (s2 : Sx), thenS (needS T w_from) (fun _ => thenS (nameS T) fun n => thenS (whereS T { cm0 with kind := 13, limit := -1, fields := fl, name := n }) fun c => thenS (orderS T c) fun c => limitS T c) s2 = (c', s') →
      ∃ s3 n s4 c5 s5 b6 s6, needS T w_from s2 = ((), s3) ∧ nameS T s3 = (n, s4) ∧ whereS T { cm0 with kind := 13, fields := fl, name := n } s4 = (c5, s5) ∧ takeS T w_order s5 = (b6, s6) ∧ thenS (orderS T { c5 with limit := -1 }) (fun c => limitS T c) s5 = (c', s') := by
    intro fl s2 e
    obtain ⟨s3, h3⟩ : ∃ s3, needS T w_from s2 = ((), s3) := ⟨_, rfl⟩
    obtain ⟨n, s4, h4⟩ : ∃ n s4, nameS T s3 = (n, s4) := ⟨_, _, rfl⟩
    obtain ⟨c5, s5, h5⟩ : ∃ c s5, whereS T { cm0 with kind := 13, fields := fl, name := n } s4 = (c, s5) := ⟨_, _, rfl⟩
    obtain ⟨b6, s6, h6⟩ : ∃ b s6, takeS T w_order s5 = (b, s6) := ⟨_, _, rfl⟩
    refine ⟨s3, n, s4, c5, s5, b6, s6, h3, h4, h5, h6, ?_⟩
    have k := where_lim h5
    simp only [thenS, h3, h4] at e
    simp only [thenS]
    rw [← e]
    have k2 : whereS T { cm0 with kind := 13, limit := -1, fields := fl, name := n } s4 = ({ c5 with limit := -1 }, s5) := k
    rw [k2]
  have by_ : ∀ {c5 : Cm} {s5 s6 : Sx}, takeS T w_order s5 = (true, s6) → thenS (orderS T { c5 with limit := -1 }) (fun c => limitS T c) s5 = (c', s') →
      ∃ s7 o s8 b9 s9, needS T w_by s6 = ((), s7) ∧ nameS T s7 = (o, s8) ∧ takeS T w_limit s8 = (b9, s9) ∧ limitS T { c5 with order := o, limit := -1 } s8 = (c', s') := by
    intro c5 s5 s6 h6 e
    obtain ⟨s7, h7⟩ : ∃ s7, needS T w_by s6 = ((), s7) := ⟨_, rfl⟩
    obtain ⟨o, s8, h8⟩ : ∃ n s8, nameS T s7 = (n, s8) := ⟨_, _, rfl⟩
    obtain ⟨b9, s9, h9⟩ : ∃ b s9, takeS T w_limit s8 = (b, s9) := ⟨_, _, rfl⟩
    refine ⟨s7, o, s8, b9, s9, h7, h8, h9, ?_⟩
    simp only [thenS, orderS, elseS, h6, if_true, h7, h8, retS] at e
    exact e
  have no_ : ∀ {c5 : Cm} {s5 s6 : Sx}, takeS T w_order s5 = (false, s6) → thenS (orderS T { c5 with limit := -1 }) (fun c => limitS T c) s5 = (c', s') →
      s6 = s5 ∧ ∃ b9 s9, takeS T w_limit s6 = (b9, s9) ∧ limitS T { c5 with limit := -1 } s6 = (c', s') := by
    intro c5 s5 s6 h6 e
    have k := take_false h6
    subst k
    obtain ⟨b9, s9, h9⟩ : ∃ b s9, takeS T w_limit s6 = (b, s9) := ⟨_, _, rfl⟩
    refine ⟨rfl, b9, s9, h9, ?_⟩
    simp only [thenS, orderS, elseS, h6, Bool.false_eq_true, if_false, retS] at e
    exact e
  have lim : ∀ {c : Cm} {s8 s9 : Sx}, takeS T w_limit s8 = (true, s9) → limitS T c s8 = (c', s') → ∃ m, numberS T s9 = (m, s') ∧ c' = { c with limit := (m : Nat) } := by
    intro c s8 s9 h9 e
    obtain ⟨m, s10, h10⟩ : ∃ m s10, numberS T s9 = (m, s10) := ⟨_, _, rfl⟩
    simp only [limitS, thenS, elseS, h9, if_true, h10, retS] at e
    cases e
    exact ⟨m, h10, rfl⟩
  have nol : ∀ {c : Cm} {s8 s9 : Sx}, takeS T w_limit s8 = (false, s9) → limitS T c s8 = (c', s') → s9 = s8 ∧ c' = c ∧ s' = s8 := by
    intro c s8 s9 h9 e
    have k := take_false h9
    subst k
    simp only [limitS, thenS, elseS, h9, Bool.false_eq_true, if_false, retS] at e
    cases e
    exact ⟨rfl, rfl, rfl⟩
  cases b1 with
  | true =>
    have e1 : elseS T [42] (retS []) (listS T (nameS T)) s = ([], s1) := by unfold elseS retS; rw [h1]; rfl
    unfold thenS at e
    rw [e1] at e
    obtain ⟨s3, n, s4, c5, s5, b6, s6, h3, h4, h5, h6, e⟩ := tail [] s1 e
    cases b6 with
    | true =>
      obtain ⟨s7, o, s8, b9, s9, h7, h8, h9, e⟩ := by_ h6 e
      cases b9 with
      | true =>
        obtain ⟨m, h10, rfl⟩ := lim h9 e
        have q := selectC_star_by_to h h1 h3 h4 h5 h6 h7 h8 h9 h10
        exact q
      | false =>
        obtain ⟨rfl, rfl, rfl⟩ := nol h9 e
        have q := selectC_star_by_no h h1 h3 h4 h5 h6 h7 h8 h9
        exact q
    | false =>
      obtain ⟨rfl, b9, s9, h9, e⟩ := no_ h6 e
      cases b9 with
      | true =>
        obtain ⟨m, h10, rfl⟩ := lim h9 e
        have q := selectC_star_no_to h h1 h3 h4 h5 h6 h9 h10
        exact q
      | false =>
        obtain ⟨rfl, rfl, rfl⟩ := nol h9 e
        have q := selectC_star_no_no h h1 h3 h4 h5 h6 h9
        exact q
  | false =>
    have k1 := take_false h1
    subst k1
    obtain ⟨fl, s2, h2⟩ : ∃ fl s2, listS T (nameS T) s1 = (fl, s2) := ⟨_, _, rfl⟩
    have e1 : elseS T [42] (retS []) (listS T (nameS T)) s1 = (fl, s2) := by unfold elseS; rw [h1]; simp only [Bool.false_eq_true, if_false]; exact h2
    unfold thenS at e
    rw [e1] at e
    obtain ⟨s3, n, s4, c5, s5, b6, s6, h3, h4, h5, h6, e⟩ := tail fl s2 e
    cases b6 with
    | true =>
      obtain ⟨s7, o, s8, b9, s9, h7, h8, h9, e⟩ := by_ h6 e
      cases b9 with
      | true =>
        obtain ⟨m, h10, rfl⟩ := lim h9 e
        have q := selectC_list_by_to h h1 h2 h3 h4 h5 h6 h7 h8 h9 h10
        exact q
      | false =>
        obtain ⟨rfl, rfl, rfl⟩ := nol h9 e
        have q := selectC_list_by_no h h1 h2 h3 h4 h5 h6 h7 h8 h9
        exact q
    | false =>
      obtain ⟨rfl, b9, s9, h9, e⟩ := no_ h6 e
      cases b9 with
      | true =>
        obtain ⟨m, h10, rfl⟩ := lim h9 e
        have q := selectC_list_no_to h h1 h2 h3 h4 h5 h6 h9 h10
        exact q
      | false =>
        obtain ⟨rfl, rfl, rfl⟩ := nol h9 e
        have q := selectC_list_no_no h h1 h2 h3 h4 h5 h6 h9
        exact q
end Go.Proofs.YtkpeklealgicpabGreatDoor
