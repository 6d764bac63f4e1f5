/-
  'rowBegun', and lists of values held against each other.
-/
import Derived.Test.YtkpeklealgicpacDcd
import Derived.Deep.RegionHeld3
namespace Go.Proofs.Ytkpeklealgicpac
open Go.RowKit

theorem Try.fields36 : (Try.prog.fieldsOf 36).toList.map (fun f => (f.name, f.type, f.offset)) = [("Kind", 3, 0), ("N", 3, 1), ("S", 9, 2)] := by kernel_rfl
theorem Try.under36 : Try.prog.underlying 36 = some (.struct (Try.prog.fieldsOf 36)) := by kernel_rfl
theorem Try.stood36 : Try.prog.stoodInHeld 36 = false := by kernel_rfl

theorem eql36 (k a k' a' : Int) (t t' : ByteArray) (w : World) :
    (binOp .eql 36 (.agg #[.int .i64 k, .int .i64 a, .string t]) (.agg #[.int .i64 k', .int .i64 a', .string t'])).run Try.prog w = .ok (.bool (sameTk k a t k' a' t')) w := by
  rw [run_eql_struct, run_equalIn_struct w 9999 36 _ _ Try.under36 Try.stood36]
  obtain ⟨f0, f1, f2, hf, n0, t0, o0, n1, t1, o1, n2, t2, o2⟩ := fields_three Try.fields36
  rw [hf]
  simp [Op.eqFields, n0, t0, o0, n1, t1, o1, n2, t2, o2, go_sem]
  unfold sameTk
  by_cases h1 : k = k' <;> by_cases h2 : a = a' <;> by_cases h3 : t.toList = t'.toList <;> simp [h1, h2, h3]

set_option maxRecDepth 100000 in
theorem num_any (N : Int) (w : World) : Calls Try.prog 17 #[.int .i64 N] w fun e w' => e = .returned (.agg #[.int .i64 1, .int .i64 N, .string ⟨#[]⟩]) ∧ Below w.heap.size w w' := by
  go_enter Try.func17, Try.ntmps17
  go_wp2
  refine bodyPost_ret (v := .agg #[.int .i64 1, .int .i64 N, .string ⟨#[]⟩]) ?_ rfl ⟨rfl, ?_⟩
  · simp [results, Try.results17, go_sem]
  · exact (Below.refl _ _).alloc (Nat.le_refl _) _

set_option maxRecDepth 100000 in
theorem txt_any (s : ByteArray) (w : World) : Calls Try.prog 18 #[.string s] w fun e w' => e = .returned (.agg #[.int .i64 2, .int .i64 0, .string s]) ∧ Below w.heap.size w w' := by
  go_enter Try.func18, Try.ntmps18
  go_wp2
  refine bodyPost_ret (v := .agg #[.int .i64 2, .int .i64 0, .string s]) ?_ rfl ⟨rfl, ?_⟩
  · simp [results, Try.results18, go_sem]
  · exact (Below.refl _ _).alloc (Nat.le_refl _) _

/-- the three values -/
def threeL : List Vl := [⟨1, 1, []⟩, ⟨2, 0, [120]⟩, ⟨0, 0, []⟩]
theorem b_chk : chkL threeL = 0 := by decide +kernel
theorem b_enc : encR threeL = [3, 1, 0, 202, 154, 59, 2, 1, 120, 0] := by decide +kernel
theorem b_dec : decE [3, 1, 0, 202, 154, 59, 2, 1, 120, 0] = 0 ∧ decR [3, 1, 0, 202, 154, 59, 2, 1, 120, 0] = threeL := by
  have h := dec_enc threeL b_chk
  have e : encL threeL = [3, 1, 0, 202, 154, 59, 2, 1, 120, 0] := by decide +kernel
  rw [e] at h
  exact h

theorem keepB {w W W' : World} {b : Nat} {x y z : Value} (h : W.cell? ⟨b, 3, none⟩ = some x ∧ W.cell? ⟨b, 4, none⟩ = some y ∧ W.cell? ⟨b, 5, none⟩ = some z ∧ Below w.heap.size w W ∧ b < W.heap.size) (hb : Below W.heap.size W W') :
    W'.cell? ⟨b, 3, none⟩ = some x ∧ W'.cell? ⟨b, 4, none⟩ = some y ∧ W'.cell? ⟨b, 5, none⟩ = some z ∧ Below w.heap.size w W' ∧ b < W'.heap.size :=
  ⟨(hb.cell h.2.2.2.2).trans h.1, (hb.cell h.2.2.2.2).trans h.2.1, (hb.cell h.2.2.2.2).trans h.2.2.1, h.2.2.2.1.trans (hb.mono h.2.2.2.1.size), Nat.lt_of_lt_of_le h.2.2.2.2 hb.size⟩

set_option maxRecDepth 100000 in
set_option maxHeartbeats 1600000 in
theorem begun_any (w : World) : Calls Try.prog 10 #[] w fun e w' => e = .returned (.bool true) ∧ Below w.heap.size w w' := by
  have hq := eql36
  have hst : sameTk 2 0 ⟨#[120]⟩ 2 0 ⟨#[120]⟩ = true := by decide +kernel
  go_enter Try.func10, Try.ntmps10
  go_wp2_with fail
  refine (num_any 1 _).mono ?_
  rintro e w1 ⟨rfl, b1⟩
  go_wp2_with fail
  refine (txt_any _ _).mono ?_
  rintro e w2 ⟨rfl, b2⟩
  have q2 : Below w.heap.size w w2 := b1.trans (b2.mono b1.size)
  clear b1 b2
  go_wp2_with fail
  have hv : VsAt (w2.alloc (.cells #[.int .i64 1, .int .i64 1, .string ⟨#[]⟩, .int .i64 2, .int .i64 0, .string ⟨#[120]⟩, .int .i64 0, .int .i64 0, .string ⟨#[]⟩] 36)) (.slice (some ⟨w2.heap.size, 0, none⟩) 3 3) threeL := by
    refine ⟨_, 3, rfl, by decide, by decide, fun _ => ⟨w2.heap.size, 0, rfl, by simp, ?_⟩⟩
    intro i x hx
    match i, hx with
    | 0, hx => cases hx; simp
    | 1, hx => cases hx; simp
    | 2, hx => cases hx; simp
  have he := encode_any threeL _ _ hv
  rw [b_enc, b_chk] at he
  refine he.mono ?_
  rintro e w3 ⟨rfl, b3⟩
  have q3 : Below w.heap.size w w3 := (q2.alloc q2.size _).trans (b3.mono (by have := q2.size; simp; omega))
  clear q2 b3 hv he
  go_wp2_with fail
  have hd := decode_any [3, 1, 0, 202, 154, 59, 2, 1, 120, 0] w3
  refine hd.mono ?_
  rintro e w4 ⟨v, rfl, hown, b4, -, -⟩
  rw [b_dec.2] at hown
  rw [b_dec.1]
  have q4 : Below w.heap.size w w4 := q3.trans (b4.mono q3.size)
  obtain ⟨g, cap, rfl, -, hg⟩ := owns_some hown (by decide)
  have c3 : w4.cell? ⟨g, 3, none⟩ = some (.int .i64 2) := hown.cellAt 3 (by decide)
  have c4 : w4.cell? ⟨g, 4, none⟩ = some (.int .i64 0) := hown.cellAt 4 (by decide)
  have c5 : w4.cell? ⟨g, 5, none⟩ = some (.string ⟨#[120]⟩) := hown.cellAt 5 (by decide)
  have hl : threeL.length = 3 := rfl
  rw [hl]
  clear hd hown b4 q3 hl
  go_wp2_with fail
  go_region_held3 (fun w' => w'.cell? ⟨g, 3, none⟩ = some (.int .i64 2) ∧ w'.cell? ⟨g, 4, none⟩ = some (.int .i64 0) ∧ w'.cell? ⟨g, 5, none⟩ = some (.string ⟨#[120]⟩) ∧ Below w.heap.size w w' ∧ g < w'.heap.size) (first | exact ⟨c3, c4, c5, q4.drew, hg⟩ | exact keepB (by assumption) (by assumption)) (first | (go_at_call 18; refine (txt_any _ _).mono ?_; rintro e w' ⟨rfl, hb⟩))
  rename_i hH
  have q8 := hH.2.2.2.1
  clear hH
  go_wp2
  go_ret
  exact ⟨rfl, q8⟩

theorem keepS {w W W' : World} {g o g' o' : Nat} {x y z : Value} (hg : g < w.heap.size) (hg' : g' < w.heap.size)
    (h : W.cell? ⟨g, o, none⟩ = some x ∧ W.cell? ⟨g, o + 1, none⟩ = some y ∧ W.cell? ⟨g, o + 2, none⟩ = some z ∧ W.cell? ⟨g', o', none⟩ = some x ∧ W.cell? ⟨g', o' + 1, none⟩ = some y ∧ W.cell? ⟨g', o' + 2, none⟩ = some z ∧ Below w.heap.size w W) (hb : Below W.heap.size W W') :
    W'.cell? ⟨g, o, none⟩ = some x ∧ W'.cell? ⟨g, o + 1, none⟩ = some y ∧ W'.cell? ⟨g, o + 2, none⟩ = some z ∧ W'.cell? ⟨g', o', none⟩ = some x ∧ W'.cell? ⟨g', o' + 1, none⟩ = some y ∧ W'.cell? ⟨g', o' + 2, none⟩ = some z ∧ Below w.heap.size w W' := by
  obtain ⟨h1, h2, h3, h4, h5, h6, h7⟩ := h
  have s := h7.size
  exact ⟨(hb.cell (p := ⟨g, _, none⟩) (by show g < _; omega)).trans h1, (hb.cell (p := ⟨g, _, none⟩) (by show g < _; omega)).trans h2, (hb.cell (p := ⟨g, _, none⟩) (by show g < _; omega)).trans h3, (hb.cell (p := ⟨g', _, none⟩) (by show g' < _; omega)).trans h4, (hb.cell (p := ⟨g', _, none⟩) (by show g' < _; omega)).trans h5, (hb.cell (p := ⟨g', _, none⟩) (by show g' < _; omega)).trans h6, h7.trans (hb.mono s)⟩

set_option maxRecDepth 100000 in
set_option maxHeartbeats 1600000 in
theorem same_vals (L : List Vl) (u v : Value) (w : World) (h : VsAt w u L) (h' : VsAt w v L) : Calls Try.prog 11 #[u, v] w fun e w' => e = .returned (.bool true) ∧ Below w.heap.size w w' := by
  obtain ⟨ao, cap, rfl, h1, h2, h3⟩ := h
  obtain ⟨ao', cap', rfl, -, -, h3'⟩ := h'
  obtain ⟨n, hn⟩ : ∃ n, L.length = n := ⟨_, rfl⟩
  rw [hn] at h1 ⊢
  go_enter Try.func11, Try.ntmps11
  go_wp2
  go_loopw [5] (fun i wl => ∃ k : Nat, k ≤ n ∧ i = .int .i64 k ∧ Below w.heap.size w wl) (fun i _ => n - (intOf i).toNat)
  case atStart => exact ⟨0, Nat.zero_le _, rfl, Below.refl _ _⟩
  case round =>
    obtain ⟨k, hk, rfl, hnx⟩ := hrel
    by_cases hlt : k < n
    · obtain ⟨x, hx⟩ : ∃ x, L[k]? = some x := ⟨L[k], List.getElem?_eq_getElem (by omega)⟩
      obtain ⟨g, o, rfl, hg, hc⟩ := h3 (by intro e; rw [e] at hx; cases hx)
      obtain ⟨g', o', rfl, hg', hc'⟩ := h3' (by intro e; rw [e] at hx; cases hx)
      obtain ⟨a0, a1, a2⟩ := hc k x hx
      obtain ⟨d0, d1, d2⟩ := hc' k x hx
      have hS := (⟨a0, a1, a2, d0, d1, d2, hnx⟩ : _ ∧ _ ∧ _ ∧ _ ∧ _ ∧ _ ∧ _)
      have c0 := (hnx.cell (p := ⟨g, o + k * 3, none⟩) hg).trans a0
      have c1 := (hnx.cell (p := ⟨g, o + k * 3 + 1, none⟩) hg).trans a1
      have c2 := (hnx.cell (p := ⟨g, o + k * 3 + 2, none⟩) hg).trans a2
      have f0 := (hnx.cell (p := ⟨g', o' + k * 3, none⟩) hg').trans d0
      have f1 := (hnx.cell (p := ⟨g', o' + k * 3 + 1, none⟩) hg').trans d1
      have f2 := (hnx.cell (p := ⟨g', o' + k * 3 + 2, none⟩) hg').trans d2
      have hlt' : (k : Int) < (n : Int) := by omega
      clear hc hc' h2 h3 h3' a0 a1 a2 d0 d1 d2 hx hS
      go_wp2_with fail
      go_region_held3 (fun w' => w'.cell? ⟨g, o + k * 3, none⟩ = some (.int .i64 x.k) ∧ w'.cell? ⟨g, o + k * 3 + 1, none⟩ = some (.int .i64 x.n) ∧ w'.cell? ⟨g, o + k * 3 + 2, none⟩ = some (.string ⟨x.s.toArray⟩) ∧ w'.cell? ⟨g', o' + k * 3, none⟩ = some (.int .i64 x.k) ∧ w'.cell? ⟨g', o' + k * 3 + 1, none⟩ = some (.int .i64 x.n) ∧ w'.cell? ⟨g', o' + k * 3 + 2, none⟩ = some (.string ⟨x.s.toArray⟩) ∧ Below w.heap.size w w') (first | exact ⟨c0, c1, c2, f0, f1, f2, hnx.drew⟩ | exact keepS hg hg' (by assumption) (by assumption)) (first | (go_at_call 19; refine (same_any _ _ _ _).mono ?_; rintro e w' ⟨rfl, hb⟩))
      rename_i hH
      have q8 := hH.2.2.2.2.2.2
      clear hH
      go_wp2
      go_roundw
      case rel => exact ⟨k + 1, by omega, by go_num, q8⟩
      case measure => simp [intOf]; omega
    · clear h2 h3 h3'
      go_wp2
      go_ret
      exact ⟨rfl, hnx⟩

end Go.Proofs.Ytkpeklealgicpac
