/-
  Out of my texts Refs Dcd Rbg Opn: what is wanted here.
-/
import Derived.Test.YtcnnjladaoaeiaaGreatDoorDlp
import Derived.ProofKit
import Derived.Deep.Slices
import Derived.Deep.Strs
import Derived.SizedLaws
import Derived.ChangeOld
import Derived.Lib.SmallJoins
import Derived.Deep.RegionHeld3
namespace Go.Proofs.YtcnnjladaoaeiaaGreatDoor
open Go.RowKit

set_option maxRecDepth 100000 in
set_option maxHeartbeats 400000 in
theorem same_any (K N : Int) (s : ByteArray) (w : World) : Calls Tryz.prog 70 #[.agg #[.int .i64 K, .int .i64 N, .string s], .agg #[.int .i64 K, .int .i64 N, .string s]] w fun e w' => e = .returned (.bool true) ∧ Below w.heap.size w w' := by
  go_enter Tryz.func70, Tryz.ntmps70
  go_wp2
  go_ret
  exact ⟨rfl, ((Below.refl _ _).alloc (Nat.le_refl _) _).alloc (by simp) _⟩

theorem flat_get {α : Type} (cf : α → List Value) (sz : Nat) (hsz : ∀ x, (cf x).length = sz) : ∀ (l : List α) (k : Nat) (x : α), l[k]? = some x → ∀ q, q < sz → (l.flatMap cf)[k * sz + q]? = (cf x)[q]? := by
  intro l
  induction l with
  | nil => intro k x h; simp at h
  | cons y r ih =>
    intro k x h q hq
    rw [List.flatMap_cons]
    cases k with
    | zero =>
      simp only [List.getElem?_cons_zero, Option.some.injEq] at h
      subst h
      rw [Nat.zero_mul, Nat.zero_add, List.getElem?_append_left (by rw [hsz]; exact hq)]
    | succ k =>
      have e : (k + 1) * sz + q = (cf y).length + (k * sz + q) := by rw [hsz, Nat.succ_mul]; omega
      rw [e, List.getElem?_append_right (by omega), Nat.add_sub_cancel_left]
      exact ih k x (by simpa using h) q hq

theorem vs_of_own {w : World} {B : Nat} {v : Value} {xs : List Vl} (h : w.ownsRow B 49 3 v xs.length (xs.flatMap vlC)) (hn : xs.length ≤ 1000) (hs : ∀ x ∈ xs, x.s.length ≤ 140737488355328) : VsAt w v xs := by
  obtain ⟨ao, cap, e⟩ := owns_slice h
  refine ⟨ao, cap, e, by omega, hs, fun hne => ?_⟩
  obtain ⟨g, cap', e', -, hg⟩ := owns_some h (by intro e0; exact hne (List.eq_nil_of_length_eq_zero e0))
  rw [e] at e'
  cases e'
  refine ⟨g, 0, rfl, hg, fun i x hx => ?_⟩
  rw [e] at h
  have hlen := h.1
  have at' : ∀ q, q < 3 → w.cell? ⟨g, i * 3 + q, none⟩ = (vlC x)[q]? := by
    intro q hq
    have hi := (List.getElem?_eq_some_iff.1 hx).1
    have := h.cellAt (i * 3 + q) (by omega)
    rw [flat_get vlC 3 (fun _ => rfl) xs i x hx q hq] at this
    exact this
  rw [Nat.zero_add]
  exact ⟨at' 0 (by decide), at' 1 (by decide), at' 2 (by decide)⟩

theorem keepS {w W W' : World} {g o g' o' : Nat} {x y z : Value} (hg : g < w.heap.size) (hg' : g' < w.heap.size)
    (h : W.cell? ⟨g, o, none⟩ = some x ∧ W.cell? ⟨g, o + 1, none⟩ = some y ∧ W.cell? ⟨g, o + 2, none⟩ = some z ∧ W.cell? ⟨g', o', none⟩ = some x ∧ W.cell? ⟨g', o' + 1, none⟩ = some y ∧ W.cell? ⟨g', o' + 2, none⟩ = some z ∧ Below w.heap.size w W) (hb : Below W.heap.size W W') :
    W'.cell? ⟨g, o, none⟩ = some x ∧ W'.cell? ⟨g, o + 1, none⟩ = some y ∧ W'.cell? ⟨g, o + 2, none⟩ = some z ∧ W'.cell? ⟨g', o', none⟩ = some x ∧ W'.cell? ⟨g', o' + 1, none⟩ = some y ∧ W'.cell? ⟨g', o' + 2, none⟩ = some z ∧ Below w.heap.size w W' := by
  obtain ⟨h1, h2, h3, h4, h5, h6, h7⟩ := h
  have s := h7.size
  exact ⟨(hb.cell (p := ⟨g, _, none⟩) (by show g < _; omega)).trans h1, (hb.cell (p := ⟨g, _, none⟩) (by show g < _; omega)).trans h2, (hb.cell (p := ⟨g, _, none⟩) (by show g < _; omega)).trans h3, (hb.cell (p := ⟨g', _, none⟩) (by show g' < _; omega)).trans h4, (hb.cell (p := ⟨g', _, none⟩) (by show g' < _; omega)).trans h5, (hb.cell (p := ⟨g', _, none⟩) (by show g' < _; omega)).trans h6, h7.trans (hb.mono s)⟩

set_option maxRecDepth 100000 in
set_option maxHeartbeats 1600000 in
theorem same_vals (L : List Vl) (u v : Value) (w : World) (h : VsAt w u L) (h' : VsAt w v L) : Calls Tryz.prog 22 #[u, v] w fun e w' => e = .returned (.bool true) ∧ Below w.heap.size w w' := by
  obtain ⟨ao, cap, rfl, h1, h2, h3⟩ := h
  obtain ⟨ao', cap', rfl, -, -, h3'⟩ := h'
  obtain ⟨n, hn⟩ : ∃ n, L.length = n := ⟨_, rfl⟩
  rw [hn] at h1 ⊢
  go_enter Tryz.func22, Tryz.ntmps22
  go_wp2
  go_loopw [5] (fun i wl => ∃ k : Nat, k ≤ n ∧ i = .int .i64 k ∧ Below w.heap.size w wl) (fun i _ => n - (intOf i).toNat)
  case atStart => exact ⟨0, Nat.zero_le _, rfl, Below.refl _ _⟩
  case round =>
    obtain ⟨k, hk, rfl, hnx⟩ := hrel
    by_cases hlt : k < n
    · obtain ⟨x, hx⟩ : ∃ x, L[k]? = some x := ⟨L[k], List.getElem?_eq_getElem (by omega)⟩
      obtain ⟨g, o, rfl, hg, hc⟩ := h3 (by intro e; rw [e] at hx; cases hx)
      obtain ⟨g', o', rfl, hg', hc'⟩ := h3' (by intro e; rw [e] at hx; cases hx)
      obtain ⟨a0, a1, a2⟩ := hc k x hx
      obtain ⟨d0, d1, d2⟩ := hc' k x hx
      have hS := (⟨a0, a1, a2, d0, d1, d2, hnx⟩ : _ ∧ _ ∧ _ ∧ _ ∧ _ ∧ _ ∧ _)
      have c0 := (hnx.cell (p := ⟨g, o + k * 3, none⟩) hg).trans a0
      have c1 := (hnx.cell (p := ⟨g, o + k * 3 + 1, none⟩) hg).trans a1
      have c2 := (hnx.cell (p := ⟨g, o + k * 3 + 2, none⟩) hg).trans a2
      have f0 := (hnx.cell (p := ⟨g', o' + k * 3, none⟩) hg').trans d0
      have f1 := (hnx.cell (p := ⟨g', o' + k * 3 + 1, none⟩) hg').trans d1
      have f2 := (hnx.cell (p := ⟨g', o' + k * 3 + 2, none⟩) hg').trans d2
      have hlt' : (k : Int) < (n : Int) := by omega
      clear hc hc' h2 h3 h3' a0 a1 a2 d0 d1 d2 hx hS
      go_wp2_with fail
      go_region_held3 (fun w' => w'.cell? ⟨g, o + k * 3, none⟩ = some (.int .i64 x.k) ∧ w'.cell? ⟨g, o + k * 3 + 1, none⟩ = some (.int .i64 x.n) ∧ w'.cell? ⟨g, o + k * 3 + 2, none⟩ = some (.string ⟨x.s.toArray⟩) ∧ w'.cell? ⟨g', o' + k * 3, none⟩ = some (.int .i64 x.k) ∧ w'.cell? ⟨g', o' + k * 3 + 1, none⟩ = some (.int .i64 x.n) ∧ w'.cell? ⟨g', o' + k * 3 + 2, none⟩ = some (.string ⟨x.s.toArray⟩) ∧ Below w.heap.size w w') (first | exact ⟨c0, c1, c2, f0, f1, f2, hnx.drew⟩ | exact keepS hg hg' (by assumption) (by assumption)) (first | (go_at_call 70; refine (same_any _ _ _ _).mono ?_; rintro e w' ⟨rfl, hb⟩))
      rename_i hH
      have q8 := hH.2.2.2.2.2.2
      clear hH
      go_wp2
      go_roundw
      case rel => exact ⟨k + 1, by omega, by go_num, q8⟩
      case measure => simp [intOf]; omega
    · clear h2 h3 h3'
      go_wp2
      go_ret
      exact ⟨rfl, hnx⟩

theorem Tryz.cells49 : Tryz.prog.cellsOf 49 = 3 := by kernel_rfl

theorem Tryz.cells3 : Tryz.prog.cellsOf 3 = 1 := by kernel_rfl

theorem Tryz.cells9 : Tryz.prog.cellsOf 9 = 1 := by kernel_rfl

theorem mem_weightsAll {H : Type} {P : Program} {e : TypeId} : ∀ {l : List (DataW H)} {d : DataW H} {n : Nat}, d ∈ l → n ∈ d.weights P e → n ∈ DataW.weightsAll P e l
  | [], _, _, h, _ => by cases h
  | x :: r, d, n, h, hn => by
    simp only [DataW.weightsAll, List.mem_append]
    rcases List.mem_cons.1 h with rfl | h
    · exact Or.inl hn
    · exact Or.inr (mem_weightsAll h hn)

theorem len3 {α : Type} {l : List α} (h : l.length = 3) : ∃ a b c, l = [a, b, c] := by
  match l, h with
  | [a, b, c], _ => exact ⟨a, b, c, rfl⟩
theorem len6 {α : Type} {l : List α} (h : l.length = 6) : ∃ a b c d e f, l = [a, b, c, d, e, f] := by
  match l, h with
  | [a, b, c, d, e, f], _ => exact ⟨a, b, c, d, e, f, rfl⟩


/-- one value, read off three cells -/
theorem open_vl {H : Type} {enc : TypeId × Value → H} {W : World} {spare : Nat → Bool} {held : Bool} {fuel : Nat} {cs : List Value} {x : DataW H × List MemPlace}
    (h : DataW.trod enc Tryz.prog W 0 spare held fuel 49 cs = some x) : ∃ y : Vl, cs = vlC y ∧ x.1 = .agg [.lit (.int .i64 y.k), .lit (.int .i64 y.n), .lit (.string y.s)] := by
  obtain ⟨y0, y1, y2, n, rfl, hl, h0, h1, h2⟩ := Deep.trod_struct3 Tryz.underlying49 h
  rw [Tryz.cells49] at hl
  obtain ⟨c0, c1, c2, rfl⟩ := len3 hl
  simp only [Tryz.cells3, Tryz.cells9, List.take, List.drop] at h0 h1 h2
  obtain ⟨k, e0, rfl, _⟩ := DataW.trod_int Tryz.underlying3 h0
  obtain ⟨a, e1, rfl, _⟩ := DataW.trod_int Tryz.underlying3 h1
  obtain ⟨s, e2, rfl, _⟩ := DataW.trod_string Tryz.underlying9 h2
  simp at e0 e1 e2
  subst e0 e1 e2
  exact ⟨⟨k, a, s.data.toList⟩, rfl, rfl⟩

end Go.Proofs.YtcnnjladaoaeiaaGreatDoor
