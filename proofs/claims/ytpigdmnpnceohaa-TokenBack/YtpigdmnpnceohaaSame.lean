/-
  The document's 'SameTokens' (package overhaulref), where it answers true.
-/
import Derived.Test.YtpigdmnpnceohaaScanOf
namespace Go.Proofs.Ytpigdmnpnceohaa
open Go.RowKit

/-- two tokens are the same, but for where they begin, if that is not asked -/
def sameToks (b : Bool) (L M : List Tk) : Prop := L.length = M.length ∧ ∀ (i : Nat) (x y : Tk), L[i]? = some x → M[i]? = some y → x.k = y.k ∧ x.t = y.t ∧ (b = true → x.a = y.a)

set_option maxHeartbeats 400000 in
theorem same_none (a1 a2 : Option Addr) (c1 c2 : Nat) (b : Bool) (w : World) :
    Calls Try.prog 10 #[.slice a1 0 c1, .slice a2 0 c2, .bool b] w fun e w' => e = .returned (.bool true) ∧ w' = w := by
  go_enter Try.func10, Try.ntmps10
  go_wp2
  go_loop [7] (fun i => i = .int .i64 0) (fun _ => 0)
  case atStart => rfl
  case round =>
    obtain rfl := hrel
    go_wp2
    go_ret
    exact ⟨rfl, rfl⟩

set_option maxRecDepth 100000 in
set_option maxHeartbeats 2000000 in
theorem same_at (g1 o1 g2 o2 n c1 c2 : Nat) (L M : List Tk) (w : World) (hn : n ≤ 9223372036854775000) (h1 : TokRow w g1 o1 n L) (h2 : TokRow w g2 o2 n M) (hsm : sameToks true L M) :
    Calls Try.prog 10 #[.slice (some ⟨g1, o1, none⟩) n c1, .slice (some ⟨g2, o2, none⟩) n c2, .bool true] w fun e w' => e = .returned (.bool true) ∧ Below w.heap.size w w' := by
  obtain ⟨hl1, hc1⟩ := h1
  obtain ⟨hl2, hc2⟩ := h2
  have HS := hide hsm
  have H1 := hide hc1
  have H2 := hide hc2
  clear hsm hc1 hc2
  go_enter Try.func10, Try.ntmps10
  go_wp2
  go_loopw [7] (fun i wr => ∃ k m : Nat, k ≤ n ∧ i = .int .i64 k ∧ wr = w.drewN m) (fun i _ => n - (intOf i).toNat)
  case atStart => exact ⟨0, 0, Nat.zero_le _, rfl, rfl⟩
  case round =>
    obtain ⟨k, m, hk, rfl, rfl⟩ := hrel
    by_cases hlt : k < n
    · obtain ⟨x, hx⟩ : ∃ x, L[k]? = some x := ⟨L[k], List.getElem?_eq_getElem (by omega)⟩
      obtain ⟨y, hy⟩ : ∃ y, M[k]? = some y := ⟨M[k], List.getElem?_eq_getElem (by omega)⟩
      obtain ⟨e0, e1, e2⟩ := H1.out k x hx
      obtain ⟨f0, f1, f2⟩ := H2.out k y hy
      obtain ⟨q0, q1, q2⟩ := HS.out.2 k x y hx hy
      rw [← q0] at f0
      rw [← q1] at f2
      rw [← q2 rfl] at f1
      clear q0 q1 q2 hx hy
      go_wp2
      go_quiet (fail)
      go_wp2
      go_roundw
      case rel => exact ⟨k + 1, m + nq, by omega, by go_num, rfl⟩
      case measure => simp [intOf]; omega
    · go_wp2
      go_ret
      exact ⟨rfl, below_drewN (Below.refl _ _) _⟩

set_option maxRecDepth 100000 in
set_option maxHeartbeats 2000000 in
theorem same_no (g1 o1 g2 o2 n c1 c2 : Nat) (L M : List Tk) (w : World) (hn : n ≤ 9223372036854775000) (h1 : TokRow w g1 o1 n L) (h2 : TokRow w g2 o2 n M) (hsm : sameToks false L M) :
    Calls Try.prog 10 #[.slice (some ⟨g1, o1, none⟩) n c1, .slice (some ⟨g2, o2, none⟩) n c2, .bool false] w fun e w' => e = .returned (.bool true) ∧ Below w.heap.size w w' := by
  obtain ⟨hl1, hc1⟩ := h1
  obtain ⟨hl2, hc2⟩ := h2
  have HS := hide hsm
  have H1 := hide hc1
  have H2 := hide hc2
  clear hsm hc1 hc2
  go_enter Try.func10, Try.ntmps10
  go_wp2
  go_loopw [7] (fun i wr => ∃ k m : Nat, k ≤ n ∧ i = .int .i64 k ∧ wr = w.drewN m) (fun i _ => n - (intOf i).toNat)
  case atStart => exact ⟨0, 0, Nat.zero_le _, rfl, rfl⟩
  case round =>
    obtain ⟨k, m, hk, rfl, rfl⟩ := hrel
    by_cases hlt : k < n
    · obtain ⟨x, hx⟩ : ∃ x, L[k]? = some x := ⟨L[k], List.getElem?_eq_getElem (by omega)⟩
      obtain ⟨y, hy⟩ : ∃ y, M[k]? = some y := ⟨M[k], List.getElem?_eq_getElem (by omega)⟩
      obtain ⟨e0, e1, e2⟩ := H1.out k x hx
      obtain ⟨f0, f1, f2⟩ := H2.out k y hy
      obtain ⟨q0, q1, q2⟩ := HS.out.2 k x y hx hy
      rw [← q0] at f0
      rw [← q1] at f2
      clear q0 q1 q2 hx hy
      go_wp2
      go_quiet (fail)
      go_wp2
      go_roundw
      case rel => exact ⟨k + 1, m + nq, by omega, by go_num, rfl⟩
      case measure => simp [intOf]; omega
    · go_wp2
      go_ret
      exact ⟨rfl, below_drewN (Below.refl _ _) _⟩

theorem same_rows (b : Bool) (L M : List Tk) (v1 v2 : Value) (w : World) (hn : L.length ≤ 9223372036854775000)
    (h1 : ∃ ao cap, v1 = .slice ao L.length cap ∧ (L ≠ [] → ∃ g o, ao = some ⟨g, o, none⟩ ∧ TokRow w g o L.length L))
    (h2 : ∃ ao cap, v2 = .slice ao M.length cap ∧ (M ≠ [] → ∃ g o, ao = some ⟨g, o, none⟩ ∧ TokRow w g o M.length M)) (hsm : sameToks b L M) :
    Calls Try.prog 10 #[v1, v2, .bool b] w fun e w' => e = .returned (.bool true) ∧ Below w.heap.size w w' := by
  obtain ⟨a1, c1, rfl, r1⟩ := h1
  obtain ⟨a2, c2, rfl, r2⟩ := h2
  have hl := hsm.1
  by_cases hL : L = []
  · subst hL
    have hM : M.length = 0 := hl.symm
    rw [hM]
    refine (same_none a1 a2 c1 c2 b w).mono ?_
    rintro e w' ⟨rfl, rfl⟩
    exact ⟨rfl, Below.refl _ _⟩
  · have hM : M ≠ [] := by intro e; subst e; exact hL (List.length_eq_zero_iff.1 hl)
    obtain ⟨g1, o1, rfl, t1⟩ := r1 hL
    obtain ⟨g2, o2, rfl, t2⟩ := r2 hM
    rw [← hl] at t2 ⊢
    cases b
    · exact same_no g1 o1 g2 o2 L.length c1 c2 L M w hn t1 t2 hsm
    · exact same_at g1 o1 g2 o2 L.length c1 c2 L M w hn t1 t2 hsm

theorem tokRow_below {w w' : World} {B g o n : Nat} {L : List Tk} (h : TokRow w g o n L) (hb : Below B w w') (hg : g < B) : TokRow w' g o n L := by
  refine ⟨h.1, ?_⟩
  intro i x hx
  obtain ⟨e0, e1, e2⟩ := h.2 i x hx
  exact ⟨(hb.cell (p := ⟨g, _, none⟩) hg).trans e0, (hb.cell (p := ⟨g, _, none⟩) hg).trans e1, (hb.cell (p := ⟨g, _, none⟩) hg).trans e2⟩

/-- what SameTokens is told of an owned row -/
theorem owns_rows {w w' : World} {base : Nat} {v : Value} {L : List Tk} (h : w.ownsRow base 34 3 v L.length (cellsT L)) (hb : Below w.heap.size w w') :
    ∃ ao cap, v = .slice ao L.length cap ∧ (L ≠ [] → ∃ g o, ao = some ⟨g, o, none⟩ ∧ TokRow w' g o L.length L) := by
  by_cases hL : L = []
  · subst hL
    obtain ⟨ao, cap, hv⟩ := owns_slice h
    exact ⟨ao, cap, hv, fun e => absurd rfl e⟩
  · obtain ⟨g, cap, hv, _, hg⟩ := owns_some h (by simpa using hL)
    rw [hv] at h
    exact ⟨_, cap, hv, fun _ => ⟨g, 0, rfl, tokRow_below (owns_tokRow h) hb hg⟩⟩

end Go.Proofs.Ytpigdmnpnceohaa
