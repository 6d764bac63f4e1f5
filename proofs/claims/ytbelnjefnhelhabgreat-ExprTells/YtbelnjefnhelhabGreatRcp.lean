/-
  The document's ColumnAt, TruthOf, checkParts.
-/
import Derived.Test.YtbelnjefnhelhabGreatHld
import Derived.Test.YtbelnjefnhelhabGreatPrl
namespace Go.Proofs.YtbelnjefnhelhabGreat
open Go.RowKit

set_option maxRecDepth 100000 in
set_option maxHeartbeats 1600000 in
theorem rcol_any (L : List Cl) (u : Value) (nm : List UInt8) (W : World) (h : CsAt W u L) :
    Calls Tryz.prog 16 #[u, .string ⟨nm.toArray⟩] W fun e W' => e = .returned (.int .i64 (placeI L nm)) ∧ Below W.heap.size W W' := by
  obtain ⟨ao, cap, rfl, h1, h3⟩ := h
  obtain ⟨n, hn⟩ : ∃ n, L.length = n := ⟨_, rfl⟩
  rw [hn] at h1 ⊢
  go_enter Tryz.func16, Tryz.ntmps16
  go_wp2
  go_loopw [5] (fun i wl => ∃ k : Nat, k ≤ n ∧ i = .int .i64 k ∧ Below W.heap.size W wl ∧ Hid (∀ j x, j < k → L[j]? = some x → x.name ≠ nm)) (fun i _ => n - (intOf i).toNat)
  case atStart => exact ⟨0, Nat.zero_le _, rfl, Below.refl _ _, fun j _ hj => absurd hj (Nat.not_lt_zero _)⟩
  case round =>
    obtain ⟨k, hk, rfl, hnx, HA⟩ := hrel
    by_cases hlt : k < n
    · obtain ⟨x, hx⟩ : ∃ x, L[k]? = some x := ⟨L[k], List.getElem?_eq_getElem (by omega)⟩
      obtain ⟨g, o, rfl, hg, hc⟩ := h3 (by intro e; rw [e] at hx; cases hx)
      obtain ⟨a0, a1⟩ := hc k x hx
      have c0 := (hnx.cell (p := ⟨g, o + k * 2, none⟩) hg).trans a0
      have c1 := (hnx.cell (p := ⟨g, o + k * 2 + 1, none⟩) hg).trans a1
      have hlt' : (k : Int) < (n : Int) := by omega
      have HX : Hid (L[k]? = some x) := hx
      clear hc h3 a0 a1 hx
      by_cases hB : x.name = nm
      · have HB := hide hB
        have hb' : (x.name == nm) = true := by simpa using hB
        clear hB
        go_wp2
        go_ret
        refine ⟨?_, hnx⟩
        rw [placeI_some (placeC_at L nm k x HX.out HA.out HB.out)]; rfl
      · have HB := hide hB
        have hb' : (x.name == nm) = false := by simpa using hB
        clear hB
        go_wp2
        go_roundw
        case rel =>
          refine ⟨k + 1, by omega, by go_num, hnx, fun j y hj hy => ?_⟩
          rcases Nat.lt_or_ge j k with h | h
          · exact HA.out j y h hy
          · rw [show j = k by omega, HX.out] at hy; cases hy; exact HB.out
        case measure => simp [intOf]; omega
    · clear h3
      go_wp2
      go_ret
      refine ⟨?_, hnx⟩
      have hN : placeI L nm = -1 := by
        refine placeI_none (placeC_none L nm fun y hy => ?_)
        obtain ⟨j, hj, rfl⟩ := List.getElem_of_mem hy
        exact HA.out j _ (by omega) (List.getElem?_eq_getElem hj)
      rw [hN]; rfl

set_option maxRecDepth 100000 in
set_option maxHeartbeats 400000 in
theorem rtr_any (b : Bool) (w : World) : Calls Tryz.prog 28 #[.bool b] w fun e w' => e = .returned (vlV (truthV b)) ∧ Below w.heap.size w w' := by
  cases b
  · go_enter Tryz.func28, Tryz.ntmps28
    go_wp2
    refine bodyPost_ret (v := .agg #[.int .i64 3, .int .i64 0, .string ⟨#[]⟩]) ?_ rfl ⟨rfl, ?_⟩
    · simp [results, Tryz.results28, go_sem]
    · exact (Below.refl _ _).alloc (Nat.le_refl _) _
  · go_enter Tryz.func28, Tryz.ntmps28
    go_wp2
    refine bodyPost_ret (v := .agg #[.int .i64 3, .int .i64 1, .string ⟨#[]⟩]) ?_ rfl ⟨rfl, ?_⟩
    · simp [results, Tryz.results28, go_sem]
    · exact (Below.refl _ _).alloc (Nat.le_refl _) _

theorem placeI_neg (L : List Cl) (nm : List UInt8) : placeI L nm < 0 ↔ placeC L nm = none := by
  unfold placeI
  cases placeC L nm with
  | none => simp
  | some i => simp

theorem argsR_pos {k : Int} (h : ¬ (k < 1 ∨ 11 < k)) : argsR k = (argsS k : Nat) := by
  have hc : k = 1 ∨ k = 2 ∨ k = 3 ∨ k = 4 ∨ k = 5 ∨ k = 6 ∨ k = 7 ∨ k = 8 ∨ k = 9 ∨ k = 10 ∨ k = 11 := by omega
  rcases hc with rfl | rfl | rfl | rfl | rfl | rfl | rfl | rfl | rfl | rfl | rfl <;> decide

theorem noneV_iff (v : Vl) : noneV v = true ↔ v = vl0 := by
  obtain ⟨k, n, s⟩ := v
  simp [noneV, vl0, and_assoc]

/-- the two ways of asking what is wrong with a part's form -/
theorem plain_iff {k : Int} (hk : ¬ (k < 1 ∨ 11 < k)) (v : Vl) (nm : List UInt8) (n : Nat) : plainK k v nm n = true ↔ ¬ (n ≠ argsS k ∨ (k ≠ 1 ∧ v ≠ vl0) ∨ (k ≠ 2 ∧ nm ≠ [])) := by
  unfold plainK
  rw [argsR_pos hk]
  simp only [Bool.and_eq_true, Bool.or_eq_true, decide_eq_true_eq, noneV_iff]
  constructor
  · rintro ⟨⟨h1, h2⟩, h3⟩ (h | ⟨h, h'⟩ | ⟨h, h'⟩)
    · exact h (by omega)
    · rcases h3 with h3 | h3
      · exact h h3
      · exact h' h3
    · rcases h2 with h2 | h2
      · exact h h2
      · exact h' h2
  · intro h
    refine ⟨⟨?_, ?_⟩, ?_⟩
    · have : n = argsS k := Classical.byContradiction fun e => h (.inl e)
      omega
    · by_cases e : k = 2
      · exact .inl e
      · exact .inr (Classical.byContradiction fun e' => h (.inr (.inr ⟨e, e'⟩)))
    · by_cases e : k = 1
      · exact .inl e
      · exact .inr (Classical.byContradiction fun e' => h (.inr (.inl ⟨e, e'⟩)))

set_option maxRecDepth 100000 in
set_option maxHeartbeats 800000 in
theorem rcp_kind (cv : Value) (k : Int) (v : Vl) (nm : List UInt8) (ao : Option Addr) (n ca : Nat) (W : World) (hk : k < 1 ∨ 11 < k) :
    Calls Tryz.prog 25 #[cv, exL k v nm (.slice ao n ca)] W fun e w' => e = .returned (.int .i64 7) ∧ Below W.heap.size W w' := by
  have b0 := (Below.refl W.heap.size W).alloc (Nat.le_refl _) (.cells #[.int .i64 k, .int .i64 v.k, .int .i64 v.n, .string ⟨v.s.toArray⟩, .string ⟨nm.toArray⟩, .slice ao n ca] 28)
  have h1 := args_any k (W.alloc (.cells #[.int .i64 k, .int .i64 v.k, .int .i64 v.n, .string ⟨v.s.toArray⟩, .string ⟨nm.toArray⟩, .slice ao n ca] 28))
  rw [show argsR k = -1 by rw [argsR, if_pos hk]] at h1
  clear hk
  go_enter Tryz.func25, Tryz.ntmps25
  go_wp2_with fail
  refine h1.mono ?_
  rintro e w1 ⟨rfl, b1⟩
  have q1 : Below W.heap.size W w1 := b0.trans (b1.mono b0.size)
  clear h1 b0 b1
  go_wp2
  go_ret
  exact ⟨rfl, q1⟩

set_option maxRecDepth 100000 in
set_option maxHeartbeats 800000 in
theorem rcp_form (cv : Value) (k : Int) (v : Vl) (nm : List UInt8) (ao : Option Addr) (n ca : Nat) (W : World) (hk : ¬ (k < 1 ∨ 11 < k)) (hp : plainK k v nm n = false) :
    Calls Tryz.prog 25 #[cv, exL k v nm (.slice ao n ca)] W fun e w' => e = .returned (.int .i64 1) ∧ Below W.heap.size W w' := by
  have b0 := (Below.refl W.heap.size W).alloc (Nat.le_refl _) (.cells #[.int .i64 k, .int .i64 v.k, .int .i64 v.n, .string ⟨v.s.toArray⟩, .string ⟨nm.toArray⟩, .slice ao n ca] 28)
  have hD : ∀ W' : World, Below (W.alloc (.cells #[.int .i64 k, .int .i64 v.k, .int .i64 v.n, .string ⟨v.s.toArray⟩, .string ⟨nm.toArray⟩, .slice ao n ca] 28)).heap.size (W.alloc (.cells #[.int .i64 k, .int .i64 v.k, .int .i64 v.n, .string ⟨v.s.toArray⟩, .string ⟨nm.toArray⟩, .slice ao n ca] 28)) W' → W'.cell? ⟨W.heap.size, 0, none⟩ = some (.int .i64 k) ∧ W'.cell? ⟨W.heap.size, 1, none⟩ = some (.int .i64 v.k) ∧ W'.cell? ⟨W.heap.size, 2, none⟩ = some (.int .i64 v.n) ∧ W'.cell? ⟨W.heap.size, 3, none⟩ = some (.string ⟨v.s.toArray⟩) ∧ W'.cell? ⟨W.heap.size, 4, none⟩ = some (.string ⟨nm.toArray⟩) ∧ W'.cell? ⟨W.heap.size, 5, none⟩ = some (.slice ao n ca) := fun W' hW =>
    ⟨(hW.cell (p := ⟨W.heap.size, 0, none⟩) (by simp)).trans (by simp), (hW.cell (p := ⟨W.heap.size, 1, none⟩) (by simp)).trans (by simp), (hW.cell (p := ⟨W.heap.size, 2, none⟩) (by simp)).trans (by simp), (hW.cell (p := ⟨W.heap.size, 3, none⟩) (by simp)).trans (by simp), (hW.cell (p := ⟨W.heap.size, 4, none⟩) (by simp)).trans (by simp), (hW.cell (p := ⟨W.heap.size, 5, none⟩) (by simp)).trans (by simp)⟩
  have z0 : (W.alloc (.cells #[.int .i64 k, .int .i64 v.k, .int .i64 v.n, .string ⟨v.s.toArray⟩, .string ⟨nm.toArray⟩, .slice ao n ca] 28)).heap.size = W.heap.size + 1 := by simp
  have HD := hide hD
  have h1 := args_any k (W.alloc (.cells #[.int .i64 k, .int .i64 v.k, .int .i64 v.n, .string ⟨v.s.toArray⟩, .string ⟨nm.toArray⟩, .slice ao n ca] 28))
  obtain ⟨A, hA⟩ : ∃ A : Nat, argsR k = (A : Nat) := ⟨_, argsR_pos hk⟩
  rw [hA] at h1
  clear hD hA hk
  have h2 := fun (W' : World) => plain_any k v nm ao n ca W'
  rw [hp] at h2
  unfold exV at h2
  clear hp
  go_enter Tryz.func25, Tryz.ntmps25
  go_wp2_with fail
  refine h1.mono ?_
  rintro e w1 ⟨rfl, b1⟩
  obtain ⟨d0, d1, d2, d3, d4, d5⟩ := HD.out w1 b1
  have hA0 : ¬ ((A : Int) < 0) := by omega
  have p1 : Below (W.alloc (.cells #[.int .i64 k, .int .i64 v.k, .int .i64 v.n, .string ⟨v.s.toArray⟩, .string ⟨nm.toArray⟩, .slice ao n ca] 28)).heap.size (W.alloc (.cells #[.int .i64 k, .int .i64 v.k, .int .i64 v.n, .string ⟨v.s.toArray⟩, .string ⟨nm.toArray⟩, .slice ao n ca] 28)) w1 := b1
  clear h1 b1
  go_wp2_with fail
  refine (h2 _).mono ?_
  rintro e w2 ⟨rfl, b2⟩
  have p2 : Below (W.alloc (.cells #[.int .i64 k, .int .i64 v.k, .int .i64 v.n, .string ⟨v.s.toArray⟩, .string ⟨nm.toArray⟩, .slice ao n ca] 28)).heap.size (W.alloc (.cells #[.int .i64 k, .int .i64 v.k, .int .i64 v.n, .string ⟨v.s.toArray⟩, .string ⟨nm.toArray⟩, .slice ao n ca] 28)) w2 := p1.trans (b2.mono p1.size)
  clear h2 b2 p1 d0 d1 d2 d3 d4 d5
  obtain ⟨d0, d1, d2, d3, d4, d5⟩ := HD.out w2 p2
  have q2 : Below W.heap.size W w2 := b0.trans (p2.mono b0.size)
  clear b0 z0 p2 HD d0 d1 d2 d3 d4 d5
  go_wp2
  go_ret
  exact ⟨rfl, q2⟩

set_option maxRecDepth 100000 in
set_option maxHeartbeats 800000 in
theorem rcp_none (cv : Value) (k : Int) (v : Vl) (nm : List UInt8) (ao : Option Addr) (n ca : Nat) (W : World) (hk2 : (k == 2) = true) (hk : ¬ (k < 1 ∨ 11 < k)) (hp : plainK k v nm n = true) (hc : ∀ W' : World, Below W.heap.size W W' → Calls Tryz.prog 16 #[cv, .string ⟨nm.toArray⟩] W' fun e w' => e = .returned (.int .i64 (-1)) ∧ Below W'.heap.size W' w') :
    Calls Tryz.prog 25 #[cv, exL k v nm (.slice ao n ca)] W fun e w' => e = .returned (.int .i64 5) ∧ Below W.heap.size W w' := by
  have b0 := (Below.refl W.heap.size W).alloc (Nat.le_refl _) (.cells #[.int .i64 k, .int .i64 v.k, .int .i64 v.n, .string ⟨v.s.toArray⟩, .string ⟨nm.toArray⟩, .slice ao n ca] 28)
  have hD : ∀ W' : World, Below (W.alloc (.cells #[.int .i64 k, .int .i64 v.k, .int .i64 v.n, .string ⟨v.s.toArray⟩, .string ⟨nm.toArray⟩, .slice ao n ca] 28)).heap.size (W.alloc (.cells #[.int .i64 k, .int .i64 v.k, .int .i64 v.n, .string ⟨v.s.toArray⟩, .string ⟨nm.toArray⟩, .slice ao n ca] 28)) W' → W'.cell? ⟨W.heap.size, 0, none⟩ = some (.int .i64 k) ∧ W'.cell? ⟨W.heap.size, 1, none⟩ = some (.int .i64 v.k) ∧ W'.cell? ⟨W.heap.size, 2, none⟩ = some (.int .i64 v.n) ∧ W'.cell? ⟨W.heap.size, 3, none⟩ = some (.string ⟨v.s.toArray⟩) ∧ W'.cell? ⟨W.heap.size, 4, none⟩ = some (.string ⟨nm.toArray⟩) ∧ W'.cell? ⟨W.heap.size, 5, none⟩ = some (.slice ao n ca) := fun W' hW =>
    ⟨(hW.cell (p := ⟨W.heap.size, 0, none⟩) (by simp)).trans (by simp), (hW.cell (p := ⟨W.heap.size, 1, none⟩) (by simp)).trans (by simp), (hW.cell (p := ⟨W.heap.size, 2, none⟩) (by simp)).trans (by simp), (hW.cell (p := ⟨W.heap.size, 3, none⟩) (by simp)).trans (by simp), (hW.cell (p := ⟨W.heap.size, 4, none⟩) (by simp)).trans (by simp), (hW.cell (p := ⟨W.heap.size, 5, none⟩) (by simp)).trans (by simp)⟩
  have z0 : (W.alloc (.cells #[.int .i64 k, .int .i64 v.k, .int .i64 v.n, .string ⟨v.s.toArray⟩, .string ⟨nm.toArray⟩, .slice ao n ca] 28)).heap.size = W.heap.size + 1 := by simp
  have HD := hide hD
  have h1 := args_any k (W.alloc (.cells #[.int .i64 k, .int .i64 v.k, .int .i64 v.n, .string ⟨v.s.toArray⟩, .string ⟨nm.toArray⟩, .slice ao n ca] 28))
  obtain ⟨A, hA⟩ : ∃ A : Nat, argsR k = (A : Nat) := ⟨_, argsR_pos hk⟩
  rw [hA] at h1
  clear hD hA hk
  have h2 := fun (W' : World) => plain_any k v nm ao n ca W'
  rw [hp] at h2
  unfold exV at h2
  clear hp
  go_enter Tryz.func25, Tryz.ntmps25
  go_wp2_with fail
  refine h1.mono ?_
  rintro e w1 ⟨rfl, b1⟩
  obtain ⟨d0, d1, d2, d3, d4, d5⟩ := HD.out w1 b1
  have hA0 : ¬ ((A : Int) < 0) := by omega
  have p1 : Below (W.alloc (.cells #[.int .i64 k, .int .i64 v.k, .int .i64 v.n, .string ⟨v.s.toArray⟩, .string ⟨nm.toArray⟩, .slice ao n ca] 28)).heap.size (W.alloc (.cells #[.int .i64 k, .int .i64 v.k, .int .i64 v.n, .string ⟨v.s.toArray⟩, .string ⟨nm.toArray⟩, .slice ao n ca] 28)) w1 := b1
  clear h1 b1
  go_wp2_with fail
  refine (h2 _).mono ?_
  rintro e w2 ⟨rfl, b2⟩
  have p2 : Below (W.alloc (.cells #[.int .i64 k, .int .i64 v.k, .int .i64 v.n, .string ⟨v.s.toArray⟩, .string ⟨nm.toArray⟩, .slice ao n ca] 28)).heap.size (W.alloc (.cells #[.int .i64 k, .int .i64 v.k, .int .i64 v.n, .string ⟨v.s.toArray⟩, .string ⟨nm.toArray⟩, .slice ao n ca] 28)) w2 := p1.trans (b2.mono p1.size)
  clear h2 b2 p1 d0 d1 d2 d3 d4 d5
  obtain ⟨d0, d1, d2, d3, d4, d5⟩ := HD.out w2 p2
  have q2 : Below W.heap.size W w2 := b0.trans (p2.mono b0.size)
  clear b0 z0 p2 HD
  go_wp2_with fail
  refine (hc _ q2).mono ?_
  rintro e w3 ⟨rfl, b3⟩
  have q3 := q2.trans (b3.mono q2.size)
  clear hc b3 d0 d1 d2 d3 d4 d5
  go_wp2
  go_ret
  exact ⟨rfl, q3⟩

end Go.Proofs.YtbelnjefnhelhabGreat
