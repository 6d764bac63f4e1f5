/-
  'Holds' of package expr.
-/
import Derived.Test.YtjmhkeooiimpfaaGreatEvl
import Derived.Deep.RegionLaw
namespace Go.Proofs.YtjmhkeooiimpfaaGreat
open Go.RowKit

set_option maxRecDepth 100000 in
set_option maxHeartbeats 1600000 in
theorem hd_bad (cv rv : Value) (k : Int) (v : Vl) (nm : List UInt8) (ao : Option Addr) (n ca : Nat) (w : World) (V : Vl) (F : Nat) (h7 : ∀ W : World, Below w.heap.size w W → Calls Tryz.prog 7 #[cv, rv, exL k v nm (.slice ao n ca)] W fun e w' => e = .returned (.tuple #[vlV V, .int .i64 (F : Nat)]) ∧ Below W.heap.size W w') (hF : ((F : Int) != 0) = true) :
    Calls Tryz.prog 11 #[cv, rv, exL k v nm (.slice ao n ca)] w fun e w' => e = .returned (.tuple #[.bool false, .int .i64 (F : Nat)]) ∧ Below w.heap.size w w' := by
  have b0 := (Below.refl w.heap.size w).alloc (Nat.le_refl _) (.cells #[.int .i64 k, .int .i64 v.k, .int .i64 v.n, .string ⟨v.s.toArray⟩, .string ⟨nm.toArray⟩, .slice ao n ca] 28)
  have hD : ∀ W' : World, Below (w.alloc (.cells #[.int .i64 k, .int .i64 v.k, .int .i64 v.n, .string ⟨v.s.toArray⟩, .string ⟨nm.toArray⟩, .slice ao n ca] 28)).heap.size (w.alloc (.cells #[.int .i64 k, .int .i64 v.k, .int .i64 v.n, .string ⟨v.s.toArray⟩, .string ⟨nm.toArray⟩, .slice ao n ca] 28)) W' → W'.cell? ⟨w.heap.size, 0, none⟩ = some (.int .i64 k) ∧ W'.cell? ⟨w.heap.size, 1, none⟩ = some (.int .i64 v.k) ∧ W'.cell? ⟨w.heap.size, 2, none⟩ = some (.int .i64 v.n) ∧ W'.cell? ⟨w.heap.size, 3, none⟩ = some (.string ⟨v.s.toArray⟩) ∧ W'.cell? ⟨w.heap.size, 4, none⟩ = some (.string ⟨nm.toArray⟩) ∧ W'.cell? ⟨w.heap.size, 5, none⟩ = some (.slice ao n ca) := fun W' hW =>
    ⟨(hW.cell (p := ⟨w.heap.size, 0, none⟩) (by simp)).trans (by simp), (hW.cell (p := ⟨w.heap.size, 1, none⟩) (by simp)).trans (by simp), (hW.cell (p := ⟨w.heap.size, 2, none⟩) (by simp)).trans (by simp), (hW.cell (p := ⟨w.heap.size, 3, none⟩) (by simp)).trans (by simp), (hW.cell (p := ⟨w.heap.size, 4, none⟩) (by simp)).trans (by simp), (hW.cell (p := ⟨w.heap.size, 5, none⟩) (by simp)).trans (by simp)⟩
  have z0 : (w.alloc (.cells #[.int .i64 k, .int .i64 v.k, .int .i64 v.n, .string ⟨v.s.toArray⟩, .string ⟨nm.toArray⟩, .slice ao n ca] 28)).heap.size = w.heap.size + 1 := by simp
  have HD := hide hD
  clear hD
  unfold vlV at h7
  go_enter Tryz.func11, Tryz.ntmps11
  go_wp2_with fail
  refine (h7 _ b0).mono ?_
  rintro e w1 ⟨rfl, b1⟩
  have q1 : Below w.heap.size w w1 := b0.trans (b1.mono b0.size)
  have q2 : Below w.heap.size w (w1.alloc (.cells #[.int .i64 V.k, .int .i64 V.n, .string ⟨V.s.toArray⟩] 25)) := q1.alloc q1.size _
  clear h7 b1 b0 HD z0
  go_wp2
  go_ret2
  exact ⟨rfl, q2⟩

set_option maxRecDepth 100000 in
set_option maxHeartbeats 1600000 in
theorem hd_st (cv rv : Value) (k : Int) (v : Vl) (nm : List UInt8) (ao : Option Addr) (n ca : Nat) (w : World) (V : Vl) (h7 : ∀ W : World, Below w.heap.size w W → Calls Tryz.prog 7 #[cv, rv, exL k v nm (.slice ao n ca)] W fun e w' => e = .returned (.tuple #[vlV V, .int .i64 0]) ∧ Below W.heap.size W w') (K : Int) (h6 : ∀ W : World, Below w.heap.size w W → Calls Tryz.prog 6 #[cv, exL k v nm (.slice ao n ca)] W fun e w' => e = .returned (.tuple #[.int .i64 K, .int .i64 0]) ∧ Below W.heap.size W w') (hK : (decide (K = 0) || decide (K = 3)) = false) :
    Calls Tryz.prog 11 #[cv, rv, exL k v nm (.slice ao n ca)] w fun e w' => e = .returned (.tuple #[.bool false, .int .i64 4]) ∧ Below w.heap.size w w' := by
  have b0 := (Below.refl w.heap.size w).alloc (Nat.le_refl _) (.cells #[.int .i64 k, .int .i64 v.k, .int .i64 v.n, .string ⟨v.s.toArray⟩, .string ⟨nm.toArray⟩, .slice ao n ca] 28)
  have hD : ∀ W' : World, Below (w.alloc (.cells #[.int .i64 k, .int .i64 v.k, .int .i64 v.n, .string ⟨v.s.toArray⟩, .string ⟨nm.toArray⟩, .slice ao n ca] 28)).heap.size (w.alloc (.cells #[.int .i64 k, .int .i64 v.k, .int .i64 v.n, .string ⟨v.s.toArray⟩, .string ⟨nm.toArray⟩, .slice ao n ca] 28)) W' → W'.cell? ⟨w.heap.size, 0, none⟩ = some (.int .i64 k) ∧ W'.cell? ⟨w.heap.size, 1, none⟩ = some (.int .i64 v.k) ∧ W'.cell? ⟨w.heap.size, 2, none⟩ = some (.int .i64 v.n) ∧ W'.cell? ⟨w.heap.size, 3, none⟩ = some (.string ⟨v.s.toArray⟩) ∧ W'.cell? ⟨w.heap.size, 4, none⟩ = some (.string ⟨nm.toArray⟩) ∧ W'.cell? ⟨w.heap.size, 5, none⟩ = some (.slice ao n ca) := fun W' hW =>
    ⟨(hW.cell (p := ⟨w.heap.size, 0, none⟩) (by simp)).trans (by simp), (hW.cell (p := ⟨w.heap.size, 1, none⟩) (by simp)).trans (by simp), (hW.cell (p := ⟨w.heap.size, 2, none⟩) (by simp)).trans (by simp), (hW.cell (p := ⟨w.heap.size, 3, none⟩) (by simp)).trans (by simp), (hW.cell (p := ⟨w.heap.size, 4, none⟩) (by simp)).trans (by simp), (hW.cell (p := ⟨w.heap.size, 5, none⟩) (by simp)).trans (by simp)⟩
  have z0 : (w.alloc (.cells #[.int .i64 k, .int .i64 v.k, .int .i64 v.n, .string ⟨v.s.toArray⟩, .string ⟨nm.toArray⟩, .slice ao n ca] 28)).heap.size = w.heap.size + 1 := by simp
  have HD := hide hD
  clear hD
  unfold vlV at h7
  have HK := hide hK
  clear hK
  go_enter Tryz.func11, Tryz.ntmps11
  go_wp2_with fail
  refine (h7 _ b0).mono ?_
  rintro e w1 ⟨rfl, b1⟩
  have p1 : Below (w.alloc (.cells #[.int .i64 k, .int .i64 v.k, .int .i64 v.n, .string ⟨v.s.toArray⟩, .string ⟨nm.toArray⟩, .slice ao n ca] 28)).heap.size (w.alloc (.cells #[.int .i64 k, .int .i64 v.k, .int .i64 v.n, .string ⟨v.s.toArray⟩, .string ⟨nm.toArray⟩, .slice ao n ca] 28)) (w1.alloc (.cells #[.int .i64 V.k, .int .i64 V.n, .string ⟨V.s.toArray⟩] 25)) := b1.alloc b1.size _
  obtain ⟨d0, d1, d2, d3, d4, d5⟩ := HD.out _ p1
  obtain ⟨s, hs⟩ : ∃ s, w1.heap.size = s := ⟨_, rfl⟩
  have y0 : (w1.alloc (.cells #[.int .i64 V.k, .int .i64 V.n, .string ⟨V.s.toArray⟩] 25)).cell? ⟨s, 0, none⟩ = some (.int .i64 V.k) := by rw [← hs]; simp
  have y1 : (w1.alloc (.cells #[.int .i64 V.k, .int .i64 V.n, .string ⟨V.s.toArray⟩] 25)).cell? ⟨s, 1, none⟩ = some (.int .i64 V.n) := by rw [← hs]; simp
  have y2 : (w1.alloc (.cells #[.int .i64 V.k, .int .i64 V.n, .string ⟨V.s.toArray⟩] 25)).cell? ⟨s, 2, none⟩ = some (.string ⟨V.s.toArray⟩) := by rw [← hs]; simp
  have zs : s < (w1.alloc (.cells #[.int .i64 V.k, .int .i64 V.n, .string ⟨V.s.toArray⟩] 25)).heap.size := by rw [← hs]; simp
  have q2 : Below w.heap.size w (w1.alloc (.cells #[.int .i64 V.k, .int .i64 V.n, .string ⟨V.s.toArray⟩] 25)) := b0.trans (p1.mono b0.size)
  have hk6 := h6 _ q2
  have HS := hide hs
  clear h7 b1 b0 HD z0 p1 h6 hs
  go_wp2_with fail
  rw [HS.out]
  generalize w1.alloc (.cells #[.int .i64 V.k, .int .i64 V.n, .string ⟨V.s.toArray⟩] 25) = w2 at *
  refine hk6.mono ?_
  rintro e w3 ⟨rfl, b3⟩
  have q3 : Below w.heap.size w w3 := q2.trans (b3.mono q2.size)
  have x0 := (b3.cell (p := ⟨s, 0, none⟩) zs).trans y0
  have x1 := (b3.cell (p := ⟨s, 1, none⟩) zs).trans y1
  have x2 := (b3.cell (p := ⟨s, 2, none⟩) zs).trans y2
  have zs3 : s < w3.heap.size := Nat.lt_of_lt_of_le zs b3.size
  have hfk := fk_any K 3 false HK w3
  clear hk6 q2 b3 y0 y1 y2 d0 d1 d2 d3 d4 d5 zs HS
  go_wp2_with fail
  refine hfk.mono ?_
  rintro e w4 ⟨rfl, e4⟩
  obtain rfl := e4.symm
  clear hfk e4
  go_wp2
  go_ret2
  exact ⟨rfl, q3⟩

set_option maxRecDepth 100000 in
set_option maxHeartbeats 1600000 in
theorem hd_ok (cv rv : Value) (k : Int) (v : Vl) (nm : List UInt8) (ao : Option Addr) (n ca : Nat) (w : World) (V : Vl) (h7 : ∀ W : World, Below w.heap.size w W → Calls Tryz.prog 7 #[cv, rv, exL k v nm (.slice ao n ca)] W fun e w' => e = .returned (.tuple #[vlV V, .int .i64 0]) ∧ Below W.heap.size W w') (K : Int) (h6 : ∀ W : World, Below w.heap.size w W → Calls Tryz.prog 6 #[cv, exL k v nm (.slice ao n ca)] W fun e w' => e = .returned (.tuple #[.int .i64 K, .int .i64 0]) ∧ Below W.heap.size W w') (hK : (decide (K = 0) || decide (K = 3)) = true) (D : Bool) (hDd : decide (V = truthV true) = D) :
    Calls Tryz.prog 11 #[cv, rv, exL k v nm (.slice ao n ca)] w fun e w' => e = .returned (.tuple #[.bool D, .int .i64 0]) ∧ Below w.heap.size w w' := by
  have b0 := (Below.refl w.heap.size w).alloc (Nat.le_refl _) (.cells #[.int .i64 k, .int .i64 v.k, .int .i64 v.n, .string ⟨v.s.toArray⟩, .string ⟨nm.toArray⟩, .slice ao n ca] 28)
  have hD : ∀ W' : World, Below (w.alloc (.cells #[.int .i64 k, .int .i64 v.k, .int .i64 v.n, .string ⟨v.s.toArray⟩, .string ⟨nm.toArray⟩, .slice ao n ca] 28)).heap.size (w.alloc (.cells #[.int .i64 k, .int .i64 v.k, .int .i64 v.n, .string ⟨v.s.toArray⟩, .string ⟨nm.toArray⟩, .slice ao n ca] 28)) W' → W'.cell? ⟨w.heap.size, 0, none⟩ = some (.int .i64 k) ∧ W'.cell? ⟨w.heap.size, 1, none⟩ = some (.int .i64 v.k) ∧ W'.cell? ⟨w.heap.size, 2, none⟩ = some (.int .i64 v.n) ∧ W'.cell? ⟨w.heap.size, 3, none⟩ = some (.string ⟨v.s.toArray⟩) ∧ W'.cell? ⟨w.heap.size, 4, none⟩ = some (.string ⟨nm.toArray⟩) ∧ W'.cell? ⟨w.heap.size, 5, none⟩ = some (.slice ao n ca) := fun W' hW =>
    ⟨(hW.cell (p := ⟨w.heap.size, 0, none⟩) (by simp)).trans (by simp), (hW.cell (p := ⟨w.heap.size, 1, none⟩) (by simp)).trans (by simp), (hW.cell (p := ⟨w.heap.size, 2, none⟩) (by simp)).trans (by simp), (hW.cell (p := ⟨w.heap.size, 3, none⟩) (by simp)).trans (by simp), (hW.cell (p := ⟨w.heap.size, 4, none⟩) (by simp)).trans (by simp), (hW.cell (p := ⟨w.heap.size, 5, none⟩) (by simp)).trans (by simp)⟩
  have z0 : (w.alloc (.cells #[.int .i64 k, .int .i64 v.k, .int .i64 v.n, .string ⟨v.s.toArray⟩, .string ⟨nm.toArray⟩, .slice ao n ca] 28)).heap.size = w.heap.size + 1 := by simp
  have HD := hide hD
  clear hD
  unfold vlV at h7
  have HK := hide hK
  clear hK
  go_enter Tryz.func11, Tryz.ntmps11
  go_wp2_with fail
  refine (h7 _ b0).mono ?_
  rintro e w1 ⟨rfl, b1⟩
  have p1 : Below (w.alloc (.cells #[.int .i64 k, .int .i64 v.k, .int .i64 v.n, .string ⟨v.s.toArray⟩, .string ⟨nm.toArray⟩, .slice ao n ca] 28)).heap.size (w.alloc (.cells #[.int .i64 k, .int .i64 v.k, .int .i64 v.n, .string ⟨v.s.toArray⟩, .string ⟨nm.toArray⟩, .slice ao n ca] 28)) (w1.alloc (.cells #[.int .i64 V.k, .int .i64 V.n, .string ⟨V.s.toArray⟩] 25)) := b1.alloc b1.size _
  obtain ⟨d0, d1, d2, d3, d4, d5⟩ := HD.out _ p1
  obtain ⟨s, hs⟩ : ∃ s, w1.heap.size = s := ⟨_, rfl⟩
  have y0 : (w1.alloc (.cells #[.int .i64 V.k, .int .i64 V.n, .string ⟨V.s.toArray⟩] 25)).cell? ⟨s, 0, none⟩ = some (.int .i64 V.k) := by rw [← hs]; simp
  have y1 : (w1.alloc (.cells #[.int .i64 V.k, .int .i64 V.n, .string ⟨V.s.toArray⟩] 25)).cell? ⟨s, 1, none⟩ = some (.int .i64 V.n) := by rw [← hs]; simp
  have y2 : (w1.alloc (.cells #[.int .i64 V.k, .int .i64 V.n, .string ⟨V.s.toArray⟩] 25)).cell? ⟨s, 2, none⟩ = some (.string ⟨V.s.toArray⟩) := by rw [← hs]; simp
  have zs : s < (w1.alloc (.cells #[.int .i64 V.k, .int .i64 V.n, .string ⟨V.s.toArray⟩] 25)).heap.size := by rw [← hs]; simp
  have q2 : Below w.heap.size w (w1.alloc (.cells #[.int .i64 V.k, .int .i64 V.n, .string ⟨V.s.toArray⟩] 25)) := b0.trans (p1.mono b0.size)
  have hk6 := h6 _ q2
  have HS := hide hs
  clear h7 b1 b0 HD z0 p1 h6 hs
  go_wp2_with fail
  rw [HS.out]
  generalize w1.alloc (.cells #[.int .i64 V.k, .int .i64 V.n, .string ⟨V.s.toArray⟩] 25) = w2 at *
  refine hk6.mono ?_
  rintro e w3 ⟨rfl, b3⟩
  have q3 : Below w.heap.size w w3 := q2.trans (b3.mono q2.size)
  have x0 := (b3.cell (p := ⟨s, 0, none⟩) zs).trans y0
  have x1 := (b3.cell (p := ⟨s, 1, none⟩) zs).trans y1
  have x2 := (b3.cell (p := ⟨s, 2, none⟩) zs).trans y2
  have zs3 : s < w3.heap.size := Nat.lt_of_lt_of_le zs b3.size
  have hfk := fk_any K 3 true HK w3
  clear hk6 q2 b3 y0 y1 y2 d0 d1 d2 d3 d4 d5 zs HS
  go_wp2_with fail
  refine hfk.mono ?_
  rintro e w4 ⟨rfl, e4⟩
  obtain rfl := e4.symm
  clear hfk e4
  have hq := eql25
  have hs : sameTk V.k V.n ⟨V.s.toArray⟩ 3 1 ⟨#[]⟩ = D := (sameV V (truthV true)).trans hDd
  have ht : ∀ W : World, Calls Tryz.prog 21 #[.bool true] W fun e w' => e = .returned (.agg #[.int .i64 3, .int .i64 1, .string ⟨#[]⟩]) ∧ Below W.heap.size W w' := fun W => tr_any true W
  clear hDd
  have hx : ∀ W' : World, Below w3.heap.size w3 W' → (W'.cell? ⟨s, 0, none⟩ = some (.int .i64 V.k) ∧ W'.cell? ⟨s, 1, none⟩ = some (.int .i64 V.n) ∧ W'.cell? ⟨s, 2, none⟩ = some (.string ⟨V.s.toArray⟩)) := fun W' hW => ⟨(hW.cell (p := ⟨s, _, none⟩) zs3).trans x0, (hW.cell (p := ⟨s, _, none⟩) zs3).trans x1, (hW.cell (p := ⟨s, _, none⟩) zs3).trans x2⟩
  have HX := hide hx
  clear hx
  go_wp2_with fail
  go_region_law (go_simp; refine (ht _).mono ?_; rintro e w7 ⟨rfl, b7⟩; have B2 := hide ((Below.refl w3.heap.size w3).drew.trans (b7.mono (by simp))); obtain ⟨y0, y1, y2⟩ := HX.out w7 B2.out; clear b7; dsimp only)
  all_goals
    have q7 : Below w.heap.size w w7 := q3.trans (B2.out.mono q3.size)
    go_wp2
    go_ret2
    exact ⟨rfl, q7⟩

/-- what Holds answers -/
def holdsX (L : List Cl) (r : List Vl) (x : Ex) : Bool × Nat := if (evalX L r x).2 ≠ 0 then (false, (evalX L r x).2) else if (decide ((kindX L x).1 = 0) || decide ((kindX L x).1 = 3)) = false then (false, 4) else (decide ((evalX L r x).1 = truthV true), 0)

theorem evalX_zero {L : List Cl} {r : List Vl} {x : Ex} (h : (evalX L r x).2 = 0) : (kindX L x).2 = 0 ∧ rowF L r = 0 ∧ (evalX L r x).1 = evalE L r x := by
  unfold evalX at h ⊢
  by_cases h1 : (kindX L x).2 ≠ 0
  · rw [if_pos h1] at h; exact absurd h h1
  rw [if_neg h1] at h ⊢
  by_cases h2 : rowF L r ≠ 0
  · rw [if_pos h2] at h; exact absurd h h2
  rw [if_neg h2]
  exact ⟨Classical.not_not.1 h1, Classical.not_not.1 h2, rfl⟩

theorem Holds_any (L : List Cl) (cv : Value) (r : List Vl) (rv : Value) {w : World} {u : Value} {x : Ex} (h : ExAt 0 w u x) (hf : Fit x) (hC : CsAt w cv L) (hV : VsAt w rv r) :
    Calls Tryz.prog 11 #[cv, rv, u] w fun e w' => e = .returned (.tuple #[.bool (holdsX L r x).1, .int .i64 ((holdsX L r x).2 : Nat)]) ∧ Below w.heap.size w w' := by
  have h6 := fun (W : World) (hW : Below w.heap.size w W) => Kind_any L cv (h.under hW) hf (hC.below hW)
  have h7 := fun (W : World) (hW : Below w.heap.size w W) => Eval_any L cv r rv (h.under hW) hf (hC.below hW) (hV.below hW)
  have hE : ∃ k v nm ao n ca, u = exL k v nm (.slice ao n ca) := by
    cases h with
    | nil k v nm ao cap hz => exact ⟨_, _, _, _, _, _, rfl⟩
    | args k v nm b off cap xs us hx hB hs hc hh => exact ⟨_, _, _, _, _, _, rfl⟩
  obtain ⟨k, v, nm, ao, n, ca, rfl⟩ := hE
  unfold holdsX
  by_cases h1 : (evalX L r x).2 ≠ 0
  · rw [if_pos h1]
    exact hd_bad cv rv k v nm ao n ca w _ _ h7 (by simpa using h1)
  · rw [if_neg h1]
    have h0 : (evalX L r x).2 = 0 := Classical.not_not.1 h1
    rw [h0] at h7
    rw [(evalX_zero h0).1] at h6
    by_cases h2 : (decide ((kindX L x).1 = 0) || decide ((kindX L x).1 = 3)) = false
    · rw [if_pos h2]
      exact hd_st cv rv k v nm ao n ca w _ h7 _ h6 h2
    · rw [if_neg h2]
      exact hd_ok cv rv k v nm ao n ca w _ h7 _ h6 (by cases h5 : (decide ((kindX L x).1 = 0) || decide ((kindX L x).1 = 3)) with | true => rfl | false => exact absurd h5 h2) _ rfl

end Go.Proofs.YtjmhkeooiimpfaaGreat
