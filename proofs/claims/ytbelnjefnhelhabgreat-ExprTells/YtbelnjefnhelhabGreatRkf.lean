/-
  The document's KindOf and CheckRow.
-/
import Derived.Test.YtbelnjefnhelhabGreatRke
namespace Go.Proofs.YtbelnjefnhelhabGreat
open Go.RowKit

set_option maxRecDepth 100000 in
set_option maxHeartbeats 1600000 in
theorem rko_many (cv : Value) (k : Int) (v : Vl) (nm : List UInt8) (ao : Option Addr) (n ca : Nat) (w : World) (P : Nat) (hP : 15 < P) (h24 : ∀ W : World, Below w.heap.size w W → Calls Tryz.prog 24 #[exL k v nm (.slice ao n ca), .int .i64 15] W fun e w' => e = .returned (.int .i64 (P : Nat)) ∧ Below W.heap.size W w') :
    Calls Tryz.prog 9 #[cv, exL k v nm (.slice ao n ca)] w fun e w' => e = .returned (.tuple #[.int .i64 0, .int .i64 2]) ∧ Below w.heap.size w w' := by
  have b0 := (Below.refl w.heap.size w).alloc (Nat.le_refl _) (.cells #[.int .i64 k, .int .i64 v.k, .int .i64 v.n, .string ⟨v.s.toArray⟩, .string ⟨nm.toArray⟩, .slice ao n ca] 28)
  have hD : ∀ W' : World, Below (w.alloc (.cells #[.int .i64 k, .int .i64 v.k, .int .i64 v.n, .string ⟨v.s.toArray⟩, .string ⟨nm.toArray⟩, .slice ao n ca] 28)).heap.size (w.alloc (.cells #[.int .i64 k, .int .i64 v.k, .int .i64 v.n, .string ⟨v.s.toArray⟩, .string ⟨nm.toArray⟩, .slice ao n ca] 28)) W' → W'.cell? ⟨w.heap.size, 0, none⟩ = some (.int .i64 k) ∧ W'.cell? ⟨w.heap.size, 1, none⟩ = some (.int .i64 v.k) ∧ W'.cell? ⟨w.heap.size, 2, none⟩ = some (.int .i64 v.n) ∧ W'.cell? ⟨w.heap.size, 3, none⟩ = some (.string ⟨v.s.toArray⟩) ∧ W'.cell? ⟨w.heap.size, 4, none⟩ = some (.string ⟨nm.toArray⟩) ∧ W'.cell? ⟨w.heap.size, 5, none⟩ = some (.slice ao n ca) := fun W' hW =>
    ⟨(hW.cell (p := ⟨w.heap.size, 0, none⟩) (by simp)).trans (by simp), (hW.cell (p := ⟨w.heap.size, 1, none⟩) (by simp)).trans (by simp), (hW.cell (p := ⟨w.heap.size, 2, none⟩) (by simp)).trans (by simp), (hW.cell (p := ⟨w.heap.size, 3, none⟩) (by simp)).trans (by simp), (hW.cell (p := ⟨w.heap.size, 4, none⟩) (by simp)).trans (by simp), (hW.cell (p := ⟨w.heap.size, 5, none⟩) (by simp)).trans (by simp)⟩
  have z0 : (w.alloc (.cells #[.int .i64 k, .int .i64 v.k, .int .i64 v.n, .string ⟨v.s.toArray⟩, .string ⟨nm.toArray⟩, .slice ao n ca] 28)).heap.size = w.heap.size + 1 := by simp
  have HD := hide hD
  clear hD
  have hP' : (15 : Int) < (P : Int) := by omega
  clear hP
  obtain ⟨d0, d1, d2, d3, d4, d5⟩ := HD.out _ (Below.refl _ _)
  go_enter Tryz.func9, Tryz.ntmps9
  go_wp2_with fail
  refine (h24 _ b0).mono ?_
  rintro e w1 ⟨rfl, b1⟩
  have p1 : Below (w.alloc (.cells #[.int .i64 k, .int .i64 v.k, .int .i64 v.n, .string ⟨v.s.toArray⟩, .string ⟨nm.toArray⟩, .slice ao n ca] 28)).heap.size (w.alloc (.cells #[.int .i64 k, .int .i64 v.k, .int .i64 v.n, .string ⟨v.s.toArray⟩, .string ⟨nm.toArray⟩, .slice ao n ca] 28)) w1 := b1
  clear b1 h24 d0 d1 d2 d3 d4 d5
  obtain ⟨d0, d1, d2, d3, d4, d5⟩ := HD.out w1 p1
  have q : Below w.heap.size w w1 := b0.trans (p1.mono b0.size)
  go_wp2
  go_ret2
  exact ⟨rfl, q⟩

set_option maxRecDepth 100000 in
set_option maxHeartbeats 1600000 in
theorem rko_bad (cv : Value) (k : Int) (v : Vl) (nm : List UInt8) (ao : Option Addr) (n ca : Nat) (w : World) (P : Nat) (hP : P ≤ 15) (h24 : ∀ W : World, Below w.heap.size w W → Calls Tryz.prog 24 #[exL k v nm (.slice ao n ca), .int .i64 15] W fun e w' => e = .returned (.int .i64 (P : Nat)) ∧ Below W.heap.size W w') (F : Nat) (hF : ((F : Int) != 0) = true) (h25 : ∀ W : World, Below w.heap.size w W → Calls Tryz.prog 25 #[cv, exL k v nm (.slice ao n ca)] W fun e w' => e = .returned (.int .i64 (F : Nat)) ∧ Below W.heap.size W w') :
    Calls Tryz.prog 9 #[cv, exL k v nm (.slice ao n ca)] w fun e w' => e = .returned (.tuple #[.int .i64 0, .int .i64 (F : Nat)]) ∧ Below w.heap.size w w' := by
  have b0 := (Below.refl w.heap.size w).alloc (Nat.le_refl _) (.cells #[.int .i64 k, .int .i64 v.k, .int .i64 v.n, .string ⟨v.s.toArray⟩, .string ⟨nm.toArray⟩, .slice ao n ca] 28)
  have hD : ∀ W' : World, Below (w.alloc (.cells #[.int .i64 k, .int .i64 v.k, .int .i64 v.n, .string ⟨v.s.toArray⟩, .string ⟨nm.toArray⟩, .slice ao n ca] 28)).heap.size (w.alloc (.cells #[.int .i64 k, .int .i64 v.k, .int .i64 v.n, .string ⟨v.s.toArray⟩, .string ⟨nm.toArray⟩, .slice ao n ca] 28)) W' → W'.cell? ⟨w.heap.size, 0, none⟩ = some (.int .i64 k) ∧ W'.cell? ⟨w.heap.size, 1, none⟩ = some (.int .i64 v.k) ∧ W'.cell? ⟨w.heap.size, 2, none⟩ = some (.int .i64 v.n) ∧ W'.cell? ⟨w.heap.size, 3, none⟩ = some (.string ⟨v.s.toArray⟩) ∧ W'.cell? ⟨w.heap.size, 4, none⟩ = some (.string ⟨nm.toArray⟩) ∧ W'.cell? ⟨w.heap.size, 5, none⟩ = some (.slice ao n ca) := fun W' hW =>
    ⟨(hW.cell (p := ⟨w.heap.size, 0, none⟩) (by simp)).trans (by simp), (hW.cell (p := ⟨w.heap.size, 1, none⟩) (by simp)).trans (by simp), (hW.cell (p := ⟨w.heap.size, 2, none⟩) (by simp)).trans (by simp), (hW.cell (p := ⟨w.heap.size, 3, none⟩) (by simp)).trans (by simp), (hW.cell (p := ⟨w.heap.size, 4, none⟩) (by simp)).trans (by simp), (hW.cell (p := ⟨w.heap.size, 5, none⟩) (by simp)).trans (by simp)⟩
  have z0 : (w.alloc (.cells #[.int .i64 k, .int .i64 v.k, .int .i64 v.n, .string ⟨v.s.toArray⟩, .string ⟨nm.toArray⟩, .slice ao n ca] 28)).heap.size = w.heap.size + 1 := by simp
  have HD := hide hD
  clear hD
  have hP' : ¬ ((15 : Int) < (P : Int)) := by omega
  clear hP
  obtain ⟨d0, d1, d2, d3, d4, d5⟩ := HD.out _ (Below.refl _ _)
  go_enter Tryz.func9, Tryz.ntmps9
  go_wp2_with fail
  refine (h24 _ b0).mono ?_
  rintro e w1 ⟨rfl, b1⟩
  have p1 : Below (w.alloc (.cells #[.int .i64 k, .int .i64 v.k, .int .i64 v.n, .string ⟨v.s.toArray⟩, .string ⟨nm.toArray⟩, .slice ao n ca] 28)).heap.size (w.alloc (.cells #[.int .i64 k, .int .i64 v.k, .int .i64 v.n, .string ⟨v.s.toArray⟩, .string ⟨nm.toArray⟩, .slice ao n ca] 28)) w1 := b1
  clear b1 h24 d0 d1 d2 d3 d4 d5
  obtain ⟨d0, d1, d2, d3, d4, d5⟩ := HD.out w1 p1
  go_wp2_with fail
  refine (h25 _ (b0.trans (p1.mono b0.size))).mono ?_
  rintro e w2 ⟨rfl, b2⟩
  have p2 : Below (w.alloc (.cells #[.int .i64 k, .int .i64 v.k, .int .i64 v.n, .string ⟨v.s.toArray⟩, .string ⟨nm.toArray⟩, .slice ao n ca] 28)).heap.size (w.alloc (.cells #[.int .i64 k, .int .i64 v.k, .int .i64 v.n, .string ⟨v.s.toArray⟩, .string ⟨nm.toArray⟩, .slice ao n ca] 28)) w2 := p1.trans (b2.mono p1.size)
  clear b2 h25 d0 d1 d2 d3 d4 d5
  obtain ⟨d0, d1, d2, d3, d4, d5⟩ := HD.out w2 p2
  have q : Below w.heap.size w w2 := b0.trans (p2.mono b0.size)
  go_wp2
  go_ret2
  exact ⟨rfl, q⟩

set_option maxRecDepth 100000 in
set_option maxHeartbeats 1600000 in
theorem rko_st (cv : Value) (k : Int) (v : Vl) (nm : List UInt8) (ao : Option Addr) (n ca : Nat) (w : World) (P : Nat) (hP : P ≤ 15) (h24 : ∀ W : World, Below w.heap.size w W → Calls Tryz.prog 24 #[exL k v nm (.slice ao n ca), .int .i64 15] W fun e w' => e = .returned (.int .i64 (P : Nat)) ∧ Below W.heap.size W w') (h25 : ∀ W : World, Below w.heap.size w W → Calls Tryz.prog 25 #[cv, exL k v nm (.slice ao n ca)] W fun e w' => e = .returned (.int .i64 0) ∧ Below W.heap.size W w') (h26 : ∀ W : World, Below w.heap.size w W → Calls Tryz.prog 26 #[cv, exL k v nm (.slice ao n ca)] W fun e w' => e = .returned (.int .i64 (-1)) ∧ Below W.heap.size W w') :
    Calls Tryz.prog 9 #[cv, exL k v nm (.slice ao n ca)] w fun e w' => e = .returned (.tuple #[.int .i64 0, .int .i64 4]) ∧ Below w.heap.size w w' := by
  have b0 := (Below.refl w.heap.size w).alloc (Nat.le_refl _) (.cells #[.int .i64 k, .int .i64 v.k, .int .i64 v.n, .string ⟨v.s.toArray⟩, .string ⟨nm.toArray⟩, .slice ao n ca] 28)
  have hD : ∀ W' : World, Below (w.alloc (.cells #[.int .i64 k, .int .i64 v.k, .int .i64 v.n, .string ⟨v.s.toArray⟩, .string ⟨nm.toArray⟩, .slice ao n ca] 28)).heap.size (w.alloc (.cells #[.int .i64 k, .int .i64 v.k, .int .i64 v.n, .string ⟨v.s.toArray⟩, .string ⟨nm.toArray⟩, .slice ao n ca] 28)) W' → W'.cell? ⟨w.heap.size, 0, none⟩ = some (.int .i64 k) ∧ W'.cell? ⟨w.heap.size, 1, none⟩ = some (.int .i64 v.k) ∧ W'.cell? ⟨w.heap.size, 2, none⟩ = some (.int .i64 v.n) ∧ W'.cell? ⟨w.heap.size, 3, none⟩ = some (.string ⟨v.s.toArray⟩) ∧ W'.cell? ⟨w.heap.size, 4, none⟩ = some (.string ⟨nm.toArray⟩) ∧ W'.cell? ⟨w.heap.size, 5, none⟩ = some (.slice ao n ca) := fun W' hW =>
    ⟨(hW.cell (p := ⟨w.heap.size, 0, none⟩) (by simp)).trans (by simp), (hW.cell (p := ⟨w.heap.size, 1, none⟩) (by simp)).trans (by simp), (hW.cell (p := ⟨w.heap.size, 2, none⟩) (by simp)).trans (by simp), (hW.cell (p := ⟨w.heap.size, 3, none⟩) (by simp)).trans (by simp), (hW.cell (p := ⟨w.heap.size, 4, none⟩) (by simp)).trans (by simp), (hW.cell (p := ⟨w.heap.size, 5, none⟩) (by simp)).trans (by simp)⟩
  have z0 : (w.alloc (.cells #[.int .i64 k, .int .i64 v.k, .int .i64 v.n, .string ⟨v.s.toArray⟩, .string ⟨nm.toArray⟩, .slice ao n ca] 28)).heap.size = w.heap.size + 1 := by simp
  have HD := hide hD
  clear hD
  have hP' : ¬ ((15 : Int) < (P : Int)) := by omega
  clear hP
  obtain ⟨d0, d1, d2, d3, d4, d5⟩ := HD.out _ (Below.refl _ _)
  go_enter Tryz.func9, Tryz.ntmps9
  go_wp2_with fail
  refine (h24 _ b0).mono ?_
  rintro e w1 ⟨rfl, b1⟩
  have p1 : Below (w.alloc (.cells #[.int .i64 k, .int .i64 v.k, .int .i64 v.n, .string ⟨v.s.toArray⟩, .string ⟨nm.toArray⟩, .slice ao n ca] 28)).heap.size (w.alloc (.cells #[.int .i64 k, .int .i64 v.k, .int .i64 v.n, .string ⟨v.s.toArray⟩, .string ⟨nm.toArray⟩, .slice ao n ca] 28)) w1 := b1
  clear b1 h24 d0 d1 d2 d3 d4 d5
  obtain ⟨d0, d1, d2, d3, d4, d5⟩ := HD.out w1 p1
  go_wp2_with fail
  refine (h25 _ (b0.trans (p1.mono b0.size))).mono ?_
  rintro e w2 ⟨rfl, b2⟩
  have p2 : Below (w.alloc (.cells #[.int .i64 k, .int .i64 v.k, .int .i64 v.n, .string ⟨v.s.toArray⟩, .string ⟨nm.toArray⟩, .slice ao n ca] 28)).heap.size (w.alloc (.cells #[.int .i64 k, .int .i64 v.k, .int .i64 v.n, .string ⟨v.s.toArray⟩, .string ⟨nm.toArray⟩, .slice ao n ca] 28)) w2 := p1.trans (b2.mono p1.size)
  clear b2 h25 d0 d1 d2 d3 d4 d5
  obtain ⟨d0, d1, d2, d3, d4, d5⟩ := HD.out w2 p2
  go_wp2_with fail
  refine (h26 _ (b0.trans (p2.mono b0.size))).mono ?_
  rintro e w3 ⟨rfl, b3⟩
  have p3 : Below (w.alloc (.cells #[.int .i64 k, .int .i64 v.k, .int .i64 v.n, .string ⟨v.s.toArray⟩, .string ⟨nm.toArray⟩, .slice ao n ca] 28)).heap.size (w.alloc (.cells #[.int .i64 k, .int .i64 v.k, .int .i64 v.n, .string ⟨v.s.toArray⟩, .string ⟨nm.toArray⟩, .slice ao n ca] 28)) w3 := p2.trans (b3.mono p2.size)
  clear b3 h26 d0 d1 d2 d3 d4 d5
  obtain ⟨d0, d1, d2, d3, d4, d5⟩ := HD.out w3 p3
  have q : Below w.heap.size w w3 := b0.trans (p3.mono b0.size)
  go_wp2
  go_ret2
  exact ⟨rfl, q⟩

set_option maxRecDepth 100000 in
set_option maxHeartbeats 1600000 in
theorem rko_ok (cv : Value) (k : Int) (v : Vl) (nm : List UInt8) (ao : Option Addr) (n ca : Nat) (w : World) (P : Nat) (hP : P ≤ 15) (h24 : ∀ W : World, Below w.heap.size w W → Calls Tryz.prog 24 #[exL k v nm (.slice ao n ca), .int .i64 15] W fun e w' => e = .returned (.int .i64 (P : Nat)) ∧ Below W.heap.size W w') (h25 : ∀ W : World, Below w.heap.size w W → Calls Tryz.prog 25 #[cv, exL k v nm (.slice ao n ca)] W fun e w' => e = .returned (.int .i64 0) ∧ Below W.heap.size W w') (K : Int) (hK : 0 ≤ K) (h26 : ∀ W : World, Below w.heap.size w W → Calls Tryz.prog 26 #[cv, exL k v nm (.slice ao n ca)] W fun e w' => e = .returned (.int .i64 K) ∧ Below W.heap.size W w') :
    Calls Tryz.prog 9 #[cv, exL k v nm (.slice ao n ca)] w fun e w' => e = .returned (.tuple #[.int .i64 K, .int .i64 0]) ∧ Below w.heap.size w w' := by
  have b0 := (Below.refl w.heap.size w).alloc (Nat.le_refl _) (.cells #[.int .i64 k, .int .i64 v.k, .int .i64 v.n, .string ⟨v.s.toArray⟩, .string ⟨nm.toArray⟩, .slice ao n ca] 28)
  have hD : ∀ W' : World, Below (w.alloc (.cells #[.int .i64 k, .int .i64 v.k, .int .i64 v.n, .string ⟨v.s.toArray⟩, .string ⟨nm.toArray⟩, .slice ao n ca] 28)).heap.size (w.alloc (.cells #[.int .i64 k, .int .i64 v.k, .int .i64 v.n, .string ⟨v.s.toArray⟩, .string ⟨nm.toArray⟩, .slice ao n ca] 28)) W' → W'.cell? ⟨w.heap.size, 0, none⟩ = some (.int .i64 k) ∧ W'.cell? ⟨w.heap.size, 1, none⟩ = some (.int .i64 v.k) ∧ W'.cell? ⟨w.heap.size, 2, none⟩ = some (.int .i64 v.n) ∧ W'.cell? ⟨w.heap.size, 3, none⟩ = some (.string ⟨v.s.toArray⟩) ∧ W'.cell? ⟨w.heap.size, 4, none⟩ = some (.string ⟨nm.toArray⟩) ∧ W'.cell? ⟨w.heap.size, 5, none⟩ = some (.slice ao n ca) := fun W' hW =>
    ⟨(hW.cell (p := ⟨w.heap.size, 0, none⟩) (by simp)).trans (by simp), (hW.cell (p := ⟨w.heap.size, 1, none⟩) (by simp)).trans (by simp), (hW.cell (p := ⟨w.heap.size, 2, none⟩) (by simp)).trans (by simp), (hW.cell (p := ⟨w.heap.size, 3, none⟩) (by simp)).trans (by simp), (hW.cell (p := ⟨w.heap.size, 4, none⟩) (by simp)).trans (by simp), (hW.cell (p := ⟨w.heap.size, 5, none⟩) (by simp)).trans (by simp)⟩
  have z0 : (w.alloc (.cells #[.int .i64 k, .int .i64 v.k, .int .i64 v.n, .string ⟨v.s.toArray⟩, .string ⟨nm.toArray⟩, .slice ao n ca] 28)).heap.size = w.heap.size + 1 := by simp
  have HD := hide hD
  clear hD
  have hP' : ¬ ((15 : Int) < (P : Int)) := by omega
  clear hP
  have hK' : ¬ (K < 0) := by omega
  clear hK
  obtain ⟨d0, d1, d2, d3, d4, d5⟩ := HD.out _ (Below.refl _ _)
  go_enter Tryz.func9, Tryz.ntmps9
  go_wp2_with fail
  refine (h24 _ b0).mono ?_
  rintro e w1 ⟨rfl, b1⟩
  have p1 : Below (w.alloc (.cells #[.int .i64 k, .int .i64 v.k, .int .i64 v.n, .string ⟨v.s.toArray⟩, .string ⟨nm.toArray⟩, .slice ao n ca] 28)).heap.size (w.alloc (.cells #[.int .i64 k, .int .i64 v.k, .int .i64 v.n, .string ⟨v.s.toArray⟩, .string ⟨nm.toArray⟩, .slice ao n ca] 28)) w1 := b1
  clear b1 h24 d0 d1 d2 d3 d4 d5
  obtain ⟨d0, d1, d2, d3, d4, d5⟩ := HD.out w1 p1
  go_wp2_with fail
  refine (h25 _ (b0.trans (p1.mono b0.size))).mono ?_
  rintro e w2 ⟨rfl, b2⟩
  have p2 : Below (w.alloc (.cells #[.int .i64 k, .int .i64 v.k, .int .i64 v.n, .string ⟨v.s.toArray⟩, .string ⟨nm.toArray⟩, .slice ao n ca] 28)).heap.size (w.alloc (.cells #[.int .i64 k, .int .i64 v.k, .int .i64 v.n, .string ⟨v.s.toArray⟩, .string ⟨nm.toArray⟩, .slice ao n ca] 28)) w2 := p1.trans (b2.mono p1.size)
  clear b2 h25 d0 d1 d2 d3 d4 d5
  obtain ⟨d0, d1, d2, d3, d4, d5⟩ := HD.out w2 p2
  go_wp2_with fail
  refine (h26 _ (b0.trans (p2.mono b0.size))).mono ?_
  rintro e w3 ⟨rfl, b3⟩
  have p3 : Below (w.alloc (.cells #[.int .i64 k, .int .i64 v.k, .int .i64 v.n, .string ⟨v.s.toArray⟩, .string ⟨nm.toArray⟩, .slice ao n ca] 28)).heap.size (w.alloc (.cells #[.int .i64 k, .int .i64 v.k, .int .i64 v.n, .string ⟨v.s.toArray⟩, .string ⟨nm.toArray⟩, .slice ao n ca] 28)) w3 := p2.trans (b3.mono p2.size)
  clear b3 h26 d0 d1 d2 d3 d4 d5
  obtain ⟨d0, d1, d2, d3, d4, d5⟩ := HD.out w3 p3
  have q : Below w.heap.size w w3 := b0.trans (p3.mono b0.size)
  go_wp2
  go_ret2
  exact ⟨rfl, q⟩

theorem KindOf_any (L : List Cl) (cv : Value) (hL : ∀ c ∈ L, 0 ≤ c.ty) {w : World} {u : Value} {x : Ex} (h : ExAt 0 w u x) (hf : Fit x) (hC : CsAt w cv L) :
    Calls Tryz.prog 9 #[cv, u] w fun e w' => e = .returned (.tuple #[.int .i64 (kindX L x).1, .int .i64 ((kindX L x).2 : Nat)]) ∧ Below w.heap.size w w' := by
  have h24 := fun (W : World) (hW : Below w.heap.size w W) => partsOf_any _ x u w (Nat.le_refl _) h hf 15 (Nat.le_refl _) W hW
  have h25 := fun (W : World) (hW : Below w.heap.size w W) => rcp_any L cv h hf W hW (hC.below hW)
  have h26 := fun (h0 : faultE L x = 0) (W : World) (hW : Below w.heap.size w W) => rko_any L cv hL h hf h0 W hW (hC.below hW)
  have hE : ∃ k v nm ao n ca, u = exL k v nm (.slice ao n ca) := by
    cases h with
    | nil k v nm ao cap hz => exact ⟨_, _, _, _, _, _, rfl⟩
    | args k v nm b off cap xs us hx hB hs hc hh => exact ⟨_, _, _, _, _, _, rfl⟩
  obtain ⟨k, v, nm, ao, n, ca, rfl⟩ := hE
  unfold kindX
  by_cases h1 : 15 < sizeE x
  · rw [if_pos h1]
    exact rko_many cv k v nm ao n ca w _ (by omega) h24
  rw [if_neg h1]
  by_cases h2 : faultE L x ≠ 0
  · rw [if_pos h2]
    exact rko_bad cv k v nm ao n ca w _ (by omega) h24 _ (by simpa using h2) h25
  rw [if_neg h2]
  have h0 : faultE L x = 0 := Classical.not_not.1 h2
  have h26' := h26 h0
  rw [h0] at h25
  cases e : kindE L x with
  | none =>
    rw [e] at h26'
    exact rko_st cv k v nm ao n ca w _ (by omega) h24 h25 h26'
  | some K =>
    rw [e] at h26'
    exact rko_ok cv k v nm ao n ca w _ (by omega) h24 h25 K (kindE_nonneg L hL x h0 K e) h26'

theorem kindsR_iff (L : List Cl) (r : List Vl) (hl : r.length = L.length) : kindsR L r = true ↔ ∀ (i : Nat) (c : Cl) (x : Vl), L[i]? = some c → r[i]? = some x → x.k = 0 ∨ x.k = c.ty := by
  constructor
  · intro h i c x hc hx; exact kindsR_at L r h i c x hc hx
  · intro h
    induction L generalizing r with
    | nil => cases r <;> rfl
    | cons c L ih =>
      cases r with
      | nil => cases hl
      | cons x r =>
        simp only [kindsR, Bool.and_eq_true, Bool.or_eq_true, decide_eq_true_eq]
        exact ⟨h 0 c x rfl rfl, ih r (by simpa using hl) fun i c' x' hc hx => h (i + 1) c' x' (by simpa using hc) (by simpa using hx)⟩

set_option maxRecDepth 100000 in
set_option maxHeartbeats 3200000 in
theorem rcr_any (L : List Cl) (r : List Vl) (cv rv : Value) (w : World) (hC : CsAt w cv L) (hV : VsAt w rv r) :
    Calls Tryz.prog 10 #[cv, rv] w fun e w' => e = .returned (.int .i64 (rowF L r : Nat)) ∧ Below w.heap.size w w' := by
  obtain ⟨T, hT⟩ : ∃ T, rowF L r = T := ⟨_, rfl⟩
  rw [hT]
  obtain ⟨ca, cc, rfl, c1, c2⟩ := hC
  obtain ⟨ra, rc, rfl, r1, r2, r3⟩ := hV
  obtain ⟨m, hm⟩ : ∃ m, L.length = m := ⟨_, rfl⟩
  obtain ⟨n, hn⟩ : ∃ n, r.length = n := ⟨_, rfl⟩
  rw [hm] at c1 ⊢
  rw [hn] at r1 ⊢
  have HC := hide c2
  have HR := hide r3
  have HS := hide r2
  have HT := hide hT
  have Hm := hide hm
  have Hn := hide hn
  clear c2 r3 r2 hT hm hn
  by_cases hne : n = m
  · subst hne
    have hl : r.length = L.length := by rw [Hm.out, Hn.out]
    have HL := hide hl
    clear hl
    go_enter Tryz.func10, Tryz.ntmps10
    go_wp2
    go_loopw [5] (fun i wl => ∃ j : Nat, j ≤ n ∧ i = .int .i64 j ∧ Below w.heap.size w wl ∧ Hid (∀ (q : Nat) (x : Vl), q < j → r[q]? = some x → chkV x.k x.n x.s = 0)) (fun i _ => n - (intOf i).toNat)
    case atStart => exact ⟨0, Nat.zero_le _, rfl, Below.refl _ _, fun q x hq => absurd hq (Nat.not_lt_zero _)⟩
    case round =>
      obtain ⟨j, hj, rfl, hnx, HA⟩ := hrel
      by_cases hlt : j < n
      · obtain ⟨x, hx⟩ : ∃ x, r[j]? = some x := ⟨r[j]'(by rw [Hn.out]; exact hlt), List.getElem?_eq_getElem _⟩
        obtain ⟨g, o, rfl, hg, hc⟩ := HR.out (by intro e; rw [e] at hx; cases hx)
        obtain ⟨a0, a1, a2⟩ := hc j x hx
        have x0 := (hnx.cell (p := ⟨g, o + j * 3, none⟩) hg).trans a0
        have x1 := (hnx.cell (p := ⟨g, o + j * 3 + 1, none⟩) hg).trans a1
        have x2 := (hnx.cell (p := ⟨g, o + j * 3 + 2, none⟩) hg).trans a2
        have hlt' : (j : Int) < (n : Int) := by omega
        have h27 := ckv_any x.k x.n ⟨x.s.toArray⟩ wr (by rw [size_mk]; exact HS.out x (List.mem_of_getElem? hx))
        have e0 : (⟨x.s.toArray⟩ : ByteArray).data.toList = x.s := by simp
        rw [e0] at h27
        have HX := hide hx
        obtain ⟨F, hF⟩ : ∃ F, chkV x.k x.n x.s = F := ⟨_, rfl⟩
        rw [hF] at h27
        have HF := hide hF
        have hsz := hnx.size
        clear a0 a1 a2 hx e0 hF hc HR HC
        by_cases hz : F = 0
        · subst hz
          go_wp2_with fail
          refine h27.mono ?_
          rintro e w3 ⟨rfl, b3⟩
          have q3 : Below w.heap.size w w3 := hnx.trans (b3.mono hsz)
          clear h27 b3
          go_wp2
          go_roundw
          case rel =>
            refine ⟨j + 1, by omega, by go_num, q3, fun q y hq hy => ?_⟩
            rcases Nat.lt_or_ge q j with h | h
            · exact HA.out q y h hy
            · rw [show q = j by omega, HX.out] at hy; cases hy; exact HF.out
          case measure => simp [intOf]; omega
        · have hz' : ((F : Int) != 0) = true := by simpa using hz
          have HE : Hid (T = F) := by
            have hb : badR r = chkV x.k x.n x.s := by rw [← badL_badR]; exact badL_at r j x HX.out HA.out (by rw [HF.out]; exact hz)
            rw [Hid, ← HT.out]
            unfold rowF
            rw [if_neg (by rw [HL.out]; exact fun h => h rfl), hb, HF.out, if_pos hz]
          clear hz HA
          go_wp2_with fail
          refine h27.mono ?_
          rintro e w3 ⟨rfl, b3⟩
          have q3 : Below w.heap.size w w3 := hnx.trans (b3.mono hsz)
          clear h27 b3
          go_wp2
          go_ret
          exact ⟨by rw [HE.out]; rfl, q3⟩
      · obtain rfl : j = n := by omega
        have hbad : badR r = 0 := by
          rw [badR_zero]
          intro x hx
          obtain ⟨q, hq, e⟩ := List.getElem_of_mem hx
          exact HA.out q x (by rw [← Hn.out]; exact hq) (by rw [List.getElem?_eq_getElem hq, e])
        have HB := hide hbad
        have hszw := hnx.size
        clear hbad HA HS
        go_wp2
        generalize wr = wo at *
        go_loopw [7] (fun i wl => ∃ q : Nat, q ≤ j ∧ i = .int .i64 q ∧ Below wo.heap.size wo wl ∧ Hid (∀ (p : Nat) (c : Cl) (x : Vl), p < q → L[p]? = some c → r[p]? = some x → x.k = 0 ∨ x.k = c.ty)) (fun i _ => j - (intOf i).toNat)
        case atStart => exact ⟨0, Nat.zero_le _, rfl, Below.refl _ _, fun p c x hp => absurd hp (Nat.not_lt_zero _)⟩
        case round =>
          obtain ⟨q, hq, rfl, hny, HA⟩ := hrel
          have qX : Below w.heap.size w wr := hnx.trans (hny.mono hszw)
          by_cases hlt2 : q < j
          · obtain ⟨x, hx⟩ : ∃ x, r[q]? = some x := ⟨r[q]'(by rw [Hn.out]; exact hlt2), List.getElem?_eq_getElem _⟩
            obtain ⟨c, hc⟩ : ∃ c, L[q]? = some c := ⟨L[q]'(by rw [Hm.out]; exact hlt2), List.getElem?_eq_getElem _⟩
            obtain ⟨g, o, rfl, hg, hcx⟩ := HR.out (by intro e; rw [e] at hx; cases hx)
            obtain ⟨a0, a1, a2⟩ := hcx q x hx
            obtain ⟨g2, o2, rfl, hg2, hcc⟩ := HC.out (by intro e; rw [e] at hc; cases hc)
            obtain ⟨e0, e1⟩ := hcc q c hc
            have x0 := (qX.cell (p := ⟨g, o + q * 3, none⟩) hg).trans a0
            have y1 := (qX.cell (p := ⟨g2, o2 + q * 2 + 1, none⟩) hg2).trans e1
            have hlt' : (q : Int) < (j : Int) := by omega
            have HX := hide hx
            have HCC := hide hc
            have hd : x.k = 0 ∨ (x.k ≠ 0 ∧ x.k = c.ty) ∨ (x.k ≠ 0 ∧ x.k ≠ c.ty) := by omega
            clear a0 a1 a2 e0 e1 hx hc hcx hcc HR HC
            rcases hd with h1 | ⟨h1, h2⟩ | ⟨h1, h2⟩
            · have HK := hide h1
              rw [h1] at x0
              clear h1
              go_wp2_with fail
              go_quiet (fail)
              go_wp2
              go_roundw
              case rel =>
                refine ⟨q + 1, by omega, by go_num, below_drewN hny _, fun p c' x' hp hc' hx' => ?_⟩
                rcases Nat.lt_or_ge p q with h | h
                · exact HA.out p c' x' h hc' hx'
                · rw [show p = q by omega, HX.out] at hx'; cases hx'; exact .inl HK.out
              case measure => simp [intOf]; omega
            · have HK := hide h2
              have h1' : (x.k != 0) = true := by simpa using h1
              have h2' : (x.k != c.ty) = false := by simpa using h2
              clear h1 h2
              go_wp2_with fail
              go_quiet (fail)
              go_wp2
              go_roundw
              case rel =>
                refine ⟨q + 1, by omega, by go_num, below_drewN hny _, fun p c' x' hp hc' hx' => ?_⟩
                rcases Nat.lt_or_ge p q with h | h
                · exact HA.out p c' x' h hc' hx'
                · rw [show p = q by omega, HX.out] at hx'; rw [show p = q by omega, HCC.out] at hc'; cases hx'; cases hc'; exact .inr HK.out
              case measure => simp [intOf]; omega
            · have HE : Hid (T = 4) := by
                rw [Hid, ← HT.out]
                unfold rowF
                rw [if_neg (by rw [HL.out]; exact fun h => h rfl), HB.out, if_neg (fun h => h rfl), if_neg]
                intro h
                rcases kindsR_at L r h q c x HCC.out HX.out with h' | h'
                · exact h1 h'
                · exact h2 h'
              have h1' : (x.k != 0) = true := by simpa using h1
              have h2' : (x.k != c.ty) = true := by simpa using h2
              clear h1 h2 HA
              go_wp2_with fail
              go_quiet (fail)
              go_wp2
              go_ret
              exact ⟨by rw [HE.out]; rfl, below_drewN qX _⟩
          · obtain rfl : q = j := by omega
            have HE : Hid (T = 0) := by
              rw [Hid, ← HT.out]
              unfold rowF
              rw [if_neg (by rw [HL.out]; exact fun h => h rfl), HB.out, if_neg (fun h => h rfl), if_pos]
              rw [kindsR_iff L r HL.out]
              intro p c x hc hx
              exact HA.out p c x (by have := (List.getElem?_eq_some_iff.1 hx).1; rw [Hn.out] at this; exact this) hc hx
            clear HA HR HC
            go_wp2
            go_ret
            exact ⟨by rw [HE.out]; rfl, qX⟩
  · have hne' : ((n : Int) != (m : Int)) = true := by simp; omega
    have HE : Hid (T = 1) := by
      rw [Hid, ← HT.out]
      unfold rowF
      rw [if_pos (by rw [Hm.out, Hn.out]; exact hne)]
    clear HC HR HS hne
    go_enter Tryz.func10, Tryz.ntmps10
    go_wp2
    go_ret
    exact ⟨by rw [HE.out]; rfl, Below.refl _ _⟩

end Go.Proofs.YtbelnjefnhelhabGreat
