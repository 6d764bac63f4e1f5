/-
  The law ExprTells, of columns, a row and an expression in memory.
-/
import Derived.Test.YtbelnjefnhelhabGreatCol
import Derived.Test.YtbelnjefnhelhabGreatBgn
namespace Go.Proofs.YtbelnjefnhelhabGreat

section
open Go.RowKit

set_option maxRecDepth 100000 in
set_option maxHeartbeats 3200000 in
theorem law_no (cv rv : Value) (k : Int) (v : Vl) (nm : List UInt8) (ao : Option Addr) (n ca : Nat) (w : World) (h4 : ∀ W : World, Calls Tryz.prog 4 #[] W fun e w' => e = .returned (.bool true) ∧ Below W.heap.size W w') (h5 : ∀ W : World, Below w.heap.size w W → Calls Tryz.prog 5 #[cv] W fun e w' => e = .returned (.bool false) ∧ Below W.heap.size W w') :
    Calls Tryz.prog 3 #[cv, rv, exL k v nm (.slice ao n ca)] w fun e w' => e = .returned (.bool true) ∧ Below w.heap.size w w' := by
  have b0 := (Below.refl w.heap.size w).alloc (Nat.le_refl _) (.cells #[.int .i64 k, .int .i64 v.k, .int .i64 v.n, .string ⟨v.s.toArray⟩, .string ⟨nm.toArray⟩, .slice ao n ca] 28)
  have hD : ∀ W' : World, Below (w.alloc (.cells #[.int .i64 k, .int .i64 v.k, .int .i64 v.n, .string ⟨v.s.toArray⟩, .string ⟨nm.toArray⟩, .slice ao n ca] 28)).heap.size (w.alloc (.cells #[.int .i64 k, .int .i64 v.k, .int .i64 v.n, .string ⟨v.s.toArray⟩, .string ⟨nm.toArray⟩, .slice ao n ca] 28)) W' → W'.cell? ⟨w.heap.size, 0, none⟩ = some (.int .i64 k) ∧ W'.cell? ⟨w.heap.size, 1, none⟩ = some (.int .i64 v.k) ∧ W'.cell? ⟨w.heap.size, 2, none⟩ = some (.int .i64 v.n) ∧ W'.cell? ⟨w.heap.size, 3, none⟩ = some (.string ⟨v.s.toArray⟩) ∧ W'.cell? ⟨w.heap.size, 4, none⟩ = some (.string ⟨nm.toArray⟩) ∧ W'.cell? ⟨w.heap.size, 5, none⟩ = some (.slice ao n ca) := fun W' hW =>
    ⟨(hW.cell (p := ⟨w.heap.size, 0, none⟩) (by simp)).trans (by simp), (hW.cell (p := ⟨w.heap.size, 1, none⟩) (by simp)).trans (by simp), (hW.cell (p := ⟨w.heap.size, 2, none⟩) (by simp)).trans (by simp), (hW.cell (p := ⟨w.heap.size, 3, none⟩) (by simp)).trans (by simp), (hW.cell (p := ⟨w.heap.size, 4, none⟩) (by simp)).trans (by simp), (hW.cell (p := ⟨w.heap.size, 5, none⟩) (by simp)).trans (by simp)⟩
  have z0 : (w.alloc (.cells #[.int .i64 k, .int .i64 v.k, .int .i64 v.n, .string ⟨v.s.toArray⟩, .string ⟨nm.toArray⟩, .slice ao n ca] 28)).heap.size = w.heap.size + 1 := by simp
  have HD := hide hD
  clear hD
  go_enter Tryz.func3, Tryz.ntmps3
  go_wp2_with fail
  refine (h4 _).mono ?_
  rintro e w1 ⟨rfl, b1⟩
  have q1 : Below w.heap.size w w1 := b0.trans (b1.mono b0.size)
  clear h4 b1
  go_wp2_with fail
  refine (h5 _ q1).mono ?_
  rintro e w2 ⟨rfl, b2⟩
  have q2 := q1.trans (b2.mono q1.size)
  clear h5 b2 HD
  go_wp2
  go_ret
  exact ⟨rfl, q2⟩

set_option maxRecDepth 100000 in
set_option maxHeartbeats 3200000 in
theorem law_bad (cv rv : Value) (k : Int) (v : Vl) (nm : List UInt8) (ao : Option Addr) (n ca : Nat) (w : World) (K : Int) (F : Nat) (hF : ((F : Int) == 0) = false) (h4 : ∀ W : World, Calls Tryz.prog 4 #[] W fun e w' => e = .returned (.bool true) ∧ Below W.heap.size W w') (h5 : ∀ W : World, Below w.heap.size w W → Calls Tryz.prog 5 #[cv] W fun e w' => e = .returned (.bool true) ∧ Below W.heap.size W w') (h6 : ∀ W : World, Below w.heap.size w W → Calls Tryz.prog 6 #[cv, exL k v nm (.slice ao n ca)] W fun e w' => e = .returned (.tuple #[.int .i64 K, .int .i64 (F : Nat)]) ∧ Below W.heap.size W w') (h7 : ∀ W : World, Below w.heap.size w W → Calls Tryz.prog 7 #[cv, rv, exL k v nm (.slice ao n ca)] W fun e w' => e = .returned (.tuple #[vlV vl0, .int .i64 (F : Nat)]) ∧ Below W.heap.size W w') (h8 : ∀ W : World, Below w.heap.size w W → Calls Tryz.prog 8 #[cv, rv, exL k v nm (.slice ao n ca)] W fun e w' => e = .returned (.tuple #[.bool false, .int .i64 (F : Nat)]) ∧ Below W.heap.size W w') (h9 : ∀ W : World, Below w.heap.size w W → Calls Tryz.prog 9 #[cv, exL k v nm (.slice ao n ca)] W fun e w' => e = .returned (.tuple #[.int .i64 K, .int .i64 (F : Nat)]) ∧ Below W.heap.size W w') :
    Calls Tryz.prog 3 #[cv, rv, exL k v nm (.slice ao n ca)] w fun e w' => e = .returned (.bool true) ∧ Below w.heap.size w w' := by
  have b0 := (Below.refl w.heap.size w).alloc (Nat.le_refl _) (.cells #[.int .i64 k, .int .i64 v.k, .int .i64 v.n, .string ⟨v.s.toArray⟩, .string ⟨nm.toArray⟩, .slice ao n ca] 28)
  have hD : ∀ W' : World, Below (w.alloc (.cells #[.int .i64 k, .int .i64 v.k, .int .i64 v.n, .string ⟨v.s.toArray⟩, .string ⟨nm.toArray⟩, .slice ao n ca] 28)).heap.size (w.alloc (.cells #[.int .i64 k, .int .i64 v.k, .int .i64 v.n, .string ⟨v.s.toArray⟩, .string ⟨nm.toArray⟩, .slice ao n ca] 28)) W' → W'.cell? ⟨w.heap.size, 0, none⟩ = some (.int .i64 k) ∧ W'.cell? ⟨w.heap.size, 1, none⟩ = some (.int .i64 v.k) ∧ W'.cell? ⟨w.heap.size, 2, none⟩ = some (.int .i64 v.n) ∧ W'.cell? ⟨w.heap.size, 3, none⟩ = some (.string ⟨v.s.toArray⟩) ∧ W'.cell? ⟨w.heap.size, 4, none⟩ = some (.string ⟨nm.toArray⟩) ∧ W'.cell? ⟨w.heap.size, 5, none⟩ = some (.slice ao n ca) := fun W' hW =>
    ⟨(hW.cell (p := ⟨w.heap.size, 0, none⟩) (by simp)).trans (by simp), (hW.cell (p := ⟨w.heap.size, 1, none⟩) (by simp)).trans (by simp), (hW.cell (p := ⟨w.heap.size, 2, none⟩) (by simp)).trans (by simp), (hW.cell (p := ⟨w.heap.size, 3, none⟩) (by simp)).trans (by simp), (hW.cell (p := ⟨w.heap.size, 4, none⟩) (by simp)).trans (by simp), (hW.cell (p := ⟨w.heap.size, 5, none⟩) (by simp)).trans (by simp)⟩
  have z0 : (w.alloc (.cells #[.int .i64 k, .int .i64 v.k, .int .i64 v.n, .string ⟨v.s.toArray⟩, .string ⟨nm.toArray⟩, .slice ao n ca] 28)).heap.size = w.heap.size + 1 := by simp
  have HD := hide hD
  clear hD
  unfold vlV at *
  go_enter Tryz.func3, Tryz.ntmps3
  go_wp2_with fail
  refine (h4 _).mono ?_
  rintro e w1 ⟨rfl, b1⟩
  have p1 : Below (w.alloc (.cells #[.int .i64 k, .int .i64 v.k, .int .i64 v.n, .string ⟨v.s.toArray⟩, .string ⟨nm.toArray⟩, .slice ao n ca] 28)).heap.size (w.alloc (.cells #[.int .i64 k, .int .i64 v.k, .int .i64 v.n, .string ⟨v.s.toArray⟩, .string ⟨nm.toArray⟩, .slice ao n ca] 28)) w1 := b1
  clear b1 h4
  obtain ⟨d0, d1, d2, d3, d4, d5⟩ := HD.out _ p1
  go_wp2_with fail
  refine (h5 _ (b0.trans (p1.mono (by omega)))).mono ?_
  rintro e w2 ⟨rfl, b2⟩
  have p2 : Below (w.alloc (.cells #[.int .i64 k, .int .i64 v.k, .int .i64 v.n, .string ⟨v.s.toArray⟩, .string ⟨nm.toArray⟩, .slice ao n ca] 28)).heap.size (w.alloc (.cells #[.int .i64 k, .int .i64 v.k, .int .i64 v.n, .string ⟨v.s.toArray⟩, .string ⟨nm.toArray⟩, .slice ao n ca] 28)) w2 := p1.trans (b2.mono (by have := p1.size; omega))
  clear b2 h5
  clear d0 d1 d2 d3 d4 d5
  obtain ⟨d0, d1, d2, d3, d4, d5⟩ := HD.out _ p2
  go_wp2_with fail
  refine (h6 _ (b0.trans (p2.mono (by omega)))).mono ?_
  rintro e w3 ⟨rfl, b3⟩
  have p3 : Below (w.alloc (.cells #[.int .i64 k, .int .i64 v.k, .int .i64 v.n, .string ⟨v.s.toArray⟩, .string ⟨nm.toArray⟩, .slice ao n ca] 28)).heap.size (w.alloc (.cells #[.int .i64 k, .int .i64 v.k, .int .i64 v.n, .string ⟨v.s.toArray⟩, .string ⟨nm.toArray⟩, .slice ao n ca] 28)) w3 := p2.trans (b3.mono (by have := p2.size; omega))
  clear b3 h6
  clear d0 d1 d2 d3 d4 d5
  obtain ⟨d0, d1, d2, d3, d4, d5⟩ := HD.out _ p3
  go_wp2_with fail
  refine (h7 _ (b0.trans (p3.mono (by omega)))).mono ?_
  rintro e w4 ⟨rfl, b4⟩
  have p4 : Below (w.alloc (.cells #[.int .i64 k, .int .i64 v.k, .int .i64 v.n, .string ⟨v.s.toArray⟩, .string ⟨nm.toArray⟩, .slice ao n ca] 28)).heap.size (w.alloc (.cells #[.int .i64 k, .int .i64 v.k, .int .i64 v.n, .string ⟨v.s.toArray⟩, .string ⟨nm.toArray⟩, .slice ao n ca] 28)) w4 := p3.trans (b4.mono (by have := p3.size; omega))
  clear b4 h7
  obtain ⟨s9, hs9⟩ : ∃ s, w4.heap.size = s := ⟨_, rfl⟩
  have r4a : (w4.alloc (.cells #[.int .i64 vl0.k, .int .i64 vl0.n, .string ⟨vl0.s.toArray⟩] 25)).heap[s9]? = some (.cells #[.int .i64 vl0.k, .int .i64 vl0.n, .string ⟨vl0.s.toArray⟩] 25) := by rw [← hs9]; exact heap_alloc_new _ _
  have zs4a : (w4.alloc (.cells #[.int .i64 vl0.k, .int .i64 vl0.n, .string ⟨vl0.s.toArray⟩] 25)).heap.size = s9 + 1 := by rw [← hs9]; simp
  have p4a : Below (w.alloc (.cells #[.int .i64 k, .int .i64 v.k, .int .i64 v.n, .string ⟨v.s.toArray⟩, .string ⟨nm.toArray⟩, .slice ao n ca] 28)).heap.size (w.alloc (.cells #[.int .i64 k, .int .i64 v.k, .int .i64 v.n, .string ⟨v.s.toArray⟩, .string ⟨nm.toArray⟩, .slice ao n ca] 28)) (w4.alloc (.cells #[.int .i64 vl0.k, .int .i64 vl0.n, .string ⟨vl0.s.toArray⟩] 25)) := p4.alloc p4.size _
  have HS9 := hide hs9
  obtain ⟨d0, d1, d2, d3, d4, d5⟩ := HD.out _ p4a
  clear p4 hs9
  go_wp2_with fail
  rw [HS9.out]
  generalize w4.alloc (.cells #[.int .i64 vl0.k, .int .i64 vl0.n, .string ⟨vl0.s.toArray⟩] 25) = wa at *
  refine (h8 _ (b0.trans (p4a.mono (by omega)))).mono ?_
  rintro e w5 ⟨rfl, b5⟩
  have p5 : Below (w.alloc (.cells #[.int .i64 k, .int .i64 v.k, .int .i64 v.n, .string ⟨v.s.toArray⟩, .string ⟨nm.toArray⟩, .slice ao n ca] 28)).heap.size (w.alloc (.cells #[.int .i64 k, .int .i64 v.k, .int .i64 v.n, .string ⟨v.s.toArray⟩, .string ⟨nm.toArray⟩, .slice ao n ca] 28)) w5 := p4a.trans (b5.mono (by have := p4a.size; omega))
  have r5 := (b5.block s9 (by omega)).trans r4a
  have zs5 : s9 < w5.heap.size := by have := b5.size; omega
  clear b5 h8 r4a zs4a p4a d0 d1 d2 d3 d4 d5
  obtain ⟨d0, d1, d2, d3, d4, d5⟩ := HD.out _ p5
  go_wp2_with fail
  refine (h9 _ (b0.trans (p5.mono (by omega)))).mono ?_
  rintro e w6 ⟨rfl, b6⟩
  have p6 : Below (w.alloc (.cells #[.int .i64 k, .int .i64 v.k, .int .i64 v.n, .string ⟨v.s.toArray⟩, .string ⟨nm.toArray⟩, .slice ao n ca] 28)).heap.size (w.alloc (.cells #[.int .i64 k, .int .i64 v.k, .int .i64 v.n, .string ⟨v.s.toArray⟩, .string ⟨nm.toArray⟩, .slice ao n ca] 28)) w6 := p5.trans (b6.mono (by have := p5.size; omega))
  have r6 := (b6.block s9 (by omega)).trans r5
  have zs6 : s9 < w6.heap.size := by have := b6.size; omega
  clear b6 h9 r5 p5 zs5 d0 d1 d2 d3 d4 d5
  obtain ⟨d0, d1, d2, d3, d4, d5⟩ := HD.out _ p6
  obtain ⟨s17, hs17⟩ : ∃ s, w6.heap.size = s := ⟨_, rfl⟩
  have HS17 := hide hs17
  have hz8 : (w.alloc (.cells #[.int .i64 k, .int .i64 v.k, .int .i64 v.n, .string ⟨v.s.toArray⟩, .string ⟨nm.toArray⟩, .slice ao n ca] 28)).heap.size ≤ s17 := by rw [← hs17]; exact p6.size
  have rb9 := ((Below.refl w6.heap.size w6).alloc (Nat.le_refl _) (.cells #[.int .i64 0, .int .i64 0, .string ⟨#[]⟩] 25)).block s9 zs6 |>.trans r6
  have rb17 : (w6.alloc (.cells #[.int .i64 0, .int .i64 0, .string ⟨#[]⟩] 25)).heap[s17]? = some (.cells #[.int .i64 0, .int .i64 0, .string ⟨#[]⟩] 25) := by rw [← hs17]; exact heap_alloc_new _ _
  have zb : (w6.alloc (.cells #[.int .i64 0, .int .i64 0, .string ⟨#[]⟩] 25)).heap.size = s17 + 1 := by rw [← hs17]; simp
  have zb9 : s9 < s17 := by rw [← hs17]; exact zs6
  have pb : Below (w.alloc (.cells #[.int .i64 k, .int .i64 v.k, .int .i64 v.n, .string ⟨v.s.toArray⟩, .string ⟨nm.toArray⟩, .slice ao n ca] 28)).heap.size (w.alloc (.cells #[.int .i64 k, .int .i64 v.k, .int .i64 v.n, .string ⟨v.s.toArray⟩, .string ⟨nm.toArray⟩, .slice ao n ca] 28)) (w6.alloc (.cells #[.int .i64 0, .int .i64 0, .string ⟨#[]⟩] 25)) := p6.alloc p6.size _
  clear r6 p6 zs6 d0 d1 d2 d3 d4 d5 hs17
  obtain ⟨d0, d1, d2, d3, d4, d5⟩ := HD.out _ pb
  have hq12 := fun (W' : World) => sameV_any vl0 vl0 W'
  rw [show eqV vl0 vl0 = true by decide] at hq12
  simp only [vl0] at hq12
  obtain ⟨⟨a0, a1, a2⟩, -⟩ := three rb9
  obtain ⟨⟨c0, c1, c2⟩, -⟩ := three rb17
  simp only [vl0] at a0 a1 a2
  clear rb9 rb17
  go_wp2_with fail
  rw [HS17.out]
  generalize w6.alloc (.cells #[.int .i64 0, .int .i64 0, .string ⟨#[]⟩] 25) = we at *
  have pd := pb
  refine (hq12 _).mono ?_
  rintro e wf ⟨rfl, bf⟩
  have pf : Below (w.alloc (.cells #[.int .i64 k, .int .i64 v.k, .int .i64 v.n, .string ⟨v.s.toArray⟩, .string ⟨nm.toArray⟩, .slice ao n ca] 28)).heap.size (w.alloc (.cells #[.int .i64 k, .int .i64 v.k, .int .i64 v.n, .string ⟨v.s.toArray⟩, .string ⟨nm.toArray⟩, .slice ao n ca] 28)) wf := pd.trans (bf.mono (by have := pd.size; omega))
  have qf : Below w.heap.size w wf := b0.trans (pf.mono (by omega))
  obtain ⟨u0, u1', u2', u3', u4', u5'⟩ := HD.out _ pf
  clear hq12 bf
  go_wp2
  go_ret
  exact ⟨rfl, qf⟩

set_option maxRecDepth 100000 in
set_option maxHeartbeats 3200000 in
theorem law_row (cv rv : Value) (k : Int) (v : Vl) (nm : List UInt8) (ao : Option Addr) (n ca : Nat) (w : World) (K : Int) (F : Nat) (hF : ((F : Int) == 0) = false) (h4 : ∀ W : World, Calls Tryz.prog 4 #[] W fun e w' => e = .returned (.bool true) ∧ Below W.heap.size W w') (h5 : ∀ W : World, Below w.heap.size w W → Calls Tryz.prog 5 #[cv] W fun e w' => e = .returned (.bool true) ∧ Below W.heap.size W w') (h6 : ∀ W : World, Below w.heap.size w W → Calls Tryz.prog 6 #[cv, exL k v nm (.slice ao n ca)] W fun e w' => e = .returned (.tuple #[.int .i64 K, .int .i64 0]) ∧ Below W.heap.size W w') (h7 : ∀ W : World, Below w.heap.size w W → Calls Tryz.prog 7 #[cv, rv, exL k v nm (.slice ao n ca)] W fun e w' => e = .returned (.tuple #[vlV vl0, .int .i64 (F : Nat)]) ∧ Below W.heap.size W w') (h8 : ∀ W : World, Below w.heap.size w W → Calls Tryz.prog 8 #[cv, rv, exL k v nm (.slice ao n ca)] W fun e w' => e = .returned (.tuple #[.bool false, .int .i64 (F : Nat)]) ∧ Below W.heap.size W w') (h9 : ∀ W : World, Below w.heap.size w W → Calls Tryz.prog 9 #[cv, exL k v nm (.slice ao n ca)] W fun e w' => e = .returned (.tuple #[.int .i64 K, .int .i64 0]) ∧ Below W.heap.size W w') (h10 : ∀ W : World, Below w.heap.size w W → Calls Tryz.prog 10 #[cv, rv] W fun e w' => e = .returned (.int .i64 (F : Nat)) ∧ Below W.heap.size W w') :
    Calls Tryz.prog 3 #[cv, rv, exL k v nm (.slice ao n ca)] w fun e w' => e = .returned (.bool true) ∧ Below w.heap.size w w' := by
  have b0 := (Below.refl w.heap.size w).alloc (Nat.le_refl _) (.cells #[.int .i64 k, .int .i64 v.k, .int .i64 v.n, .string ⟨v.s.toArray⟩, .string ⟨nm.toArray⟩, .slice ao n ca] 28)
  have hD : ∀ W' : World, Below (w.alloc (.cells #[.int .i64 k, .int .i64 v.k, .int .i64 v.n, .string ⟨v.s.toArray⟩, .string ⟨nm.toArray⟩, .slice ao n ca] 28)).heap.size (w.alloc (.cells #[.int .i64 k, .int .i64 v.k, .int .i64 v.n, .string ⟨v.s.toArray⟩, .string ⟨nm.toArray⟩, .slice ao n ca] 28)) W' → W'.cell? ⟨w.heap.size, 0, none⟩ = some (.int .i64 k) ∧ W'.cell? ⟨w.heap.size, 1, none⟩ = some (.int .i64 v.k) ∧ W'.cell? ⟨w.heap.size, 2, none⟩ = some (.int .i64 v.n) ∧ W'.cell? ⟨w.heap.size, 3, none⟩ = some (.string ⟨v.s.toArray⟩) ∧ W'.cell? ⟨w.heap.size, 4, none⟩ = some (.string ⟨nm.toArray⟩) ∧ W'.cell? ⟨w.heap.size, 5, none⟩ = some (.slice ao n ca) := fun W' hW =>
    ⟨(hW.cell (p := ⟨w.heap.size, 0, none⟩) (by simp)).trans (by simp), (hW.cell (p := ⟨w.heap.size, 1, none⟩) (by simp)).trans (by simp), (hW.cell (p := ⟨w.heap.size, 2, none⟩) (by simp)).trans (by simp), (hW.cell (p := ⟨w.heap.size, 3, none⟩) (by simp)).trans (by simp), (hW.cell (p := ⟨w.heap.size, 4, none⟩) (by simp)).trans (by simp), (hW.cell (p := ⟨w.heap.size, 5, none⟩) (by simp)).trans (by simp)⟩
  have z0 : (w.alloc (.cells #[.int .i64 k, .int .i64 v.k, .int .i64 v.n, .string ⟨v.s.toArray⟩, .string ⟨nm.toArray⟩, .slice ao n ca] 28)).heap.size = w.heap.size + 1 := by simp
  have HD := hide hD
  clear hD
  unfold vlV at *
  go_enter Tryz.func3, Tryz.ntmps3
  go_wp2_with fail
  refine (h4 _).mono ?_
  rintro e w1 ⟨rfl, b1⟩
  have p1 : Below (w.alloc (.cells #[.int .i64 k, .int .i64 v.k, .int .i64 v.n, .string ⟨v.s.toArray⟩, .string ⟨nm.toArray⟩, .slice ao n ca] 28)).heap.size (w.alloc (.cells #[.int .i64 k, .int .i64 v.k, .int .i64 v.n, .string ⟨v.s.toArray⟩, .string ⟨nm.toArray⟩, .slice ao n ca] 28)) w1 := b1
  clear b1 h4
  obtain ⟨d0, d1, d2, d3, d4, d5⟩ := HD.out _ p1
  go_wp2_with fail
  refine (h5 _ (b0.trans (p1.mono (by omega)))).mono ?_
  rintro e w2 ⟨rfl, b2⟩
  have p2 : Below (w.alloc (.cells #[.int .i64 k, .int .i64 v.k, .int .i64 v.n, .string ⟨v.s.toArray⟩, .string ⟨nm.toArray⟩, .slice ao n ca] 28)).heap.size (w.alloc (.cells #[.int .i64 k, .int .i64 v.k, .int .i64 v.n, .string ⟨v.s.toArray⟩, .string ⟨nm.toArray⟩, .slice ao n ca] 28)) w2 := p1.trans (b2.mono (by have := p1.size; omega))
  clear b2 h5
  clear d0 d1 d2 d3 d4 d5
  obtain ⟨d0, d1, d2, d3, d4, d5⟩ := HD.out _ p2
  go_wp2_with fail
  refine (h6 _ (b0.trans (p2.mono (by omega)))).mono ?_
  rintro e w3 ⟨rfl, b3⟩
  have p3 : Below (w.alloc (.cells #[.int .i64 k, .int .i64 v.k, .int .i64 v.n, .string ⟨v.s.toArray⟩, .string ⟨nm.toArray⟩, .slice ao n ca] 28)).heap.size (w.alloc (.cells #[.int .i64 k, .int .i64 v.k, .int .i64 v.n, .string ⟨v.s.toArray⟩, .string ⟨nm.toArray⟩, .slice ao n ca] 28)) w3 := p2.trans (b3.mono (by have := p2.size; omega))
  clear b3 h6
  clear d0 d1 d2 d3 d4 d5
  obtain ⟨d0, d1, d2, d3, d4, d5⟩ := HD.out _ p3
  go_wp2_with fail
  refine (h7 _ (b0.trans (p3.mono (by omega)))).mono ?_
  rintro e w4 ⟨rfl, b4⟩
  have p4 : Below (w.alloc (.cells #[.int .i64 k, .int .i64 v.k, .int .i64 v.n, .string ⟨v.s.toArray⟩, .string ⟨nm.toArray⟩, .slice ao n ca] 28)).heap.size (w.alloc (.cells #[.int .i64 k, .int .i64 v.k, .int .i64 v.n, .string ⟨v.s.toArray⟩, .string ⟨nm.toArray⟩, .slice ao n ca] 28)) w4 := p3.trans (b4.mono (by have := p3.size; omega))
  clear b4 h7
  obtain ⟨s9, hs9⟩ : ∃ s, w4.heap.size = s := ⟨_, rfl⟩
  have r4a : (w4.alloc (.cells #[.int .i64 vl0.k, .int .i64 vl0.n, .string ⟨vl0.s.toArray⟩] 25)).heap[s9]? = some (.cells #[.int .i64 vl0.k, .int .i64 vl0.n, .string ⟨vl0.s.toArray⟩] 25) := by rw [← hs9]; exact heap_alloc_new _ _
  have zs4a : (w4.alloc (.cells #[.int .i64 vl0.k, .int .i64 vl0.n, .string ⟨vl0.s.toArray⟩] 25)).heap.size = s9 + 1 := by rw [← hs9]; simp
  have p4a : Below (w.alloc (.cells #[.int .i64 k, .int .i64 v.k, .int .i64 v.n, .string ⟨v.s.toArray⟩, .string ⟨nm.toArray⟩, .slice ao n ca] 28)).heap.size (w.alloc (.cells #[.int .i64 k, .int .i64 v.k, .int .i64 v.n, .string ⟨v.s.toArray⟩, .string ⟨nm.toArray⟩, .slice ao n ca] 28)) (w4.alloc (.cells #[.int .i64 vl0.k, .int .i64 vl0.n, .string ⟨vl0.s.toArray⟩] 25)) := p4.alloc p4.size _
  have HS9 := hide hs9
  obtain ⟨d0, d1, d2, d3, d4, d5⟩ := HD.out _ p4a
  clear p4 hs9
  go_wp2_with fail
  rw [HS9.out]
  generalize w4.alloc (.cells #[.int .i64 vl0.k, .int .i64 vl0.n, .string ⟨vl0.s.toArray⟩] 25) = wa at *
  refine (h8 _ (b0.trans (p4a.mono (by omega)))).mono ?_
  rintro e w5 ⟨rfl, b5⟩
  have p5 : Below (w.alloc (.cells #[.int .i64 k, .int .i64 v.k, .int .i64 v.n, .string ⟨v.s.toArray⟩, .string ⟨nm.toArray⟩, .slice ao n ca] 28)).heap.size (w.alloc (.cells #[.int .i64 k, .int .i64 v.k, .int .i64 v.n, .string ⟨v.s.toArray⟩, .string ⟨nm.toArray⟩, .slice ao n ca] 28)) w5 := p4a.trans (b5.mono (by have := p4a.size; omega))
  have r5 := (b5.block s9 (by omega)).trans r4a
  have zs5 : s9 < w5.heap.size := by have := b5.size; omega
  clear b5 h8 r4a zs4a p4a d0 d1 d2 d3 d4 d5
  obtain ⟨d0, d1, d2, d3, d4, d5⟩ := HD.out _ p5
  go_wp2_with fail
  refine (h9 _ (b0.trans (p5.mono (by omega)))).mono ?_
  rintro e w6 ⟨rfl, b6⟩
  have p6 : Below (w.alloc (.cells #[.int .i64 k, .int .i64 v.k, .int .i64 v.n, .string ⟨v.s.toArray⟩, .string ⟨nm.toArray⟩, .slice ao n ca] 28)).heap.size (w.alloc (.cells #[.int .i64 k, .int .i64 v.k, .int .i64 v.n, .string ⟨v.s.toArray⟩, .string ⟨nm.toArray⟩, .slice ao n ca] 28)) w6 := p5.trans (b6.mono (by have := p5.size; omega))
  have r6 := (b6.block s9 (by omega)).trans r5
  have zs6 : s9 < w6.heap.size := by have := b6.size; omega
  clear b6 h9 r5 p5 zs5 d0 d1 d2 d3 d4 d5
  obtain ⟨d0, d1, d2, d3, d4, d5⟩ := HD.out _ p6
  go_wp2_with fail
  refine (h10 _ (b0.trans (p6.mono (by omega)))).mono ?_
  rintro e w7 ⟨rfl, b7⟩
  have p7 : Below (w.alloc (.cells #[.int .i64 k, .int .i64 v.k, .int .i64 v.n, .string ⟨v.s.toArray⟩, .string ⟨nm.toArray⟩, .slice ao n ca] 28)).heap.size (w.alloc (.cells #[.int .i64 k, .int .i64 v.k, .int .i64 v.n, .string ⟨v.s.toArray⟩, .string ⟨nm.toArray⟩, .slice ao n ca] 28)) w7 := p6.trans (b7.mono (by have := p6.size; omega))
  have r7 := (b7.block s9 (by omega)).trans r6
  have zs7 : s9 < w7.heap.size := by have := b7.size; omega
  clear b7 h10 r6 p6 zs6 d0 d1 d2 d3 d4 d5
  obtain ⟨d0, d1, d2, d3, d4, d5⟩ := HD.out _ p7
  obtain ⟨s17, hs17⟩ : ∃ s, w7.heap.size = s := ⟨_, rfl⟩
  have HS17 := hide hs17
  have hz8 : (w.alloc (.cells #[.int .i64 k, .int .i64 v.k, .int .i64 v.n, .string ⟨v.s.toArray⟩, .string ⟨nm.toArray⟩, .slice ao n ca] 28)).heap.size ≤ s17 := by rw [← hs17]; exact p7.size
  have rb9 := ((Below.refl w7.heap.size w7).alloc (Nat.le_refl _) (.cells #[.int .i64 0, .int .i64 0, .string ⟨#[]⟩] 25)).block s9 zs7 |>.trans r7
  have rb17 : (w7.alloc (.cells #[.int .i64 0, .int .i64 0, .string ⟨#[]⟩] 25)).heap[s17]? = some (.cells #[.int .i64 0, .int .i64 0, .string ⟨#[]⟩] 25) := by rw [← hs17]; exact heap_alloc_new _ _
  have zb : (w7.alloc (.cells #[.int .i64 0, .int .i64 0, .string ⟨#[]⟩] 25)).heap.size = s17 + 1 := by rw [← hs17]; simp
  have zb9 : s9 < s17 := by rw [← hs17]; exact zs7
  have pb : Below (w.alloc (.cells #[.int .i64 k, .int .i64 v.k, .int .i64 v.n, .string ⟨v.s.toArray⟩, .string ⟨nm.toArray⟩, .slice ao n ca] 28)).heap.size (w.alloc (.cells #[.int .i64 k, .int .i64 v.k, .int .i64 v.n, .string ⟨v.s.toArray⟩, .string ⟨nm.toArray⟩, .slice ao n ca] 28)) (w7.alloc (.cells #[.int .i64 0, .int .i64 0, .string ⟨#[]⟩] 25)) := p7.alloc p7.size _
  clear r7 p7 zs7 d0 d1 d2 d3 d4 d5 hs17
  obtain ⟨d0, d1, d2, d3, d4, d5⟩ := HD.out _ pb
  have hq12 := fun (W' : World) => sameV_any vl0 vl0 W'
  rw [show eqV vl0 vl0 = true by decide] at hq12
  simp only [vl0] at hq12
  obtain ⟨⟨a0, a1, a2⟩, -⟩ := three rb9
  obtain ⟨⟨c0, c1, c2⟩, -⟩ := three rb17
  simp only [vl0] at a0 a1 a2
  clear rb9 rb17
  go_wp2_with fail
  rw [HS17.out]
  generalize w7.alloc (.cells #[.int .i64 0, .int .i64 0, .string ⟨#[]⟩] 25) = we at *
  have pd := pb
  refine (hq12 _).mono ?_
  rintro e wf ⟨rfl, bf⟩
  have pf : Below (w.alloc (.cells #[.int .i64 k, .int .i64 v.k, .int .i64 v.n, .string ⟨v.s.toArray⟩, .string ⟨nm.toArray⟩, .slice ao n ca] 28)).heap.size (w.alloc (.cells #[.int .i64 k, .int .i64 v.k, .int .i64 v.n, .string ⟨v.s.toArray⟩, .string ⟨nm.toArray⟩, .slice ao n ca] 28)) wf := pd.trans (bf.mono (by have := pd.size; omega))
  have qf : Below w.heap.size w wf := b0.trans (pf.mono (by omega))
  obtain ⟨u0, u1', u2', u3', u4', u5'⟩ := HD.out _ pf
  clear hq12 bf
  go_wp2
  go_ret
  exact ⟨rfl, qf⟩

set_option maxRecDepth 100000 in
set_option maxHeartbeats 3200000 in
theorem law_st (cv rv : Value) (k : Int) (v : Vl) (nm : List UInt8) (ao : Option Addr) (n ca : Nat) (w : World) (K : Int) (V : Vl) (k0 : (K != 0) = true) (k3 : (K != 3) = true) (h4 : ∀ W : World, Calls Tryz.prog 4 #[] W fun e w' => e = .returned (.bool true) ∧ Below W.heap.size W w') (h5 : ∀ W : World, Below w.heap.size w W → Calls Tryz.prog 5 #[cv] W fun e w' => e = .returned (.bool true) ∧ Below W.heap.size W w') (h6 : ∀ W : World, Below w.heap.size w W → Calls Tryz.prog 6 #[cv, exL k v nm (.slice ao n ca)] W fun e w' => e = .returned (.tuple #[.int .i64 K, .int .i64 0]) ∧ Below W.heap.size W w') (h7 : ∀ W : World, Below w.heap.size w W → Calls Tryz.prog 7 #[cv, rv, exL k v nm (.slice ao n ca)] W fun e w' => e = .returned (.tuple #[vlV V, .int .i64 0]) ∧ Below W.heap.size W w') (h8 : ∀ W : World, Below w.heap.size w W → Calls Tryz.prog 8 #[cv, rv, exL k v nm (.slice ao n ca)] W fun e w' => e = .returned (.tuple #[.bool false, .int .i64 4]) ∧ Below W.heap.size W w') (h9 : ∀ W : World, Below w.heap.size w W → Calls Tryz.prog 9 #[cv, exL k v nm (.slice ao n ca)] W fun e w' => e = .returned (.tuple #[.int .i64 K, .int .i64 0]) ∧ Below W.heap.size W w') (h10 : ∀ W : World, Below w.heap.size w W → Calls Tryz.prog 10 #[cv, rv] W fun e w' => e = .returned (.int .i64 0) ∧ Below W.heap.size W w') (h11 : ∀ W : World, Below w.heap.size w W → Calls Tryz.prog 11 #[cv, rv, exL k v nm (.slice ao n ca)] W fun e w' => e = .returned (vlV V) ∧ Below W.heap.size W w') :
    Calls Tryz.prog 3 #[cv, rv, exL k v nm (.slice ao n ca)] w fun e w' => e = .returned (.bool true) ∧ Below w.heap.size w w' := by
  have b0 := (Below.refl w.heap.size w).alloc (Nat.le_refl _) (.cells #[.int .i64 k, .int .i64 v.k, .int .i64 v.n, .string ⟨v.s.toArray⟩, .string ⟨nm.toArray⟩, .slice ao n ca] 28)
  have hD : ∀ W' : World, Below (w.alloc (.cells #[.int .i64 k, .int .i64 v.k, .int .i64 v.n, .string ⟨v.s.toArray⟩, .string ⟨nm.toArray⟩, .slice ao n ca] 28)).heap.size (w.alloc (.cells #[.int .i64 k, .int .i64 v.k, .int .i64 v.n, .string ⟨v.s.toArray⟩, .string ⟨nm.toArray⟩, .slice ao n ca] 28)) W' → W'.cell? ⟨w.heap.size, 0, none⟩ = some (.int .i64 k) ∧ W'.cell? ⟨w.heap.size, 1, none⟩ = some (.int .i64 v.k) ∧ W'.cell? ⟨w.heap.size, 2, none⟩ = some (.int .i64 v.n) ∧ W'.cell? ⟨w.heap.size, 3, none⟩ = some (.string ⟨v.s.toArray⟩) ∧ W'.cell? ⟨w.heap.size, 4, none⟩ = some (.string ⟨nm.toArray⟩) ∧ W'.cell? ⟨w.heap.size, 5, none⟩ = some (.slice ao n ca) := fun W' hW =>
    ⟨(hW.cell (p := ⟨w.heap.size, 0, none⟩) (by simp)).trans (by simp), (hW.cell (p := ⟨w.heap.size, 1, none⟩) (by simp)).trans (by simp), (hW.cell (p := ⟨w.heap.size, 2, none⟩) (by simp)).trans (by simp), (hW.cell (p := ⟨w.heap.size, 3, none⟩) (by simp)).trans (by simp), (hW.cell (p := ⟨w.heap.size, 4, none⟩) (by simp)).trans (by simp), (hW.cell (p := ⟨w.heap.size, 5, none⟩) (by simp)).trans (by simp)⟩
  have z0 : (w.alloc (.cells #[.int .i64 k, .int .i64 v.k, .int .i64 v.n, .string ⟨v.s.toArray⟩, .string ⟨nm.toArray⟩, .slice ao n ca] 28)).heap.size = w.heap.size + 1 := by simp
  have HD := hide hD
  clear hD
  unfold vlV at *
  go_enter Tryz.func3, Tryz.ntmps3
  go_wp2_with fail
  refine (h4 _).mono ?_
  rintro e w1 ⟨rfl, b1⟩
  have p1 : Below (w.alloc (.cells #[.int .i64 k, .int .i64 v.k, .int .i64 v.n, .string ⟨v.s.toArray⟩, .string ⟨nm.toArray⟩, .slice ao n ca] 28)).heap.size (w.alloc (.cells #[.int .i64 k, .int .i64 v.k, .int .i64 v.n, .string ⟨v.s.toArray⟩, .string ⟨nm.toArray⟩, .slice ao n ca] 28)) w1 := b1
  clear b1 h4
  obtain ⟨d0, d1, d2, d3, d4, d5⟩ := HD.out _ p1
  go_wp2_with fail
  refine (h5 _ (b0.trans (p1.mono (by omega)))).mono ?_
  rintro e w2 ⟨rfl, b2⟩
  have p2 : Below (w.alloc (.cells #[.int .i64 k, .int .i64 v.k, .int .i64 v.n, .string ⟨v.s.toArray⟩, .string ⟨nm.toArray⟩, .slice ao n ca] 28)).heap.size (w.alloc (.cells #[.int .i64 k, .int .i64 v.k, .int .i64 v.n, .string ⟨v.s.toArray⟩, .string ⟨nm.toArray⟩, .slice ao n ca] 28)) w2 := p1.trans (b2.mono (by have := p1.size; omega))
  clear b2 h5
  clear d0 d1 d2 d3 d4 d5
  obtain ⟨d0, d1, d2, d3, d4, d5⟩ := HD.out _ p2
  go_wp2_with fail
  refine (h6 _ (b0.trans (p2.mono (by omega)))).mono ?_
  rintro e w3 ⟨rfl, b3⟩
  have p3 : Below (w.alloc (.cells #[.int .i64 k, .int .i64 v.k, .int .i64 v.n, .string ⟨v.s.toArray⟩, .string ⟨nm.toArray⟩, .slice ao n ca] 28)).heap.size (w.alloc (.cells #[.int .i64 k, .int .i64 v.k, .int .i64 v.n, .string ⟨v.s.toArray⟩, .string ⟨nm.toArray⟩, .slice ao n ca] 28)) w3 := p2.trans (b3.mono (by have := p2.size; omega))
  clear b3 h6
  clear d0 d1 d2 d3 d4 d5
  obtain ⟨d0, d1, d2, d3, d4, d5⟩ := HD.out _ p3
  go_wp2_with fail
  refine (h7 _ (b0.trans (p3.mono (by omega)))).mono ?_
  rintro e w4 ⟨rfl, b4⟩
  have p4 : Below (w.alloc (.cells #[.int .i64 k, .int .i64 v.k, .int .i64 v.n, .string ⟨v.s.toArray⟩, .string ⟨nm.toArray⟩, .slice ao n ca] 28)).heap.size (w.alloc (.cells #[.int .i64 k, .int .i64 v.k, .int .i64 v.n, .string ⟨v.s.toArray⟩, .string ⟨nm.toArray⟩, .slice ao n ca] 28)) w4 := p3.trans (b4.mono (by have := p3.size; omega))
  clear b4 h7
  obtain ⟨s9, hs9⟩ : ∃ s, w4.heap.size = s := ⟨_, rfl⟩
  have r4a : (w4.alloc (.cells #[.int .i64 V.k, .int .i64 V.n, .string ⟨V.s.toArray⟩] 25)).heap[s9]? = some (.cells #[.int .i64 V.k, .int .i64 V.n, .string ⟨V.s.toArray⟩] 25) := by rw [← hs9]; exact heap_alloc_new _ _
  have zs4a : (w4.alloc (.cells #[.int .i64 V.k, .int .i64 V.n, .string ⟨V.s.toArray⟩] 25)).heap.size = s9 + 1 := by rw [← hs9]; simp
  have p4a : Below (w.alloc (.cells #[.int .i64 k, .int .i64 v.k, .int .i64 v.n, .string ⟨v.s.toArray⟩, .string ⟨nm.toArray⟩, .slice ao n ca] 28)).heap.size (w.alloc (.cells #[.int .i64 k, .int .i64 v.k, .int .i64 v.n, .string ⟨v.s.toArray⟩, .string ⟨nm.toArray⟩, .slice ao n ca] 28)) (w4.alloc (.cells #[.int .i64 V.k, .int .i64 V.n, .string ⟨V.s.toArray⟩] 25)) := p4.alloc p4.size _
  have HS9 := hide hs9
  obtain ⟨d0, d1, d2, d3, d4, d5⟩ := HD.out _ p4a
  clear p4 hs9
  go_wp2_with fail
  rw [HS9.out]
  generalize w4.alloc (.cells #[.int .i64 V.k, .int .i64 V.n, .string ⟨V.s.toArray⟩] 25) = wa at *
  refine (h8 _ (b0.trans (p4a.mono (by omega)))).mono ?_
  rintro e w5 ⟨rfl, b5⟩
  have p5 : Below (w.alloc (.cells #[.int .i64 k, .int .i64 v.k, .int .i64 v.n, .string ⟨v.s.toArray⟩, .string ⟨nm.toArray⟩, .slice ao n ca] 28)).heap.size (w.alloc (.cells #[.int .i64 k, .int .i64 v.k, .int .i64 v.n, .string ⟨v.s.toArray⟩, .string ⟨nm.toArray⟩, .slice ao n ca] 28)) w5 := p4a.trans (b5.mono (by have := p4a.size; omega))
  have r5 := (b5.block s9 (by omega)).trans r4a
  have zs5 : s9 < w5.heap.size := by have := b5.size; omega
  clear b5 h8 r4a zs4a p4a d0 d1 d2 d3 d4 d5
  obtain ⟨d0, d1, d2, d3, d4, d5⟩ := HD.out _ p5
  go_wp2_with fail
  refine (h9 _ (b0.trans (p5.mono (by omega)))).mono ?_
  rintro e w6 ⟨rfl, b6⟩
  have p6 : Below (w.alloc (.cells #[.int .i64 k, .int .i64 v.k, .int .i64 v.n, .string ⟨v.s.toArray⟩, .string ⟨nm.toArray⟩, .slice ao n ca] 28)).heap.size (w.alloc (.cells #[.int .i64 k, .int .i64 v.k, .int .i64 v.n, .string ⟨v.s.toArray⟩, .string ⟨nm.toArray⟩, .slice ao n ca] 28)) w6 := p5.trans (b6.mono (by have := p5.size; omega))
  have r6 := (b6.block s9 (by omega)).trans r5
  have zs6 : s9 < w6.heap.size := by have := b6.size; omega
  clear b6 h9 r5 p5 zs5 d0 d1 d2 d3 d4 d5
  obtain ⟨d0, d1, d2, d3, d4, d5⟩ := HD.out _ p6
  go_wp2_with fail
  refine (h10 _ (b0.trans (p6.mono (by omega)))).mono ?_
  rintro e w7 ⟨rfl, b7⟩
  have p7 : Below (w.alloc (.cells #[.int .i64 k, .int .i64 v.k, .int .i64 v.n, .string ⟨v.s.toArray⟩, .string ⟨nm.toArray⟩, .slice ao n ca] 28)).heap.size (w.alloc (.cells #[.int .i64 k, .int .i64 v.k, .int .i64 v.n, .string ⟨v.s.toArray⟩, .string ⟨nm.toArray⟩, .slice ao n ca] 28)) w7 := p6.trans (b7.mono (by have := p6.size; omega))
  have r7 := (b7.block s9 (by omega)).trans r6
  have zs7 : s9 < w7.heap.size := by have := b7.size; omega
  clear b7 h10 r6 p6 zs6 d0 d1 d2 d3 d4 d5
  obtain ⟨d0, d1, d2, d3, d4, d5⟩ := HD.out _ p7
  obtain ⟨s17, hs17⟩ : ∃ s, w7.heap.size = s := ⟨_, rfl⟩
  have HS17 := hide hs17
  have hz8 : (w.alloc (.cells #[.int .i64 k, .int .i64 v.k, .int .i64 v.n, .string ⟨v.s.toArray⟩, .string ⟨nm.toArray⟩, .slice ao n ca] 28)).heap.size ≤ s17 := by rw [← hs17]; exact p7.size
  have rb9 := ((Below.refl w7.heap.size w7).alloc (Nat.le_refl _) (.cells #[.int .i64 0, .int .i64 0, .string ⟨#[]⟩] 25)).block s9 zs7 |>.trans r7
  have rb17 : (w7.alloc (.cells #[.int .i64 0, .int .i64 0, .string ⟨#[]⟩] 25)).heap[s17]? = some (.cells #[.int .i64 0, .int .i64 0, .string ⟨#[]⟩] 25) := by rw [← hs17]; exact heap_alloc_new _ _
  have zb : (w7.alloc (.cells #[.int .i64 0, .int .i64 0, .string ⟨#[]⟩] 25)).heap.size = s17 + 1 := by rw [← hs17]; simp
  have zb9 : s9 < s17 := by rw [← hs17]; exact zs7
  have pb : Below (w.alloc (.cells #[.int .i64 k, .int .i64 v.k, .int .i64 v.n, .string ⟨v.s.toArray⟩, .string ⟨nm.toArray⟩, .slice ao n ca] 28)).heap.size (w.alloc (.cells #[.int .i64 k, .int .i64 v.k, .int .i64 v.n, .string ⟨v.s.toArray⟩, .string ⟨nm.toArray⟩, .slice ao n ca] 28)) (w7.alloc (.cells #[.int .i64 0, .int .i64 0, .string ⟨#[]⟩] 25)) := p7.alloc p7.size _
  clear r7 p7 zs7 d0 d1 d2 d3 d4 d5 hs17
  obtain ⟨d0, d1, d2, d3, d4, d5⟩ := HD.out _ pb
  go_wp2_with fail
  rw [HS17.out]
  generalize w7.alloc (.cells #[.int .i64 0, .int .i64 0, .string ⟨#[]⟩] 25) = wb at *
  refine (h11 _ (b0.trans (pb.mono (by omega)))).mono ?_
  rintro e wc ⟨rfl, bc⟩
  have pc : Below (w.alloc (.cells #[.int .i64 k, .int .i64 v.k, .int .i64 v.n, .string ⟨v.s.toArray⟩, .string ⟨nm.toArray⟩, .slice ao n ca] 28)).heap.size (w.alloc (.cells #[.int .i64 k, .int .i64 v.k, .int .i64 v.n, .string ⟨v.s.toArray⟩, .string ⟨nm.toArray⟩, .slice ao n ca] 28)) wc := pb.trans (bc.mono (by have := pb.size; omega))
  have rc9 := (bc.block s9 (by omega)).trans rb9
  have rc17 := (bc.block s17 (by omega)).trans rb17
  have zc : s17 + 1 ≤ wc.heap.size := by have := bc.size; omega
  clear bc h11 rb9 rb17 pb zb d0 d1 d2 d3 d4 d5
  obtain ⟨⟨g0, g1, g2⟩, f0, f1, f2⟩ := three rc17
  have rd17 := three_set rc17 (.int .i64 V.k) (.int .i64 V.n) (.string ⟨V.s.toArray⟩)
  have bd : Below s17 wc (((wc.setCell ⟨s17, 0, none⟩ (.int .i64 V.k)).setCell ⟨s17, 1, none⟩ (.int .i64 V.n)).setCell ⟨s17, 2, none⟩ (.string ⟨V.s.toArray⟩)) := (((Below.refl s17 wc).setCell (p := ⟨s17, 0, none⟩) (Nat.le_refl s17) _).setCell (p := ⟨s17, 1, none⟩) (Nat.le_refl s17) _).setCell (p := ⟨s17, 2, none⟩) (Nat.le_refl s17) _
  have zd : (((wc.setCell ⟨s17, 0, none⟩ (.int .i64 V.k)).setCell ⟨s17, 1, none⟩ (.int .i64 V.n)).setCell ⟨s17, 2, none⟩ (.string ⟨V.s.toArray⟩)).heap.size = wc.heap.size := by simp
  have pd : Below (w.alloc (.cells #[.int .i64 k, .int .i64 v.k, .int .i64 v.n, .string ⟨v.s.toArray⟩, .string ⟨nm.toArray⟩, .slice ao n ca] 28)).heap.size (w.alloc (.cells #[.int .i64 k, .int .i64 v.k, .int .i64 v.n, .string ⟨v.s.toArray⟩, .string ⟨nm.toArray⟩, .slice ao n ca] 28)) (((wc.setCell ⟨s17, 0, none⟩ (.int .i64 V.k)).setCell ⟨s17, 1, none⟩ (.int .i64 V.n)).setCell ⟨s17, 2, none⟩ (.string ⟨V.s.toArray⟩)) := pc.trans (bd.mono hz8)
  have rd9 := (bd.block s9 zb9).trans rc9
  obtain ⟨e0, e1, e2, e3, e4, e5⟩ := HD.out _ pd
  have hq12 := fun (W' : World) => sameV_any V V W'
  rw [show eqV V V = true by simp [eqV]] at hq12
  obtain ⟨⟨a0, a1, a2⟩, -⟩ := three rd9
  obtain ⟨⟨c0, c1, c2⟩, -⟩ := three rd17
  clear rc9 rc17 bd pc rd9 rd17
  go_wp2_with fail
  generalize (((wc.setCell ⟨s17, 0, none⟩ (.int .i64 V.k)).setCell ⟨s17, 1, none⟩ (.int .i64 V.n)).setCell ⟨s17, 2, none⟩ (.string ⟨V.s.toArray⟩)) = we at *
  refine (hq12 _).mono ?_
  rintro e wf ⟨rfl, bf⟩
  have pf : Below (w.alloc (.cells #[.int .i64 k, .int .i64 v.k, .int .i64 v.n, .string ⟨v.s.toArray⟩, .string ⟨nm.toArray⟩, .slice ao n ca] 28)).heap.size (w.alloc (.cells #[.int .i64 k, .int .i64 v.k, .int .i64 v.n, .string ⟨v.s.toArray⟩, .string ⟨nm.toArray⟩, .slice ao n ca] 28)) wf := pd.trans (bf.mono (by have := pd.size; omega))
  have qf : Below w.heap.size w wf := b0.trans (pf.mono (by omega))
  obtain ⟨u0, u1', u2', u3', u4', u5'⟩ := HD.out _ pf
  clear hq12 bf
  go_wp2
  go_ret
  exact ⟨rfl, qf⟩

set_option maxRecDepth 100000 in
set_option maxHeartbeats 3200000 in
theorem law_ok0 (cv rv : Value) (k : Int) (v : Vl) (nm : List UInt8) (ao : Option Addr) (n ca : Nat) (w : World) (K : Int) (V : Vl) (D : Bool) (k0 : (K != 0) = false) (h4 : ∀ W : World, Calls Tryz.prog 4 #[] W fun e w' => e = .returned (.bool true) ∧ Below W.heap.size W w') (h5 : ∀ W : World, Below w.heap.size w W → Calls Tryz.prog 5 #[cv] W fun e w' => e = .returned (.bool true) ∧ Below W.heap.size W w') (h6 : ∀ W : World, Below w.heap.size w W → Calls Tryz.prog 6 #[cv, exL k v nm (.slice ao n ca)] W fun e w' => e = .returned (.tuple #[.int .i64 K, .int .i64 0]) ∧ Below W.heap.size W w') (h7 : ∀ W : World, Below w.heap.size w W → Calls Tryz.prog 7 #[cv, rv, exL k v nm (.slice ao n ca)] W fun e w' => e = .returned (.tuple #[vlV V, .int .i64 0]) ∧ Below W.heap.size W w') (h8 : ∀ W : World, Below w.heap.size w W → Calls Tryz.prog 8 #[cv, rv, exL k v nm (.slice ao n ca)] W fun e w' => e = .returned (.tuple #[.bool D, .int .i64 0]) ∧ Below W.heap.size W w') (h9 : ∀ W : World, Below w.heap.size w W → Calls Tryz.prog 9 #[cv, exL k v nm (.slice ao n ca)] W fun e w' => e = .returned (.tuple #[.int .i64 K, .int .i64 0]) ∧ Below W.heap.size W w') (h10 : ∀ W : World, Below w.heap.size w W → Calls Tryz.prog 10 #[cv, rv] W fun e w' => e = .returned (.int .i64 0) ∧ Below W.heap.size W w') (h11 : ∀ W : World, Below w.heap.size w W → Calls Tryz.prog 11 #[cv, rv, exL k v nm (.slice ao n ca)] W fun e w' => e = .returned (vlV V) ∧ Below W.heap.size W w') (h13 : ∀ W : World, Below w.heap.size w W → Calls Tryz.prog 13 #[cv, rv, exL k v nm (.slice ao n ca)] W fun e w' => e = .returned (.bool D) ∧ Below W.heap.size W w') :
    Calls Tryz.prog 3 #[cv, rv, exL k v nm (.slice ao n ca)] w fun e w' => e = .returned (.bool true) ∧ Below w.heap.size w w' := by
  have b0 := (Below.refl w.heap.size w).alloc (Nat.le_refl _) (.cells #[.int .i64 k, .int .i64 v.k, .int .i64 v.n, .string ⟨v.s.toArray⟩, .string ⟨nm.toArray⟩, .slice ao n ca] 28)
  have hD : ∀ W' : World, Below (w.alloc (.cells #[.int .i64 k, .int .i64 v.k, .int .i64 v.n, .string ⟨v.s.toArray⟩, .string ⟨nm.toArray⟩, .slice ao n ca] 28)).heap.size (w.alloc (.cells #[.int .i64 k, .int .i64 v.k, .int .i64 v.n, .string ⟨v.s.toArray⟩, .string ⟨nm.toArray⟩, .slice ao n ca] 28)) W' → W'.cell? ⟨w.heap.size, 0, none⟩ = some (.int .i64 k) ∧ W'.cell? ⟨w.heap.size, 1, none⟩ = some (.int .i64 v.k) ∧ W'.cell? ⟨w.heap.size, 2, none⟩ = some (.int .i64 v.n) ∧ W'.cell? ⟨w.heap.size, 3, none⟩ = some (.string ⟨v.s.toArray⟩) ∧ W'.cell? ⟨w.heap.size, 4, none⟩ = some (.string ⟨nm.toArray⟩) ∧ W'.cell? ⟨w.heap.size, 5, none⟩ = some (.slice ao n ca) := fun W' hW =>
    ⟨(hW.cell (p := ⟨w.heap.size, 0, none⟩) (by simp)).trans (by simp), (hW.cell (p := ⟨w.heap.size, 1, none⟩) (by simp)).trans (by simp), (hW.cell (p := ⟨w.heap.size, 2, none⟩) (by simp)).trans (by simp), (hW.cell (p := ⟨w.heap.size, 3, none⟩) (by simp)).trans (by simp), (hW.cell (p := ⟨w.heap.size, 4, none⟩) (by simp)).trans (by simp), (hW.cell (p := ⟨w.heap.size, 5, none⟩) (by simp)).trans (by simp)⟩
  have z0 : (w.alloc (.cells #[.int .i64 k, .int .i64 v.k, .int .i64 v.n, .string ⟨v.s.toArray⟩, .string ⟨nm.toArray⟩, .slice ao n ca] 28)).heap.size = w.heap.size + 1 := by simp
  have HD := hide hD
  clear hD
  unfold vlV at *
  go_enter Tryz.func3, Tryz.ntmps3
  go_wp2_with fail
  refine (h4 _).mono ?_
  rintro e w1 ⟨rfl, b1⟩
  have p1 : Below (w.alloc (.cells #[.int .i64 k, .int .i64 v.k, .int .i64 v.n, .string ⟨v.s.toArray⟩, .string ⟨nm.toArray⟩, .slice ao n ca] 28)).heap.size (w.alloc (.cells #[.int .i64 k, .int .i64 v.k, .int .i64 v.n, .string ⟨v.s.toArray⟩, .string ⟨nm.toArray⟩, .slice ao n ca] 28)) w1 := b1
  clear b1 h4
  obtain ⟨d0, d1, d2, d3, d4, d5⟩ := HD.out _ p1
  go_wp2_with fail
  refine (h5 _ (b0.trans (p1.mono (by omega)))).mono ?_
  rintro e w2 ⟨rfl, b2⟩
  have p2 : Below (w.alloc (.cells #[.int .i64 k, .int .i64 v.k, .int .i64 v.n, .string ⟨v.s.toArray⟩, .string ⟨nm.toArray⟩, .slice ao n ca] 28)).heap.size (w.alloc (.cells #[.int .i64 k, .int .i64 v.k, .int .i64 v.n, .string ⟨v.s.toArray⟩, .string ⟨nm.toArray⟩, .slice ao n ca] 28)) w2 := p1.trans (b2.mono (by have := p1.size; omega))
  clear b2 h5
  clear d0 d1 d2 d3 d4 d5
  obtain ⟨d0, d1, d2, d3, d4, d5⟩ := HD.out _ p2
  go_wp2_with fail
  refine (h6 _ (b0.trans (p2.mono (by omega)))).mono ?_
  rintro e w3 ⟨rfl, b3⟩
  have p3 : Below (w.alloc (.cells #[.int .i64 k, .int .i64 v.k, .int .i64 v.n, .string ⟨v.s.toArray⟩, .string ⟨nm.toArray⟩, .slice ao n ca] 28)).heap.size (w.alloc (.cells #[.int .i64 k, .int .i64 v.k, .int .i64 v.n, .string ⟨v.s.toArray⟩, .string ⟨nm.toArray⟩, .slice ao n ca] 28)) w3 := p2.trans (b3.mono (by have := p2.size; omega))
  clear b3 h6
  clear d0 d1 d2 d3 d4 d5
  obtain ⟨d0, d1, d2, d3, d4, d5⟩ := HD.out _ p3
  go_wp2_with fail
  refine (h7 _ (b0.trans (p3.mono (by omega)))).mono ?_
  rintro e w4 ⟨rfl, b4⟩
  have p4 : Below (w.alloc (.cells #[.int .i64 k, .int .i64 v.k, .int .i64 v.n, .string ⟨v.s.toArray⟩, .string ⟨nm.toArray⟩, .slice ao n ca] 28)).heap.size (w.alloc (.cells #[.int .i64 k, .int .i64 v.k, .int .i64 v.n, .string ⟨v.s.toArray⟩, .string ⟨nm.toArray⟩, .slice ao n ca] 28)) w4 := p3.trans (b4.mono (by have := p3.size; omega))
  clear b4 h7
  obtain ⟨s9, hs9⟩ : ∃ s, w4.heap.size = s := ⟨_, rfl⟩
  have r4a : (w4.alloc (.cells #[.int .i64 V.k, .int .i64 V.n, .string ⟨V.s.toArray⟩] 25)).heap[s9]? = some (.cells #[.int .i64 V.k, .int .i64 V.n, .string ⟨V.s.toArray⟩] 25) := by rw [← hs9]; exact heap_alloc_new _ _
  have zs4a : (w4.alloc (.cells #[.int .i64 V.k, .int .i64 V.n, .string ⟨V.s.toArray⟩] 25)).heap.size = s9 + 1 := by rw [← hs9]; simp
  have p4a : Below (w.alloc (.cells #[.int .i64 k, .int .i64 v.k, .int .i64 v.n, .string ⟨v.s.toArray⟩, .string ⟨nm.toArray⟩, .slice ao n ca] 28)).heap.size (w.alloc (.cells #[.int .i64 k, .int .i64 v.k, .int .i64 v.n, .string ⟨v.s.toArray⟩, .string ⟨nm.toArray⟩, .slice ao n ca] 28)) (w4.alloc (.cells #[.int .i64 V.k, .int .i64 V.n, .string ⟨V.s.toArray⟩] 25)) := p4.alloc p4.size _
  have HS9 := hide hs9
  obtain ⟨d0, d1, d2, d3, d4, d5⟩ := HD.out _ p4a
  clear p4 hs9
  go_wp2_with fail
  rw [HS9.out]
  generalize w4.alloc (.cells #[.int .i64 V.k, .int .i64 V.n, .string ⟨V.s.toArray⟩] 25) = wa at *
  refine (h8 _ (b0.trans (p4a.mono (by omega)))).mono ?_
  rintro e w5 ⟨rfl, b5⟩
  have p5 : Below (w.alloc (.cells #[.int .i64 k, .int .i64 v.k, .int .i64 v.n, .string ⟨v.s.toArray⟩, .string ⟨nm.toArray⟩, .slice ao n ca] 28)).heap.size (w.alloc (.cells #[.int .i64 k, .int .i64 v.k, .int .i64 v.n, .string ⟨v.s.toArray⟩, .string ⟨nm.toArray⟩, .slice ao n ca] 28)) w5 := p4a.trans (b5.mono (by have := p4a.size; omega))
  have r5 := (b5.block s9 (by omega)).trans r4a
  have zs5 : s9 < w5.heap.size := by have := b5.size; omega
  clear b5 h8 r4a zs4a p4a d0 d1 d2 d3 d4 d5
  obtain ⟨d0, d1, d2, d3, d4, d5⟩ := HD.out _ p5
  go_wp2_with fail
  refine (h9 _ (b0.trans (p5.mono (by omega)))).mono ?_
  rintro e w6 ⟨rfl, b6⟩
  have p6 : Below (w.alloc (.cells #[.int .i64 k, .int .i64 v.k, .int .i64 v.n, .string ⟨v.s.toArray⟩, .string ⟨nm.toArray⟩, .slice ao n ca] 28)).heap.size (w.alloc (.cells #[.int .i64 k, .int .i64 v.k, .int .i64 v.n, .string ⟨v.s.toArray⟩, .string ⟨nm.toArray⟩, .slice ao n ca] 28)) w6 := p5.trans (b6.mono (by have := p5.size; omega))
  have r6 := (b6.block s9 (by omega)).trans r5
  have zs6 : s9 < w6.heap.size := by have := b6.size; omega
  clear b6 h9 r5 p5 zs5 d0 d1 d2 d3 d4 d5
  obtain ⟨d0, d1, d2, d3, d4, d5⟩ := HD.out _ p6
  go_wp2_with fail
  refine (h10 _ (b0.trans (p6.mono (by omega)))).mono ?_
  rintro e w7 ⟨rfl, b7⟩
  have p7 : Below (w.alloc (.cells #[.int .i64 k, .int .i64 v.k, .int .i64 v.n, .string ⟨v.s.toArray⟩, .string ⟨nm.toArray⟩, .slice ao n ca] 28)).heap.size (w.alloc (.cells #[.int .i64 k, .int .i64 v.k, .int .i64 v.n, .string ⟨v.s.toArray⟩, .string ⟨nm.toArray⟩, .slice ao n ca] 28)) w7 := p6.trans (b7.mono (by have := p6.size; omega))
  have r7 := (b7.block s9 (by omega)).trans r6
  have zs7 : s9 < w7.heap.size := by have := b7.size; omega
  clear b7 h10 r6 p6 zs6 d0 d1 d2 d3 d4 d5
  obtain ⟨d0, d1, d2, d3, d4, d5⟩ := HD.out _ p7
  obtain ⟨s17, hs17⟩ : ∃ s, w7.heap.size = s := ⟨_, rfl⟩
  have HS17 := hide hs17
  have hz8 : (w.alloc (.cells #[.int .i64 k, .int .i64 v.k, .int .i64 v.n, .string ⟨v.s.toArray⟩, .string ⟨nm.toArray⟩, .slice ao n ca] 28)).heap.size ≤ s17 := by rw [← hs17]; exact p7.size
  have rb9 := ((Below.refl w7.heap.size w7).alloc (Nat.le_refl _) (.cells #[.int .i64 0, .int .i64 0, .string ⟨#[]⟩] 25)).block s9 zs7 |>.trans r7
  have rb17 : (w7.alloc (.cells #[.int .i64 0, .int .i64 0, .string ⟨#[]⟩] 25)).heap[s17]? = some (.cells #[.int .i64 0, .int .i64 0, .string ⟨#[]⟩] 25) := by rw [← hs17]; exact heap_alloc_new _ _
  have zb : (w7.alloc (.cells #[.int .i64 0, .int .i64 0, .string ⟨#[]⟩] 25)).heap.size = s17 + 1 := by rw [← hs17]; simp
  have zb9 : s9 < s17 := by rw [← hs17]; exact zs7
  have pb : Below (w.alloc (.cells #[.int .i64 k, .int .i64 v.k, .int .i64 v.n, .string ⟨v.s.toArray⟩, .string ⟨nm.toArray⟩, .slice ao n ca] 28)).heap.size (w.alloc (.cells #[.int .i64 k, .int .i64 v.k, .int .i64 v.n, .string ⟨v.s.toArray⟩, .string ⟨nm.toArray⟩, .slice ao n ca] 28)) (w7.alloc (.cells #[.int .i64 0, .int .i64 0, .string ⟨#[]⟩] 25)) := p7.alloc p7.size _
  clear r7 p7 zs7 d0 d1 d2 d3 d4 d5 hs17
  obtain ⟨d0, d1, d2, d3, d4, d5⟩ := HD.out _ pb
  go_wp2_with fail
  rw [HS17.out]
  generalize w7.alloc (.cells #[.int .i64 0, .int .i64 0, .string ⟨#[]⟩] 25) = wb at *
  refine (h11 _ (b0.trans (pb.mono (by omega)))).mono ?_
  rintro e wc ⟨rfl, bc⟩
  have pc : Below (w.alloc (.cells #[.int .i64 k, .int .i64 v.k, .int .i64 v.n, .string ⟨v.s.toArray⟩, .string ⟨nm.toArray⟩, .slice ao n ca] 28)).heap.size (w.alloc (.cells #[.int .i64 k, .int .i64 v.k, .int .i64 v.n, .string ⟨v.s.toArray⟩, .string ⟨nm.toArray⟩, .slice ao n ca] 28)) wc := pb.trans (bc.mono (by have := pb.size; omega))
  have rc9 := (bc.block s9 (by omega)).trans rb9
  have rc17 := (bc.block s17 (by omega)).trans rb17
  have zc : s17 + 1 ≤ wc.heap.size := by have := bc.size; omega
  clear bc h11 rb9 rb17 pb zb d0 d1 d2 d3 d4 d5
  obtain ⟨⟨g0, g1, g2⟩, f0, f1, f2⟩ := three rc17
  have rd17 := three_set rc17 (.int .i64 V.k) (.int .i64 V.n) (.string ⟨V.s.toArray⟩)
  have bd : Below s17 wc (((wc.setCell ⟨s17, 0, none⟩ (.int .i64 V.k)).setCell ⟨s17, 1, none⟩ (.int .i64 V.n)).setCell ⟨s17, 2, none⟩ (.string ⟨V.s.toArray⟩)) := (((Below.refl s17 wc).setCell (p := ⟨s17, 0, none⟩) (Nat.le_refl s17) _).setCell (p := ⟨s17, 1, none⟩) (Nat.le_refl s17) _).setCell (p := ⟨s17, 2, none⟩) (Nat.le_refl s17) _
  have zd : (((wc.setCell ⟨s17, 0, none⟩ (.int .i64 V.k)).setCell ⟨s17, 1, none⟩ (.int .i64 V.n)).setCell ⟨s17, 2, none⟩ (.string ⟨V.s.toArray⟩)).heap.size = wc.heap.size := by simp
  have pd : Below (w.alloc (.cells #[.int .i64 k, .int .i64 v.k, .int .i64 v.n, .string ⟨v.s.toArray⟩, .string ⟨nm.toArray⟩, .slice ao n ca] 28)).heap.size (w.alloc (.cells #[.int .i64 k, .int .i64 v.k, .int .i64 v.n, .string ⟨v.s.toArray⟩, .string ⟨nm.toArray⟩, .slice ao n ca] 28)) (((wc.setCell ⟨s17, 0, none⟩ (.int .i64 V.k)).setCell ⟨s17, 1, none⟩ (.int .i64 V.n)).setCell ⟨s17, 2, none⟩ (.string ⟨V.s.toArray⟩)) := pc.trans (bd.mono hz8)
  have rd9 := (bd.block s9 zb9).trans rc9
  obtain ⟨e0, e1, e2, e3, e4, e5⟩ := HD.out _ pd
  have hq12 := fun (W' : World) => sameV_any V V W'
  rw [show eqV V V = true by simp [eqV]] at hq12
  obtain ⟨⟨a0, a1, a2⟩, -⟩ := three rd9
  obtain ⟨⟨c0, c1, c2⟩, -⟩ := three rd17
  clear rc9 rc17 bd pc rd9 rd17
  go_wp2_with fail
  generalize (((wc.setCell ⟨s17, 0, none⟩ (.int .i64 V.k)).setCell ⟨s17, 1, none⟩ (.int .i64 V.n)).setCell ⟨s17, 2, none⟩ (.string ⟨V.s.toArray⟩)) = we at *
  refine (hq12 _).mono ?_
  rintro e wf ⟨rfl, bf⟩
  have pf : Below (w.alloc (.cells #[.int .i64 k, .int .i64 v.k, .int .i64 v.n, .string ⟨v.s.toArray⟩, .string ⟨nm.toArray⟩, .slice ao n ca] 28)).heap.size (w.alloc (.cells #[.int .i64 k, .int .i64 v.k, .int .i64 v.n, .string ⟨v.s.toArray⟩, .string ⟨nm.toArray⟩, .slice ao n ca] 28)) wf := pd.trans (bf.mono (by have := pd.size; omega))
  have qf : Below w.heap.size w wf := b0.trans (pf.mono (by omega))
  obtain ⟨u0, u1', u2', u3', u4', u5'⟩ := HD.out _ pf
  clear hq12 bf
  go_wp2_with fail
  refine (h13 _ qf).mono ?_
  rintro e wg ⟨rfl, bg⟩
  have qg := qf.trans (bg.mono qf.size)
  clear h13 bg
  go_wp2
  go_ret
  exact ⟨rfl, qg⟩

set_option maxRecDepth 100000 in
set_option maxHeartbeats 3200000 in
theorem law_ok3 (cv rv : Value) (k : Int) (v : Vl) (nm : List UInt8) (ao : Option Addr) (n ca : Nat) (w : World) (K : Int) (V : Vl) (D : Bool) (k0 : (K != 0) = true) (k3 : (K != 3) = false) (h4 : ∀ W : World, Calls Tryz.prog 4 #[] W fun e w' => e = .returned (.bool true) ∧ Below W.heap.size W w') (h5 : ∀ W : World, Below w.heap.size w W → Calls Tryz.prog 5 #[cv] W fun e w' => e = .returned (.bool true) ∧ Below W.heap.size W w') (h6 : ∀ W : World, Below w.heap.size w W → Calls Tryz.prog 6 #[cv, exL k v nm (.slice ao n ca)] W fun e w' => e = .returned (.tuple #[.int .i64 K, .int .i64 0]) ∧ Below W.heap.size W w') (h7 : ∀ W : World, Below w.heap.size w W → Calls Tryz.prog 7 #[cv, rv, exL k v nm (.slice ao n ca)] W fun e w' => e = .returned (.tuple #[vlV V, .int .i64 0]) ∧ Below W.heap.size W w') (h8 : ∀ W : World, Below w.heap.size w W → Calls Tryz.prog 8 #[cv, rv, exL k v nm (.slice ao n ca)] W fun e w' => e = .returned (.tuple #[.bool D, .int .i64 0]) ∧ Below W.heap.size W w') (h9 : ∀ W : World, Below w.heap.size w W → Calls Tryz.prog 9 #[cv, exL k v nm (.slice ao n ca)] W fun e w' => e = .returned (.tuple #[.int .i64 K, .int .i64 0]) ∧ Below W.heap.size W w') (h10 : ∀ W : World, Below w.heap.size w W → Calls Tryz.prog 10 #[cv, rv] W fun e w' => e = .returned (.int .i64 0) ∧ Below W.heap.size W w') (h11 : ∀ W : World, Below w.heap.size w W → Calls Tryz.prog 11 #[cv, rv, exL k v nm (.slice ao n ca)] W fun e w' => e = .returned (vlV V) ∧ Below W.heap.size W w') (h13 : ∀ W : World, Below w.heap.size w W → Calls Tryz.prog 13 #[cv, rv, exL k v nm (.slice ao n ca)] W fun e w' => e = .returned (.bool D) ∧ Below W.heap.size W w') :
    Calls Tryz.prog 3 #[cv, rv, exL k v nm (.slice ao n ca)] w fun e w' => e = .returned (.bool true) ∧ Below w.heap.size w w' := by
  have b0 := (Below.refl w.heap.size w).alloc (Nat.le_refl _) (.cells #[.int .i64 k, .int .i64 v.k, .int .i64 v.n, .string ⟨v.s.toArray⟩, .string ⟨nm.toArray⟩, .slice ao n ca] 28)
  have hD : ∀ W' : World, Below (w.alloc (.cells #[.int .i64 k, .int .i64 v.k, .int .i64 v.n, .string ⟨v.s.toArray⟩, .string ⟨nm.toArray⟩, .slice ao n ca] 28)).heap.size (w.alloc (.cells #[.int .i64 k, .int .i64 v.k, .int .i64 v.n, .string ⟨v.s.toArray⟩, .string ⟨nm.toArray⟩, .slice ao n ca] 28)) W' → W'.cell? ⟨w.heap.size, 0, none⟩ = some (.int .i64 k) ∧ W'.cell? ⟨w.heap.size, 1, none⟩ = some (.int .i64 v.k) ∧ W'.cell? ⟨w.heap.size, 2, none⟩ = some (.int .i64 v.n) ∧ W'.cell? ⟨w.heap.size, 3, none⟩ = some (.string ⟨v.s.toArray⟩) ∧ W'.cell? ⟨w.heap.size, 4, none⟩ = some (.string ⟨nm.toArray⟩) ∧ W'.cell? ⟨w.heap.size, 5, none⟩ = some (.slice ao n ca) := fun W' hW =>
    ⟨(hW.cell (p := ⟨w.heap.size, 0, none⟩) (by simp)).trans (by simp), (hW.cell (p := ⟨w.heap.size, 1, none⟩) (by simp)).trans (by simp), (hW.cell (p := ⟨w.heap.size, 2, none⟩) (by simp)).trans (by simp), (hW.cell (p := ⟨w.heap.size, 3, none⟩) (by simp)).trans (by simp), (hW.cell (p := ⟨w.heap.size, 4, none⟩) (by simp)).trans (by simp), (hW.cell (p := ⟨w.heap.size, 5, none⟩) (by simp)).trans (by simp)⟩
  have z0 : (w.alloc (.cells #[.int .i64 k, .int .i64 v.k, .int .i64 v.n, .string ⟨v.s.toArray⟩, .string ⟨nm.toArray⟩, .slice ao n ca] 28)).heap.size = w.heap.size + 1 := by simp
  have HD := hide hD
  clear hD
  unfold vlV at *
  go_enter Tryz.func3, Tryz.ntmps3
  go_wp2_with fail
  refine (h4 _).mono ?_
  rintro e w1 ⟨rfl, b1⟩
  have p1 : Below (w.alloc (.cells #[.int .i64 k, .int .i64 v.k, .int .i64 v.n, .string ⟨v.s.toArray⟩, .string ⟨nm.toArray⟩, .slice ao n ca] 28)).heap.size (w.alloc (.cells #[.int .i64 k, .int .i64 v.k, .int .i64 v.n, .string ⟨v.s.toArray⟩, .string ⟨nm.toArray⟩, .slice ao n ca] 28)) w1 := b1
  clear b1 h4
  obtain ⟨d0, d1, d2, d3, d4, d5⟩ := HD.out _ p1
  go_wp2_with fail
  refine (h5 _ (b0.trans (p1.mono (by omega)))).mono ?_
  rintro e w2 ⟨rfl, b2⟩
  have p2 : Below (w.alloc (.cells #[.int .i64 k, .int .i64 v.k, .int .i64 v.n, .string ⟨v.s.toArray⟩, .string ⟨nm.toArray⟩, .slice ao n ca] 28)).heap.size (w.alloc (.cells #[.int .i64 k, .int .i64 v.k, .int .i64 v.n, .string ⟨v.s.toArray⟩, .string ⟨nm.toArray⟩, .slice ao n ca] 28)) w2 := p1.trans (b2.mono (by have := p1.size; omega))
  clear b2 h5
  clear d0 d1 d2 d3 d4 d5
  obtain ⟨d0, d1, d2, d3, d4, d5⟩ := HD.out _ p2
  go_wp2_with fail
  refine (h6 _ (b0.trans (p2.mono (by omega)))).mono ?_
  rintro e w3 ⟨rfl, b3⟩
  have p3 : Below (w.alloc (.cells #[.int .i64 k, .int .i64 v.k, .int .i64 v.n, .string ⟨v.s.toArray⟩, .string ⟨nm.toArray⟩, .slice ao n ca] 28)).heap.size (w.alloc (.cells #[.int .i64 k, .int .i64 v.k, .int .i64 v.n, .string ⟨v.s.toArray⟩, .string ⟨nm.toArray⟩, .slice ao n ca] 28)) w3 := p2.trans (b3.mono (by have := p2.size; omega))
  clear b3 h6
  clear d0 d1 d2 d3 d4 d5
  obtain ⟨d0, d1, d2, d3, d4, d5⟩ := HD.out _ p3
  go_wp2_with fail
  refine (h7 _ (b0.trans (p3.mono (by omega)))).mono ?_
  rintro e w4 ⟨rfl, b4⟩
  have p4 : Below (w.alloc (.cells #[.int .i64 k, .int .i64 v.k, .int .i64 v.n, .string ⟨v.s.toArray⟩, .string ⟨nm.toArray⟩, .slice ao n ca] 28)).heap.size (w.alloc (.cells #[.int .i64 k, .int .i64 v.k, .int .i64 v.n, .string ⟨v.s.toArray⟩, .string ⟨nm.toArray⟩, .slice ao n ca] 28)) w4 := p3.trans (b4.mono (by have := p3.size; omega))
  clear b4 h7
  obtain ⟨s9, hs9⟩ : ∃ s, w4.heap.size = s := ⟨_, rfl⟩
  have r4a : (w4.alloc (.cells #[.int .i64 V.k, .int .i64 V.n, .string ⟨V.s.toArray⟩] 25)).heap[s9]? = some (.cells #[.int .i64 V.k, .int .i64 V.n, .string ⟨V.s.toArray⟩] 25) := by rw [← hs9]; exact heap_alloc_new _ _
  have zs4a : (w4.alloc (.cells #[.int .i64 V.k, .int .i64 V.n, .string ⟨V.s.toArray⟩] 25)).heap.size = s9 + 1 := by rw [← hs9]; simp
  have p4a : Below (w.alloc (.cells #[.int .i64 k, .int .i64 v.k, .int .i64 v.n, .string ⟨v.s.toArray⟩, .string ⟨nm.toArray⟩, .slice ao n ca] 28)).heap.size (w.alloc (.cells #[.int .i64 k, .int .i64 v.k, .int .i64 v.n, .string ⟨v.s.toArray⟩, .string ⟨nm.toArray⟩, .slice ao n ca] 28)) (w4.alloc (.cells #[.int .i64 V.k, .int .i64 V.n, .string ⟨V.s.toArray⟩] 25)) := p4.alloc p4.size _
  have HS9 := hide hs9
  obtain ⟨d0, d1, d2, d3, d4, d5⟩ := HD.out _ p4a
  clear p4 hs9
  go_wp2_with fail
  rw [HS9.out]
  generalize w4.alloc (.cells #[.int .i64 V.k, .int .i64 V.n, .string ⟨V.s.toArray⟩] 25) = wa at *
  refine (h8 _ (b0.trans (p4a.mono (by omega)))).mono ?_
  rintro e w5 ⟨rfl, b5⟩
  have p5 : Below (w.alloc (.cells #[.int .i64 k, .int .i64 v.k, .int .i64 v.n, .string ⟨v.s.toArray⟩, .string ⟨nm.toArray⟩, .slice ao n ca] 28)).heap.size (w.alloc (.cells #[.int .i64 k, .int .i64 v.k, .int .i64 v.n, .string ⟨v.s.toArray⟩, .string ⟨nm.toArray⟩, .slice ao n ca] 28)) w5 := p4a.trans (b5.mono (by have := p4a.size; omega))
  have r5 := (b5.block s9 (by omega)).trans r4a
  have zs5 : s9 < w5.heap.size := by have := b5.size; omega
  clear b5 h8 r4a zs4a p4a d0 d1 d2 d3 d4 d5
  obtain ⟨d0, d1, d2, d3, d4, d5⟩ := HD.out _ p5
  go_wp2_with fail
  refine (h9 _ (b0.trans (p5.mono (by omega)))).mono ?_
  rintro e w6 ⟨rfl, b6⟩
  have p6 : Below (w.alloc (.cells #[.int .i64 k, .int .i64 v.k, .int .i64 v.n, .string ⟨v.s.toArray⟩, .string ⟨nm.toArray⟩, .slice ao n ca] 28)).heap.size (w.alloc (.cells #[.int .i64 k, .int .i64 v.k, .int .i64 v.n, .string ⟨v.s.toArray⟩, .string ⟨nm.toArray⟩, .slice ao n ca] 28)) w6 := p5.trans (b6.mono (by have := p5.size; omega))
  have r6 := (b6.block s9 (by omega)).trans r5
  have zs6 : s9 < w6.heap.size := by have := b6.size; omega
  clear b6 h9 r5 p5 zs5 d0 d1 d2 d3 d4 d5
  obtain ⟨d0, d1, d2, d3, d4, d5⟩ := HD.out _ p6
  go_wp2_with fail
  refine (h10 _ (b0.trans (p6.mono (by omega)))).mono ?_
  rintro e w7 ⟨rfl, b7⟩
  have p7 : Below (w.alloc (.cells #[.int .i64 k, .int .i64 v.k, .int .i64 v.n, .string ⟨v.s.toArray⟩, .string ⟨nm.toArray⟩, .slice ao n ca] 28)).heap.size (w.alloc (.cells #[.int .i64 k, .int .i64 v.k, .int .i64 v.n, .string ⟨v.s.toArray⟩, .string ⟨nm.toArray⟩, .slice ao n ca] 28)) w7 := p6.trans (b7.mono (by have := p6.size; omega))
  have r7 := (b7.block s9 (by omega)).trans r6
  have zs7 : s9 < w7.heap.size := by have := b7.size; omega
  clear b7 h10 r6 p6 zs6 d0 d1 d2 d3 d4 d5
  obtain ⟨d0, d1, d2, d3, d4, d5⟩ := HD.out _ p7
  obtain ⟨s17, hs17⟩ : ∃ s, w7.heap.size = s := ⟨_, rfl⟩
  have HS17 := hide hs17
  have hz8 : (w.alloc (.cells #[.int .i64 k, .int .i64 v.k, .int .i64 v.n, .string ⟨v.s.toArray⟩, .string ⟨nm.toArray⟩, .slice ao n ca] 28)).heap.size ≤ s17 := by rw [← hs17]; exact p7.size
  have rb9 := ((Below.refl w7.heap.size w7).alloc (Nat.le_refl _) (.cells #[.int .i64 0, .int .i64 0, .string ⟨#[]⟩] 25)).block s9 zs7 |>.trans r7
  have rb17 : (w7.alloc (.cells #[.int .i64 0, .int .i64 0, .string ⟨#[]⟩] 25)).heap[s17]? = some (.cells #[.int .i64 0, .int .i64 0, .string ⟨#[]⟩] 25) := by rw [← hs17]; exact heap_alloc_new _ _
  have zb : (w7.alloc (.cells #[.int .i64 0, .int .i64 0, .string ⟨#[]⟩] 25)).heap.size = s17 + 1 := by rw [← hs17]; simp
  have zb9 : s9 < s17 := by rw [← hs17]; exact zs7
  have pb : Below (w.alloc (.cells #[.int .i64 k, .int .i64 v.k, .int .i64 v.n, .string ⟨v.s.toArray⟩, .string ⟨nm.toArray⟩, .slice ao n ca] 28)).heap.size (w.alloc (.cells #[.int .i64 k, .int .i64 v.k, .int .i64 v.n, .string ⟨v.s.toArray⟩, .string ⟨nm.toArray⟩, .slice ao n ca] 28)) (w7.alloc (.cells #[.int .i64 0, .int .i64 0, .string ⟨#[]⟩] 25)) := p7.alloc p7.size _
  clear r7 p7 zs7 d0 d1 d2 d3 d4 d5 hs17
  obtain ⟨d0, d1, d2, d3, d4, d5⟩ := HD.out _ pb
  go_wp2_with fail
  rw [HS17.out]
  generalize w7.alloc (.cells #[.int .i64 0, .int .i64 0, .string ⟨#[]⟩] 25) = wb at *
  refine (h11 _ (b0.trans (pb.mono (by omega)))).mono ?_
  rintro e wc ⟨rfl, bc⟩
  have pc : Below (w.alloc (.cells #[.int .i64 k, .int .i64 v.k, .int .i64 v.n, .string ⟨v.s.toArray⟩, .string ⟨nm.toArray⟩, .slice ao n ca] 28)).heap.size (w.alloc (.cells #[.int .i64 k, .int .i64 v.k, .int .i64 v.n, .string ⟨v.s.toArray⟩, .string ⟨nm.toArray⟩, .slice ao n ca] 28)) wc := pb.trans (bc.mono (by have := pb.size; omega))
  have rc9 := (bc.block s9 (by omega)).trans rb9
  have rc17 := (bc.block s17 (by omega)).trans rb17
  have zc : s17 + 1 ≤ wc.heap.size := by have := bc.size; omega
  clear bc h11 rb9 rb17 pb zb d0 d1 d2 d3 d4 d5
  obtain ⟨⟨g0, g1, g2⟩, f0, f1, f2⟩ := three rc17
  have rd17 := three_set rc17 (.int .i64 V.k) (.int .i64 V.n) (.string ⟨V.s.toArray⟩)
  have bd : Below s17 wc (((wc.setCell ⟨s17, 0, none⟩ (.int .i64 V.k)).setCell ⟨s17, 1, none⟩ (.int .i64 V.n)).setCell ⟨s17, 2, none⟩ (.string ⟨V.s.toArray⟩)) := (((Below.refl s17 wc).setCell (p := ⟨s17, 0, none⟩) (Nat.le_refl s17) _).setCell (p := ⟨s17, 1, none⟩) (Nat.le_refl s17) _).setCell (p := ⟨s17, 2, none⟩) (Nat.le_refl s17) _
  have zd : (((wc.setCell ⟨s17, 0, none⟩ (.int .i64 V.k)).setCell ⟨s17, 1, none⟩ (.int .i64 V.n)).setCell ⟨s17, 2, none⟩ (.string ⟨V.s.toArray⟩)).heap.size = wc.heap.size := by simp
  have pd : Below (w.alloc (.cells #[.int .i64 k, .int .i64 v.k, .int .i64 v.n, .string ⟨v.s.toArray⟩, .string ⟨nm.toArray⟩, .slice ao n ca] 28)).heap.size (w.alloc (.cells #[.int .i64 k, .int .i64 v.k, .int .i64 v.n, .string ⟨v.s.toArray⟩, .string ⟨nm.toArray⟩, .slice ao n ca] 28)) (((wc.setCell ⟨s17, 0, none⟩ (.int .i64 V.k)).setCell ⟨s17, 1, none⟩ (.int .i64 V.n)).setCell ⟨s17, 2, none⟩ (.string ⟨V.s.toArray⟩)) := pc.trans (bd.mono hz8)
  have rd9 := (bd.block s9 zb9).trans rc9
  obtain ⟨e0, e1, e2, e3, e4, e5⟩ := HD.out _ pd
  have hq12 := fun (W' : World) => sameV_any V V W'
  rw [show eqV V V = true by simp [eqV]] at hq12
  obtain ⟨⟨a0, a1, a2⟩, -⟩ := three rd9
  obtain ⟨⟨c0, c1, c2⟩, -⟩ := three rd17
  clear rc9 rc17 bd pc rd9 rd17
  go_wp2_with fail
  generalize (((wc.setCell ⟨s17, 0, none⟩ (.int .i64 V.k)).setCell ⟨s17, 1, none⟩ (.int .i64 V.n)).setCell ⟨s17, 2, none⟩ (.string ⟨V.s.toArray⟩)) = we at *
  refine (hq12 _).mono ?_
  rintro e wf ⟨rfl, bf⟩
  have pf : Below (w.alloc (.cells #[.int .i64 k, .int .i64 v.k, .int .i64 v.n, .string ⟨v.s.toArray⟩, .string ⟨nm.toArray⟩, .slice ao n ca] 28)).heap.size (w.alloc (.cells #[.int .i64 k, .int .i64 v.k, .int .i64 v.n, .string ⟨v.s.toArray⟩, .string ⟨nm.toArray⟩, .slice ao n ca] 28)) wf := pd.trans (bf.mono (by have := pd.size; omega))
  have qf : Below w.heap.size w wf := b0.trans (pf.mono (by omega))
  obtain ⟨u0, u1', u2', u3', u4', u5'⟩ := HD.out _ pf
  clear hq12 bf
  go_wp2_with fail
  refine (h13 _ qf).mono ?_
  rintro e wg ⟨rfl, bg⟩
  have qg := qf.trans (bg.mono qf.size)
  clear h13 bg
  go_wp2
  go_ret
  exact ⟨rfl, qg⟩
end

section
open Go.RowKit

/-- ExprTells answers true, of columns, a row and an expression in memory -/
theorem tells_any (L : List Cl) (cv : Value) (r : List Vl) (rv : Value) {w : World} {u : Value} {x : Ex} (h : ExAt 0 w u x) (hf : Fit x) (hC : CsAt w cv L) (hcp : ∀ ao n cap, cv = .slice ao n cap → n ≤ cap) (hV : VsAt w rv r) :
    Calls Tryz.prog 3 #[cv, rv, u] w fun e w' => e = .returned (.bool true) ∧ Below w.heap.size w w' := by
  have h4 := fun (W : World) => begun_any W
  have h5 := fun (W : World) (hW : Below w.heap.size w W) => cright_any L cv W (hC.below hW) hcp
  have h6 := fun (W : World) (hW : Below w.heap.size w W) => Kind_any L cv (h.under hW) hf (hC.below hW)
  have h7 := fun (W : World) (hW : Below w.heap.size w W) => Eval_any L cv r rv (h.under hW) hf (hC.below hW) (hV.below hW)
  have h8 := fun (W : World) (hW : Below w.heap.size w W) => Holds_any L cv r rv (h.under hW) hf (hC.below hW) (hV.below hW)
  have h10 := fun (W : World) (hW : Below w.heap.size w W) => rcr_any L r cv rv W (hC.below hW) (hV.below hW)
  have hE : ∃ k v nm ao n ca, u = exL k v nm (.slice ao n ca) := by
    cases h with
    | nil k v nm ao cap hz => exact ⟨_, _, _, _, _, _, rfl⟩
    | args k v nm b off cap xs us hx hB hs hc hh => exact ⟨_, _, _, _, _, _, rfl⟩
  obtain ⟨k, v, nm, ao, n, ca, rfl⟩ := hE
  cases hR : colsR L with
  | false =>
    rw [hR] at h5
    exact law_no cv rv k v nm ao n ca w h4 h5
  | true =>
    rw [hR] at h5
    have hok := colsR_true.1 hR
    have hL : ∀ c ∈ L, 0 ≤ c.ty := by
      intro c hc
      obtain ⟨j, hj, e⟩ := List.getElem_of_mem hc
      have := hok j c (by rw [List.getElem?_eq_getElem hj, e])
      omega
    have h9 := fun (W : World) (hW : Below w.heap.size w W) => KindOf_any L cv hL (h.under hW) hf (hC.below hW)
    by_cases h1 : (kindX L x).2 = 0
    · obtain ⟨-, f0, K, hK, hK1⟩ := kindX_zero h1
      by_cases h2 : rowF L r = 0
      · have e2 : evalX L r x = (evalE L r x, 0) := by unfold evalX; rw [if_neg (fun hh => hh h1), if_neg (fun hh => hh h2)]
        have h11 := fun (W : World) (hW : Below w.heap.size w W) => rvo_any L cv r rv h2 h hf f0 K hK W hW (hC.below hW) (hV.below hW)
        have h13 := fun (W : World) (hW : Below w.heap.size w W) => rit_any L cv r rv h2 (h.under hW) hf f0 K hK (hC.below hW) (hV.below hW)
        rw [h1, hK1] at h6 h9
        rw [h2] at h10
        rw [e2] at h7
        by_cases k0 : K = 0
        · have e3 : holdsX L r x = (decide (evalE L r x = truthV true), 0) := by unfold holdsX; rw [e2, if_neg (fun hh => hh rfl), hK1, k0]; rfl
          rw [e3] at h8
          exact law_ok0 cv rv k v nm ao n ca w K _ _ (by simpa using k0) h4 h5 h6 h7 h8 h9 h10 h11 h13
        · by_cases k3 : K = 3
          · have e3 : holdsX L r x = (decide (evalE L r x = truthV true), 0) := by unfold holdsX; rw [e2, if_neg (fun hh => hh rfl), hK1, k3]; rfl
            rw [e3] at h8
            exact law_ok3 cv rv k v nm ao n ca w K _ _ (by simpa using k0) (by simpa using k3) h4 h5 h6 h7 h8 h9 h10 h11 h13
          · have e3 : holdsX L r x = (false, 4) := by unfold holdsX; rw [e2, if_neg (fun hh => hh rfl), hK1, if_pos (by simp [k0, k3])]
            rw [e3] at h8
            exact law_st cv rv k v nm ao n ca w K _ (by simpa using k0) (by simpa using k3) h4 h5 h6 h7 h8 h9 h10 h11
      · have e2 : evalX L r x = (vl0, rowF L r) := by unfold evalX; rw [if_neg (fun hh => hh h1), if_pos h2]
        have e3 : holdsX L r x = (false, rowF L r) := by unfold holdsX; rw [e2, if_pos h2]
        rw [h1] at h6 h9
        rw [e2] at h7
        rw [e3] at h8
        exact law_row cv rv k v nm ao n ca w _ _ (by simpa using h2) h4 h5 h6 h7 h8 h9 h10
    · have e2 : evalX L r x = (vl0, (kindX L x).2) := by unfold evalX; rw [if_pos h1]
      have e3 : holdsX L r x = (false, (kindX L x).2) := by unfold holdsX; rw [e2, if_pos h1]
      rw [e2] at h7
      rw [e3] at h8
      exact law_bad cv rv k v nm ao n ca w _ _ (by simpa using h1) h4 h5 h6 h7 h8 h9
end

end Go.Proofs.YtbelnjefnhelhabGreat
