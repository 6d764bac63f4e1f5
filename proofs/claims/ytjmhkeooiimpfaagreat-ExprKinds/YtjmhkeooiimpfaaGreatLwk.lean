/-
  ExprKinds, of columns, a row and an expression in memory: the law's cases.
-/
import Derived.Test.YtjmhkeooiimpfaaGreatBgn
namespace Go.Proofs.YtjmhkeooiimpfaaGreat
open Go.RowKit

/-- what is not so: of nothing nothing, of a truth the other one -/
theorem not_value (l : List Cl) (r : List Vl) (x : Ex) (K : Int) (hr : rowF l r = 0) (hf : faultE l x = 0) (hK : kindE l x = some K) (K' : Int) (hn : kindE l (.mk 3 vl0 [] [x]) = some K') :
    (evalE l r x = vl0 ∧ evalE l r (.mk 3 vl0 [] [x]) = vl0) ∨ (K = 3 ∧ ∃ b : Bool, evalE l r x = truthV b ∧ evalE l r (.mk 3 vl0 [] [x]) = truthV (!b)) := by
  obtain ⟨hv, hk⟩ := evalE_ok l r hr x hf K hK
  have e1 : evalE l r (.mk 3 vl0 [] [x]) = opV 3 [evalE l r x] := by
    simp [evalE, evalL]
  rw [e1]
  have e3 : K = 0 ∨ K = 3 := by
    simp [kindE, kindL, hK, fitK, madeS] at hn
    omega
  by_cases h0 : evalE l r x = vl0
  · left; refine ⟨h0, ?_⟩
    rw [h0]; decide
  · right
    rcases chkV_zero hv with ⟨a, b, c⟩ | ⟨a, -⟩ | ⟨a, -⟩ | ⟨a, b, c⟩
    · exact absurd (by cases hV : evalE l r x with | mk k n s => rw [hV] at a b c; simp at a b c; subst a b c; rfl) h0
    · omega
    · omega
    · refine ⟨by omega, ?_⟩
      rcases b with b | b
      · refine ⟨false, ?_, ?_⟩
        · cases hV : evalE l r x with | mk k n s => rw [hV] at a b c; simp at a b c; subst a b c; rfl
        · have : evalE l r x = truthV false := by cases hV : evalE l r x with | mk k n s => rw [hV] at a b c; simp at a b c; subst a b c; rfl
          rw [this]; decide
      · refine ⟨true, ?_, ?_⟩
        · cases hV : evalE l r x with | mk k n s => rw [hV] at a b c; simp at a b c; subst a b c; rfl
        · have : evalE l r x = truthV true := by cases hV : evalE l r x with | mk k n s => rw [hV] at a b c; simp at a b c; subst a b c; rfl
          rw [this]; decide

set_option maxRecDepth 100000 in
set_option maxHeartbeats 3200000 in
theorem law_no (cv rv : Value) (k : Int) (v : Vl) (nm : List UInt8) (ao : Option Addr) (n ca : Nat) (w : World) (h4 : ∀ W : World, Calls Tryz.prog 4 #[] W fun e w' => e = .returned (.bool true) ∧ Below W.heap.size W w') (h5 : ∀ W : World, Below w.heap.size w W → Calls Tryz.prog 5 #[cv] W fun e w' => e = .returned (.bool false) ∧ Below W.heap.size W w') :
    Calls Tryz.prog 3 #[cv, rv, exL k v nm (.slice ao n ca)] w fun e w' => e = .returned (.bool true) ∧ Below w.heap.size w w' := by
  have b0 := (Below.refl w.heap.size w).alloc (Nat.le_refl _) (.cells #[.int .i64 k, .int .i64 v.k, .int .i64 v.n, .string ⟨v.s.toArray⟩, .string ⟨nm.toArray⟩, .slice ao n ca] 28)
  have hD : ∀ W' : World, Below (w.alloc (.cells #[.int .i64 k, .int .i64 v.k, .int .i64 v.n, .string ⟨v.s.toArray⟩, .string ⟨nm.toArray⟩, .slice ao n ca] 28)).heap.size (w.alloc (.cells #[.int .i64 k, .int .i64 v.k, .int .i64 v.n, .string ⟨v.s.toArray⟩, .string ⟨nm.toArray⟩, .slice ao n ca] 28)) W' → W'.cell? ⟨w.heap.size, 0, none⟩ = some (.int .i64 k) ∧ W'.cell? ⟨w.heap.size, 1, none⟩ = some (.int .i64 v.k) ∧ W'.cell? ⟨w.heap.size, 2, none⟩ = some (.int .i64 v.n) ∧ W'.cell? ⟨w.heap.size, 3, none⟩ = some (.string ⟨v.s.toArray⟩) ∧ W'.cell? ⟨w.heap.size, 4, none⟩ = some (.string ⟨nm.toArray⟩) ∧ W'.cell? ⟨w.heap.size, 5, none⟩ = some (.slice ao n ca) := fun W' hW =>
    ⟨(hW.cell (p := ⟨w.heap.size, 0, none⟩) (by simp)).trans (by simp), (hW.cell (p := ⟨w.heap.size, 1, none⟩) (by simp)).trans (by simp), (hW.cell (p := ⟨w.heap.size, 2, none⟩) (by simp)).trans (by simp), (hW.cell (p := ⟨w.heap.size, 3, none⟩) (by simp)).trans (by simp), (hW.cell (p := ⟨w.heap.size, 4, none⟩) (by simp)).trans (by simp), (hW.cell (p := ⟨w.heap.size, 5, none⟩) (by simp)).trans (by simp)⟩
  have z0 : (w.alloc (.cells #[.int .i64 k, .int .i64 v.k, .int .i64 v.n, .string ⟨v.s.toArray⟩, .string ⟨nm.toArray⟩, .slice ao n ca] 28)).heap.size = w.heap.size + 1 := by simp
  have HD := hide hD
  clear hD
  go_enter Tryz.func3, Tryz.ntmps3
  go_wp2_with fail
  refine (h4 _).mono ?_
  rintro e w1 ⟨rfl, b1⟩
  have q1 : Below w.heap.size w w1 := b0.trans (b1.mono b0.size)
  clear h4 b1
  go_wp2_with fail
  refine (h5 _ q1).mono ?_
  rintro e w2 ⟨rfl, b2⟩
  have q2 := q1.trans (b2.mono q1.size)
  clear h5 b2 HD
  go_wp2
  go_ret
  exact ⟨rfl, q2⟩

set_option maxRecDepth 100000 in
set_option maxHeartbeats 3200000 in
theorem law_bad (cv rv : Value) (k : Int) (v : Vl) (nm : List UInt8) (ao : Option Addr) (n ca : Nat) (w : World) (K : Int) (F : Nat) (hF : ((F : Int) != 0) = true) (h4 : ∀ W : World, Calls Tryz.prog 4 #[] W fun e w' => e = .returned (.bool true) ∧ Below W.heap.size W w') (h5 : ∀ W : World, Below w.heap.size w W → Calls Tryz.prog 5 #[cv] W fun e w' => e = .returned (.bool true) ∧ Below W.heap.size W w') (h6 : ∀ W : World, Below w.heap.size w W → Calls Tryz.prog 6 #[cv, exL k v nm (.slice ao n ca)] W fun e w' => e = .returned (.tuple #[.int .i64 K, .int .i64 (F : Nat)]) ∧ Below W.heap.size W w') (h7 : ∀ W : World, Below w.heap.size w W → Calls Tryz.prog 7 #[cv, rv, exL k v nm (.slice ao n ca)] W fun e w' => e = .returned (.tuple #[.agg #[.int .i64 0, .int .i64 0, .string ⟨#[]⟩], .int .i64 (F : Nat)]) ∧ Below W.heap.size W w') :
    Calls Tryz.prog 3 #[cv, rv, exL k v nm (.slice ao n ca)] w fun e w' => e = .returned (.bool true) ∧ Below w.heap.size w w' := by
  have b0 := (Below.refl w.heap.size w).alloc (Nat.le_refl _) (.cells #[.int .i64 k, .int .i64 v.k, .int .i64 v.n, .string ⟨v.s.toArray⟩, .string ⟨nm.toArray⟩, .slice ao n ca] 28)
  have hD : ∀ W' : World, Below (w.alloc (.cells #[.int .i64 k, .int .i64 v.k, .int .i64 v.n, .string ⟨v.s.toArray⟩, .string ⟨nm.toArray⟩, .slice ao n ca] 28)).heap.size (w.alloc (.cells #[.int .i64 k, .int .i64 v.k, .int .i64 v.n, .string ⟨v.s.toArray⟩, .string ⟨nm.toArray⟩, .slice ao n ca] 28)) W' → W'.cell? ⟨w.heap.size, 0, none⟩ = some (.int .i64 k) ∧ W'.cell? ⟨w.heap.size, 1, none⟩ = some (.int .i64 v.k) ∧ W'.cell? ⟨w.heap.size, 2, none⟩ = some (.int .i64 v.n) ∧ W'.cell? ⟨w.heap.size, 3, none⟩ = some (.string ⟨v.s.toArray⟩) ∧ W'.cell? ⟨w.heap.size, 4, none⟩ = some (.string ⟨nm.toArray⟩) ∧ W'.cell? ⟨w.heap.size, 5, none⟩ = some (.slice ao n ca) := fun W' hW =>
    ⟨(hW.cell (p := ⟨w.heap.size, 0, none⟩) (by simp)).trans (by simp), (hW.cell (p := ⟨w.heap.size, 1, none⟩) (by simp)).trans (by simp), (hW.cell (p := ⟨w.heap.size, 2, none⟩) (by simp)).trans (by simp), (hW.cell (p := ⟨w.heap.size, 3, none⟩) (by simp)).trans (by simp), (hW.cell (p := ⟨w.heap.size, 4, none⟩) (by simp)).trans (by simp), (hW.cell (p := ⟨w.heap.size, 5, none⟩) (by simp)).trans (by simp)⟩
  have z0 : (w.alloc (.cells #[.int .i64 k, .int .i64 v.k, .int .i64 v.n, .string ⟨v.s.toArray⟩, .string ⟨nm.toArray⟩, .slice ao n ca] 28)).heap.size = w.heap.size + 1 := by simp
  have HD := hide hD
  clear hD
  unfold exL at h6 h7
  go_enter Tryz.func3, Tryz.ntmps3
  go_wp2_with fail
  refine (h4 _).mono ?_
  rintro e w1 ⟨rfl, b1⟩
  have p1 : Below (w.alloc (.cells #[.int .i64 k, .int .i64 v.k, .int .i64 v.n, .string ⟨v.s.toArray⟩, .string ⟨nm.toArray⟩, .slice ao n ca] 28)).heap.size (w.alloc (.cells #[.int .i64 k, .int .i64 v.k, .int .i64 v.n, .string ⟨v.s.toArray⟩, .string ⟨nm.toArray⟩, .slice ao n ca] 28)) w1 := b1
  clear b1 h4
  obtain ⟨d0, d1, d2, d3, d4, d5⟩ := HD.out _ p1
  go_wp2_with fail
  refine (h5 _ (b0.trans (p1.mono (by omega)))).mono ?_
  rintro e w2 ⟨rfl, b2⟩
  have p2 : Below (w.alloc (.cells #[.int .i64 k, .int .i64 v.k, .int .i64 v.n, .string ⟨v.s.toArray⟩, .string ⟨nm.toArray⟩, .slice ao n ca] 28)).heap.size (w.alloc (.cells #[.int .i64 k, .int .i64 v.k, .int .i64 v.n, .string ⟨v.s.toArray⟩, .string ⟨nm.toArray⟩, .slice ao n ca] 28)) w2 := p1.trans (b2.mono (by have := p1.size; omega))
  clear b2 h5
  clear d0 d1 d2 d3 d4 d5
  obtain ⟨d0, d1, d2, d3, d4, d5⟩ := HD.out _ p2
  go_wp2_with fail
  refine (h6 _ (b0.trans (p2.mono (by omega)))).mono ?_
  rintro e w3 ⟨rfl, b3⟩
  have p3 : Below (w.alloc (.cells #[.int .i64 k, .int .i64 v.k, .int .i64 v.n, .string ⟨v.s.toArray⟩, .string ⟨nm.toArray⟩, .slice ao n ca] 28)).heap.size (w.alloc (.cells #[.int .i64 k, .int .i64 v.k, .int .i64 v.n, .string ⟨v.s.toArray⟩, .string ⟨nm.toArray⟩, .slice ao n ca] 28)) w3 := p2.trans (b3.mono (by have := p2.size; omega))
  clear b3 h6
  clear d0 d1 d2 d3 d4 d5
  obtain ⟨d0, d1, d2, d3, d4, d5⟩ := HD.out _ p3
  go_wp2_with fail
  refine (h7 _ (b0.trans (p3.mono (by omega)))).mono ?_
  rintro e w4 ⟨rfl, b4⟩
  have p4 : Below (w.alloc (.cells #[.int .i64 k, .int .i64 v.k, .int .i64 v.n, .string ⟨v.s.toArray⟩, .string ⟨nm.toArray⟩, .slice ao n ca] 28)).heap.size (w.alloc (.cells #[.int .i64 k, .int .i64 v.k, .int .i64 v.n, .string ⟨v.s.toArray⟩, .string ⟨nm.toArray⟩, .slice ao n ca] 28)) w4 := p3.trans (b4.mono (by have := p3.size; omega))
  clear b4 
  obtain ⟨s9, hs9⟩ : ∃ s, w4.heap.size = s := ⟨_, rfl⟩
  have r4a : (w4.alloc (.cells #[.int .i64 0, .int .i64 0, .string ⟨#[]⟩] 25)).heap[s9]? = some (.cells #[.int .i64 0, .int .i64 0, .string ⟨#[]⟩] 25) := by rw [← hs9]; exact heap_alloc_new _ _
  have zs4a : (w4.alloc (.cells #[.int .i64 0, .int .i64 0, .string ⟨#[]⟩] 25)).heap.size = s9 + 1 := by rw [← hs9]; simp
  have p4a : Below (w.alloc (.cells #[.int .i64 k, .int .i64 v.k, .int .i64 v.n, .string ⟨v.s.toArray⟩, .string ⟨nm.toArray⟩, .slice ao n ca] 28)).heap.size (w.alloc (.cells #[.int .i64 k, .int .i64 v.k, .int .i64 v.n, .string ⟨v.s.toArray⟩, .string ⟨nm.toArray⟩, .slice ao n ca] 28)) (w4.alloc (.cells #[.int .i64 0, .int .i64 0, .string ⟨#[]⟩] 25)) := p4.alloc p4.size _
  have q4a : Below w.heap.size w (w4.alloc (.cells #[.int .i64 0, .int .i64 0, .string ⟨#[]⟩] 25)) := b0.trans (p4a.mono (by omega))
  have HS9 := hide hs9
  clear d0 d1 d2 d3 d4 d5
  obtain ⟨d0, d1, d2, d3, d4, d5⟩ := HD.out _ p4a
  obtain ⟨⟨a0, a1, a2⟩, -⟩ := three r4a
  rw [← hs9] at a0 a1 a2
  clear p4 hs9
  go_wp2
  go_ret
  exact ⟨rfl, q4a⟩

set_option maxRecDepth 100000 in
set_option maxHeartbeats 3200000 in
theorem law_row (cv rv : Value) (k : Int) (v : Vl) (nm : List UInt8) (ao : Option Addr) (n ca : Nat) (w : World) (K : Int) (F : Nat) (hF : ((F : Int) != 0) = true) (h4 : ∀ W : World, Calls Tryz.prog 4 #[] W fun e w' => e = .returned (.bool true) ∧ Below W.heap.size W w') (h5 : ∀ W : World, Below w.heap.size w W → Calls Tryz.prog 5 #[cv] W fun e w' => e = .returned (.bool true) ∧ Below W.heap.size W w') (h6 : ∀ W : World, Below w.heap.size w W → Calls Tryz.prog 6 #[cv, exL k v nm (.slice ao n ca)] W fun e w' => e = .returned (.tuple #[.int .i64 K, .int .i64 0]) ∧ Below W.heap.size W w') (h7 : ∀ W : World, Below w.heap.size w W → Calls Tryz.prog 7 #[cv, rv, exL k v nm (.slice ao n ca)] W fun e w' => e = .returned (.tuple #[.agg #[.int .i64 0, .int .i64 0, .string ⟨#[]⟩], .int .i64 (F : Nat)]) ∧ Below W.heap.size W w') :
    Calls Tryz.prog 3 #[cv, rv, exL k v nm (.slice ao n ca)] w fun e w' => e = .returned (.bool true) ∧ Below w.heap.size w w' := by
  have b0 := (Below.refl w.heap.size w).alloc (Nat.le_refl _) (.cells #[.int .i64 k, .int .i64 v.k, .int .i64 v.n, .string ⟨v.s.toArray⟩, .string ⟨nm.toArray⟩, .slice ao n ca] 28)
  have hD : ∀ W' : World, Below (w.alloc (.cells #[.int .i64 k, .int .i64 v.k, .int .i64 v.n, .string ⟨v.s.toArray⟩, .string ⟨nm.toArray⟩, .slice ao n ca] 28)).heap.size (w.alloc (.cells #[.int .i64 k, .int .i64 v.k, .int .i64 v.n, .string ⟨v.s.toArray⟩, .string ⟨nm.toArray⟩, .slice ao n ca] 28)) W' → W'.cell? ⟨w.heap.size, 0, none⟩ = some (.int .i64 k) ∧ W'.cell? ⟨w.heap.size, 1, none⟩ = some (.int .i64 v.k) ∧ W'.cell? ⟨w.heap.size, 2, none⟩ = some (.int .i64 v.n) ∧ W'.cell? ⟨w.heap.size, 3, none⟩ = some (.string ⟨v.s.toArray⟩) ∧ W'.cell? ⟨w.heap.size, 4, none⟩ = some (.string ⟨nm.toArray⟩) ∧ W'.cell? ⟨w.heap.size, 5, none⟩ = some (.slice ao n ca) := fun W' hW =>
    ⟨(hW.cell (p := ⟨w.heap.size, 0, none⟩) (by simp)).trans (by simp), (hW.cell (p := ⟨w.heap.size, 1, none⟩) (by simp)).trans (by simp), (hW.cell (p := ⟨w.heap.size, 2, none⟩) (by simp)).trans (by simp), (hW.cell (p := ⟨w.heap.size, 3, none⟩) (by simp)).trans (by simp), (hW.cell (p := ⟨w.heap.size, 4, none⟩) (by simp)).trans (by simp), (hW.cell (p := ⟨w.heap.size, 5, none⟩) (by simp)).trans (by simp)⟩
  have z0 : (w.alloc (.cells #[.int .i64 k, .int .i64 v.k, .int .i64 v.n, .string ⟨v.s.toArray⟩, .string ⟨nm.toArray⟩, .slice ao n ca] 28)).heap.size = w.heap.size + 1 := by simp
  have HD := hide hD
  clear hD
  unfold exL at h6 h7
  go_enter Tryz.func3, Tryz.ntmps3
  go_wp2_with fail
  refine (h4 _).mono ?_
  rintro e w1 ⟨rfl, b1⟩
  have p1 : Below (w.alloc (.cells #[.int .i64 k, .int .i64 v.k, .int .i64 v.n, .string ⟨v.s.toArray⟩, .string ⟨nm.toArray⟩, .slice ao n ca] 28)).heap.size (w.alloc (.cells #[.int .i64 k, .int .i64 v.k, .int .i64 v.n, .string ⟨v.s.toArray⟩, .string ⟨nm.toArray⟩, .slice ao n ca] 28)) w1 := b1
  clear b1 h4
  obtain ⟨d0, d1, d2, d3, d4, d5⟩ := HD.out _ p1
  go_wp2_with fail
  refine (h5 _ (b0.trans (p1.mono (by omega)))).mono ?_
  rintro e w2 ⟨rfl, b2⟩
  have p2 : Below (w.alloc (.cells #[.int .i64 k, .int .i64 v.k, .int .i64 v.n, .string ⟨v.s.toArray⟩, .string ⟨nm.toArray⟩, .slice ao n ca] 28)).heap.size (w.alloc (.cells #[.int .i64 k, .int .i64 v.k, .int .i64 v.n, .string ⟨v.s.toArray⟩, .string ⟨nm.toArray⟩, .slice ao n ca] 28)) w2 := p1.trans (b2.mono (by have := p1.size; omega))
  clear b2 h5
  clear d0 d1 d2 d3 d4 d5
  obtain ⟨d0, d1, d2, d3, d4, d5⟩ := HD.out _ p2
  go_wp2_with fail
  refine (h6 _ (b0.trans (p2.mono (by omega)))).mono ?_
  rintro e w3 ⟨rfl, b3⟩
  have p3 : Below (w.alloc (.cells #[.int .i64 k, .int .i64 v.k, .int .i64 v.n, .string ⟨v.s.toArray⟩, .string ⟨nm.toArray⟩, .slice ao n ca] 28)).heap.size (w.alloc (.cells #[.int .i64 k, .int .i64 v.k, .int .i64 v.n, .string ⟨v.s.toArray⟩, .string ⟨nm.toArray⟩, .slice ao n ca] 28)) w3 := p2.trans (b3.mono (by have := p2.size; omega))
  clear b3 h6
  clear d0 d1 d2 d3 d4 d5
  obtain ⟨d0, d1, d2, d3, d4, d5⟩ := HD.out _ p3
  go_wp2_with fail
  refine (h7 _ (b0.trans (p3.mono (by omega)))).mono ?_
  rintro e w4 ⟨rfl, b4⟩
  have p4 : Below (w.alloc (.cells #[.int .i64 k, .int .i64 v.k, .int .i64 v.n, .string ⟨v.s.toArray⟩, .string ⟨nm.toArray⟩, .slice ao n ca] 28)).heap.size (w.alloc (.cells #[.int .i64 k, .int .i64 v.k, .int .i64 v.n, .string ⟨v.s.toArray⟩, .string ⟨nm.toArray⟩, .slice ao n ca] 28)) w4 := p3.trans (b4.mono (by have := p3.size; omega))
  clear b4 
  obtain ⟨s9, hs9⟩ : ∃ s, w4.heap.size = s := ⟨_, rfl⟩
  have r4a : (w4.alloc (.cells #[.int .i64 0, .int .i64 0, .string ⟨#[]⟩] 25)).heap[s9]? = some (.cells #[.int .i64 0, .int .i64 0, .string ⟨#[]⟩] 25) := by rw [← hs9]; exact heap_alloc_new _ _
  have zs4a : (w4.alloc (.cells #[.int .i64 0, .int .i64 0, .string ⟨#[]⟩] 25)).heap.size = s9 + 1 := by rw [← hs9]; simp
  have p4a : Below (w.alloc (.cells #[.int .i64 k, .int .i64 v.k, .int .i64 v.n, .string ⟨v.s.toArray⟩, .string ⟨nm.toArray⟩, .slice ao n ca] 28)).heap.size (w.alloc (.cells #[.int .i64 k, .int .i64 v.k, .int .i64 v.n, .string ⟨v.s.toArray⟩, .string ⟨nm.toArray⟩, .slice ao n ca] 28)) (w4.alloc (.cells #[.int .i64 0, .int .i64 0, .string ⟨#[]⟩] 25)) := p4.alloc p4.size _
  have q4a : Below w.heap.size w (w4.alloc (.cells #[.int .i64 0, .int .i64 0, .string ⟨#[]⟩] 25)) := b0.trans (p4a.mono (by omega))
  have HS9 := hide hs9
  clear d0 d1 d2 d3 d4 d5
  obtain ⟨d0, d1, d2, d3, d4, d5⟩ := HD.out _ p4a
  obtain ⟨⟨a0, a1, a2⟩, -⟩ := three r4a
  rw [← hs9] at a0 a1 a2
  clear p4 hs9
  go_wp2
  go_ret
  exact ⟨rfl, q4a⟩

set_option maxRecDepth 100000 in
set_option maxHeartbeats 3200000 in
theorem law_e0 (cv rv : Value) (k : Int) (v : Vl) (nm : List UInt8) (ao : Option Addr) (n ca : Nat) (w : World) (K : Int) (V : Vl) (F : Nat) (hF : ((F : Int) != 0) = true) (k0 : (V.k != 0) = false) (h4 : ∀ W : World, Calls Tryz.prog 4 #[] W fun e w' => e = .returned (.bool true) ∧ Below W.heap.size W w') (h5 : ∀ W : World, Below w.heap.size w W → Calls Tryz.prog 5 #[cv] W fun e w' => e = .returned (.bool true) ∧ Below W.heap.size W w') (h6 : ∀ W : World, Below w.heap.size w W → Calls Tryz.prog 6 #[cv, exL k v nm (.slice ao n ca)] W fun e w' => e = .returned (.tuple #[.int .i64 K, .int .i64 0]) ∧ Below W.heap.size W w') (h7 : ∀ W : World, Below w.heap.size w W → Calls Tryz.prog 7 #[cv, rv, exL k v nm (.slice ao n ca)] W fun e w' => e = .returned (.tuple #[.agg #[.int .i64 V.k, .int .i64 V.n, .string ⟨V.s.toArray⟩], .int .i64 0]) ∧ Below W.heap.size W w') (h8 : ∀ W : World, Below w.heap.size w W → Calls Tryz.prog 8 #[.agg #[.int .i64 V.k, .int .i64 V.n, .string ⟨V.s.toArray⟩]] W fun e w' => e = .returned (.int .i64 0) ∧ Below W.heap.size W w') (hN : ∀ W : World, Below w.heap.size w W → ∀ b, b < W.heap.size → W.heap[b]? = some (.cells #[.int .i64 k, .int .i64 v.k, .int .i64 v.n, .string ⟨v.s.toArray⟩, .string ⟨nm.toArray⟩, .slice ao n ca] 28) → Calls Tryz.prog 7 #[cv, rv, .agg #[.int .i64 3, .int .i64 0, .int .i64 0, .string ⟨#[]⟩, .string ⟨#[]⟩, .slice (some ⟨b, 0, none⟩) 1 1]] W fun e w' => e = .returned (.tuple #[.agg #[.int .i64 0, .int .i64 0, .string ⟨#[]⟩], .int .i64 (F : Nat)]) ∧ Below W.heap.size W w') :
    Calls Tryz.prog 3 #[cv, rv, exL k v nm (.slice ao n ca)] w fun e w' => e = .returned (.bool true) ∧ Below w.heap.size w w' := by
  have b0 := (Below.refl w.heap.size w).alloc (Nat.le_refl _) (.cells #[.int .i64 k, .int .i64 v.k, .int .i64 v.n, .string ⟨v.s.toArray⟩, .string ⟨nm.toArray⟩, .slice ao n ca] 28)
  have hD : ∀ W' : World, Below (w.alloc (.cells #[.int .i64 k, .int .i64 v.k, .int .i64 v.n, .string ⟨v.s.toArray⟩, .string ⟨nm.toArray⟩, .slice ao n ca] 28)).heap.size (w.alloc (.cells #[.int .i64 k, .int .i64 v.k, .int .i64 v.n, .string ⟨v.s.toArray⟩, .string ⟨nm.toArray⟩, .slice ao n ca] 28)) W' → W'.cell? ⟨w.heap.size, 0, none⟩ = some (.int .i64 k) ∧ W'.cell? ⟨w.heap.size, 1, none⟩ = some (.int .i64 v.k) ∧ W'.cell? ⟨w.heap.size, 2, none⟩ = some (.int .i64 v.n) ∧ W'.cell? ⟨w.heap.size, 3, none⟩ = some (.string ⟨v.s.toArray⟩) ∧ W'.cell? ⟨w.heap.size, 4, none⟩ = some (.string ⟨nm.toArray⟩) ∧ W'.cell? ⟨w.heap.size, 5, none⟩ = some (.slice ao n ca) := fun W' hW =>
    ⟨(hW.cell (p := ⟨w.heap.size, 0, none⟩) (by simp)).trans (by simp), (hW.cell (p := ⟨w.heap.size, 1, none⟩) (by simp)).trans (by simp), (hW.cell (p := ⟨w.heap.size, 2, none⟩) (by simp)).trans (by simp), (hW.cell (p := ⟨w.heap.size, 3, none⟩) (by simp)).trans (by simp), (hW.cell (p := ⟨w.heap.size, 4, none⟩) (by simp)).trans (by simp), (hW.cell (p := ⟨w.heap.size, 5, none⟩) (by simp)).trans (by simp)⟩
  have z0 : (w.alloc (.cells #[.int .i64 k, .int .i64 v.k, .int .i64 v.n, .string ⟨v.s.toArray⟩, .string ⟨nm.toArray⟩, .slice ao n ca] 28)).heap.size = w.heap.size + 1 := by simp
  have HD := hide hD
  clear hD
  unfold exL at h6 h7
  go_enter Tryz.func3, Tryz.ntmps3
  go_wp2_with fail
  refine (h4 _).mono ?_
  rintro e w1 ⟨rfl, b1⟩
  have p1 : Below (w.alloc (.cells #[.int .i64 k, .int .i64 v.k, .int .i64 v.n, .string ⟨v.s.toArray⟩, .string ⟨nm.toArray⟩, .slice ao n ca] 28)).heap.size (w.alloc (.cells #[.int .i64 k, .int .i64 v.k, .int .i64 v.n, .string ⟨v.s.toArray⟩, .string ⟨nm.toArray⟩, .slice ao n ca] 28)) w1 := b1
  clear b1 h4
  obtain ⟨d0, d1, d2, d3, d4, d5⟩ := HD.out _ p1
  go_wp2_with fail
  refine (h5 _ (b0.trans (p1.mono (by omega)))).mono ?_
  rintro e w2 ⟨rfl, b2⟩
  have p2 : Below (w.alloc (.cells #[.int .i64 k, .int .i64 v.k, .int .i64 v.n, .string ⟨v.s.toArray⟩, .string ⟨nm.toArray⟩, .slice ao n ca] 28)).heap.size (w.alloc (.cells #[.int .i64 k, .int .i64 v.k, .int .i64 v.n, .string ⟨v.s.toArray⟩, .string ⟨nm.toArray⟩, .slice ao n ca] 28)) w2 := p1.trans (b2.mono (by have := p1.size; omega))
  clear b2 h5
  clear d0 d1 d2 d3 d4 d5
  obtain ⟨d0, d1, d2, d3, d4, d5⟩ := HD.out _ p2
  go_wp2_with fail
  refine (h6 _ (b0.trans (p2.mono (by omega)))).mono ?_
  rintro e w3 ⟨rfl, b3⟩
  have p3 : Below (w.alloc (.cells #[.int .i64 k, .int .i64 v.k, .int .i64 v.n, .string ⟨v.s.toArray⟩, .string ⟨nm.toArray⟩, .slice ao n ca] 28)).heap.size (w.alloc (.cells #[.int .i64 k, .int .i64 v.k, .int .i64 v.n, .string ⟨v.s.toArray⟩, .string ⟨nm.toArray⟩, .slice ao n ca] 28)) w3 := p2.trans (b3.mono (by have := p2.size; omega))
  clear b3 h6
  clear d0 d1 d2 d3 d4 d5
  obtain ⟨d0, d1, d2, d3, d4, d5⟩ := HD.out _ p3
  go_wp2_with fail
  refine (h7 _ (b0.trans (p3.mono (by omega)))).mono ?_
  rintro e w4 ⟨rfl, b4⟩
  have p4 : Below (w.alloc (.cells #[.int .i64 k, .int .i64 v.k, .int .i64 v.n, .string ⟨v.s.toArray⟩, .string ⟨nm.toArray⟩, .slice ao n ca] 28)).heap.size (w.alloc (.cells #[.int .i64 k, .int .i64 v.k, .int .i64 v.n, .string ⟨v.s.toArray⟩, .string ⟨nm.toArray⟩, .slice ao n ca] 28)) w4 := p3.trans (b4.mono (by have := p3.size; omega))
  clear b4 
  obtain ⟨s9, hs9⟩ : ∃ s, w4.heap.size = s := ⟨_, rfl⟩
  have r4a : (w4.alloc (.cells #[.int .i64 V.k, .int .i64 V.n, .string ⟨V.s.toArray⟩] 25)).heap[s9]? = some (.cells #[.int .i64 V.k, .int .i64 V.n, .string ⟨V.s.toArray⟩] 25) := by rw [← hs9]; exact heap_alloc_new _ _
  have zs4a : (w4.alloc (.cells #[.int .i64 V.k, .int .i64 V.n, .string ⟨V.s.toArray⟩] 25)).heap.size = s9 + 1 := by rw [← hs9]; simp
  have p4a : Below (w.alloc (.cells #[.int .i64 k, .int .i64 v.k, .int .i64 v.n, .string ⟨v.s.toArray⟩, .string ⟨nm.toArray⟩, .slice ao n ca] 28)).heap.size (w.alloc (.cells #[.int .i64 k, .int .i64 v.k, .int .i64 v.n, .string ⟨v.s.toArray⟩, .string ⟨nm.toArray⟩, .slice ao n ca] 28)) (w4.alloc (.cells #[.int .i64 V.k, .int .i64 V.n, .string ⟨V.s.toArray⟩] 25)) := p4.alloc p4.size _
  have q4a : Below w.heap.size w (w4.alloc (.cells #[.int .i64 V.k, .int .i64 V.n, .string ⟨V.s.toArray⟩] 25)) := b0.trans (p4a.mono (by omega))
  have HS9 := hide hs9
  clear d0 d1 d2 d3 d4 d5
  obtain ⟨d0, d1, d2, d3, d4, d5⟩ := HD.out _ p4a
  obtain ⟨⟨a0, a1, a2⟩, -⟩ := three r4a
  rw [← hs9] at a0 a1 a2
  clear p4 hs9
  go_wp2_with fail
  rw [HS9.out]
  generalize w4.alloc (.cells #[.int .i64 V.k, .int .i64 V.n, .string ⟨V.s.toArray⟩] 25) = wa at *
  refine (h8 _ q4a).mono ?_
  rintro e w5 ⟨rfl, b5⟩
  have p5 : Below (w.alloc (.cells #[.int .i64 k, .int .i64 v.k, .int .i64 v.n, .string ⟨v.s.toArray⟩, .string ⟨nm.toArray⟩, .slice ao n ca] 28)).heap.size (w.alloc (.cells #[.int .i64 k, .int .i64 v.k, .int .i64 v.n, .string ⟨v.s.toArray⟩, .string ⟨nm.toArray⟩, .slice ao n ca] 28)) w5 := p4a.trans (b5.mono (by have := p4a.size; omega))
  have r5 := (b5.block s9 (by omega)).trans r4a
  have zs5 : s9 < w5.heap.size := by have := b5.size; omega
  clear b5 h8 r4a zs4a p4a q4a d0 d1 d2 d3 d4 d5 a0 a1 a2
  obtain ⟨d0, d1, d2, d3, d4, d5⟩ := HD.out _ p5
  obtain ⟨s11, hs11⟩ : ∃ s, w5.heap.size = s := ⟨_, rfl⟩
  have zA : ((w5.alloc (.cells #[.int .i64 k, .int .i64 v.k, .int .i64 v.n, .string ⟨v.s.toArray⟩, .string ⟨nm.toArray⟩, .slice ao n ca] 28)).alloc (.cells #[.int .i64 3, .int .i64 0, .int .i64 0, .string ⟨#[]⟩, .string ⟨#[]⟩, .slice (some ⟨s11, 0, none⟩) 1 1] 28)).heap.size = s11 + 2 := by rw [← hs11]; simp
  have rA : ((w5.alloc (.cells #[.int .i64 k, .int .i64 v.k, .int .i64 v.n, .string ⟨v.s.toArray⟩, .string ⟨nm.toArray⟩, .slice ao n ca] 28)).alloc (.cells #[.int .i64 3, .int .i64 0, .int .i64 0, .string ⟨#[]⟩, .string ⟨#[]⟩, .slice (some ⟨s11, 0, none⟩) 1 1] 28)).heap[s11]? = some (.cells #[.int .i64 k, .int .i64 v.k, .int .i64 v.n, .string ⟨v.s.toArray⟩, .string ⟨nm.toArray⟩, .slice ao n ca] 28) := by
    rw [← hs11]
    exact (((Below.refl (w5.heap.size + 1) (w5.alloc (.cells #[.int .i64 k, .int .i64 v.k, .int .i64 v.n, .string ⟨v.s.toArray⟩, .string ⟨nm.toArray⟩, .slice ao n ca] 28))).alloc (by simp) (.cells #[.int .i64 3, .int .i64 0, .int .i64 0, .string ⟨#[]⟩, .string ⟨#[]⟩, .slice (some ⟨w5.heap.size, 0, none⟩) 1 1] 28)).block w5.heap.size (by simp)).trans (heap_alloc_new _ _)
  have bA : Below w5.heap.size w5 ((w5.alloc (.cells #[.int .i64 k, .int .i64 v.k, .int .i64 v.n, .string ⟨v.s.toArray⟩, .string ⟨nm.toArray⟩, .slice ao n ca] 28)).alloc (.cells #[.int .i64 3, .int .i64 0, .int .i64 0, .string ⟨#[]⟩, .string ⟨#[]⟩, .slice (some ⟨s11, 0, none⟩) 1 1] 28)) := ((Below.refl w5.heap.size w5).alloc (Nat.le_refl _) _).alloc (by simp) _
  have rA9 := (bA.block s9 zs5).trans r5
  have pA : Below (w.alloc (.cells #[.int .i64 k, .int .i64 v.k, .int .i64 v.n, .string ⟨v.s.toArray⟩, .string ⟨nm.toArray⟩, .slice ao n ca] 28)).heap.size (w.alloc (.cells #[.int .i64 k, .int .i64 v.k, .int .i64 v.n, .string ⟨v.s.toArray⟩, .string ⟨nm.toArray⟩, .slice ao n ca] 28)) ((w5.alloc (.cells #[.int .i64 k, .int .i64 v.k, .int .i64 v.n, .string ⟨v.s.toArray⟩, .string ⟨nm.toArray⟩, .slice ao n ca] 28)).alloc (.cells #[.int .i64 3, .int .i64 0, .int .i64 0, .string ⟨#[]⟩, .string ⟨#[]⟩, .slice (some ⟨s11, 0, none⟩) 1 1] 28)) := p5.trans (bA.mono p5.size)
  have HS11 := hide hs11
  rw [hs11] at zs5
  clear bA p5 hs11
  go_wp2_with fail
  rw [HS11.out]
  generalize ((w5.alloc (.cells #[.int .i64 k, .int .i64 v.k, .int .i64 v.n, .string ⟨v.s.toArray⟩, .string ⟨nm.toArray⟩, .slice ao n ca] 28)).alloc (.cells #[.int .i64 3, .int .i64 0, .int .i64 0, .string ⟨#[]⟩, .string ⟨#[]⟩, .slice (some ⟨s11, 0, none⟩) 1 1] 28)) = wN at *
  refine (hN _ (b0.trans (pA.mono (by omega))) s11 (by omega) rA).mono ?_
  rintro e w6 ⟨rfl, b6⟩
  have p6 : Below (w.alloc (.cells #[.int .i64 k, .int .i64 v.k, .int .i64 v.n, .string ⟨v.s.toArray⟩, .string ⟨nm.toArray⟩, .slice ao n ca] 28)).heap.size (w.alloc (.cells #[.int .i64 k, .int .i64 v.k, .int .i64 v.n, .string ⟨v.s.toArray⟩, .string ⟨nm.toArray⟩, .slice ao n ca] 28)) w6 := pA.trans (b6.mono (by have := pA.size; omega))
  have r6 := (b6.block s9 (by omega)).trans rA9
  have zs6 : s9 < w6.heap.size := by have := b6.size; omega
  clear b6 hN rA rA9 pA zA d0 d1 d2 d3 d4 d5
  obtain ⟨s13, hs13⟩ : ∃ s, w6.heap.size = s := ⟨_, rfl⟩
  have b7 : Below w6.heap.size w6 (w6.alloc (.cells #[.int .i64 0, .int .i64 0, .string ⟨#[]⟩] 25)) := (Below.refl w6.heap.size w6).alloc (Nat.le_refl _) _
  have r7 := (b7.block s9 zs6).trans r6
  have r13 : (w6.alloc (.cells #[.int .i64 0, .int .i64 0, .string ⟨#[]⟩] 25)).heap[w6.heap.size]? = some (.cells #[.int .i64 0, .int .i64 0, .string ⟨#[]⟩] 25) := heap_alloc_new _ _
  have q7 : Below w.heap.size w (w6.alloc (.cells #[.int .i64 0, .int .i64 0, .string ⟨#[]⟩] 25)) := b0.trans ((p6.trans (b7.mono p6.size)).mono (by omega))
  obtain ⟨⟨a0, a1, a2⟩, -⟩ := three r7
  obtain ⟨⟨c0, c1, c2⟩, -⟩ := three r13
  clear r6 r7 r13 b7 p6 hs13 HD
  go_wp2
  go_ret
  exact ⟨rfl, q7⟩

set_option maxRecDepth 100000 in
set_option maxHeartbeats 3200000 in
theorem law_e1 (cv rv : Value) (k : Int) (v : Vl) (nm : List UInt8) (ao : Option Addr) (n ca : Nat) (w : World) (K : Int) (V : Vl) (F : Nat) (hF : ((F : Int) != 0) = true) (k0 : (V.k != 0) = true) (k1 : (V.k != K) = false) (h4 : ∀ W : World, Calls Tryz.prog 4 #[] W fun e w' => e = .returned (.bool true) ∧ Below W.heap.size W w') (h5 : ∀ W : World, Below w.heap.size w W → Calls Tryz.prog 5 #[cv] W fun e w' => e = .returned (.bool true) ∧ Below W.heap.size W w') (h6 : ∀ W : World, Below w.heap.size w W → Calls Tryz.prog 6 #[cv, exL k v nm (.slice ao n ca)] W fun e w' => e = .returned (.tuple #[.int .i64 K, .int .i64 0]) ∧ Below W.heap.size W w') (h7 : ∀ W : World, Below w.heap.size w W → Calls Tryz.prog 7 #[cv, rv, exL k v nm (.slice ao n ca)] W fun e w' => e = .returned (.tuple #[.agg #[.int .i64 V.k, .int .i64 V.n, .string ⟨V.s.toArray⟩], .int .i64 0]) ∧ Below W.heap.size W w') (h8 : ∀ W : World, Below w.heap.size w W → Calls Tryz.prog 8 #[.agg #[.int .i64 V.k, .int .i64 V.n, .string ⟨V.s.toArray⟩]] W fun e w' => e = .returned (.int .i64 0) ∧ Below W.heap.size W w') (hN : ∀ W : World, Below w.heap.size w W → ∀ b, b < W.heap.size → W.heap[b]? = some (.cells #[.int .i64 k, .int .i64 v.k, .int .i64 v.n, .string ⟨v.s.toArray⟩, .string ⟨nm.toArray⟩, .slice ao n ca] 28) → Calls Tryz.prog 7 #[cv, rv, .agg #[.int .i64 3, .int .i64 0, .int .i64 0, .string ⟨#[]⟩, .string ⟨#[]⟩, .slice (some ⟨b, 0, none⟩) 1 1]] W fun e w' => e = .returned (.tuple #[.agg #[.int .i64 0, .int .i64 0, .string ⟨#[]⟩], .int .i64 (F : Nat)]) ∧ Below W.heap.size W w') :
    Calls Tryz.prog 3 #[cv, rv, exL k v nm (.slice ao n ca)] w fun e w' => e = .returned (.bool true) ∧ Below w.heap.size w w' := by
  have b0 := (Below.refl w.heap.size w).alloc (Nat.le_refl _) (.cells #[.int .i64 k, .int .i64 v.k, .int .i64 v.n, .string ⟨v.s.toArray⟩, .string ⟨nm.toArray⟩, .slice ao n ca] 28)
  have hD : ∀ W' : World, Below (w.alloc (.cells #[.int .i64 k, .int .i64 v.k, .int .i64 v.n, .string ⟨v.s.toArray⟩, .string ⟨nm.toArray⟩, .slice ao n ca] 28)).heap.size (w.alloc (.cells #[.int .i64 k, .int .i64 v.k, .int .i64 v.n, .string ⟨v.s.toArray⟩, .string ⟨nm.toArray⟩, .slice ao n ca] 28)) W' → W'.cell? ⟨w.heap.size, 0, none⟩ = some (.int .i64 k) ∧ W'.cell? ⟨w.heap.size, 1, none⟩ = some (.int .i64 v.k) ∧ W'.cell? ⟨w.heap.size, 2, none⟩ = some (.int .i64 v.n) ∧ W'.cell? ⟨w.heap.size, 3, none⟩ = some (.string ⟨v.s.toArray⟩) ∧ W'.cell? ⟨w.heap.size, 4, none⟩ = some (.string ⟨nm.toArray⟩) ∧ W'.cell? ⟨w.heap.size, 5, none⟩ = some (.slice ao n ca) := fun W' hW =>
    ⟨(hW.cell (p := ⟨w.heap.size, 0, none⟩) (by simp)).trans (by simp), (hW.cell (p := ⟨w.heap.size, 1, none⟩) (by simp)).trans (by simp), (hW.cell (p := ⟨w.heap.size, 2, none⟩) (by simp)).trans (by simp), (hW.cell (p := ⟨w.heap.size, 3, none⟩) (by simp)).trans (by simp), (hW.cell (p := ⟨w.heap.size, 4, none⟩) (by simp)).trans (by simp), (hW.cell (p := ⟨w.heap.size, 5, none⟩) (by simp)).trans (by simp)⟩
  have z0 : (w.alloc (.cells #[.int .i64 k, .int .i64 v.k, .int .i64 v.n, .string ⟨v.s.toArray⟩, .string ⟨nm.toArray⟩, .slice ao n ca] 28)).heap.size = w.heap.size + 1 := by simp
  have HD := hide hD
  clear hD
  unfold exL at h6 h7
  go_enter Tryz.func3, Tryz.ntmps3
  go_wp2_with fail
  refine (h4 _).mono ?_
  rintro e w1 ⟨rfl, b1⟩
  have p1 : Below (w.alloc (.cells #[.int .i64 k, .int .i64 v.k, .int .i64 v.n, .string ⟨v.s.toArray⟩, .string ⟨nm.toArray⟩, .slice ao n ca] 28)).heap.size (w.alloc (.cells #[.int .i64 k, .int .i64 v.k, .int .i64 v.n, .string ⟨v.s.toArray⟩, .string ⟨nm.toArray⟩, .slice ao n ca] 28)) w1 := b1
  clear b1 h4
  obtain ⟨d0, d1, d2, d3, d4, d5⟩ := HD.out _ p1
  go_wp2_with fail
  refine (h5 _ (b0.trans (p1.mono (by omega)))).mono ?_
  rintro e w2 ⟨rfl, b2⟩
  have p2 : Below (w.alloc (.cells #[.int .i64 k, .int .i64 v.k, .int .i64 v.n, .string ⟨v.s.toArray⟩, .string ⟨nm.toArray⟩, .slice ao n ca] 28)).heap.size (w.alloc (.cells #[.int .i64 k, .int .i64 v.k, .int .i64 v.n, .string ⟨v.s.toArray⟩, .string ⟨nm.toArray⟩, .slice ao n ca] 28)) w2 := p1.trans (b2.mono (by have := p1.size; omega))
  clear b2 h5
  clear d0 d1 d2 d3 d4 d5
  obtain ⟨d0, d1, d2, d3, d4, d5⟩ := HD.out _ p2
  go_wp2_with fail
  refine (h6 _ (b0.trans (p2.mono (by omega)))).mono ?_
  rintro e w3 ⟨rfl, b3⟩
  have p3 : Below (w.alloc (.cells #[.int .i64 k, .int .i64 v.k, .int .i64 v.n, .string ⟨v.s.toArray⟩, .string ⟨nm.toArray⟩, .slice ao n ca] 28)).heap.size (w.alloc (.cells #[.int .i64 k, .int .i64 v.k, .int .i64 v.n, .string ⟨v.s.toArray⟩, .string ⟨nm.toArray⟩, .slice ao n ca] 28)) w3 := p2.trans (b3.mono (by have := p2.size; omega))
  clear b3 h6
  clear d0 d1 d2 d3 d4 d5
  obtain ⟨d0, d1, d2, d3, d4, d5⟩ := HD.out _ p3
  go_wp2_with fail
  refine (h7 _ (b0.trans (p3.mono (by omega)))).mono ?_
  rintro e w4 ⟨rfl, b4⟩
  have p4 : Below (w.alloc (.cells #[.int .i64 k, .int .i64 v.k, .int .i64 v.n, .string ⟨v.s.toArray⟩, .string ⟨nm.toArray⟩, .slice ao n ca] 28)).heap.size (w.alloc (.cells #[.int .i64 k, .int .i64 v.k, .int .i64 v.n, .string ⟨v.s.toArray⟩, .string ⟨nm.toArray⟩, .slice ao n ca] 28)) w4 := p3.trans (b4.mono (by have := p3.size; omega))
  clear b4 
  obtain ⟨s9, hs9⟩ : ∃ s, w4.heap.size = s := ⟨_, rfl⟩
  have r4a : (w4.alloc (.cells #[.int .i64 V.k, .int .i64 V.n, .string ⟨V.s.toArray⟩] 25)).heap[s9]? = some (.cells #[.int .i64 V.k, .int .i64 V.n, .string ⟨V.s.toArray⟩] 25) := by rw [← hs9]; exact heap_alloc_new _ _
  have zs4a : (w4.alloc (.cells #[.int .i64 V.k, .int .i64 V.n, .string ⟨V.s.toArray⟩] 25)).heap.size = s9 + 1 := by rw [← hs9]; simp
  have p4a : Below (w.alloc (.cells #[.int .i64 k, .int .i64 v.k, .int .i64 v.n, .string ⟨v.s.toArray⟩, .string ⟨nm.toArray⟩, .slice ao n ca] 28)).heap.size (w.alloc (.cells #[.int .i64 k, .int .i64 v.k, .int .i64 v.n, .string ⟨v.s.toArray⟩, .string ⟨nm.toArray⟩, .slice ao n ca] 28)) (w4.alloc (.cells #[.int .i64 V.k, .int .i64 V.n, .string ⟨V.s.toArray⟩] 25)) := p4.alloc p4.size _
  have q4a : Below w.heap.size w (w4.alloc (.cells #[.int .i64 V.k, .int .i64 V.n, .string ⟨V.s.toArray⟩] 25)) := b0.trans (p4a.mono (by omega))
  have HS9 := hide hs9
  clear d0 d1 d2 d3 d4 d5
  obtain ⟨d0, d1, d2, d3, d4, d5⟩ := HD.out _ p4a
  obtain ⟨⟨a0, a1, a2⟩, -⟩ := three r4a
  rw [← hs9] at a0 a1 a2
  clear p4 hs9
  go_wp2_with fail
  rw [HS9.out]
  generalize w4.alloc (.cells #[.int .i64 V.k, .int .i64 V.n, .string ⟨V.s.toArray⟩] 25) = wa at *
  refine (h8 _ q4a).mono ?_
  rintro e w5 ⟨rfl, b5⟩
  have p5 : Below (w.alloc (.cells #[.int .i64 k, .int .i64 v.k, .int .i64 v.n, .string ⟨v.s.toArray⟩, .string ⟨nm.toArray⟩, .slice ao n ca] 28)).heap.size (w.alloc (.cells #[.int .i64 k, .int .i64 v.k, .int .i64 v.n, .string ⟨v.s.toArray⟩, .string ⟨nm.toArray⟩, .slice ao n ca] 28)) w5 := p4a.trans (b5.mono (by have := p4a.size; omega))
  have r5 := (b5.block s9 (by omega)).trans r4a
  have zs5 : s9 < w5.heap.size := by have := b5.size; omega
  clear b5 h8 r4a zs4a p4a q4a d0 d1 d2 d3 d4 d5 a0 a1 a2
  obtain ⟨d0, d1, d2, d3, d4, d5⟩ := HD.out _ p5
  obtain ⟨s11, hs11⟩ : ∃ s, w5.heap.size = s := ⟨_, rfl⟩
  have zA : ((w5.alloc (.cells #[.int .i64 k, .int .i64 v.k, .int .i64 v.n, .string ⟨v.s.toArray⟩, .string ⟨nm.toArray⟩, .slice ao n ca] 28)).alloc (.cells #[.int .i64 3, .int .i64 0, .int .i64 0, .string ⟨#[]⟩, .string ⟨#[]⟩, .slice (some ⟨s11, 0, none⟩) 1 1] 28)).heap.size = s11 + 2 := by rw [← hs11]; simp
  have rA : ((w5.alloc (.cells #[.int .i64 k, .int .i64 v.k, .int .i64 v.n, .string ⟨v.s.toArray⟩, .string ⟨nm.toArray⟩, .slice ao n ca] 28)).alloc (.cells #[.int .i64 3, .int .i64 0, .int .i64 0, .string ⟨#[]⟩, .string ⟨#[]⟩, .slice (some ⟨s11, 0, none⟩) 1 1] 28)).heap[s11]? = some (.cells #[.int .i64 k, .int .i64 v.k, .int .i64 v.n, .string ⟨v.s.toArray⟩, .string ⟨nm.toArray⟩, .slice ao n ca] 28) := by
    rw [← hs11]
    exact (((Below.refl (w5.heap.size + 1) (w5.alloc (.cells #[.int .i64 k, .int .i64 v.k, .int .i64 v.n, .string ⟨v.s.toArray⟩, .string ⟨nm.toArray⟩, .slice ao n ca] 28))).alloc (by simp) (.cells #[.int .i64 3, .int .i64 0, .int .i64 0, .string ⟨#[]⟩, .string ⟨#[]⟩, .slice (some ⟨w5.heap.size, 0, none⟩) 1 1] 28)).block w5.heap.size (by simp)).trans (heap_alloc_new _ _)
  have bA : Below w5.heap.size w5 ((w5.alloc (.cells #[.int .i64 k, .int .i64 v.k, .int .i64 v.n, .string ⟨v.s.toArray⟩, .string ⟨nm.toArray⟩, .slice ao n ca] 28)).alloc (.cells #[.int .i64 3, .int .i64 0, .int .i64 0, .string ⟨#[]⟩, .string ⟨#[]⟩, .slice (some ⟨s11, 0, none⟩) 1 1] 28)) := ((Below.refl w5.heap.size w5).alloc (Nat.le_refl _) _).alloc (by simp) _
  have rA9 := (bA.block s9 zs5).trans r5
  have pA : Below (w.alloc (.cells #[.int .i64 k, .int .i64 v.k, .int .i64 v.n, .string ⟨v.s.toArray⟩, .string ⟨nm.toArray⟩, .slice ao n ca] 28)).heap.size (w.alloc (.cells #[.int .i64 k, .int .i64 v.k, .int .i64 v.n, .string ⟨v.s.toArray⟩, .string ⟨nm.toArray⟩, .slice ao n ca] 28)) ((w5.alloc (.cells #[.int .i64 k, .int .i64 v.k, .int .i64 v.n, .string ⟨v.s.toArray⟩, .string ⟨nm.toArray⟩, .slice ao n ca] 28)).alloc (.cells #[.int .i64 3, .int .i64 0, .int .i64 0, .string ⟨#[]⟩, .string ⟨#[]⟩, .slice (some ⟨s11, 0, none⟩) 1 1] 28)) := p5.trans (bA.mono p5.size)
  have HS11 := hide hs11
  rw [hs11] at zs5
  clear bA p5 hs11
  go_wp2_with fail
  rw [HS11.out]
  generalize ((w5.alloc (.cells #[.int .i64 k, .int .i64 v.k, .int .i64 v.n, .string ⟨v.s.toArray⟩, .string ⟨nm.toArray⟩, .slice ao n ca] 28)).alloc (.cells #[.int .i64 3, .int .i64 0, .int .i64 0, .string ⟨#[]⟩, .string ⟨#[]⟩, .slice (some ⟨s11, 0, none⟩) 1 1] 28)) = wN at *
  refine (hN _ (b0.trans (pA.mono (by omega))) s11 (by omega) rA).mono ?_
  rintro e w6 ⟨rfl, b6⟩
  have p6 : Below (w.alloc (.cells #[.int .i64 k, .int .i64 v.k, .int .i64 v.n, .string ⟨v.s.toArray⟩, .string ⟨nm.toArray⟩, .slice ao n ca] 28)).heap.size (w.alloc (.cells #[.int .i64 k, .int .i64 v.k, .int .i64 v.n, .string ⟨v.s.toArray⟩, .string ⟨nm.toArray⟩, .slice ao n ca] 28)) w6 := pA.trans (b6.mono (by have := pA.size; omega))
  have r6 := (b6.block s9 (by omega)).trans rA9
  have zs6 : s9 < w6.heap.size := by have := b6.size; omega
  clear b6 hN rA rA9 pA zA d0 d1 d2 d3 d4 d5
  obtain ⟨s13, hs13⟩ : ∃ s, w6.heap.size = s := ⟨_, rfl⟩
  have b7 : Below w6.heap.size w6 (w6.alloc (.cells #[.int .i64 0, .int .i64 0, .string ⟨#[]⟩] 25)) := (Below.refl w6.heap.size w6).alloc (Nat.le_refl _) _
  have r7 := (b7.block s9 zs6).trans r6
  have r13 : (w6.alloc (.cells #[.int .i64 0, .int .i64 0, .string ⟨#[]⟩] 25)).heap[w6.heap.size]? = some (.cells #[.int .i64 0, .int .i64 0, .string ⟨#[]⟩] 25) := heap_alloc_new _ _
  have q7 : Below w.heap.size w (w6.alloc (.cells #[.int .i64 0, .int .i64 0, .string ⟨#[]⟩] 25)) := b0.trans ((p6.trans (b7.mono p6.size)).mono (by omega))
  obtain ⟨⟨a0, a1, a2⟩, -⟩ := three r7
  obtain ⟨⟨c0, c1, c2⟩, -⟩ := three r13
  clear r6 r7 r13 b7 p6 hs13 HD
  go_wp2
  go_ret
  exact ⟨rfl, q7⟩

set_option maxRecDepth 100000 in
set_option maxHeartbeats 3200000 in
theorem law_n (cv rv : Value) (k : Int) (v : Vl) (nm : List UInt8) (ao : Option Addr) (n ca : Nat) (w : World) (K : Int) (h4 : ∀ W : World, Calls Tryz.prog 4 #[] W fun e w' => e = .returned (.bool true) ∧ Below W.heap.size W w') (h5 : ∀ W : World, Below w.heap.size w W → Calls Tryz.prog 5 #[cv] W fun e w' => e = .returned (.bool true) ∧ Below W.heap.size W w') (h6 : ∀ W : World, Below w.heap.size w W → Calls Tryz.prog 6 #[cv, exL k v nm (.slice ao n ca)] W fun e w' => e = .returned (.tuple #[.int .i64 K, .int .i64 0]) ∧ Below W.heap.size W w') (h7 : ∀ W : World, Below w.heap.size w W → Calls Tryz.prog 7 #[cv, rv, exL k v nm (.slice ao n ca)] W fun e w' => e = .returned (.tuple #[.agg #[.int .i64 0, .int .i64 0, .string ⟨#[]⟩], .int .i64 0]) ∧ Below W.heap.size W w') (h8 : ∀ W : World, Below w.heap.size w W → Calls Tryz.prog 8 #[.agg #[.int .i64 0, .int .i64 0, .string ⟨#[]⟩]] W fun e w' => e = .returned (.int .i64 0) ∧ Below W.heap.size W w') (hN : ∀ W : World, Below w.heap.size w W → ∀ b, b < W.heap.size → W.heap[b]? = some (.cells #[.int .i64 k, .int .i64 v.k, .int .i64 v.n, .string ⟨v.s.toArray⟩, .string ⟨nm.toArray⟩, .slice ao n ca] 28) → Calls Tryz.prog 7 #[cv, rv, .agg #[.int .i64 3, .int .i64 0, .int .i64 0, .string ⟨#[]⟩, .string ⟨#[]⟩, .slice (some ⟨b, 0, none⟩) 1 1]] W fun e w' => e = .returned (.tuple #[.agg #[.int .i64 0, .int .i64 0, .string ⟨#[]⟩], .int .i64 0]) ∧ Below W.heap.size W w') :
    Calls Tryz.prog 3 #[cv, rv, exL k v nm (.slice ao n ca)] w fun e w' => e = .returned (.bool true) ∧ Below w.heap.size w w' := by
  have b0 := (Below.refl w.heap.size w).alloc (Nat.le_refl _) (.cells #[.int .i64 k, .int .i64 v.k, .int .i64 v.n, .string ⟨v.s.toArray⟩, .string ⟨nm.toArray⟩, .slice ao n ca] 28)
  have hD : ∀ W' : World, Below (w.alloc (.cells #[.int .i64 k, .int .i64 v.k, .int .i64 v.n, .string ⟨v.s.toArray⟩, .string ⟨nm.toArray⟩, .slice ao n ca] 28)).heap.size (w.alloc (.cells #[.int .i64 k, .int .i64 v.k, .int .i64 v.n, .string ⟨v.s.toArray⟩, .string ⟨nm.toArray⟩, .slice ao n ca] 28)) W' → W'.cell? ⟨w.heap.size, 0, none⟩ = some (.int .i64 k) ∧ W'.cell? ⟨w.heap.size, 1, none⟩ = some (.int .i64 v.k) ∧ W'.cell? ⟨w.heap.size, 2, none⟩ = some (.int .i64 v.n) ∧ W'.cell? ⟨w.heap.size, 3, none⟩ = some (.string ⟨v.s.toArray⟩) ∧ W'.cell? ⟨w.heap.size, 4, none⟩ = some (.string ⟨nm.toArray⟩) ∧ W'.cell? ⟨w.heap.size, 5, none⟩ = some (.slice ao n ca) := fun W' hW =>
    ⟨(hW.cell (p := ⟨w.heap.size, 0, none⟩) (by simp)).trans (by simp), (hW.cell (p := ⟨w.heap.size, 1, none⟩) (by simp)).trans (by simp), (hW.cell (p := ⟨w.heap.size, 2, none⟩) (by simp)).trans (by simp), (hW.cell (p := ⟨w.heap.size, 3, none⟩) (by simp)).trans (by simp), (hW.cell (p := ⟨w.heap.size, 4, none⟩) (by simp)).trans (by simp), (hW.cell (p := ⟨w.heap.size, 5, none⟩) (by simp)).trans (by simp)⟩
  have z0 : (w.alloc (.cells #[.int .i64 k, .int .i64 v.k, .int .i64 v.n, .string ⟨v.s.toArray⟩, .string ⟨nm.toArray⟩, .slice ao n ca] 28)).heap.size = w.heap.size + 1 := by simp
  have HD := hide hD
  clear hD
  unfold exL at h6 h7
  go_enter Tryz.func3, Tryz.ntmps3
  go_wp2_with fail
  refine (h4 _).mono ?_
  rintro e w1 ⟨rfl, b1⟩
  have p1 : Below (w.alloc (.cells #[.int .i64 k, .int .i64 v.k, .int .i64 v.n, .string ⟨v.s.toArray⟩, .string ⟨nm.toArray⟩, .slice ao n ca] 28)).heap.size (w.alloc (.cells #[.int .i64 k, .int .i64 v.k, .int .i64 v.n, .string ⟨v.s.toArray⟩, .string ⟨nm.toArray⟩, .slice ao n ca] 28)) w1 := b1
  clear b1 h4
  obtain ⟨d0, d1, d2, d3, d4, d5⟩ := HD.out _ p1
  go_wp2_with fail
  refine (h5 _ (b0.trans (p1.mono (by omega)))).mono ?_
  rintro e w2 ⟨rfl, b2⟩
  have p2 : Below (w.alloc (.cells #[.int .i64 k, .int .i64 v.k, .int .i64 v.n, .string ⟨v.s.toArray⟩, .string ⟨nm.toArray⟩, .slice ao n ca] 28)).heap.size (w.alloc (.cells #[.int .i64 k, .int .i64 v.k, .int .i64 v.n, .string ⟨v.s.toArray⟩, .string ⟨nm.toArray⟩, .slice ao n ca] 28)) w2 := p1.trans (b2.mono (by have := p1.size; omega))
  clear b2 h5
  clear d0 d1 d2 d3 d4 d5
  obtain ⟨d0, d1, d2, d3, d4, d5⟩ := HD.out _ p2
  go_wp2_with fail
  refine (h6 _ (b0.trans (p2.mono (by omega)))).mono ?_
  rintro e w3 ⟨rfl, b3⟩
  have p3 : Below (w.alloc (.cells #[.int .i64 k, .int .i64 v.k, .int .i64 v.n, .string ⟨v.s.toArray⟩, .string ⟨nm.toArray⟩, .slice ao n ca] 28)).heap.size (w.alloc (.cells #[.int .i64 k, .int .i64 v.k, .int .i64 v.n, .string ⟨v.s.toArray⟩, .string ⟨nm.toArray⟩, .slice ao n ca] 28)) w3 := p2.trans (b3.mono (by have := p2.size; omega))
  clear b3 h6
  clear d0 d1 d2 d3 d4 d5
  obtain ⟨d0, d1, d2, d3, d4, d5⟩ := HD.out _ p3
  go_wp2_with fail
  refine (h7 _ (b0.trans (p3.mono (by omega)))).mono ?_
  rintro e w4 ⟨rfl, b4⟩
  have p4 : Below (w.alloc (.cells #[.int .i64 k, .int .i64 v.k, .int .i64 v.n, .string ⟨v.s.toArray⟩, .string ⟨nm.toArray⟩, .slice ao n ca] 28)).heap.size (w.alloc (.cells #[.int .i64 k, .int .i64 v.k, .int .i64 v.n, .string ⟨v.s.toArray⟩, .string ⟨nm.toArray⟩, .slice ao n ca] 28)) w4 := p3.trans (b4.mono (by have := p3.size; omega))
  clear b4 
  obtain ⟨s9, hs9⟩ : ∃ s, w4.heap.size = s := ⟨_, rfl⟩
  have r4a : (w4.alloc (.cells #[.int .i64 0, .int .i64 0, .string ⟨#[]⟩] 25)).heap[s9]? = some (.cells #[.int .i64 0, .int .i64 0, .string ⟨#[]⟩] 25) := by rw [← hs9]; exact heap_alloc_new _ _
  have zs4a : (w4.alloc (.cells #[.int .i64 0, .int .i64 0, .string ⟨#[]⟩] 25)).heap.size = s9 + 1 := by rw [← hs9]; simp
  have p4a : Below (w.alloc (.cells #[.int .i64 k, .int .i64 v.k, .int .i64 v.n, .string ⟨v.s.toArray⟩, .string ⟨nm.toArray⟩, .slice ao n ca] 28)).heap.size (w.alloc (.cells #[.int .i64 k, .int .i64 v.k, .int .i64 v.n, .string ⟨v.s.toArray⟩, .string ⟨nm.toArray⟩, .slice ao n ca] 28)) (w4.alloc (.cells #[.int .i64 0, .int .i64 0, .string ⟨#[]⟩] 25)) := p4.alloc p4.size _
  have q4a : Below w.heap.size w (w4.alloc (.cells #[.int .i64 0, .int .i64 0, .string ⟨#[]⟩] 25)) := b0.trans (p4a.mono (by omega))
  have HS9 := hide hs9
  clear d0 d1 d2 d3 d4 d5
  obtain ⟨d0, d1, d2, d3, d4, d5⟩ := HD.out _ p4a
  obtain ⟨⟨a0, a1, a2⟩, -⟩ := three r4a
  rw [← hs9] at a0 a1 a2
  clear p4 hs9
  go_wp2_with fail
  rw [HS9.out]
  generalize w4.alloc (.cells #[.int .i64 0, .int .i64 0, .string ⟨#[]⟩] 25) = wa at *
  refine (h8 _ q4a).mono ?_
  rintro e w5 ⟨rfl, b5⟩
  have p5 : Below (w.alloc (.cells #[.int .i64 k, .int .i64 v.k, .int .i64 v.n, .string ⟨v.s.toArray⟩, .string ⟨nm.toArray⟩, .slice ao n ca] 28)).heap.size (w.alloc (.cells #[.int .i64 k, .int .i64 v.k, .int .i64 v.n, .string ⟨v.s.toArray⟩, .string ⟨nm.toArray⟩, .slice ao n ca] 28)) w5 := p4a.trans (b5.mono (by have := p4a.size; omega))
  have r5 := (b5.block s9 (by omega)).trans r4a
  have zs5 : s9 < w5.heap.size := by have := b5.size; omega
  clear b5 h8 r4a zs4a p4a q4a d0 d1 d2 d3 d4 d5 a0 a1 a2
  obtain ⟨d0, d1, d2, d3, d4, d5⟩ := HD.out _ p5
  obtain ⟨s11, hs11⟩ : ∃ s, w5.heap.size = s := ⟨_, rfl⟩
  have zA : ((w5.alloc (.cells #[.int .i64 k, .int .i64 v.k, .int .i64 v.n, .string ⟨v.s.toArray⟩, .string ⟨nm.toArray⟩, .slice ao n ca] 28)).alloc (.cells #[.int .i64 3, .int .i64 0, .int .i64 0, .string ⟨#[]⟩, .string ⟨#[]⟩, .slice (some ⟨s11, 0, none⟩) 1 1] 28)).heap.size = s11 + 2 := by rw [← hs11]; simp
  have rA : ((w5.alloc (.cells #[.int .i64 k, .int .i64 v.k, .int .i64 v.n, .string ⟨v.s.toArray⟩, .string ⟨nm.toArray⟩, .slice ao n ca] 28)).alloc (.cells #[.int .i64 3, .int .i64 0, .int .i64 0, .string ⟨#[]⟩, .string ⟨#[]⟩, .slice (some ⟨s11, 0, none⟩) 1 1] 28)).heap[s11]? = some (.cells #[.int .i64 k, .int .i64 v.k, .int .i64 v.n, .string ⟨v.s.toArray⟩, .string ⟨nm.toArray⟩, .slice ao n ca] 28) := by
    rw [← hs11]
    exact (((Below.refl (w5.heap.size + 1) (w5.alloc (.cells #[.int .i64 k, .int .i64 v.k, .int .i64 v.n, .string ⟨v.s.toArray⟩, .string ⟨nm.toArray⟩, .slice ao n ca] 28))).alloc (by simp) (.cells #[.int .i64 3, .int .i64 0, .int .i64 0, .string ⟨#[]⟩, .string ⟨#[]⟩, .slice (some ⟨w5.heap.size, 0, none⟩) 1 1] 28)).block w5.heap.size (by simp)).trans (heap_alloc_new _ _)
  have bA : Below w5.heap.size w5 ((w5.alloc (.cells #[.int .i64 k, .int .i64 v.k, .int .i64 v.n, .string ⟨v.s.toArray⟩, .string ⟨nm.toArray⟩, .slice ao n ca] 28)).alloc (.cells #[.int .i64 3, .int .i64 0, .int .i64 0, .string ⟨#[]⟩, .string ⟨#[]⟩, .slice (some ⟨s11, 0, none⟩) 1 1] 28)) := ((Below.refl w5.heap.size w5).alloc (Nat.le_refl _) _).alloc (by simp) _
  have rA9 := (bA.block s9 zs5).trans r5
  have pA : Below (w.alloc (.cells #[.int .i64 k, .int .i64 v.k, .int .i64 v.n, .string ⟨v.s.toArray⟩, .string ⟨nm.toArray⟩, .slice ao n ca] 28)).heap.size (w.alloc (.cells #[.int .i64 k, .int .i64 v.k, .int .i64 v.n, .string ⟨v.s.toArray⟩, .string ⟨nm.toArray⟩, .slice ao n ca] 28)) ((w5.alloc (.cells #[.int .i64 k, .int .i64 v.k, .int .i64 v.n, .string ⟨v.s.toArray⟩, .string ⟨nm.toArray⟩, .slice ao n ca] 28)).alloc (.cells #[.int .i64 3, .int .i64 0, .int .i64 0, .string ⟨#[]⟩, .string ⟨#[]⟩, .slice (some ⟨s11, 0, none⟩) 1 1] 28)) := p5.trans (bA.mono p5.size)
  have HS11 := hide hs11
  rw [hs11] at zs5
  clear bA p5 hs11
  go_wp2_with fail
  rw [HS11.out]
  generalize ((w5.alloc (.cells #[.int .i64 k, .int .i64 v.k, .int .i64 v.n, .string ⟨v.s.toArray⟩, .string ⟨nm.toArray⟩, .slice ao n ca] 28)).alloc (.cells #[.int .i64 3, .int .i64 0, .int .i64 0, .string ⟨#[]⟩, .string ⟨#[]⟩, .slice (some ⟨s11, 0, none⟩) 1 1] 28)) = wN at *
  refine (hN _ (b0.trans (pA.mono (by omega))) s11 (by omega) rA).mono ?_
  rintro e w6 ⟨rfl, b6⟩
  have p6 : Below (w.alloc (.cells #[.int .i64 k, .int .i64 v.k, .int .i64 v.n, .string ⟨v.s.toArray⟩, .string ⟨nm.toArray⟩, .slice ao n ca] 28)).heap.size (w.alloc (.cells #[.int .i64 k, .int .i64 v.k, .int .i64 v.n, .string ⟨v.s.toArray⟩, .string ⟨nm.toArray⟩, .slice ao n ca] 28)) w6 := pA.trans (b6.mono (by have := pA.size; omega))
  have r6 := (b6.block s9 (by omega)).trans rA9
  have zs6 : s9 < w6.heap.size := by have := b6.size; omega
  clear b6 hN rA rA9 pA zA d0 d1 d2 d3 d4 d5
  obtain ⟨s13, hs13⟩ : ∃ s, w6.heap.size = s := ⟨_, rfl⟩
  have b7 : Below w6.heap.size w6 (w6.alloc (.cells #[.int .i64 0, .int .i64 0, .string ⟨#[]⟩] 25)) := (Below.refl w6.heap.size w6).alloc (Nat.le_refl _) _
  have r7 := (b7.block s9 zs6).trans r6
  have r13 : (w6.alloc (.cells #[.int .i64 0, .int .i64 0, .string ⟨#[]⟩] 25)).heap[w6.heap.size]? = some (.cells #[.int .i64 0, .int .i64 0, .string ⟨#[]⟩] 25) := heap_alloc_new _ _
  have q7 : Below w.heap.size w (w6.alloc (.cells #[.int .i64 0, .int .i64 0, .string ⟨#[]⟩] 25)) := b0.trans ((p6.trans (b7.mono p6.size)).mono (by omega))
  obtain ⟨⟨a0, a1, a2⟩, -⟩ := three r7
  obtain ⟨⟨c0, c1, c2⟩, -⟩ := three r13
  clear r6 r7 r13 b7 p6 hs13 HD
  go_wp2
  go_ret
  exact ⟨rfl, q7⟩

set_option maxRecDepth 100000 in
set_option maxHeartbeats 3200000 in
theorem law_t (cv rv : Value) (k : Int) (v : Vl) (nm : List UInt8) (ao : Option Addr) (n ca : Nat) (w : World) (K : Int) (hK : (3 != K) = false) (h4 : ∀ W : World, Calls Tryz.prog 4 #[] W fun e w' => e = .returned (.bool true) ∧ Below W.heap.size W w') (h5 : ∀ W : World, Below w.heap.size w W → Calls Tryz.prog 5 #[cv] W fun e w' => e = .returned (.bool true) ∧ Below W.heap.size W w') (h6 : ∀ W : World, Below w.heap.size w W → Calls Tryz.prog 6 #[cv, exL k v nm (.slice ao n ca)] W fun e w' => e = .returned (.tuple #[.int .i64 K, .int .i64 0]) ∧ Below W.heap.size W w') (h7 : ∀ W : World, Below w.heap.size w W → Calls Tryz.prog 7 #[cv, rv, exL k v nm (.slice ao n ca)] W fun e w' => e = .returned (.tuple #[.agg #[.int .i64 3, .int .i64 1, .string ⟨#[]⟩], .int .i64 0]) ∧ Below W.heap.size W w') (h8 : ∀ W : World, Below w.heap.size w W → Calls Tryz.prog 8 #[.agg #[.int .i64 3, .int .i64 1, .string ⟨#[]⟩]] W fun e w' => e = .returned (.int .i64 0) ∧ Below W.heap.size W w') (hN : ∀ W : World, Below w.heap.size w W → ∀ b, b < W.heap.size → W.heap[b]? = some (.cells #[.int .i64 k, .int .i64 v.k, .int .i64 v.n, .string ⟨v.s.toArray⟩, .string ⟨nm.toArray⟩, .slice ao n ca] 28) → Calls Tryz.prog 7 #[cv, rv, .agg #[.int .i64 3, .int .i64 0, .int .i64 0, .string ⟨#[]⟩, .string ⟨#[]⟩, .slice (some ⟨b, 0, none⟩) 1 1]] W fun e w' => e = .returned (.tuple #[.agg #[.int .i64 3, .int .i64 0, .string ⟨#[]⟩], .int .i64 0]) ∧ Below W.heap.size W w') :
    Calls Tryz.prog 3 #[cv, rv, exL k v nm (.slice ao n ca)] w fun e w' => e = .returned (.bool true) ∧ Below w.heap.size w w' := by
  have b0 := (Below.refl w.heap.size w).alloc (Nat.le_refl _) (.cells #[.int .i64 k, .int .i64 v.k, .int .i64 v.n, .string ⟨v.s.toArray⟩, .string ⟨nm.toArray⟩, .slice ao n ca] 28)
  have hD : ∀ W' : World, Below (w.alloc (.cells #[.int .i64 k, .int .i64 v.k, .int .i64 v.n, .string ⟨v.s.toArray⟩, .string ⟨nm.toArray⟩, .slice ao n ca] 28)).heap.size (w.alloc (.cells #[.int .i64 k, .int .i64 v.k, .int .i64 v.n, .string ⟨v.s.toArray⟩, .string ⟨nm.toArray⟩, .slice ao n ca] 28)) W' → W'.cell? ⟨w.heap.size, 0, none⟩ = some (.int .i64 k) ∧ W'.cell? ⟨w.heap.size, 1, none⟩ = some (.int .i64 v.k) ∧ W'.cell? ⟨w.heap.size, 2, none⟩ = some (.int .i64 v.n) ∧ W'.cell? ⟨w.heap.size, 3, none⟩ = some (.string ⟨v.s.toArray⟩) ∧ W'.cell? ⟨w.heap.size, 4, none⟩ = some (.string ⟨nm.toArray⟩) ∧ W'.cell? ⟨w.heap.size, 5, none⟩ = some (.slice ao n ca) := fun W' hW =>
    ⟨(hW.cell (p := ⟨w.heap.size, 0, none⟩) (by simp)).trans (by simp), (hW.cell (p := ⟨w.heap.size, 1, none⟩) (by simp)).trans (by simp), (hW.cell (p := ⟨w.heap.size, 2, none⟩) (by simp)).trans (by simp), (hW.cell (p := ⟨w.heap.size, 3, none⟩) (by simp)).trans (by simp), (hW.cell (p := ⟨w.heap.size, 4, none⟩) (by simp)).trans (by simp), (hW.cell (p := ⟨w.heap.size, 5, none⟩) (by simp)).trans (by simp)⟩
  have z0 : (w.alloc (.cells #[.int .i64 k, .int .i64 v.k, .int .i64 v.n, .string ⟨v.s.toArray⟩, .string ⟨nm.toArray⟩, .slice ao n ca] 28)).heap.size = w.heap.size + 1 := by simp
  have HD := hide hD
  clear hD
  unfold exL at h6 h7
  go_enter Tryz.func3, Tryz.ntmps3
  go_wp2_with fail
  refine (h4 _).mono ?_
  rintro e w1 ⟨rfl, b1⟩
  have p1 : Below (w.alloc (.cells #[.int .i64 k, .int .i64 v.k, .int .i64 v.n, .string ⟨v.s.toArray⟩, .string ⟨nm.toArray⟩, .slice ao n ca] 28)).heap.size (w.alloc (.cells #[.int .i64 k, .int .i64 v.k, .int .i64 v.n, .string ⟨v.s.toArray⟩, .string ⟨nm.toArray⟩, .slice ao n ca] 28)) w1 := b1
  clear b1 h4
  obtain ⟨d0, d1, d2, d3, d4, d5⟩ := HD.out _ p1
  go_wp2_with fail
  refine (h5 _ (b0.trans (p1.mono (by omega)))).mono ?_
  rintro e w2 ⟨rfl, b2⟩
  have p2 : Below (w.alloc (.cells #[.int .i64 k, .int .i64 v.k, .int .i64 v.n, .string ⟨v.s.toArray⟩, .string ⟨nm.toArray⟩, .slice ao n ca] 28)).heap.size (w.alloc (.cells #[.int .i64 k, .int .i64 v.k, .int .i64 v.n, .string ⟨v.s.toArray⟩, .string ⟨nm.toArray⟩, .slice ao n ca] 28)) w2 := p1.trans (b2.mono (by have := p1.size; omega))
  clear b2 h5
  clear d0 d1 d2 d3 d4 d5
  obtain ⟨d0, d1, d2, d3, d4, d5⟩ := HD.out _ p2
  go_wp2_with fail
  refine (h6 _ (b0.trans (p2.mono (by omega)))).mono ?_
  rintro e w3 ⟨rfl, b3⟩
  have p3 : Below (w.alloc (.cells #[.int .i64 k, .int .i64 v.k, .int .i64 v.n, .string ⟨v.s.toArray⟩, .string ⟨nm.toArray⟩, .slice ao n ca] 28)).heap.size (w.alloc (.cells #[.int .i64 k, .int .i64 v.k, .int .i64 v.n, .string ⟨v.s.toArray⟩, .string ⟨nm.toArray⟩, .slice ao n ca] 28)) w3 := p2.trans (b3.mono (by have := p2.size; omega))
  clear b3 h6
  clear d0 d1 d2 d3 d4 d5
  obtain ⟨d0, d1, d2, d3, d4, d5⟩ := HD.out _ p3
  go_wp2_with fail
  refine (h7 _ (b0.trans (p3.mono (by omega)))).mono ?_
  rintro e w4 ⟨rfl, b4⟩
  have p4 : Below (w.alloc (.cells #[.int .i64 k, .int .i64 v.k, .int .i64 v.n, .string ⟨v.s.toArray⟩, .string ⟨nm.toArray⟩, .slice ao n ca] 28)).heap.size (w.alloc (.cells #[.int .i64 k, .int .i64 v.k, .int .i64 v.n, .string ⟨v.s.toArray⟩, .string ⟨nm.toArray⟩, .slice ao n ca] 28)) w4 := p3.trans (b4.mono (by have := p3.size; omega))
  clear b4 
  obtain ⟨s9, hs9⟩ : ∃ s, w4.heap.size = s := ⟨_, rfl⟩
  have r4a : (w4.alloc (.cells #[.int .i64 3, .int .i64 1, .string ⟨#[]⟩] 25)).heap[s9]? = some (.cells #[.int .i64 3, .int .i64 1, .string ⟨#[]⟩] 25) := by rw [← hs9]; exact heap_alloc_new _ _
  have zs4a : (w4.alloc (.cells #[.int .i64 3, .int .i64 1, .string ⟨#[]⟩] 25)).heap.size = s9 + 1 := by rw [← hs9]; simp
  have p4a : Below (w.alloc (.cells #[.int .i64 k, .int .i64 v.k, .int .i64 v.n, .string ⟨v.s.toArray⟩, .string ⟨nm.toArray⟩, .slice ao n ca] 28)).heap.size (w.alloc (.cells #[.int .i64 k, .int .i64 v.k, .int .i64 v.n, .string ⟨v.s.toArray⟩, .string ⟨nm.toArray⟩, .slice ao n ca] 28)) (w4.alloc (.cells #[.int .i64 3, .int .i64 1, .string ⟨#[]⟩] 25)) := p4.alloc p4.size _
  have q4a : Below w.heap.size w (w4.alloc (.cells #[.int .i64 3, .int .i64 1, .string ⟨#[]⟩] 25)) := b0.trans (p4a.mono (by omega))
  have HS9 := hide hs9
  clear d0 d1 d2 d3 d4 d5
  obtain ⟨d0, d1, d2, d3, d4, d5⟩ := HD.out _ p4a
  obtain ⟨⟨a0, a1, a2⟩, -⟩ := three r4a
  rw [← hs9] at a0 a1 a2
  clear p4 hs9
  go_wp2_with fail
  rw [HS9.out]
  generalize w4.alloc (.cells #[.int .i64 3, .int .i64 1, .string ⟨#[]⟩] 25) = wa at *
  refine (h8 _ q4a).mono ?_
  rintro e w5 ⟨rfl, b5⟩
  have p5 : Below (w.alloc (.cells #[.int .i64 k, .int .i64 v.k, .int .i64 v.n, .string ⟨v.s.toArray⟩, .string ⟨nm.toArray⟩, .slice ao n ca] 28)).heap.size (w.alloc (.cells #[.int .i64 k, .int .i64 v.k, .int .i64 v.n, .string ⟨v.s.toArray⟩, .string ⟨nm.toArray⟩, .slice ao n ca] 28)) w5 := p4a.trans (b5.mono (by have := p4a.size; omega))
  have r5 := (b5.block s9 (by omega)).trans r4a
  have zs5 : s9 < w5.heap.size := by have := b5.size; omega
  clear b5 h8 r4a zs4a p4a q4a d0 d1 d2 d3 d4 d5 a0 a1 a2
  obtain ⟨d0, d1, d2, d3, d4, d5⟩ := HD.out _ p5
  obtain ⟨s11, hs11⟩ : ∃ s, w5.heap.size = s := ⟨_, rfl⟩
  have zA : ((w5.alloc (.cells #[.int .i64 k, .int .i64 v.k, .int .i64 v.n, .string ⟨v.s.toArray⟩, .string ⟨nm.toArray⟩, .slice ao n ca] 28)).alloc (.cells #[.int .i64 3, .int .i64 0, .int .i64 0, .string ⟨#[]⟩, .string ⟨#[]⟩, .slice (some ⟨s11, 0, none⟩) 1 1] 28)).heap.size = s11 + 2 := by rw [← hs11]; simp
  have rA : ((w5.alloc (.cells #[.int .i64 k, .int .i64 v.k, .int .i64 v.n, .string ⟨v.s.toArray⟩, .string ⟨nm.toArray⟩, .slice ao n ca] 28)).alloc (.cells #[.int .i64 3, .int .i64 0, .int .i64 0, .string ⟨#[]⟩, .string ⟨#[]⟩, .slice (some ⟨s11, 0, none⟩) 1 1] 28)).heap[s11]? = some (.cells #[.int .i64 k, .int .i64 v.k, .int .i64 v.n, .string ⟨v.s.toArray⟩, .string ⟨nm.toArray⟩, .slice ao n ca] 28) := by
    rw [← hs11]
    exact (((Below.refl (w5.heap.size + 1) (w5.alloc (.cells #[.int .i64 k, .int .i64 v.k, .int .i64 v.n, .string ⟨v.s.toArray⟩, .string ⟨nm.toArray⟩, .slice ao n ca] 28))).alloc (by simp) (.cells #[.int .i64 3, .int .i64 0, .int .i64 0, .string ⟨#[]⟩, .string ⟨#[]⟩, .slice (some ⟨w5.heap.size, 0, none⟩) 1 1] 28)).block w5.heap.size (by simp)).trans (heap_alloc_new _ _)
  have bA : Below w5.heap.size w5 ((w5.alloc (.cells #[.int .i64 k, .int .i64 v.k, .int .i64 v.n, .string ⟨v.s.toArray⟩, .string ⟨nm.toArray⟩, .slice ao n ca] 28)).alloc (.cells #[.int .i64 3, .int .i64 0, .int .i64 0, .string ⟨#[]⟩, .string ⟨#[]⟩, .slice (some ⟨s11, 0, none⟩) 1 1] 28)) := ((Below.refl w5.heap.size w5).alloc (Nat.le_refl _) _).alloc (by simp) _
  have rA9 := (bA.block s9 zs5).trans r5
  have pA : Below (w.alloc (.cells #[.int .i64 k, .int .i64 v.k, .int .i64 v.n, .string ⟨v.s.toArray⟩, .string ⟨nm.toArray⟩, .slice ao n ca] 28)).heap.size (w.alloc (.cells #[.int .i64 k, .int .i64 v.k, .int .i64 v.n, .string ⟨v.s.toArray⟩, .string ⟨nm.toArray⟩, .slice ao n ca] 28)) ((w5.alloc (.cells #[.int .i64 k, .int .i64 v.k, .int .i64 v.n, .string ⟨v.s.toArray⟩, .string ⟨nm.toArray⟩, .slice ao n ca] 28)).alloc (.cells #[.int .i64 3, .int .i64 0, .int .i64 0, .string ⟨#[]⟩, .string ⟨#[]⟩, .slice (some ⟨s11, 0, none⟩) 1 1] 28)) := p5.trans (bA.mono p5.size)
  have HS11 := hide hs11
  rw [hs11] at zs5
  clear bA p5 hs11
  go_wp2_with fail
  rw [HS11.out]
  generalize ((w5.alloc (.cells #[.int .i64 k, .int .i64 v.k, .int .i64 v.n, .string ⟨v.s.toArray⟩, .string ⟨nm.toArray⟩, .slice ao n ca] 28)).alloc (.cells #[.int .i64 3, .int .i64 0, .int .i64 0, .string ⟨#[]⟩, .string ⟨#[]⟩, .slice (some ⟨s11, 0, none⟩) 1 1] 28)) = wN at *
  refine (hN _ (b0.trans (pA.mono (by omega))) s11 (by omega) rA).mono ?_
  rintro e w6 ⟨rfl, b6⟩
  have p6 : Below (w.alloc (.cells #[.int .i64 k, .int .i64 v.k, .int .i64 v.n, .string ⟨v.s.toArray⟩, .string ⟨nm.toArray⟩, .slice ao n ca] 28)).heap.size (w.alloc (.cells #[.int .i64 k, .int .i64 v.k, .int .i64 v.n, .string ⟨v.s.toArray⟩, .string ⟨nm.toArray⟩, .slice ao n ca] 28)) w6 := pA.trans (b6.mono (by have := pA.size; omega))
  have r6 := (b6.block s9 (by omega)).trans rA9
  have zs6 : s9 < w6.heap.size := by have := b6.size; omega
  clear b6 hN rA rA9 pA zA d0 d1 d2 d3 d4 d5
  obtain ⟨s13, hs13⟩ : ∃ s, w6.heap.size = s := ⟨_, rfl⟩
  have b7 : Below w6.heap.size w6 (w6.alloc (.cells #[.int .i64 3, .int .i64 0, .string ⟨#[]⟩] 25)) := (Below.refl w6.heap.size w6).alloc (Nat.le_refl _) _
  have r7 := (b7.block s9 zs6).trans r6
  have r13 : (w6.alloc (.cells #[.int .i64 3, .int .i64 0, .string ⟨#[]⟩] 25)).heap[w6.heap.size]? = some (.cells #[.int .i64 3, .int .i64 0, .string ⟨#[]⟩] 25) := heap_alloc_new _ _
  have q7 : Below w.heap.size w (w6.alloc (.cells #[.int .i64 3, .int .i64 0, .string ⟨#[]⟩] 25)) := b0.trans ((p6.trans (b7.mono p6.size)).mono (by omega))
  obtain ⟨⟨a0, a1, a2⟩, -⟩ := three r7
  obtain ⟨⟨c0, c1, c2⟩, -⟩ := three r13
  clear r6 r7 r13 b7 p6 hs13 HD
  go_wp2
  go_ret
  exact ⟨rfl, q7⟩

set_option maxRecDepth 100000 in
set_option maxHeartbeats 3200000 in
theorem law_f (cv rv : Value) (k : Int) (v : Vl) (nm : List UInt8) (ao : Option Addr) (n ca : Nat) (w : World) (K : Int) (hK : (3 != K) = false) (h4 : ∀ W : World, Calls Tryz.prog 4 #[] W fun e w' => e = .returned (.bool true) ∧ Below W.heap.size W w') (h5 : ∀ W : World, Below w.heap.size w W → Calls Tryz.prog 5 #[cv] W fun e w' => e = .returned (.bool true) ∧ Below W.heap.size W w') (h6 : ∀ W : World, Below w.heap.size w W → Calls Tryz.prog 6 #[cv, exL k v nm (.slice ao n ca)] W fun e w' => e = .returned (.tuple #[.int .i64 K, .int .i64 0]) ∧ Below W.heap.size W w') (h7 : ∀ W : World, Below w.heap.size w W → Calls Tryz.prog 7 #[cv, rv, exL k v nm (.slice ao n ca)] W fun e w' => e = .returned (.tuple #[.agg #[.int .i64 3, .int .i64 0, .string ⟨#[]⟩], .int .i64 0]) ∧ Below W.heap.size W w') (h8 : ∀ W : World, Below w.heap.size w W → Calls Tryz.prog 8 #[.agg #[.int .i64 3, .int .i64 0, .string ⟨#[]⟩]] W fun e w' => e = .returned (.int .i64 0) ∧ Below W.heap.size W w') (hN : ∀ W : World, Below w.heap.size w W → ∀ b, b < W.heap.size → W.heap[b]? = some (.cells #[.int .i64 k, .int .i64 v.k, .int .i64 v.n, .string ⟨v.s.toArray⟩, .string ⟨nm.toArray⟩, .slice ao n ca] 28) → Calls Tryz.prog 7 #[cv, rv, .agg #[.int .i64 3, .int .i64 0, .int .i64 0, .string ⟨#[]⟩, .string ⟨#[]⟩, .slice (some ⟨b, 0, none⟩) 1 1]] W fun e w' => e = .returned (.tuple #[.agg #[.int .i64 3, .int .i64 1, .string ⟨#[]⟩], .int .i64 0]) ∧ Below W.heap.size W w') :
    Calls Tryz.prog 3 #[cv, rv, exL k v nm (.slice ao n ca)] w fun e w' => e = .returned (.bool true) ∧ Below w.heap.size w w' := by
  have b0 := (Below.refl w.heap.size w).alloc (Nat.le_refl _) (.cells #[.int .i64 k, .int .i64 v.k, .int .i64 v.n, .string ⟨v.s.toArray⟩, .string ⟨nm.toArray⟩, .slice ao n ca] 28)
  have hD : ∀ W' : World, Below (w.alloc (.cells #[.int .i64 k, .int .i64 v.k, .int .i64 v.n, .string ⟨v.s.toArray⟩, .string ⟨nm.toArray⟩, .slice ao n ca] 28)).heap.size (w.alloc (.cells #[.int .i64 k, .int .i64 v.k, .int .i64 v.n, .string ⟨v.s.toArray⟩, .string ⟨nm.toArray⟩, .slice ao n ca] 28)) W' → W'.cell? ⟨w.heap.size, 0, none⟩ = some (.int .i64 k) ∧ W'.cell? ⟨w.heap.size, 1, none⟩ = some (.int .i64 v.k) ∧ W'.cell? ⟨w.heap.size, 2, none⟩ = some (.int .i64 v.n) ∧ W'.cell? ⟨w.heap.size, 3, none⟩ = some (.string ⟨v.s.toArray⟩) ∧ W'.cell? ⟨w.heap.size, 4, none⟩ = some (.string ⟨nm.toArray⟩) ∧ W'.cell? ⟨w.heap.size, 5, none⟩ = some (.slice ao n ca) := fun W' hW =>
    ⟨(hW.cell (p := ⟨w.heap.size, 0, none⟩) (by simp)).trans (by simp), (hW.cell (p := ⟨w.heap.size, 1, none⟩) (by simp)).trans (by simp), (hW.cell (p := ⟨w.heap.size, 2, none⟩) (by simp)).trans (by simp), (hW.cell (p := ⟨w.heap.size, 3, none⟩) (by simp)).trans (by simp), (hW.cell (p := ⟨w.heap.size, 4, none⟩) (by simp)).trans (by simp), (hW.cell (p := ⟨w.heap.size, 5, none⟩) (by simp)).trans (by simp)⟩
  have z0 : (w.alloc (.cells #[.int .i64 k, .int .i64 v.k, .int .i64 v.n, .string ⟨v.s.toArray⟩, .string ⟨nm.toArray⟩, .slice ao n ca] 28)).heap.size = w.heap.size + 1 := by simp
  have HD := hide hD
  clear hD
  unfold exL at h6 h7
  go_enter Tryz.func3, Tryz.ntmps3
  go_wp2_with fail
  refine (h4 _).mono ?_
  rintro e w1 ⟨rfl, b1⟩
  have p1 : Below (w.alloc (.cells #[.int .i64 k, .int .i64 v.k, .int .i64 v.n, .string ⟨v.s.toArray⟩, .string ⟨nm.toArray⟩, .slice ao n ca] 28)).heap.size (w.alloc (.cells #[.int .i64 k, .int .i64 v.k, .int .i64 v.n, .string ⟨v.s.toArray⟩, .string ⟨nm.toArray⟩, .slice ao n ca] 28)) w1 := b1
  clear b1 h4
  obtain ⟨d0, d1, d2, d3, d4, d5⟩ := HD.out _ p1
  go_wp2_with fail
  refine (h5 _ (b0.trans (p1.mono (by omega)))).mono ?_
  rintro e w2 ⟨rfl, b2⟩
  have p2 : Below (w.alloc (.cells #[.int .i64 k, .int .i64 v.k, .int .i64 v.n, .string ⟨v.s.toArray⟩, .string ⟨nm.toArray⟩, .slice ao n ca] 28)).heap.size (w.alloc (.cells #[.int .i64 k, .int .i64 v.k, .int .i64 v.n, .string ⟨v.s.toArray⟩, .string ⟨nm.toArray⟩, .slice ao n ca] 28)) w2 := p1.trans (b2.mono (by have := p1.size; omega))
  clear b2 h5
  clear d0 d1 d2 d3 d4 d5
  obtain ⟨d0, d1, d2, d3, d4, d5⟩ := HD.out _ p2
  go_wp2_with fail
  refine (h6 _ (b0.trans (p2.mono (by omega)))).mono ?_
  rintro e w3 ⟨rfl, b3⟩
  have p3 : Below (w.alloc (.cells #[.int .i64 k, .int .i64 v.k, .int .i64 v.n, .string ⟨v.s.toArray⟩, .string ⟨nm.toArray⟩, .slice ao n ca] 28)).heap.size (w.alloc (.cells #[.int .i64 k, .int .i64 v.k, .int .i64 v.n, .string ⟨v.s.toArray⟩, .string ⟨nm.toArray⟩, .slice ao n ca] 28)) w3 := p2.trans (b3.mono (by have := p2.size; omega))
  clear b3 h6
  clear d0 d1 d2 d3 d4 d5
  obtain ⟨d0, d1, d2, d3, d4, d5⟩ := HD.out _ p3
  go_wp2_with fail
  refine (h7 _ (b0.trans (p3.mono (by omega)))).mono ?_
  rintro e w4 ⟨rfl, b4⟩
  have p4 : Below (w.alloc (.cells #[.int .i64 k, .int .i64 v.k, .int .i64 v.n, .string ⟨v.s.toArray⟩, .string ⟨nm.toArray⟩, .slice ao n ca] 28)).heap.size (w.alloc (.cells #[.int .i64 k, .int .i64 v.k, .int .i64 v.n, .string ⟨v.s.toArray⟩, .string ⟨nm.toArray⟩, .slice ao n ca] 28)) w4 := p3.trans (b4.mono (by have := p3.size; omega))
  clear b4 
  obtain ⟨s9, hs9⟩ : ∃ s, w4.heap.size = s := ⟨_, rfl⟩
  have r4a : (w4.alloc (.cells #[.int .i64 3, .int .i64 0, .string ⟨#[]⟩] 25)).heap[s9]? = some (.cells #[.int .i64 3, .int .i64 0, .string ⟨#[]⟩] 25) := by rw [← hs9]; exact heap_alloc_new _ _
  have zs4a : (w4.alloc (.cells #[.int .i64 3, .int .i64 0, .string ⟨#[]⟩] 25)).heap.size = s9 + 1 := by rw [← hs9]; simp
  have p4a : Below (w.alloc (.cells #[.int .i64 k, .int .i64 v.k, .int .i64 v.n, .string ⟨v.s.toArray⟩, .string ⟨nm.toArray⟩, .slice ao n ca] 28)).heap.size (w.alloc (.cells #[.int .i64 k, .int .i64 v.k, .int .i64 v.n, .string ⟨v.s.toArray⟩, .string ⟨nm.toArray⟩, .slice ao n ca] 28)) (w4.alloc (.cells #[.int .i64 3, .int .i64 0, .string ⟨#[]⟩] 25)) := p4.alloc p4.size _
  have q4a : Below w.heap.size w (w4.alloc (.cells #[.int .i64 3, .int .i64 0, .string ⟨#[]⟩] 25)) := b0.trans (p4a.mono (by omega))
  have HS9 := hide hs9
  clear d0 d1 d2 d3 d4 d5
  obtain ⟨d0, d1, d2, d3, d4, d5⟩ := HD.out _ p4a
  obtain ⟨⟨a0, a1, a2⟩, -⟩ := three r4a
  rw [← hs9] at a0 a1 a2
  clear p4 hs9
  go_wp2_with fail
  rw [HS9.out]
  generalize w4.alloc (.cells #[.int .i64 3, .int .i64 0, .string ⟨#[]⟩] 25) = wa at *
  refine (h8 _ q4a).mono ?_
  rintro e w5 ⟨rfl, b5⟩
  have p5 : Below (w.alloc (.cells #[.int .i64 k, .int .i64 v.k, .int .i64 v.n, .string ⟨v.s.toArray⟩, .string ⟨nm.toArray⟩, .slice ao n ca] 28)).heap.size (w.alloc (.cells #[.int .i64 k, .int .i64 v.k, .int .i64 v.n, .string ⟨v.s.toArray⟩, .string ⟨nm.toArray⟩, .slice ao n ca] 28)) w5 := p4a.trans (b5.mono (by have := p4a.size; omega))
  have r5 := (b5.block s9 (by omega)).trans r4a
  have zs5 : s9 < w5.heap.size := by have := b5.size; omega
  clear b5 h8 r4a zs4a p4a q4a d0 d1 d2 d3 d4 d5 a0 a1 a2
  obtain ⟨d0, d1, d2, d3, d4, d5⟩ := HD.out _ p5
  obtain ⟨s11, hs11⟩ : ∃ s, w5.heap.size = s := ⟨_, rfl⟩
  have zA : ((w5.alloc (.cells #[.int .i64 k, .int .i64 v.k, .int .i64 v.n, .string ⟨v.s.toArray⟩, .string ⟨nm.toArray⟩, .slice ao n ca] 28)).alloc (.cells #[.int .i64 3, .int .i64 0, .int .i64 0, .string ⟨#[]⟩, .string ⟨#[]⟩, .slice (some ⟨s11, 0, none⟩) 1 1] 28)).heap.size = s11 + 2 := by rw [← hs11]; simp
  have rA : ((w5.alloc (.cells #[.int .i64 k, .int .i64 v.k, .int .i64 v.n, .string ⟨v.s.toArray⟩, .string ⟨nm.toArray⟩, .slice ao n ca] 28)).alloc (.cells #[.int .i64 3, .int .i64 0, .int .i64 0, .string ⟨#[]⟩, .string ⟨#[]⟩, .slice (some ⟨s11, 0, none⟩) 1 1] 28)).heap[s11]? = some (.cells #[.int .i64 k, .int .i64 v.k, .int .i64 v.n, .string ⟨v.s.toArray⟩, .string ⟨nm.toArray⟩, .slice ao n ca] 28) := by
    rw [← hs11]
    exact (((Below.refl (w5.heap.size + 1) (w5.alloc (.cells #[.int .i64 k, .int .i64 v.k, .int .i64 v.n, .string ⟨v.s.toArray⟩, .string ⟨nm.toArray⟩, .slice ao n ca] 28))).alloc (by simp) (.cells #[.int .i64 3, .int .i64 0, .int .i64 0, .string ⟨#[]⟩, .string ⟨#[]⟩, .slice (some ⟨w5.heap.size, 0, none⟩) 1 1] 28)).block w5.heap.size (by simp)).trans (heap_alloc_new _ _)
  have bA : Below w5.heap.size w5 ((w5.alloc (.cells #[.int .i64 k, .int .i64 v.k, .int .i64 v.n, .string ⟨v.s.toArray⟩, .string ⟨nm.toArray⟩, .slice ao n ca] 28)).alloc (.cells #[.int .i64 3, .int .i64 0, .int .i64 0, .string ⟨#[]⟩, .string ⟨#[]⟩, .slice (some ⟨s11, 0, none⟩) 1 1] 28)) := ((Below.refl w5.heap.size w5).alloc (Nat.le_refl _) _).alloc (by simp) _
  have rA9 := (bA.block s9 zs5).trans r5
  have pA : Below (w.alloc (.cells #[.int .i64 k, .int .i64 v.k, .int .i64 v.n, .string ⟨v.s.toArray⟩, .string ⟨nm.toArray⟩, .slice ao n ca] 28)).heap.size (w.alloc (.cells #[.int .i64 k, .int .i64 v.k, .int .i64 v.n, .string ⟨v.s.toArray⟩, .string ⟨nm.toArray⟩, .slice ao n ca] 28)) ((w5.alloc (.cells #[.int .i64 k, .int .i64 v.k, .int .i64 v.n, .string ⟨v.s.toArray⟩, .string ⟨nm.toArray⟩, .slice ao n ca] 28)).alloc (.cells #[.int .i64 3, .int .i64 0, .int .i64 0, .string ⟨#[]⟩, .string ⟨#[]⟩, .slice (some ⟨s11, 0, none⟩) 1 1] 28)) := p5.trans (bA.mono p5.size)
  have HS11 := hide hs11
  rw [hs11] at zs5
  clear bA p5 hs11
  go_wp2_with fail
  rw [HS11.out]
  generalize ((w5.alloc (.cells #[.int .i64 k, .int .i64 v.k, .int .i64 v.n, .string ⟨v.s.toArray⟩, .string ⟨nm.toArray⟩, .slice ao n ca] 28)).alloc (.cells #[.int .i64 3, .int .i64 0, .int .i64 0, .string ⟨#[]⟩, .string ⟨#[]⟩, .slice (some ⟨s11, 0, none⟩) 1 1] 28)) = wN at *
  refine (hN _ (b0.trans (pA.mono (by omega))) s11 (by omega) rA).mono ?_
  rintro e w6 ⟨rfl, b6⟩
  have p6 : Below (w.alloc (.cells #[.int .i64 k, .int .i64 v.k, .int .i64 v.n, .string ⟨v.s.toArray⟩, .string ⟨nm.toArray⟩, .slice ao n ca] 28)).heap.size (w.alloc (.cells #[.int .i64 k, .int .i64 v.k, .int .i64 v.n, .string ⟨v.s.toArray⟩, .string ⟨nm.toArray⟩, .slice ao n ca] 28)) w6 := pA.trans (b6.mono (by have := pA.size; omega))
  have r6 := (b6.block s9 (by omega)).trans rA9
  have zs6 : s9 < w6.heap.size := by have := b6.size; omega
  clear b6 hN rA rA9 pA zA d0 d1 d2 d3 d4 d5
  obtain ⟨s13, hs13⟩ : ∃ s, w6.heap.size = s := ⟨_, rfl⟩
  have b7 : Below w6.heap.size w6 (w6.alloc (.cells #[.int .i64 3, .int .i64 1, .string ⟨#[]⟩] 25)) := (Below.refl w6.heap.size w6).alloc (Nat.le_refl _) _
  have r7 := (b7.block s9 zs6).trans r6
  have r13 : (w6.alloc (.cells #[.int .i64 3, .int .i64 1, .string ⟨#[]⟩] 25)).heap[w6.heap.size]? = some (.cells #[.int .i64 3, .int .i64 1, .string ⟨#[]⟩] 25) := heap_alloc_new _ _
  have q7 : Below w.heap.size w (w6.alloc (.cells #[.int .i64 3, .int .i64 1, .string ⟨#[]⟩] 25)) := b0.trans ((p6.trans (b7.mono p6.size)).mono (by omega))
  obtain ⟨⟨a0, a1, a2⟩, -⟩ := three r7
  obtain ⟨⟨c0, c1, c2⟩, -⟩ := three r13
  clear r6 r7 r13 b7 p6 hs13 HD
  go_wp2
  go_ret
  exact ⟨rfl, q7⟩

/-- ExprKinds answers true, of columns, a row and an expression in memory -/
theorem kinds_any (L : List Cl) (cv : Value) (r : List Vl) (rv : Value) {w : World} {u : Value} {x : Ex} (h : ExAt 0 w u x) (hf : Fit x) (hC : CsAt w cv L) (hcp : ∀ ao n cap, cv = .slice ao n cap → n ≤ cap) (hV : VsAt w rv r) :
    Calls Tryz.prog 3 #[cv, rv, u] w fun e w' => e = .returned (.bool true) ∧ Below w.heap.size w w' := by
  have h4 := fun (W : World) => begun_any W
  have h5 := fun (W : World) (hW : Below w.heap.size w W) => cright_any L cv W (hC.below hW) hcp
  have h6 := fun (W : World) (hW : Below w.heap.size w W) => Kind_any L cv (h.under hW) hf (hC.below hW)
  have h7 := fun (W : World) (hW : Below w.heap.size w W) => Eval_any L cv r rv (h.under hW) hf (hC.below hW) (hV.below hW)
  have hE : ∃ ao n ca, u = exL x.k x.v x.nm (.slice ao n ca) := by
    cases h with
    | nil k v nm ao cap hz => exact ⟨_, _, _, rfl⟩
    | args k v nm b off cap xs us hx hB hs hc hh => exact ⟨_, _, _, rfl⟩
  obtain ⟨ao, n, ca, rfl⟩ := hE
  have fN : Fit (.mk 3 vl0 [] [x]) := .mk 3 vl0 [] [x] (by decide) (by decide) (by simp) (by intro y hy; simp at hy; subst hy; exact hf)
  have hN : ∀ W : World, Below w.heap.size w W → ∀ b, b < W.heap.size → W.heap[b]? = some (.cells #[.int .i64 x.k, .int .i64 x.v.k, .int .i64 x.v.n, .string ⟨x.v.s.toArray⟩, .string ⟨x.nm.toArray⟩, .slice ao n ca] 28) → Calls Tryz.prog 7 #[cv, rv, .agg #[.int .i64 3, .int .i64 0, .int .i64 0, .string ⟨#[]⟩, .string ⟨#[]⟩, .slice (some ⟨b, 0, none⟩) 1 1]] W fun e w' => e = .returned (.tuple #[vlV (evalX L r (.mk 3 vl0 [] [x])).1, .int .i64 ((evalX L r (.mk 3 vl0 [] [x])).2 : Nat)]) ∧ Below W.heap.size W w' := by
    intro W hW b hb hc
    have hX : ExAt 0 W (exL 3 vl0 [] (.slice (some ⟨b, 0, none⟩) 1 1)) (.mk 3 vl0 [] [x]) := by
      refine ExAt.args (B := 0) (w := W) 3 vl0 [] b 0 1 [x] (fun _ => exL x.k x.v x.nm (.slice ao n ca)) (by simp) (Nat.zero_le _) hb ?_ ?_
      · intro i hi
        obtain rfl : i = 0 := by simpa using hi
        refine ⟨x.k, x.v, x.nm, _, rfl, ?_, ?_, ?_, ?_, ?_, ?_⟩ <;> (rw [Lib.cell_of_heap hc]; rfl)
      · intro i y hy
        match i, hy with
        | 0, hy => simp at hy; subst hy; exact h.under hW
        | i + 1, hy => simp at hy
    exact Eval_any L cv r rv hX fN (hC.below hW) (hV.below hW)
  cases hR : colsR L with
  | false =>
    rw [hR] at h5
    exact law_no cv rv _ _ _ ao n ca w h4 h5
  | true =>
    rw [hR] at h5
    by_cases h1 : (kindX L x).2 = 0
    · obtain ⟨-, f0, K, hK, hK1⟩ := kindX_zero h1
      by_cases h2 : rowF L r = 0
      · have e2 : evalX L r x = (evalE L r x, 0) := by unfold evalX; rw [if_neg (fun hh => hh h1), if_neg (fun hh => hh h2)]
        rw [h1, hK1] at h6
        rw [e2] at h7
        obtain ⟨ov, ok⟩ := evalE_ok L r h2 x f0 K hK
        have h8 : ∀ W : World, Below w.heap.size w W → Calls Tryz.prog 8 #[.agg #[.int .i64 (evalE L r x).k, .int .i64 (evalE L r x).n, .string ⟨(evalE L r x).s.toArray⟩]] W fun e w' => e = .returned (.int .i64 0) ∧ Below W.heap.size W w' := by
          intro W _
          have hsz : (evalE L r x).s.length ≤ 20 := by
            rcases chkV_zero ov with ⟨-, -, c⟩ | ⟨-, -, -, c⟩ | ⟨-, -, c⟩ | ⟨-, -, c⟩
            · simp [c]
            · simp [c]
            · exact c
            · simp [c]
          have := check_any (evalE L r x).k (evalE L r x).n ⟨(evalE L r x).s.toArray⟩ W (by simp [ByteArray.size]; omega)
          simpa [ov] using this
        by_cases h3 : (evalX L r (.mk 3 vl0 [] [x])).2 = 0
        · have h3' : (kindX L (.mk 3 vl0 [] [x])).2 = 0 := by
            unfold evalX at h3
            by_cases q : (kindX L (.mk 3 vl0 [] [x])).2 = 0
            · exact q
            · rw [if_pos q] at h3; exact h3
          obtain ⟨-, -, K', hK', -⟩ := kindX_zero h3'
          have e4 : evalX L r (.mk 3 vl0 [] [x]) = (evalE L r (.mk 3 vl0 [] [x]), 0) := by
            unfold evalX; rw [if_neg (fun hh => hh h3'), if_neg (fun hh => hh h2)]
          rw [e4] at hN
          rcases not_value L r x K h2 f0 hK K' hK' with ⟨v1, v2⟩ | ⟨rfl, b, v1, v2⟩
          · rw [v1] at h7 h8
            rw [v2] at hN
            exact law_n cv rv _ _ _ ao n ca w K h4 h5 h6 h7 h8 hN
          · rw [v1] at h7 h8
            rw [v2] at hN
            cases b with
            | true => exact law_t cv rv _ _ _ ao n ca w 3 rfl h4 h5 h6 h7 h8 hN
            | false => exact law_f cv rv _ _ _ ao n ca w 3 rfl h4 h5 h6 h7 h8 hN
        · have e4 : evalX L r (.mk 3 vl0 [] [x]) = (vl0, (evalX L r (.mk 3 vl0 [] [x])).2) := by
            generalize hF : (evalX L r (.mk 3 vl0 [] [x])).2 = F at *
            unfold evalX at hF ⊢
            by_cases q : (kindX L (.mk 3 vl0 [] [x])).2 ≠ 0
            · rw [if_pos q] at hF ⊢; rw [← hF]
            · rw [if_neg q] at hF ⊢
              rw [if_neg (fun hh => hh h2)] at hF
              exact absurd hF.symm h3
          generalize hF : (evalX L r (.mk 3 vl0 [] [x])).2 = F at *
          rw [e4] at hN
          by_cases k0 : (evalE L r x).k = 0
          · exact law_e0 cv rv _ _ _ ao n ca w K _ F (by simpa using h3) (by simpa using k0) h4 h5 h6 h7 h8 hN
          · exact law_e1 cv rv _ _ _ ao n ca w K _ F (by simpa using h3) (by simpa using k0) (by simpa using ok.resolve_left k0) h4 h5 h6 h7 h8 hN
      · have e2 : evalX L r x = (vl0, rowF L r) := by unfold evalX; rw [if_neg (fun hh => hh h1), if_pos h2]
        rw [h1] at h6
        rw [e2] at h7
        exact law_row cv rv _ _ _ ao n ca w _ _ (by simpa using h2) h4 h5 h6 h7
    · have e2 : evalX L r x = (vl0, (kindX L x).2) := by unfold evalX; rw [if_pos h1]
      rw [e2] at h7
      exact law_bad cv rv _ _ _ ao n ca w _ _ (by simpa using h1) h4 h5 h6 h7

end Go.Proofs.YtjmhkeooiimpfaaGreat
