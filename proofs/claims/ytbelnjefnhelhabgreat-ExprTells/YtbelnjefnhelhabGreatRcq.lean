/-
  The document's checkParts, of any expression.
-/
import Derived.Test.YtbelnjefnhelhabGreatRcp
namespace Go.Proofs.YtbelnjefnhelhabGreat
open Go.RowKit

set_option maxRecDepth 100000 in
set_option maxHeartbeats 3200000 in
theorem rcp_args2 (cv : Value) (k : Int) (v : Vl) (nm : List UInt8) (ao : Option Addr) (b off n ca : Nat) (hao : 0 < n → ao = some ⟨b, off, none⟩) (W : World) (L : List Cl) (xs : List Ex) (us : Nat → Value) (X T : Nat) (hT0 : X = 0 → T = faultL L xs) (hT1 : X ≠ 0 → T = X) (hn : xs.length = n) (hn2 : n ≤ 1000) (hbW' : 0 < n → b < W.heap.size) (hk : ¬ (k < 1 ∨ 11 < k)) (hp : plainK k v nm n = true) (hk2 : (k == 2) = true) (ci : Nat) (hc : ∀ W' : World, Below W.heap.size W W' → Calls Tryz.prog 16 #[cv, .string ⟨nm.toArray⟩] W' fun e w' => e = .returned (.int .i64 (ci : Nat)) ∧ Below W'.heap.size W' w')
    (hS : ∀ i y, xs[i]? = some y → ∃ (k : Int) (v : Vl) (nm : List UInt8) (ao : Option Addr) (n ca : Nat), us i = exL k v nm (.slice ao n ca) ∧ W.cell? ⟨b, off + i * 6, none⟩ = some (.int .i64 k) ∧ W.cell? ⟨b, off + i * 6 + 1, none⟩ = some (.int .i64 v.k) ∧ W.cell? ⟨b, off + i * 6 + 2, none⟩ = some (.int .i64 v.n) ∧
      W.cell? ⟨b, off + i * 6 + 3, none⟩ = some (.string ⟨v.s.toArray⟩) ∧ W.cell? ⟨b, off + i * 6 + 4, none⟩ = some (.string ⟨nm.toArray⟩) ∧ W.cell? ⟨b, off + i * 6 + 5, none⟩ = some (.slice ao n ca))
    (hf : ∀ i y, xs[i]? = some y → ∀ W' : World, Below W.heap.size W W' → Calls Tryz.prog 25 #[cv, us i] W' fun e w' => e = .returned (.int .i64 (faultE L y : Nat)) ∧ Below W'.heap.size W' w')
    (h27 : ∀ W' : World, Calls Tryz.prog 27 #[.agg #[.int .i64 v.k, .int .i64 v.n, .string ⟨v.s.toArray⟩]] W' fun e w' => e = .returned (.int .i64 (X : Nat)) ∧ Below W'.heap.size W' w') :
    Calls Tryz.prog 25 #[cv, exL k v nm (.slice ao n ca)] W fun e w' => e = .returned (.int .i64 (T : Nat)) ∧ Below W.heap.size W w' := by
  have HAO := hide hao
  have HS := hide hS
  have HF := hide hf
  have HT0 := hide hT0
  have HT1 := hide hT1
  have Hn := hide hn
  clear hS hf hT0 hT1 hn hao
  have b0 := (Below.refl W.heap.size W).alloc (Nat.le_refl _) (.cells #[.int .i64 k, .int .i64 v.k, .int .i64 v.n, .string ⟨v.s.toArray⟩, .string ⟨nm.toArray⟩, .slice ao n ca] 28)
  have hD : ∀ W' : World, Below (W.alloc (.cells #[.int .i64 k, .int .i64 v.k, .int .i64 v.n, .string ⟨v.s.toArray⟩, .string ⟨nm.toArray⟩, .slice ao n ca] 28)).heap.size (W.alloc (.cells #[.int .i64 k, .int .i64 v.k, .int .i64 v.n, .string ⟨v.s.toArray⟩, .string ⟨nm.toArray⟩, .slice ao n ca] 28)) W' → W'.cell? ⟨W.heap.size, 0, none⟩ = some (.int .i64 k) ∧ W'.cell? ⟨W.heap.size, 1, none⟩ = some (.int .i64 v.k) ∧ W'.cell? ⟨W.heap.size, 2, none⟩ = some (.int .i64 v.n) ∧ W'.cell? ⟨W.heap.size, 3, none⟩ = some (.string ⟨v.s.toArray⟩) ∧ W'.cell? ⟨W.heap.size, 4, none⟩ = some (.string ⟨nm.toArray⟩) ∧ W'.cell? ⟨W.heap.size, 5, none⟩ = some (.slice ao n ca) := fun W' hW =>
    ⟨(hW.cell (p := ⟨W.heap.size, 0, none⟩) (by simp)).trans (by simp), (hW.cell (p := ⟨W.heap.size, 1, none⟩) (by simp)).trans (by simp), (hW.cell (p := ⟨W.heap.size, 2, none⟩) (by simp)).trans (by simp), (hW.cell (p := ⟨W.heap.size, 3, none⟩) (by simp)).trans (by simp), (hW.cell (p := ⟨W.heap.size, 4, none⟩) (by simp)).trans (by simp), (hW.cell (p := ⟨W.heap.size, 5, none⟩) (by simp)).trans (by simp)⟩
  have z0 : (W.alloc (.cells #[.int .i64 k, .int .i64 v.k, .int .i64 v.n, .string ⟨v.s.toArray⟩, .string ⟨nm.toArray⟩, .slice ao n ca] 28)).heap.size = W.heap.size + 1 := by simp
  have HD := hide hD
  have h1 := args_any k (W.alloc (.cells #[.int .i64 k, .int .i64 v.k, .int .i64 v.n, .string ⟨v.s.toArray⟩, .string ⟨nm.toArray⟩, .slice ao n ca] 28))
  obtain ⟨A, hA⟩ : ∃ A : Nat, argsR k = (A : Nat) := ⟨_, argsR_pos hk⟩
  rw [hA] at h1
  clear hD hA hk
  have h2 := fun (W' : World) => plain_any k v nm ao n ca W'
  rw [hp] at h2
  unfold exV at h2
  clear hp
  go_enter Tryz.func25, Tryz.ntmps25
  go_wp2_with fail
  refine h1.mono ?_
  rintro e w1 ⟨rfl, b1⟩
  obtain ⟨d0, d1, d2, d3, d4, d5⟩ := HD.out w1 b1
  have hA0 : ¬ ((A : Int) < 0) := by omega
  have p1 : Below (W.alloc (.cells #[.int .i64 k, .int .i64 v.k, .int .i64 v.n, .string ⟨v.s.toArray⟩, .string ⟨nm.toArray⟩, .slice ao n ca] 28)).heap.size (W.alloc (.cells #[.int .i64 k, .int .i64 v.k, .int .i64 v.n, .string ⟨v.s.toArray⟩, .string ⟨nm.toArray⟩, .slice ao n ca] 28)) w1 := b1
  clear h1 b1
  go_wp2_with fail
  refine (h2 _).mono ?_
  rintro e w2 ⟨rfl, b2⟩
  have p2 : Below (W.alloc (.cells #[.int .i64 k, .int .i64 v.k, .int .i64 v.n, .string ⟨v.s.toArray⟩, .string ⟨nm.toArray⟩, .slice ao n ca] 28)).heap.size (W.alloc (.cells #[.int .i64 k, .int .i64 v.k, .int .i64 v.n, .string ⟨v.s.toArray⟩, .string ⟨nm.toArray⟩, .slice ao n ca] 28)) w2 := p1.trans (b2.mono p1.size)
  clear h2 b2 p1 d0 d1 d2 d3 d4 d5
  obtain ⟨d0, d1, d2, d3, d4, d5⟩ := HD.out w2 p2
  have q2 : Below W.heap.size W w2 := b0.trans (p2.mono b0.size)
  go_wp2_with fail
  refine (hc _ q2).mono ?_
  rintro e w3 ⟨rfl, b3⟩
  have p3 : Below (W.alloc (.cells #[.int .i64 k, .int .i64 v.k, .int .i64 v.n, .string ⟨v.s.toArray⟩, .string ⟨nm.toArray⟩, .slice ao n ca] 28)).heap.size (W.alloc (.cells #[.int .i64 k, .int .i64 v.k, .int .i64 v.n, .string ⟨v.s.toArray⟩, .string ⟨nm.toArray⟩, .slice ao n ca] 28)) w3 := p2.trans (b3.mono p2.size)
  have hci : ¬ ((ci : Int) < 0) := by omega
  clear hc b3 p2 q2 d0 d1 d2 d3 d4 d5
  obtain ⟨d0, d1, d2, d3, d4, d5⟩ := HD.out w3 p3
  go_wp2_with fail
  refine (h27 _).mono ?_
  rintro e w4 ⟨rfl, b4⟩
  have p4 : Below (W.alloc (.cells #[.int .i64 k, .int .i64 v.k, .int .i64 v.n, .string ⟨v.s.toArray⟩, .string ⟨nm.toArray⟩, .slice ao n ca] 28)).heap.size (W.alloc (.cells #[.int .i64 k, .int .i64 v.k, .int .i64 v.n, .string ⟨v.s.toArray⟩, .string ⟨nm.toArray⟩, .slice ao n ca] 28)) w4 := p3.trans (b4.mono p3.size)
  clear h27 b4 p3 d0 d1 d2 d3 d4 d5 hci
  go_wp2
  go_loopw [5, 6] (fun f i wl => ∃ F j : Nat, f = .int .i64 (F : Nat) ∧ i = .int .i64 (j : Nat) ∧ j ≤ n ∧ Below (W.alloc (.cells #[.int .i64 k, .int .i64 v.k, .int .i64 v.n, .string ⟨v.s.toArray⟩, .string ⟨nm.toArray⟩, .slice ao n ca] 28)).heap.size (W.alloc (.cells #[.int .i64 k, .int .i64 v.k, .int .i64 v.n, .string ⟨v.s.toArray⟩, .string ⟨nm.toArray⟩, .slice ao n ca] 28)) wl ∧ Hid (F = 0 → T = faultL L (xs.drop j)) ∧ Hid (F ≠ 0 → T = F)) (fun _ i _ => n - (intOf i).toNat)
  case atStart => exact ⟨X, 0, rfl, rfl, Nat.zero_le _, p4, HT0, HT1⟩
  case round =>
    obtain ⟨F, j, rfl, rfl, hj, hnx, HA0, HA1⟩ := hrel
    clear p4
    have d5 := (HD.out wr hnx).2.2.2.2.2
    have qW : Below W.heap.size W wr := b0.trans (hnx.mono b0.size)
    by_cases hlt : j < n
    · have hlt' : (j : Int) < (n : Int) := by omega
      by_cases hF : F = 0
      · subst hF
        have hbW := hbW' (Nat.lt_of_le_of_lt (Nat.zero_le _) hlt)
        obtain ⟨y, hy⟩ : ∃ y, xs[j]? = some y := ⟨xs[j]'(by rw [Hn.out]; exact hlt), List.getElem?_eq_getElem _⟩
        obtain ⟨k2, v2, nm2, ao2, n2, ca2, hu, a0, a1, a2, a3, a4, a5⟩ := HS.out j y hy
        have c0 := (qW.cell (p := ⟨b, off + j * 6, none⟩) hbW).trans a0
        have c1 := (qW.cell (p := ⟨b, off + j * 6 + 1, none⟩) hbW).trans a1
        have c2 := (qW.cell (p := ⟨b, off + j * 6 + 2, none⟩) hbW).trans a2
        have c3 := (qW.cell (p := ⟨b, off + j * 6 + 3, none⟩) hbW).trans a3
        have c4 := (qW.cell (p := ⟨b, off + j * 6 + 4, none⟩) hbW).trans a4
        have c5 := (qW.cell (p := ⟨b, off + j * 6 + 5, none⟩) hbW).trans a5
        have hc := HF.out j y hy _ qW
        rw [hu] at hc
        have HDr : Hid (xs.drop j = y :: xs.drop (j + 1)) := by
          obtain ⟨hi, rfl⟩ := List.getElem?_eq_some_iff.1 hy
          exact List.drop_eq_getElem_cons hi
        obtain ⟨G, hG⟩ : ∃ G, faultE L y = G := ⟨_, rfl⟩
        have HG := hide hG
        rw [hG] at hc
        have HA := HAO.out (Nat.lt_of_le_of_lt (Nat.zero_le _) hlt)
        clear a0 a1 a2 a3 a4 a5 hy hu hG HF HS
        rw [HA] at d5
        clear HA
        go_wp2_with fail
        refine hc.mono ?_
        rintro e w5 ⟨rfl, b5⟩
        have p5 : Below (W.alloc (.cells #[.int .i64 k, .int .i64 v.k, .int .i64 v.n, .string ⟨v.s.toArray⟩, .string ⟨nm.toArray⟩, .slice ao n ca] 28)).heap.size (W.alloc (.cells #[.int .i64 k, .int .i64 v.k, .int .i64 v.n, .string ⟨v.s.toArray⟩, .string ⟨nm.toArray⟩, .slice ao n ca] 28)) w5 := hnx.trans (b5.mono hnx.size)
        clear hc b5
        go_wp2
        go_roundw
        case rel =>
          refine ⟨G, j + 1, rfl, by go_num, by omega, p5, fun h => ?_, fun h => ?_⟩
          · rw [HA0.out trivial, HDr.out, faultL, HG.out, if_pos h]
          · rw [HA0.out trivial, HDr.out, faultL, HG.out, if_neg h]
        case measure => simp [intOf]; omega
      · have hF' : ((F : Int) == 0) = false := by simpa using hF
        have HE := hide (HA1.out hF)
        clear HA0 HA1 HF HS hF
        go_wp2
        go_ret
        exact ⟨by rw [HE.out]; rfl, qW⟩
    · have hlt' : ¬ ((j : Int) < (n : Int)) := by omega
      have HE : Hid (T = F) := by
        by_cases hF : F = 0
        · rw [Hid, HA0.out hF, List.drop_of_length_le (by rw [Hn.out]; omega), hF]; rfl
        · exact HA1.out hF
      clear HA0 HA1 HF HS
      go_wp2
      go_ret
      exact ⟨by rw [HE.out]; rfl, qW⟩

set_option maxRecDepth 100000 in
set_option maxHeartbeats 3200000 in
theorem rcp_args (cv : Value) (k : Int) (v : Vl) (nm : List UInt8) (ao : Option Addr) (b off n ca : Nat) (hao : 0 < n → ao = some ⟨b, off, none⟩) (W : World) (L : List Cl) (xs : List Ex) (us : Nat → Value) (X T : Nat) (hT0 : X = 0 → T = faultL L xs) (hT1 : X ≠ 0 → T = X) (hn : xs.length = n) (hn2 : n ≤ 1000) (hbW' : 0 < n → b < W.heap.size) (hk : ¬ (k < 1 ∨ 11 < k)) (hp : plainK k v nm n = true) (hk2 : (k == 2) = false)
    (hS : ∀ i y, xs[i]? = some y → ∃ (k : Int) (v : Vl) (nm : List UInt8) (ao : Option Addr) (n ca : Nat), us i = exL k v nm (.slice ao n ca) ∧ W.cell? ⟨b, off + i * 6, none⟩ = some (.int .i64 k) ∧ W.cell? ⟨b, off + i * 6 + 1, none⟩ = some (.int .i64 v.k) ∧ W.cell? ⟨b, off + i * 6 + 2, none⟩ = some (.int .i64 v.n) ∧
      W.cell? ⟨b, off + i * 6 + 3, none⟩ = some (.string ⟨v.s.toArray⟩) ∧ W.cell? ⟨b, off + i * 6 + 4, none⟩ = some (.string ⟨nm.toArray⟩) ∧ W.cell? ⟨b, off + i * 6 + 5, none⟩ = some (.slice ao n ca))
    (hf : ∀ i y, xs[i]? = some y → ∀ W' : World, Below W.heap.size W W' → Calls Tryz.prog 25 #[cv, us i] W' fun e w' => e = .returned (.int .i64 (faultE L y : Nat)) ∧ Below W'.heap.size W' w')
    (h27 : ∀ W' : World, Calls Tryz.prog 27 #[.agg #[.int .i64 v.k, .int .i64 v.n, .string ⟨v.s.toArray⟩]] W' fun e w' => e = .returned (.int .i64 (X : Nat)) ∧ Below W'.heap.size W' w') :
    Calls Tryz.prog 25 #[cv, exL k v nm (.slice ao n ca)] W fun e w' => e = .returned (.int .i64 (T : Nat)) ∧ Below W.heap.size W w' := by
  have HAO := hide hao
  have HS := hide hS
  have HF := hide hf
  have HT0 := hide hT0
  have HT1 := hide hT1
  have Hn := hide hn
  clear hS hf hT0 hT1 hn hao
  have b0 := (Below.refl W.heap.size W).alloc (Nat.le_refl _) (.cells #[.int .i64 k, .int .i64 v.k, .int .i64 v.n, .string ⟨v.s.toArray⟩, .string ⟨nm.toArray⟩, .slice ao n ca] 28)
  have hD : ∀ W' : World, Below (W.alloc (.cells #[.int .i64 k, .int .i64 v.k, .int .i64 v.n, .string ⟨v.s.toArray⟩, .string ⟨nm.toArray⟩, .slice ao n ca] 28)).heap.size (W.alloc (.cells #[.int .i64 k, .int .i64 v.k, .int .i64 v.n, .string ⟨v.s.toArray⟩, .string ⟨nm.toArray⟩, .slice ao n ca] 28)) W' → W'.cell? ⟨W.heap.size, 0, none⟩ = some (.int .i64 k) ∧ W'.cell? ⟨W.heap.size, 1, none⟩ = some (.int .i64 v.k) ∧ W'.cell? ⟨W.heap.size, 2, none⟩ = some (.int .i64 v.n) ∧ W'.cell? ⟨W.heap.size, 3, none⟩ = some (.string ⟨v.s.toArray⟩) ∧ W'.cell? ⟨W.heap.size, 4, none⟩ = some (.string ⟨nm.toArray⟩) ∧ W'.cell? ⟨W.heap.size, 5, none⟩ = some (.slice ao n ca) := fun W' hW =>
    ⟨(hW.cell (p := ⟨W.heap.size, 0, none⟩) (by simp)).trans (by simp), (hW.cell (p := ⟨W.heap.size, 1, none⟩) (by simp)).trans (by simp), (hW.cell (p := ⟨W.heap.size, 2, none⟩) (by simp)).trans (by simp), (hW.cell (p := ⟨W.heap.size, 3, none⟩) (by simp)).trans (by simp), (hW.cell (p := ⟨W.heap.size, 4, none⟩) (by simp)).trans (by simp), (hW.cell (p := ⟨W.heap.size, 5, none⟩) (by simp)).trans (by simp)⟩
  have z0 : (W.alloc (.cells #[.int .i64 k, .int .i64 v.k, .int .i64 v.n, .string ⟨v.s.toArray⟩, .string ⟨nm.toArray⟩, .slice ao n ca] 28)).heap.size = W.heap.size + 1 := by simp
  have HD := hide hD
  have h1 := args_any k (W.alloc (.cells #[.int .i64 k, .int .i64 v.k, .int .i64 v.n, .string ⟨v.s.toArray⟩, .string ⟨nm.toArray⟩, .slice ao n ca] 28))
  obtain ⟨A, hA⟩ : ∃ A : Nat, argsR k = (A : Nat) := ⟨_, argsR_pos hk⟩
  rw [hA] at h1
  clear hD hA hk
  have h2 := fun (W' : World) => plain_any k v nm ao n ca W'
  rw [hp] at h2
  unfold exV at h2
  clear hp
  go_enter Tryz.func25, Tryz.ntmps25
  go_wp2_with fail
  refine h1.mono ?_
  rintro e w1 ⟨rfl, b1⟩
  obtain ⟨d0, d1, d2, d3, d4, d5⟩ := HD.out w1 b1
  have hA0 : ¬ ((A : Int) < 0) := by omega
  have p1 : Below (W.alloc (.cells #[.int .i64 k, .int .i64 v.k, .int .i64 v.n, .string ⟨v.s.toArray⟩, .string ⟨nm.toArray⟩, .slice ao n ca] 28)).heap.size (W.alloc (.cells #[.int .i64 k, .int .i64 v.k, .int .i64 v.n, .string ⟨v.s.toArray⟩, .string ⟨nm.toArray⟩, .slice ao n ca] 28)) w1 := b1
  clear h1 b1
  go_wp2_with fail
  refine (h2 _).mono ?_
  rintro e w2 ⟨rfl, b2⟩
  have p2 : Below (W.alloc (.cells #[.int .i64 k, .int .i64 v.k, .int .i64 v.n, .string ⟨v.s.toArray⟩, .string ⟨nm.toArray⟩, .slice ao n ca] 28)).heap.size (W.alloc (.cells #[.int .i64 k, .int .i64 v.k, .int .i64 v.n, .string ⟨v.s.toArray⟩, .string ⟨nm.toArray⟩, .slice ao n ca] 28)) w2 := p1.trans (b2.mono p1.size)
  clear h2 b2 p1 d0 d1 d2 d3 d4 d5
  obtain ⟨d0, d1, d2, d3, d4, d5⟩ := HD.out w2 p2
  have q2 : Below W.heap.size W w2 := b0.trans (p2.mono b0.size)
  go_wp2_with fail
  refine (h27 _).mono ?_
  rintro e w4 ⟨rfl, b4⟩
  have p4 : Below (W.alloc (.cells #[.int .i64 k, .int .i64 v.k, .int .i64 v.n, .string ⟨v.s.toArray⟩, .string ⟨nm.toArray⟩, .slice ao n ca] 28)).heap.size (W.alloc (.cells #[.int .i64 k, .int .i64 v.k, .int .i64 v.n, .string ⟨v.s.toArray⟩, .string ⟨nm.toArray⟩, .slice ao n ca] 28)) w4 := p2.trans (b4.mono p2.size)
  clear h27 b4 p2 q2 d0 d1 d2 d3 d4 d5
  go_wp2
  go_loopw [5, 6] (fun f i wl => ∃ F j : Nat, f = .int .i64 (F : Nat) ∧ i = .int .i64 (j : Nat) ∧ j ≤ n ∧ Below (W.alloc (.cells #[.int .i64 k, .int .i64 v.k, .int .i64 v.n, .string ⟨v.s.toArray⟩, .string ⟨nm.toArray⟩, .slice ao n ca] 28)).heap.size (W.alloc (.cells #[.int .i64 k, .int .i64 v.k, .int .i64 v.n, .string ⟨v.s.toArray⟩, .string ⟨nm.toArray⟩, .slice ao n ca] 28)) wl ∧ Hid (F = 0 → T = faultL L (xs.drop j)) ∧ Hid (F ≠ 0 → T = F)) (fun _ i _ => n - (intOf i).toNat)
  case atStart => exact ⟨X, 0, rfl, rfl, Nat.zero_le _, p4, HT0, HT1⟩
  case round =>
    obtain ⟨F, j, rfl, rfl, hj, hnx, HA0, HA1⟩ := hrel
    clear p4
    have d5 := (HD.out wr hnx).2.2.2.2.2
    have qW : Below W.heap.size W wr := b0.trans (hnx.mono b0.size)
    by_cases hlt : j < n
    · have hlt' : (j : Int) < (n : Int) := by omega
      by_cases hF : F = 0
      · subst hF
        have hbW := hbW' (Nat.lt_of_le_of_lt (Nat.zero_le _) hlt)
        obtain ⟨y, hy⟩ : ∃ y, xs[j]? = some y := ⟨xs[j]'(by rw [Hn.out]; exact hlt), List.getElem?_eq_getElem _⟩
        obtain ⟨k2, v2, nm2, ao2, n2, ca2, hu, a0, a1, a2, a3, a4, a5⟩ := HS.out j y hy
        have c0 := (qW.cell (p := ⟨b, off + j * 6, none⟩) hbW).trans a0
        have c1 := (qW.cell (p := ⟨b, off + j * 6 + 1, none⟩) hbW).trans a1
        have c2 := (qW.cell (p := ⟨b, off + j * 6 + 2, none⟩) hbW).trans a2
        have c3 := (qW.cell (p := ⟨b, off + j * 6 + 3, none⟩) hbW).trans a3
        have c4 := (qW.cell (p := ⟨b, off + j * 6 + 4, none⟩) hbW).trans a4
        have c5 := (qW.cell (p := ⟨b, off + j * 6 + 5, none⟩) hbW).trans a5
        have hc := HF.out j y hy _ qW
        rw [hu] at hc
        have HDr : Hid (xs.drop j = y :: xs.drop (j + 1)) := by
          obtain ⟨hi, rfl⟩ := List.getElem?_eq_some_iff.1 hy
          exact List.drop_eq_getElem_cons hi
        obtain ⟨G, hG⟩ : ∃ G, faultE L y = G := ⟨_, rfl⟩
        have HG := hide hG
        rw [hG] at hc
        have HA := HAO.out (Nat.lt_of_le_of_lt (Nat.zero_le _) hlt)
        clear a0 a1 a2 a3 a4 a5 hy hu hG HF HS
        rw [HA] at d5
        clear HA
        go_wp2_with fail
        refine hc.mono ?_
        rintro e w5 ⟨rfl, b5⟩
        have p5 : Below (W.alloc (.cells #[.int .i64 k, .int .i64 v.k, .int .i64 v.n, .string ⟨v.s.toArray⟩, .string ⟨nm.toArray⟩, .slice ao n ca] 28)).heap.size (W.alloc (.cells #[.int .i64 k, .int .i64 v.k, .int .i64 v.n, .string ⟨v.s.toArray⟩, .string ⟨nm.toArray⟩, .slice ao n ca] 28)) w5 := hnx.trans (b5.mono hnx.size)
        clear hc b5
        go_wp2
        go_roundw
        case rel =>
          refine ⟨G, j + 1, rfl, by go_num, by omega, p5, fun h => ?_, fun h => ?_⟩
          · rw [HA0.out trivial, HDr.out, faultL, HG.out, if_pos h]
          · rw [HA0.out trivial, HDr.out, faultL, HG.out, if_neg h]
        case measure => simp [intOf]; omega
      · have hF' : ((F : Int) == 0) = false := by simpa using hF
        have HE := hide (HA1.out hF)
        clear HA0 HA1 HF HS hF
        go_wp2
        go_ret
        exact ⟨by rw [HE.out]; rfl, qW⟩
    · have hlt' : ¬ ((j : Int) < (n : Int)) := by omega
      have HE : Hid (T = F) := by
        by_cases hF : F = 0
        · rw [Hid, HA0.out hF, List.drop_of_length_le (by rw [Hn.out]; omega), hF]; rfl
        · exact HA1.out hF
      clear HA0 HA1 HF HS
      go_wp2
      go_ret
      exact ⟨by rw [HE.out]; rfl, qW⟩

theorem rcp_any (L : List Cl) (cv : Value) {B : Nat} {w0 : World} {u : Value} {x : Ex} (h : ExAt B w0 u x) : Fit x → ∀ W : World, Below w0.heap.size w0 W → CsAt W cv L →
    Calls Tryz.prog 25 #[cv, u] W fun e w' => e = .returned (.int .i64 (faultE L x : Nat)) ∧ Below W.heap.size W w' := by
  have core : ∀ (k : Int) (v : Vl) (nm : List UInt8) (ao : Option Addr) (b off n ca : Nat) (xs : List Ex) (us : Nat → Value) (W : World), xs.length = n → (0 < n → ao = some ⟨b, off, none⟩) → (0 < n → b < W.heap.size) → v.s.length ≤ 140737488355328 → CsAt W cv L →
      (∀ i y, xs[i]? = some y → ∃ (k : Int) (v : Vl) (nm : List UInt8) (ao : Option Addr) (n ca : Nat), us i = exL k v nm (.slice ao n ca) ∧ W.cell? ⟨b, off + i * 6, none⟩ = some (.int .i64 k) ∧ W.cell? ⟨b, off + i * 6 + 1, none⟩ = some (.int .i64 v.k) ∧ W.cell? ⟨b, off + i * 6 + 2, none⟩ = some (.int .i64 v.n) ∧
      W.cell? ⟨b, off + i * 6 + 3, none⟩ = some (.string ⟨v.s.toArray⟩) ∧ W.cell? ⟨b, off + i * 6 + 4, none⟩ = some (.string ⟨nm.toArray⟩) ∧ W.cell? ⟨b, off + i * 6 + 5, none⟩ = some (.slice ao n ca)) →
      (∀ i y, xs[i]? = some y → ∀ W' : World, Below W.heap.size W W' → Calls Tryz.prog 25 #[cv, us i] W' fun e w' => e = .returned (.int .i64 (faultE L y : Nat)) ∧ Below W'.heap.size W' w') →
      Calls Tryz.prog 25 #[cv, exL k v nm (.slice ao n ca)] W fun e w' => e = .returned (.int .i64 (faultE L (.mk k v nm xs) : Nat)) ∧ Below W.heap.size W w' := by
    intro k v nm ao b off n ca xs us W hn hao hbW hvs hC hS hf
    have hcol := fun (W' : World) (hW : Below W.heap.size W W') => rcol_any L cv nm W' (hC.below hW)
    by_cases hk : k < 1 ∨ 11 < k
    · have e : faultE L (.mk k v nm xs) = 7 := by
        have : partF L (.mk k v nm xs) = 7 := by rw [partF, if_pos (show (Ex.mk k v nm xs).k < 1 ∨ 11 < (Ex.mk k v nm xs).k from hk)]
        rw [faultE, this]; rfl
      rw [e]; exact rcp_kind cv k v nm ao n ca W hk
    have hpi := plain_iff hk v nm n
    by_cases hp : plainK k v nm n = true
    · have hnot := hpi.1 hp
      have h27 : ∀ W' : World, Calls Tryz.prog 27 #[.agg #[.int .i64 v.k, .int .i64 v.n, .string ⟨v.s.toArray⟩]] W' fun e w' => e = .returned (.int .i64 (chkV v.k v.n v.s : Nat)) ∧ Below W'.heap.size W' w' := by
        intro W'
        have h := ckv_any v.k v.n ⟨v.s.toArray⟩ W' (by rw [size_mk]; exact hvs)
        have e0 : (⟨v.s.toArray⟩ : ByteArray).data.toList = v.s := by simp
        rw [e0] at h; exact h
      have hform : partF L (.mk k v nm xs) = if k = 2 ∧ placeC L nm = none then 5 else chkV v.k v.n v.s := by
        rw [partF_mk, if_neg hk, if_neg (by rw [hn]; exact hnot)]
      by_cases h5 : k = 2 ∧ placeC L nm = none
      · have e : faultE L (.mk k v nm xs) = 5 := by
          rw [if_pos h5] at hform
          rw [faultE, hform]; rfl
        rw [e]
        rw [placeI_none h5.2] at hcol
        exact rcp_none cv k v nm ao n ca W (by rw [h5.1]; rfl) hk hp hcol
      · rw [if_neg h5] at hform
        have hT0 : chkV v.k v.n v.s = 0 → faultE L (.mk k v nm xs) = faultL L xs := fun h => by rw [faultE, hform, if_pos h]
        have hT1 : chkV v.k v.n v.s ≠ 0 → faultE L (.mk k v nm xs) = chkV v.k v.n v.s := fun h => by rw [faultE, hform, if_neg h]
        have hn2 : n ≤ 1000 := by
          have : n = argsS k := Classical.byContradiction fun e => hnot (.inl e)
          rw [this]; unfold argsS; split <;> (try split) <;> omega
        by_cases e2 : k = 2
        · obtain ⟨i, hi⟩ : ∃ i, placeC L nm = some i := by
            cases e : placeC L nm with
            | none => exact absurd ⟨e2, e⟩ h5
            | some i => exact ⟨i, rfl⟩
          rw [placeI_some hi] at hcol
          exact rcp_args2 cv k v nm ao b off n ca hao W L xs us _ _ hT0 hT1 hn hn2 hbW hk hp (by rw [e2]; rfl) i hcol hS hf h27
        · exact rcp_args cv k v nm ao b off n ca hao W L xs us _ _ hT0 hT1 hn hn2 hbW hk hp (by simpa using e2) hS hf h27
    · have hnot : n ≠ argsS k ∨ (k ≠ 1 ∧ v ≠ vl0) ∨ (k ≠ 2 ∧ nm ≠ []) := Classical.byContradiction fun h => hp (hpi.2 h)
      have e : faultE L (.mk k v nm xs) = 1 := by
        have : partF L (.mk k v nm xs) = 1 := by
          rw [partF_mk, if_neg hk, if_pos (by rw [hn]; exact hnot)]
        rw [faultE, this]; rfl
      rw [e]; exact rcp_form cv k v nm ao n ca W hk (by cases h : plainK k v nm n with | true => exact absurd h hp | false => rfl)
  induction h with
  | nil k v nm ao cap hz =>
    intro hf W hb hC
    exact core k v nm ao 0 0 0 cap [] (fun _ => .pointer none) W rfl (fun h => absurd h (Nat.lt_irrefl 0)) (fun h => absurd h (Nat.lt_irrefl 0)) (by cases hf with | mk k v nm args hv hn ha hh => exact hv) hC (fun i y hy => by cases hy) (fun i y hy => by cases hy)
  | args k v nm b off cap xs us hx hB hs hc hh ih =>
    intro hf W hb hC
    have hbW : b < W.heap.size := Nat.lt_of_lt_of_le hs hb.size
    exact core k v nm _ b off xs.length cap xs us W rfl (fun _ => rfl) (fun _ => hbW) (by cases hf with | mk k v nm args hv hn ha hh => exact hv) hC (six_at hb hs hc hh) fun i y hy W' hW =>
      ih i y hy (hf.args.2 y (List.mem_of_getElem? hy)) W' (hb.trans (hW.mono hb.size)) (hC.below hW)

end Go.Proofs.YtbelnjefnhelhabGreat
