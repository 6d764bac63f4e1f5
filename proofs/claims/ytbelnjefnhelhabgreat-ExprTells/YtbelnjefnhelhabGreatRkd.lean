/-
  The document's kindOf: of an expression with Args, of kinds 3 to 6.
-/
import Derived.Test.YtbelnjefnhelhabGreatRkb
namespace Go.Proofs.YtbelnjefnhelhabGreat
open Go.RowKit

set_option maxRecDepth 100000 in
set_option maxHeartbeats 3200000 in
theorem rkd_3 (cv : Value) (v : Vl) (nm : List UInt8) (b off ca : Nat) (W : World) (KS : List Int) (us : Nat → Value) (T : Int) (hn : KS.length = 1) (hbW : b < W.heap.size)
    (hneg : ∀ z ∈ KS, z < 0 → T = -1) (hmust : ∀ z ∈ KS, (0 : Int) < 3 → 0 < z → z ≠ 3 → T = -1) (hpair : (10 : Int) ≤ 3 → ∀ x y, KS[0]? = some x → KS[1]? = some y → 0 < x → 0 < y → x ≠ y → T = -1)
    (hok : (∀ z ∈ KS, 0 ≤ z) → (∀ z ∈ KS, ¬ ((0 : Int) < 3 ∧ 0 < z ∧ z ≠ 3)) → ((10 : Int) ≤ 3 → ∀ x y, KS[0]? = some x → KS[1]? = some y → ¬ (0 < x ∧ 0 < y ∧ x ≠ y)) → T = 3)
    (hS : ∀ i, i < 1 → ∃ (k : Int) (v : Vl) (nm : List UInt8) (ao : Option Addr) (n ca : Nat), us i = exL k v nm (.slice ao n ca) ∧ W.cell? ⟨b, off + i * 6, none⟩ = some (.int .i64 k) ∧ W.cell? ⟨b, off + i * 6 + 1, none⟩ = some (.int .i64 v.k) ∧ W.cell? ⟨b, off + i * 6 + 2, none⟩ = some (.int .i64 v.n) ∧
      W.cell? ⟨b, off + i * 6 + 3, none⟩ = some (.string ⟨v.s.toArray⟩) ∧ W.cell? ⟨b, off + i * 6 + 4, none⟩ = some (.string ⟨nm.toArray⟩) ∧ W.cell? ⟨b, off + i * 6 + 5, none⟩ = some (.slice ao n ca))
    (hf : ∀ i z, KS[i]? = some z → ∀ W' : World, Below W.heap.size W W' → Calls Tryz.prog 26 #[cv, us i] W' fun e w' => e = .returned (.int .i64 z) ∧ Below W'.heap.size W' w')
    (hbt : ∀ W' : World, Calls Tryz.prog 43 #[.int .i64 3, .int .i64 7, .int .i64 9] W' fun e w' => e = .returned (.bool false) ∧ w' = W') :
    Calls Tryz.prog 26 #[cv, exL 3 v nm (.slice (some ⟨b, off, none⟩) 1 ca)] W fun e w' => e = .returned (.int .i64 T) ∧ Below W.heap.size W w' := by
  obtain ⟨i0, hi, hz0, hz1, hz2⟩ := info_parts3 Tryz.info_int
  have HS := hide hS
  have HF := hide hf
  have HN := hide hneg
  have HM := hide hmust
  have HP := hide hpair
  have HO := hide hok
  have HL := hide hn
  have b0 := (Below.refl W.heap.size W).alloc (Nat.le_refl _) (.cells #[.int .i64 3, .int .i64 v.k, .int .i64 v.n, .string ⟨v.s.toArray⟩, .string ⟨nm.toArray⟩, .slice (some ⟨b, off, none⟩) 1 ca] 28)
  have hD : ∀ W' : World, Below (W.alloc (.cells #[.int .i64 3, .int .i64 v.k, .int .i64 v.n, .string ⟨v.s.toArray⟩, .string ⟨nm.toArray⟩, .slice (some ⟨b, off, none⟩) 1 ca] 28)).heap.size (W.alloc (.cells #[.int .i64 3, .int .i64 v.k, .int .i64 v.n, .string ⟨v.s.toArray⟩, .string ⟨nm.toArray⟩, .slice (some ⟨b, off, none⟩) 1 ca] 28)) W' → W'.cell? ⟨W.heap.size, 0, none⟩ = some (.int .i64 3) ∧ W'.cell? ⟨W.heap.size, 5, none⟩ = some (.slice (some ⟨b, off, none⟩) 1 ca) := fun W' hW =>
    ⟨(hW.cell (p := ⟨W.heap.size, 0, none⟩) (by simp)).trans (by simp), (hW.cell (p := ⟨W.heap.size, 5, none⟩) (by simp)).trans (by simp)⟩
  have z0 : (W.alloc (.cells #[.int .i64 3, .int .i64 v.k, .int .i64 v.n, .string ⟨v.s.toArray⟩, .string ⟨nm.toArray⟩, .slice (some ⟨b, off, none⟩) 1 ca] 28)).heap.size = W.heap.size + 1 := by simp
  have HD := hide hD
  clear hS hf hneg hmust hpair hok hn hD
  obtain ⟨d0, d5⟩ := HD.out _ (Below.refl _ _)
  go_enter Tryz.func26, Tryz.ntmps26
  go_wp2
  generalize (W.alloc (.cells #[.int .i64 3, .int .i64 v.k, .int .i64 v.n, .string ⟨v.s.toArray⟩, .string ⟨nm.toArray⟩, .slice (some ⟨b, off, none⟩) 1 ca] 28)) = w0 at *
  obtain ⟨B, hB⟩ : ∃ B, w0.heap.size = B := ⟨_, rfl⟩
  have HB := hide hB
  clear d0 d5
  go_loopw [5, 6] (fun vv i wl => ∃ j : Nat, j ≤ 1 ∧ i = .int .i64 j ∧ wl.ownsRow B 3 1 vv j ((KS.take j).map (fun z => Value.int .i64 z)) ∧ Below B w0 wl ∧ Hid (∀ q z, q < j → KS[q]? = some z → 0 ≤ z)) (fun _ i _ => 1 - (intOf i).toNat)
  case atStart => exact ⟨0, Nat.zero_le _, rfl, World.ownsRow_nil _ _ _ _, Below.refl _ _, fun q z hq => absurd hq (Nat.not_lt_zero _)⟩
  case round =>
    obtain ⟨j, hj, rfl, hown, hnx, HZ⟩ := hrel
    have hszB : B ≤ wr.heap.size := by have := hnx.size; have := HB.out; omega
    have qW : Below W.heap.size W wr := b0.trans (hnx.mono (by omega))
    obtain ⟨d0, d5⟩ := HD.out wr (by rw [HB.out]; exact hnx)
    by_cases hlt : j < 1
    · obtain ⟨z, hz⟩ : ∃ z, KS[j]? = some z := ⟨KS[j]'(by rw [HL.out]; exact hlt), List.getElem?_eq_getElem _⟩
      obtain ⟨k3, v3, nm3, ao3, n3, ca3, hu, a0, a1, a2, a3, a4, a5⟩ := HS.out j hlt
      have c0 := (qW.cell (p := ⟨b, off + j * 6, none⟩) hbW).trans a0
      have c1 := (qW.cell (p := ⟨b, off + j * 6 + 1, none⟩) hbW).trans a1
      have c2 := (qW.cell (p := ⟨b, off + j * 6 + 2, none⟩) hbW).trans a2
      have c3 := (qW.cell (p := ⟨b, off + j * 6 + 3, none⟩) hbW).trans a3
      have c4 := (qW.cell (p := ⟨b, off + j * 6 + 4, none⟩) hbW).trans a4
      have c5 := (qW.cell (p := ⟨b, off + j * 6 + 5, none⟩) hbW).trans a5
      have hlt' : (j : Int) < 1 := by omega
      have hc := HF.out j z hz _ qW
      rw [hu] at hc
      have HZ1 := hide hz
      obtain ⟨va, vc, hv⟩ := owns_slice hown
      subst hv
      clear a0 a1 a2 a3 a4 a5 hz hu HS HF
      by_cases hz0' : z < 0
      · have HE : Hid (T = -1) := HN.out z (List.mem_of_getElem? HZ1.out) hz0'
        clear hown HZ HN HM HP HO
        go_wp2_with fail
        refine hc.mono ?_
        rintro e w3 ⟨rfl, b3⟩
        have q3 : Below W.heap.size W w3 := qW.trans (b3.mono qW.size)
        clear hc b3 c0 c1 c2 c3 c4 c5 d0 d5
        go_wp2
        go_ret
        exact ⟨by rw [HE.out]; rfl, q3⟩
      · have HOwn := hide hown
        clear hown
        go_wp2_with fail
        refine hc.mono ?_
        rintro e w3 ⟨rfl, b3⟩
        have ho2 := (own1_below HOwn.out b3).alloc (.cells #[.int .i64 z] 3)
        have q3 : Below B w0 w3 := hnx.trans (b3.mono hszB)
        have hs3 : B ≤ w3.heap.size := Nat.le_trans hszB b3.size
        have hxlt := ho2.lt
        clear HOwn b3 hc c0 c1 c2 c3 c4 c5 d0 d5
        go_wp2_with (at_builtin; refine wpList_append_own _ rfl _ _ 74 rfl B 3 i0 (.int .i64 0) 1 8 Tryz.underlying74 hi hz0 hz1 hz2 rfl (by decide) _ _ _ rfl ho2 ⟨w3.heap.size, 0, none⟩ 1 1 [.int .i64 z] rfl rfl ?c1 ?c2 ?c3 ?c4 ?c5 ?_)
        case c1 =>
          intro j u hj
          match j, hj with
            | 0, hj => simp at hj; subst hj; simp [Addr.add]
        case c2 => intro u hu; simp at hu; rcases hu with rfl; rfl
        case c3 => unfold maxLen; omega
        case c4 => omega
        case c5 => simp; omega
        intro v' w4 hown' hgrow _
        have q4 : Below B w0 w4 := (q3.alloc hs3 _).grown hgrow (by simp; omega) (fun q hq => (hxlt q hq).1)
        have R3 : w4.ownsRow B 3 1 v' (j + 1) ((KS.take (j + 1)).map (fun z => Value.int .i64 z)) := by
          have e1 : KS.take (j + 1) = KS.take j ++ [z] := by rw [List.take_add_one, HZ1.out]; rfl
          rw [e1, List.map_append, List.map_take]
          exact hown'
        clear hown' hgrow ho2 hxlt
        go_wp2
        go_roundw
        case rel =>
          refine ⟨j + 1, by omega, by go_num, R3, q4, fun q y hq hy => ?_⟩
          rcases Nat.lt_or_ge q j with h | h
          · exact HZ.out q y h hy
          · rw [show q = j by omega, HZ1.out] at hy; cases hy; omega
        case measure => simp [intOf]; omega
    · obtain rfl : j = 1 := by omega
      have hall : ∀ z ∈ KS, 0 ≤ z := by
        intro z hz
        obtain ⟨q, hq, e⟩ := List.getElem_of_mem hz
        exact HZ.out q z (by rw [← HL.out]; exact hq) (by rw [List.getElem?_eq_getElem hq, e])
      have hk : KS.take 1 = KS := List.take_of_length_le (by rw [HL.out]; exact Nat.le_refl _)
      rw [hk] at hown
      have HAll := hide hall
      obtain ⟨g, vc, hv, hBg, hgw⟩ := owns_some hown (by decide)
      subst hv
      have hk0 : ∀ q z, KS[q]? = some z → wr.cell? ⟨g, q, none⟩ = some (.int .i64 z) := by
        intro q z hq
        have hlt' : q < KS.length := (List.getElem?_eq_some_iff.1 hq).1
        have := hown.cellAt q (by rw [HL.out] at hlt'; omega)
        rw [this, List.getElem?_map, hq]; rfl
      have HK := hide hk0
      have hgw' : g < wr.heap.size := hgw
      have hWl : W.heap.size < wr.heap.size := by have := HB.out; omega
      clear hk0 hall hk HZ HS HF HN hown hgw
      go_wp2
      have b5 : Below wr.heap.size wr (wr.alloc (.cells #[.int .i64 0, .int .i64 0, .int .i64 0, .int .i64 3, .int .i64 0, .int .i64 3, .int .i64 3, .int .i64 1, .int .i64 1, .int .i64 2, .int .i64 0, .int .i64 0] 3)) := (Below.refl _ _).alloc (Nat.le_refl _) _
      generalize wr.alloc (.cells #[.int .i64 0, .int .i64 0, .int .i64 0, .int .i64 3, .int .i64 0, .int .i64 3, .int .i64 3, .int .i64 1, .int .i64 1, .int .i64 2, .int .i64 0, .int .i64 0] 3) = w5 at *
      generalize wr = wo at *
      go_loopw [9] (fun i wl => ∃ j : Nat, j ≤ 1 ∧ i = .int .i64 j ∧ Below wo.heap.size wo wl ∧ Hid (∀ q z, q < j → KS[q]? = some z → ¬ ((0 : Int) < 3 ∧ 0 < z ∧ z ≠ 3))) (fun i _ => 1 - (intOf i).toNat)
      case atStart => exact ⟨0, Nat.zero_le _, rfl, b5, fun q z hq => absurd hq (Nat.not_lt_zero _)⟩
      case round =>
        obtain ⟨j, hj, rfl, hnx, HZ⟩ := hrel
        clear b5
        have qX : Below W.heap.size W wr := qW.trans (hnx.mono (by omega))
        have d0' := (hnx.cell (p := ⟨W.heap.size, 0, none⟩) hWl).trans d0
        by_cases hlt : j < 1
        · obtain ⟨z, hz⟩ : ∃ z, KS[j]? = some z := ⟨KS[j]'(by rw [HL.out]; exact hlt), List.getElem?_eq_getElem _⟩
          have c0 := (hnx.cell (p := ⟨g, j, none⟩) hgw').trans (HK.out j z hz)
          have hlt' : (j : Int) < 1 := by omega
          have HZ1 := hide hz
          have hd : z ≤ 0 ∨ (0 < z ∧ z = 3) ∨ (0 < z ∧ z ≠ 3) := by omega
          clear hz HK
          rcases hd with h1 | ⟨h1, h2⟩ | ⟨h1, h2⟩
          · have h1' : ¬ (0 < z) := by omega
            have HH := hide h1'
            go_wp2
            go_roundw
            case rel =>
              refine ⟨j + 1, by omega, by go_num, hnx, fun q y hq hy => ?_⟩
              rcases Nat.lt_or_ge q j with h | h
              · exact HZ.out q y h hy
              · rw [show q = j by omega, HZ1.out] at hy; cases hy; intro hh; exact HH.out hh.2.1
            case measure => simp [intOf]; omega
          · subst h2
            go_wp2
            go_roundw
            case rel =>
              refine ⟨j + 1, by omega, by go_num, hnx, fun q y hq hy => ?_⟩
              rcases Nat.lt_or_ge q j with h | h
              · exact HZ.out q y h hy
              · rw [show q = j by omega, HZ1.out] at hy; cases hy; intro hh; exact hh.2.2 rfl
            case measure => simp [intOf]; omega
          · have HE : Hid (T = -1) := HM.out z (List.mem_of_getElem? HZ1.out) (by decide) h1 h2
            have h2' : (z != 3) = true := by simpa using h2
            clear HM HP HO HZ
            go_wp2
            go_ret
            exact ⟨by rw [HE.out]; rfl, qX⟩
        · obtain rfl : j = 1 := by omega
          have hnm : ∀ z ∈ KS, ¬ ((0 : Int) < 3 ∧ 0 < z ∧ z ≠ 3) := by
            intro z hz
            obtain ⟨q, hq, e⟩ := List.getElem_of_mem hz
            exact HZ.out q z (by rw [← HL.out]; exact hq) (by rw [List.getElem?_eq_getElem hq, e])
          have HNm := hide hnm
          clear hnm HZ HM
          have HE : Hid (T = 3) := HO.out HAll.out HNm.out (fun h => absurd h (by decide))
          clear HP HO HK
          go_wp2_with fail
          go_quiet (fail)
          go_wp2_with (go_at_call 43; refine (hbt _).mono ?_; rintro e w7 ⟨rfl, e7⟩; obtain rfl := e7.symm; clear e7)
          go_ret
          exact ⟨by rw [HE.out]; rfl, below_drewN qX _⟩

set_option maxRecDepth 100000 in
set_option maxHeartbeats 3200000 in
theorem rkd_4 (cv : Value) (v : Vl) (nm : List UInt8) (b off ca : Nat) (W : World) (KS : List Int) (us : Nat → Value) (T : Int) (hn : KS.length = 1) (hbW : b < W.heap.size)
    (hneg : ∀ z ∈ KS, z < 0 → T = -1) (hmust : ∀ z ∈ KS, (0 : Int) < 0 → 0 < z → z ≠ 0 → T = -1) (hpair : (10 : Int) ≤ 4 → ∀ x y, KS[0]? = some x → KS[1]? = some y → 0 < x → 0 < y → x ≠ y → T = -1)
    (hok : (∀ z ∈ KS, 0 ≤ z) → (∀ z ∈ KS, ¬ ((0 : Int) < 0 ∧ 0 < z ∧ z ≠ 0)) → ((10 : Int) ≤ 4 → ∀ x y, KS[0]? = some x → KS[1]? = some y → ¬ (0 < x ∧ 0 < y ∧ x ≠ y)) → T = 3)
    (hS : ∀ i, i < 1 → ∃ (k : Int) (v : Vl) (nm : List UInt8) (ao : Option Addr) (n ca : Nat), us i = exL k v nm (.slice ao n ca) ∧ W.cell? ⟨b, off + i * 6, none⟩ = some (.int .i64 k) ∧ W.cell? ⟨b, off + i * 6 + 1, none⟩ = some (.int .i64 v.k) ∧ W.cell? ⟨b, off + i * 6 + 2, none⟩ = some (.int .i64 v.n) ∧
      W.cell? ⟨b, off + i * 6 + 3, none⟩ = some (.string ⟨v.s.toArray⟩) ∧ W.cell? ⟨b, off + i * 6 + 4, none⟩ = some (.string ⟨nm.toArray⟩) ∧ W.cell? ⟨b, off + i * 6 + 5, none⟩ = some (.slice ao n ca))
    (hf : ∀ i z, KS[i]? = some z → ∀ W' : World, Below W.heap.size W W' → Calls Tryz.prog 26 #[cv, us i] W' fun e w' => e = .returned (.int .i64 z) ∧ Below W'.heap.size W' w')
    (hbt : ∀ W' : World, Calls Tryz.prog 43 #[.int .i64 4, .int .i64 7, .int .i64 9] W' fun e w' => e = .returned (.bool false) ∧ w' = W') :
    Calls Tryz.prog 26 #[cv, exL 4 v nm (.slice (some ⟨b, off, none⟩) 1 ca)] W fun e w' => e = .returned (.int .i64 T) ∧ Below W.heap.size W w' := by
  obtain ⟨i0, hi, hz0, hz1, hz2⟩ := info_parts3 Tryz.info_int
  have HS := hide hS
  have HF := hide hf
  have HN := hide hneg
  have HM := hide hmust
  have HP := hide hpair
  have HO := hide hok
  have HL := hide hn
  have b0 := (Below.refl W.heap.size W).alloc (Nat.le_refl _) (.cells #[.int .i64 4, .int .i64 v.k, .int .i64 v.n, .string ⟨v.s.toArray⟩, .string ⟨nm.toArray⟩, .slice (some ⟨b, off, none⟩) 1 ca] 28)
  have hD : ∀ W' : World, Below (W.alloc (.cells #[.int .i64 4, .int .i64 v.k, .int .i64 v.n, .string ⟨v.s.toArray⟩, .string ⟨nm.toArray⟩, .slice (some ⟨b, off, none⟩) 1 ca] 28)).heap.size (W.alloc (.cells #[.int .i64 4, .int .i64 v.k, .int .i64 v.n, .string ⟨v.s.toArray⟩, .string ⟨nm.toArray⟩, .slice (some ⟨b, off, none⟩) 1 ca] 28)) W' → W'.cell? ⟨W.heap.size, 0, none⟩ = some (.int .i64 4) ∧ W'.cell? ⟨W.heap.size, 5, none⟩ = some (.slice (some ⟨b, off, none⟩) 1 ca) := fun W' hW =>
    ⟨(hW.cell (p := ⟨W.heap.size, 0, none⟩) (by simp)).trans (by simp), (hW.cell (p := ⟨W.heap.size, 5, none⟩) (by simp)).trans (by simp)⟩
  have z0 : (W.alloc (.cells #[.int .i64 4, .int .i64 v.k, .int .i64 v.n, .string ⟨v.s.toArray⟩, .string ⟨nm.toArray⟩, .slice (some ⟨b, off, none⟩) 1 ca] 28)).heap.size = W.heap.size + 1 := by simp
  have HD := hide hD
  clear hS hf hneg hmust hpair hok hn hD
  obtain ⟨d0, d5⟩ := HD.out _ (Below.refl _ _)
  go_enter Tryz.func26, Tryz.ntmps26
  go_wp2
  generalize (W.alloc (.cells #[.int .i64 4, .int .i64 v.k, .int .i64 v.n, .string ⟨v.s.toArray⟩, .string ⟨nm.toArray⟩, .slice (some ⟨b, off, none⟩) 1 ca] 28)) = w0 at *
  obtain ⟨B, hB⟩ : ∃ B, w0.heap.size = B := ⟨_, rfl⟩
  have HB := hide hB
  clear d0 d5
  go_loopw [5, 6] (fun vv i wl => ∃ j : Nat, j ≤ 1 ∧ i = .int .i64 j ∧ wl.ownsRow B 3 1 vv j ((KS.take j).map (fun z => Value.int .i64 z)) ∧ Below B w0 wl ∧ Hid (∀ q z, q < j → KS[q]? = some z → 0 ≤ z)) (fun _ i _ => 1 - (intOf i).toNat)
  case atStart => exact ⟨0, Nat.zero_le _, rfl, World.ownsRow_nil _ _ _ _, Below.refl _ _, fun q z hq => absurd hq (Nat.not_lt_zero _)⟩
  case round =>
    obtain ⟨j, hj, rfl, hown, hnx, HZ⟩ := hrel
    have hszB : B ≤ wr.heap.size := by have := hnx.size; have := HB.out; omega
    have qW : Below W.heap.size W wr := b0.trans (hnx.mono (by omega))
    obtain ⟨d0, d5⟩ := HD.out wr (by rw [HB.out]; exact hnx)
    by_cases hlt : j < 1
    · obtain ⟨z, hz⟩ : ∃ z, KS[j]? = some z := ⟨KS[j]'(by rw [HL.out]; exact hlt), List.getElem?_eq_getElem _⟩
      obtain ⟨k3, v3, nm3, ao3, n3, ca3, hu, a0, a1, a2, a3, a4, a5⟩ := HS.out j hlt
      have c0 := (qW.cell (p := ⟨b, off + j * 6, none⟩) hbW).trans a0
      have c1 := (qW.cell (p := ⟨b, off + j * 6 + 1, none⟩) hbW).trans a1
      have c2 := (qW.cell (p := ⟨b, off + j * 6 + 2, none⟩) hbW).trans a2
      have c3 := (qW.cell (p := ⟨b, off + j * 6 + 3, none⟩) hbW).trans a3
      have c4 := (qW.cell (p := ⟨b, off + j * 6 + 4, none⟩) hbW).trans a4
      have c5 := (qW.cell (p := ⟨b, off + j * 6 + 5, none⟩) hbW).trans a5
      have hlt' : (j : Int) < 1 := by omega
      have hc := HF.out j z hz _ qW
      rw [hu] at hc
      have HZ1 := hide hz
      obtain ⟨va, vc, hv⟩ := owns_slice hown
      subst hv
      clear a0 a1 a2 a3 a4 a5 hz hu HS HF
      by_cases hz0' : z < 0
      · have HE : Hid (T = -1) := HN.out z (List.mem_of_getElem? HZ1.out) hz0'
        clear hown HZ HN HM HP HO
        go_wp2_with fail
        refine hc.mono ?_
        rintro e w3 ⟨rfl, b3⟩
        have q3 : Below W.heap.size W w3 := qW.trans (b3.mono qW.size)
        clear hc b3 c0 c1 c2 c3 c4 c5 d0 d5
        go_wp2
        go_ret
        exact ⟨by rw [HE.out]; rfl, q3⟩
      · have HOwn := hide hown
        clear hown
        go_wp2_with fail
        refine hc.mono ?_
        rintro e w3 ⟨rfl, b3⟩
        have ho2 := (own1_below HOwn.out b3).alloc (.cells #[.int .i64 z] 3)
        have q3 : Below B w0 w3 := hnx.trans (b3.mono hszB)
        have hs3 : B ≤ w3.heap.size := Nat.le_trans hszB b3.size
        have hxlt := ho2.lt
        clear HOwn b3 hc c0 c1 c2 c3 c4 c5 d0 d5
        go_wp2_with (at_builtin; refine wpList_append_own _ rfl _ _ 74 rfl B 3 i0 (.int .i64 0) 1 8 Tryz.underlying74 hi hz0 hz1 hz2 rfl (by decide) _ _ _ rfl ho2 ⟨w3.heap.size, 0, none⟩ 1 1 [.int .i64 z] rfl rfl ?c1 ?c2 ?c3 ?c4 ?c5 ?_)
        case c1 =>
          intro j u hj
          match j, hj with
            | 0, hj => simp at hj; subst hj; simp [Addr.add]
        case c2 => intro u hu; simp at hu; rcases hu with rfl; rfl
        case c3 => unfold maxLen; omega
        case c4 => omega
        case c5 => simp; omega
        intro v' w4 hown' hgrow _
        have q4 : Below B w0 w4 := (q3.alloc hs3 _).grown hgrow (by simp; omega) (fun q hq => (hxlt q hq).1)
        have R3 : w4.ownsRow B 3 1 v' (j + 1) ((KS.take (j + 1)).map (fun z => Value.int .i64 z)) := by
          have e1 : KS.take (j + 1) = KS.take j ++ [z] := by rw [List.take_add_one, HZ1.out]; rfl
          rw [e1, List.map_append, List.map_take]
          exact hown'
        clear hown' hgrow ho2 hxlt
        go_wp2
        go_roundw
        case rel =>
          refine ⟨j + 1, by omega, by go_num, R3, q4, fun q y hq hy => ?_⟩
          rcases Nat.lt_or_ge q j with h | h
          · exact HZ.out q y h hy
          · rw [show q = j by omega, HZ1.out] at hy; cases hy; omega
        case measure => simp [intOf]; omega
    · obtain rfl : j = 1 := by omega
      have hall : ∀ z ∈ KS, 0 ≤ z := by
        intro z hz
        obtain ⟨q, hq, e⟩ := List.getElem_of_mem hz
        exact HZ.out q z (by rw [← HL.out]; exact hq) (by rw [List.getElem?_eq_getElem hq, e])
      have hk : KS.take 1 = KS := List.take_of_length_le (by rw [HL.out]; exact Nat.le_refl _)
      rw [hk] at hown
      have HAll := hide hall
      obtain ⟨g, vc, hv, hBg, hgw⟩ := owns_some hown (by decide)
      subst hv
      have hk0 : ∀ q z, KS[q]? = some z → wr.cell? ⟨g, q, none⟩ = some (.int .i64 z) := by
        intro q z hq
        have hlt' : q < KS.length := (List.getElem?_eq_some_iff.1 hq).1
        have := hown.cellAt q (by rw [HL.out] at hlt'; omega)
        rw [this, List.getElem?_map, hq]; rfl
      have HK := hide hk0
      have hgw' : g < wr.heap.size := hgw
      have hWl : W.heap.size < wr.heap.size := by have := HB.out; omega
      clear hk0 hall hk HZ HS HF HN hown hgw
      go_wp2
      have b5 : Below wr.heap.size wr (wr.alloc (.cells #[.int .i64 0, .int .i64 0, .int .i64 0, .int .i64 3, .int .i64 0, .int .i64 3, .int .i64 3, .int .i64 1, .int .i64 1, .int .i64 2, .int .i64 0, .int .i64 0] 3)) := (Below.refl _ _).alloc (Nat.le_refl _) _
      generalize wr.alloc (.cells #[.int .i64 0, .int .i64 0, .int .i64 0, .int .i64 3, .int .i64 0, .int .i64 3, .int .i64 3, .int .i64 1, .int .i64 1, .int .i64 2, .int .i64 0, .int .i64 0] 3) = w5 at *
      generalize wr = wo at *
      go_loopw [9] (fun i wl => ∃ j : Nat, j ≤ 1 ∧ i = .int .i64 j ∧ Below wo.heap.size wo wl ∧ Hid (∀ q z, q < j → KS[q]? = some z → ¬ ((0 : Int) < 0 ∧ 0 < z ∧ z ≠ 0))) (fun i _ => 1 - (intOf i).toNat)
      case atStart => exact ⟨0, Nat.zero_le _, rfl, b5, fun q z hq => absurd hq (Nat.not_lt_zero _)⟩
      case round =>
        obtain ⟨j, hj, rfl, hnx, HZ⟩ := hrel
        clear b5
        have qX : Below W.heap.size W wr := qW.trans (hnx.mono (by omega))
        have d0' := (hnx.cell (p := ⟨W.heap.size, 0, none⟩) hWl).trans d0
        by_cases hlt : j < 1
        · obtain ⟨z, hz⟩ : ∃ z, KS[j]? = some z := ⟨KS[j]'(by rw [HL.out]; exact hlt), List.getElem?_eq_getElem _⟩
          have c0 := (hnx.cell (p := ⟨g, j, none⟩) hgw').trans (HK.out j z hz)
          have hlt' : (j : Int) < 1 := by omega
          have HZ1 := hide hz
          clear hz HK
          go_wp2
          go_roundw
          case rel =>
            refine ⟨j + 1, by omega, by go_num, hnx, fun q y hq hy => ?_⟩
            intro hh; exact absurd hh.1 (by decide)
          case measure => simp [intOf]; omega
        · obtain rfl : j = 1 := by omega
          have hnm : ∀ z ∈ KS, ¬ ((0 : Int) < 0 ∧ 0 < z ∧ z ≠ 0) := by
            intro z hz
            obtain ⟨q, hq, e⟩ := List.getElem_of_mem hz
            exact HZ.out q z (by rw [← HL.out]; exact hq) (by rw [List.getElem?_eq_getElem hq, e])
          have HNm := hide hnm
          clear hnm HZ HM
          have HE : Hid (T = 3) := HO.out HAll.out HNm.out (fun h => absurd h (by decide))
          clear HP HO HK
          go_wp2_with fail
          go_quiet (fail)
          go_wp2_with (go_at_call 43; refine (hbt _).mono ?_; rintro e w7 ⟨rfl, e7⟩; obtain rfl := e7.symm; clear e7)
          go_ret
          exact ⟨by rw [HE.out]; rfl, below_drewN qX _⟩

set_option maxRecDepth 100000 in
set_option maxHeartbeats 3200000 in
theorem rkd_5 (cv : Value) (v : Vl) (nm : List UInt8) (b off ca : Nat) (W : World) (KS : List Int) (us : Nat → Value) (T : Int) (hn : KS.length = 2) (hbW : b < W.heap.size)
    (hneg : ∀ z ∈ KS, z < 0 → T = -1) (hmust : ∀ z ∈ KS, (0 : Int) < 3 → 0 < z → z ≠ 3 → T = -1) (hpair : (10 : Int) ≤ 5 → ∀ x y, KS[0]? = some x → KS[1]? = some y → 0 < x → 0 < y → x ≠ y → T = -1)
    (hok : (∀ z ∈ KS, 0 ≤ z) → (∀ z ∈ KS, ¬ ((0 : Int) < 3 ∧ 0 < z ∧ z ≠ 3)) → ((10 : Int) ≤ 5 → ∀ x y, KS[0]? = some x → KS[1]? = some y → ¬ (0 < x ∧ 0 < y ∧ x ≠ y)) → T = 3)
    (hS : ∀ i, i < 2 → ∃ (k : Int) (v : Vl) (nm : List UInt8) (ao : Option Addr) (n ca : Nat), us i = exL k v nm (.slice ao n ca) ∧ W.cell? ⟨b, off + i * 6, none⟩ = some (.int .i64 k) ∧ W.cell? ⟨b, off + i * 6 + 1, none⟩ = some (.int .i64 v.k) ∧ W.cell? ⟨b, off + i * 6 + 2, none⟩ = some (.int .i64 v.n) ∧
      W.cell? ⟨b, off + i * 6 + 3, none⟩ = some (.string ⟨v.s.toArray⟩) ∧ W.cell? ⟨b, off + i * 6 + 4, none⟩ = some (.string ⟨nm.toArray⟩) ∧ W.cell? ⟨b, off + i * 6 + 5, none⟩ = some (.slice ao n ca))
    (hf : ∀ i z, KS[i]? = some z → ∀ W' : World, Below W.heap.size W W' → Calls Tryz.prog 26 #[cv, us i] W' fun e w' => e = .returned (.int .i64 z) ∧ Below W'.heap.size W' w')
    (hbt : ∀ W' : World, Calls Tryz.prog 43 #[.int .i64 5, .int .i64 7, .int .i64 9] W' fun e w' => e = .returned (.bool false) ∧ w' = W') :
    Calls Tryz.prog 26 #[cv, exL 5 v nm (.slice (some ⟨b, off, none⟩) 2 ca)] W fun e w' => e = .returned (.int .i64 T) ∧ Below W.heap.size W w' := by
  obtain ⟨i0, hi, hz0, hz1, hz2⟩ := info_parts3 Tryz.info_int
  have HS := hide hS
  have HF := hide hf
  have HN := hide hneg
  have HM := hide hmust
  have HP := hide hpair
  have HO := hide hok
  have HL := hide hn
  have b0 := (Below.refl W.heap.size W).alloc (Nat.le_refl _) (.cells #[.int .i64 5, .int .i64 v.k, .int .i64 v.n, .string ⟨v.s.toArray⟩, .string ⟨nm.toArray⟩, .slice (some ⟨b, off, none⟩) 2 ca] 28)
  have hD : ∀ W' : World, Below (W.alloc (.cells #[.int .i64 5, .int .i64 v.k, .int .i64 v.n, .string ⟨v.s.toArray⟩, .string ⟨nm.toArray⟩, .slice (some ⟨b, off, none⟩) 2 ca] 28)).heap.size (W.alloc (.cells #[.int .i64 5, .int .i64 v.k, .int .i64 v.n, .string ⟨v.s.toArray⟩, .string ⟨nm.toArray⟩, .slice (some ⟨b, off, none⟩) 2 ca] 28)) W' → W'.cell? ⟨W.heap.size, 0, none⟩ = some (.int .i64 5) ∧ W'.cell? ⟨W.heap.size, 5, none⟩ = some (.slice (some ⟨b, off, none⟩) 2 ca) := fun W' hW =>
    ⟨(hW.cell (p := ⟨W.heap.size, 0, none⟩) (by simp)).trans (by simp), (hW.cell (p := ⟨W.heap.size, 5, none⟩) (by simp)).trans (by simp)⟩
  have z0 : (W.alloc (.cells #[.int .i64 5, .int .i64 v.k, .int .i64 v.n, .string ⟨v.s.toArray⟩, .string ⟨nm.toArray⟩, .slice (some ⟨b, off, none⟩) 2 ca] 28)).heap.size = W.heap.size + 1 := by simp
  have HD := hide hD
  clear hS hf hneg hmust hpair hok hn hD
  obtain ⟨d0, d5⟩ := HD.out _ (Below.refl _ _)
  go_enter Tryz.func26, Tryz.ntmps26
  go_wp2
  generalize (W.alloc (.cells #[.int .i64 5, .int .i64 v.k, .int .i64 v.n, .string ⟨v.s.toArray⟩, .string ⟨nm.toArray⟩, .slice (some ⟨b, off, none⟩) 2 ca] 28)) = w0 at *
  obtain ⟨B, hB⟩ : ∃ B, w0.heap.size = B := ⟨_, rfl⟩
  have HB := hide hB
  clear d0 d5
  go_loopw [5, 6] (fun vv i wl => ∃ j : Nat, j ≤ 2 ∧ i = .int .i64 j ∧ wl.ownsRow B 3 1 vv j ((KS.take j).map (fun z => Value.int .i64 z)) ∧ Below B w0 wl ∧ Hid (∀ q z, q < j → KS[q]? = some z → 0 ≤ z)) (fun _ i _ => 2 - (intOf i).toNat)
  case atStart => exact ⟨0, Nat.zero_le _, rfl, World.ownsRow_nil _ _ _ _, Below.refl _ _, fun q z hq => absurd hq (Nat.not_lt_zero _)⟩
  case round =>
    obtain ⟨j, hj, rfl, hown, hnx, HZ⟩ := hrel
    have hszB : B ≤ wr.heap.size := by have := hnx.size; have := HB.out; omega
    have qW : Below W.heap.size W wr := b0.trans (hnx.mono (by omega))
    obtain ⟨d0, d5⟩ := HD.out wr (by rw [HB.out]; exact hnx)
    by_cases hlt : j < 2
    · obtain ⟨z, hz⟩ : ∃ z, KS[j]? = some z := ⟨KS[j]'(by rw [HL.out]; exact hlt), List.getElem?_eq_getElem _⟩
      obtain ⟨k3, v3, nm3, ao3, n3, ca3, hu, a0, a1, a2, a3, a4, a5⟩ := HS.out j hlt
      have c0 := (qW.cell (p := ⟨b, off + j * 6, none⟩) hbW).trans a0
      have c1 := (qW.cell (p := ⟨b, off + j * 6 + 1, none⟩) hbW).trans a1
      have c2 := (qW.cell (p := ⟨b, off + j * 6 + 2, none⟩) hbW).trans a2
      have c3 := (qW.cell (p := ⟨b, off + j * 6 + 3, none⟩) hbW).trans a3
      have c4 := (qW.cell (p := ⟨b, off + j * 6 + 4, none⟩) hbW).trans a4
      have c5 := (qW.cell (p := ⟨b, off + j * 6 + 5, none⟩) hbW).trans a5
      have hlt' : (j : Int) < 2 := by omega
      have hc := HF.out j z hz _ qW
      rw [hu] at hc
      have HZ1 := hide hz
      obtain ⟨va, vc, hv⟩ := owns_slice hown
      subst hv
      clear a0 a1 a2 a3 a4 a5 hz hu HS HF
      by_cases hz0' : z < 0
      · have HE : Hid (T = -1) := HN.out z (List.mem_of_getElem? HZ1.out) hz0'
        clear hown HZ HN HM HP HO
        go_wp2_with fail
        refine hc.mono ?_
        rintro e w3 ⟨rfl, b3⟩
        have q3 : Below W.heap.size W w3 := qW.trans (b3.mono qW.size)
        clear hc b3 c0 c1 c2 c3 c4 c5 d0 d5
        go_wp2
        go_ret
        exact ⟨by rw [HE.out]; rfl, q3⟩
      · have HOwn := hide hown
        clear hown
        go_wp2_with fail
        refine hc.mono ?_
        rintro e w3 ⟨rfl, b3⟩
        have ho2 := (own1_below HOwn.out b3).alloc (.cells #[.int .i64 z] 3)
        have q3 : Below B w0 w3 := hnx.trans (b3.mono hszB)
        have hs3 : B ≤ w3.heap.size := Nat.le_trans hszB b3.size
        have hxlt := ho2.lt
        clear HOwn b3 hc c0 c1 c2 c3 c4 c5 d0 d5
        go_wp2_with (at_builtin; refine wpList_append_own _ rfl _ _ 74 rfl B 3 i0 (.int .i64 0) 1 8 Tryz.underlying74 hi hz0 hz1 hz2 rfl (by decide) _ _ _ rfl ho2 ⟨w3.heap.size, 0, none⟩ 1 1 [.int .i64 z] rfl rfl ?c1 ?c2 ?c3 ?c4 ?c5 ?_)
        case c1 =>
          intro j u hj
          match j, hj with
            | 0, hj => simp at hj; subst hj; simp [Addr.add]
        case c2 => intro u hu; simp at hu; rcases hu with rfl; rfl
        case c3 => unfold maxLen; omega
        case c4 => omega
        case c5 => simp; omega
        intro v' w4 hown' hgrow _
        have q4 : Below B w0 w4 := (q3.alloc hs3 _).grown hgrow (by simp; omega) (fun q hq => (hxlt q hq).1)
        have R3 : w4.ownsRow B 3 1 v' (j + 1) ((KS.take (j + 1)).map (fun z => Value.int .i64 z)) := by
          have e1 : KS.take (j + 1) = KS.take j ++ [z] := by rw [List.take_add_one, HZ1.out]; rfl
          rw [e1, List.map_append, List.map_take]
          exact hown'
        clear hown' hgrow ho2 hxlt
        go_wp2
        go_roundw
        case rel =>
          refine ⟨j + 1, by omega, by go_num, R3, q4, fun q y hq hy => ?_⟩
          rcases Nat.lt_or_ge q j with h | h
          · exact HZ.out q y h hy
          · rw [show q = j by omega, HZ1.out] at hy; cases hy; omega
        case measure => simp [intOf]; omega
    · obtain rfl : j = 2 := by omega
      have hall : ∀ z ∈ KS, 0 ≤ z := by
        intro z hz
        obtain ⟨q, hq, e⟩ := List.getElem_of_mem hz
        exact HZ.out q z (by rw [← HL.out]; exact hq) (by rw [List.getElem?_eq_getElem hq, e])
      have hk : KS.take 2 = KS := List.take_of_length_le (by rw [HL.out]; exact Nat.le_refl _)
      rw [hk] at hown
      have HAll := hide hall
      obtain ⟨g, vc, hv, hBg, hgw⟩ := owns_some hown (by decide)
      subst hv
      have hk0 : ∀ q z, KS[q]? = some z → wr.cell? ⟨g, q, none⟩ = some (.int .i64 z) := by
        intro q z hq
        have hlt' : q < KS.length := (List.getElem?_eq_some_iff.1 hq).1
        have := hown.cellAt q (by rw [HL.out] at hlt'; omega)
        rw [this, List.getElem?_map, hq]; rfl
      have HK := hide hk0
      have hgw' : g < wr.heap.size := hgw
      have hWl : W.heap.size < wr.heap.size := by have := HB.out; omega
      clear hk0 hall hk HZ HS HF HN hown hgw
      go_wp2
      have b5 : Below wr.heap.size wr (wr.alloc (.cells #[.int .i64 0, .int .i64 0, .int .i64 0, .int .i64 3, .int .i64 0, .int .i64 3, .int .i64 3, .int .i64 1, .int .i64 1, .int .i64 2, .int .i64 0, .int .i64 0] 3)) := (Below.refl _ _).alloc (Nat.le_refl _) _
      generalize wr.alloc (.cells #[.int .i64 0, .int .i64 0, .int .i64 0, .int .i64 3, .int .i64 0, .int .i64 3, .int .i64 3, .int .i64 1, .int .i64 1, .int .i64 2, .int .i64 0, .int .i64 0] 3) = w5 at *
      generalize wr = wo at *
      go_loopw [9] (fun i wl => ∃ j : Nat, j ≤ 2 ∧ i = .int .i64 j ∧ Below wo.heap.size wo wl ∧ Hid (∀ q z, q < j → KS[q]? = some z → ¬ ((0 : Int) < 3 ∧ 0 < z ∧ z ≠ 3))) (fun i _ => 2 - (intOf i).toNat)
      case atStart => exact ⟨0, Nat.zero_le _, rfl, b5, fun q z hq => absurd hq (Nat.not_lt_zero _)⟩
      case round =>
        obtain ⟨j, hj, rfl, hnx, HZ⟩ := hrel
        clear b5
        have qX : Below W.heap.size W wr := qW.trans (hnx.mono (by omega))
        have d0' := (hnx.cell (p := ⟨W.heap.size, 0, none⟩) hWl).trans d0
        by_cases hlt : j < 2
        · obtain ⟨z, hz⟩ : ∃ z, KS[j]? = some z := ⟨KS[j]'(by rw [HL.out]; exact hlt), List.getElem?_eq_getElem _⟩
          have c0 := (hnx.cell (p := ⟨g, j, none⟩) hgw').trans (HK.out j z hz)
          have hlt' : (j : Int) < 2 := by omega
          have HZ1 := hide hz
          have hd : z ≤ 0 ∨ (0 < z ∧ z = 3) ∨ (0 < z ∧ z ≠ 3) := by omega
          clear hz HK
          rcases hd with h1 | ⟨h1, h2⟩ | ⟨h1, h2⟩
          · have h1' : ¬ (0 < z) := by omega
            have HH := hide h1'
            go_wp2
            go_roundw
            case rel =>
              refine ⟨j + 1, by omega, by go_num, hnx, fun q y hq hy => ?_⟩
              rcases Nat.lt_or_ge q j with h | h
              · exact HZ.out q y h hy
              · rw [show q = j by omega, HZ1.out] at hy; cases hy; intro hh; exact HH.out hh.2.1
            case measure => simp [intOf]; omega
          · subst h2
            go_wp2
            go_roundw
            case rel =>
              refine ⟨j + 1, by omega, by go_num, hnx, fun q y hq hy => ?_⟩
              rcases Nat.lt_or_ge q j with h | h
              · exact HZ.out q y h hy
              · rw [show q = j by omega, HZ1.out] at hy; cases hy; intro hh; exact hh.2.2 rfl
            case measure => simp [intOf]; omega
          · have HE : Hid (T = -1) := HM.out z (List.mem_of_getElem? HZ1.out) (by decide) h1 h2
            have h2' : (z != 3) = true := by simpa using h2
            clear HM HP HO HZ
            go_wp2
            go_ret
            exact ⟨by rw [HE.out]; rfl, qX⟩
        · obtain rfl : j = 2 := by omega
          have hnm : ∀ z ∈ KS, ¬ ((0 : Int) < 3 ∧ 0 < z ∧ z ≠ 3) := by
            intro z hz
            obtain ⟨q, hq, e⟩ := List.getElem_of_mem hz
            exact HZ.out q z (by rw [← HL.out]; exact hq) (by rw [List.getElem?_eq_getElem hq, e])
          have HNm := hide hnm
          clear hnm HZ HM
          have HE : Hid (T = 3) := HO.out HAll.out HNm.out (fun h => absurd h (by decide))
          clear HP HO HK
          go_wp2_with fail
          go_quiet (fail)
          go_wp2_with (go_at_call 43; refine (hbt _).mono ?_; rintro e w7 ⟨rfl, e7⟩; obtain rfl := e7.symm; clear e7)
          go_ret
          exact ⟨by rw [HE.out]; rfl, below_drewN qX _⟩

set_option maxRecDepth 100000 in
set_option maxHeartbeats 3200000 in
theorem rkd_6 (cv : Value) (v : Vl) (nm : List UInt8) (b off ca : Nat) (W : World) (KS : List Int) (us : Nat → Value) (T : Int) (hn : KS.length = 2) (hbW : b < W.heap.size)
    (hneg : ∀ z ∈ KS, z < 0 → T = -1) (hmust : ∀ z ∈ KS, (0 : Int) < 3 → 0 < z → z ≠ 3 → T = -1) (hpair : (10 : Int) ≤ 6 → ∀ x y, KS[0]? = some x → KS[1]? = some y → 0 < x → 0 < y → x ≠ y → T = -1)
    (hok : (∀ z ∈ KS, 0 ≤ z) → (∀ z ∈ KS, ¬ ((0 : Int) < 3 ∧ 0 < z ∧ z ≠ 3)) → ((10 : Int) ≤ 6 → ∀ x y, KS[0]? = some x → KS[1]? = some y → ¬ (0 < x ∧ 0 < y ∧ x ≠ y)) → T = 3)
    (hS : ∀ i, i < 2 → ∃ (k : Int) (v : Vl) (nm : List UInt8) (ao : Option Addr) (n ca : Nat), us i = exL k v nm (.slice ao n ca) ∧ W.cell? ⟨b, off + i * 6, none⟩ = some (.int .i64 k) ∧ W.cell? ⟨b, off + i * 6 + 1, none⟩ = some (.int .i64 v.k) ∧ W.cell? ⟨b, off + i * 6 + 2, none⟩ = some (.int .i64 v.n) ∧
      W.cell? ⟨b, off + i * 6 + 3, none⟩ = some (.string ⟨v.s.toArray⟩) ∧ W.cell? ⟨b, off + i * 6 + 4, none⟩ = some (.string ⟨nm.toArray⟩) ∧ W.cell? ⟨b, off + i * 6 + 5, none⟩ = some (.slice ao n ca))
    (hf : ∀ i z, KS[i]? = some z → ∀ W' : World, Below W.heap.size W W' → Calls Tryz.prog 26 #[cv, us i] W' fun e w' => e = .returned (.int .i64 z) ∧ Below W'.heap.size W' w')
    (hbt : ∀ W' : World, Calls Tryz.prog 43 #[.int .i64 6, .int .i64 7, .int .i64 9] W' fun e w' => e = .returned (.bool false) ∧ w' = W') :
    Calls Tryz.prog 26 #[cv, exL 6 v nm (.slice (some ⟨b, off, none⟩) 2 ca)] W fun e w' => e = .returned (.int .i64 T) ∧ Below W.heap.size W w' := by
  obtain ⟨i0, hi, hz0, hz1, hz2⟩ := info_parts3 Tryz.info_int
  have HS := hide hS
  have HF := hide hf
  have HN := hide hneg
  have HM := hide hmust
  have HP := hide hpair
  have HO := hide hok
  have HL := hide hn
  have b0 := (Below.refl W.heap.size W).alloc (Nat.le_refl _) (.cells #[.int .i64 6, .int .i64 v.k, .int .i64 v.n, .string ⟨v.s.toArray⟩, .string ⟨nm.toArray⟩, .slice (some ⟨b, off, none⟩) 2 ca] 28)
  have hD : ∀ W' : World, Below (W.alloc (.cells #[.int .i64 6, .int .i64 v.k, .int .i64 v.n, .string ⟨v.s.toArray⟩, .string ⟨nm.toArray⟩, .slice (some ⟨b, off, none⟩) 2 ca] 28)).heap.size (W.alloc (.cells #[.int .i64 6, .int .i64 v.k, .int .i64 v.n, .string ⟨v.s.toArray⟩, .string ⟨nm.toArray⟩, .slice (some ⟨b, off, none⟩) 2 ca] 28)) W' → W'.cell? ⟨W.heap.size, 0, none⟩ = some (.int .i64 6) ∧ W'.cell? ⟨W.heap.size, 5, none⟩ = some (.slice (some ⟨b, off, none⟩) 2 ca) := fun W' hW =>
    ⟨(hW.cell (p := ⟨W.heap.size, 0, none⟩) (by simp)).trans (by simp), (hW.cell (p := ⟨W.heap.size, 5, none⟩) (by simp)).trans (by simp)⟩
  have z0 : (W.alloc (.cells #[.int .i64 6, .int .i64 v.k, .int .i64 v.n, .string ⟨v.s.toArray⟩, .string ⟨nm.toArray⟩, .slice (some ⟨b, off, none⟩) 2 ca] 28)).heap.size = W.heap.size + 1 := by simp
  have HD := hide hD
  clear hS hf hneg hmust hpair hok hn hD
  obtain ⟨d0, d5⟩ := HD.out _ (Below.refl _ _)
  go_enter Tryz.func26, Tryz.ntmps26
  go_wp2
  generalize (W.alloc (.cells #[.int .i64 6, .int .i64 v.k, .int .i64 v.n, .string ⟨v.s.toArray⟩, .string ⟨nm.toArray⟩, .slice (some ⟨b, off, none⟩) 2 ca] 28)) = w0 at *
  obtain ⟨B, hB⟩ : ∃ B, w0.heap.size = B := ⟨_, rfl⟩
  have HB := hide hB
  clear d0 d5
  go_loopw [5, 6] (fun vv i wl => ∃ j : Nat, j ≤ 2 ∧ i = .int .i64 j ∧ wl.ownsRow B 3 1 vv j ((KS.take j).map (fun z => Value.int .i64 z)) ∧ Below B w0 wl ∧ Hid (∀ q z, q < j → KS[q]? = some z → 0 ≤ z)) (fun _ i _ => 2 - (intOf i).toNat)
  case atStart => exact ⟨0, Nat.zero_le _, rfl, World.ownsRow_nil _ _ _ _, Below.refl _ _, fun q z hq => absurd hq (Nat.not_lt_zero _)⟩
  case round =>
    obtain ⟨j, hj, rfl, hown, hnx, HZ⟩ := hrel
    have hszB : B ≤ wr.heap.size := by have := hnx.size; have := HB.out; omega
    have qW : Below W.heap.size W wr := b0.trans (hnx.mono (by omega))
    obtain ⟨d0, d5⟩ := HD.out wr (by rw [HB.out]; exact hnx)
    by_cases hlt : j < 2
    · obtain ⟨z, hz⟩ : ∃ z, KS[j]? = some z := ⟨KS[j]'(by rw [HL.out]; exact hlt), List.getElem?_eq_getElem _⟩
      obtain ⟨k3, v3, nm3, ao3, n3, ca3, hu, a0, a1, a2, a3, a4, a5⟩ := HS.out j hlt
      have c0 := (qW.cell (p := ⟨b, off + j * 6, none⟩) hbW).trans a0
      have c1 := (qW.cell (p := ⟨b, off + j * 6 + 1, none⟩) hbW).trans a1
      have c2 := (qW.cell (p := ⟨b, off + j * 6 + 2, none⟩) hbW).trans a2
      have c3 := (qW.cell (p := ⟨b, off + j * 6 + 3, none⟩) hbW).trans a3
      have c4 := (qW.cell (p := ⟨b, off + j * 6 + 4, none⟩) hbW).trans a4
      have c5 := (qW.cell (p := ⟨b, off + j * 6 + 5, none⟩) hbW).trans a5
      have hlt' : (j : Int) < 2 := by omega
      have hc := HF.out j z hz _ qW
      rw [hu] at hc
      have HZ1 := hide hz
      obtain ⟨va, vc, hv⟩ := owns_slice hown
      subst hv
      clear a0 a1 a2 a3 a4 a5 hz hu HS HF
      by_cases hz0' : z < 0
      · have HE : Hid (T = -1) := HN.out z (List.mem_of_getElem? HZ1.out) hz0'
        clear hown HZ HN HM HP HO
        go_wp2_with fail
        refine hc.mono ?_
        rintro e w3 ⟨rfl, b3⟩
        have q3 : Below W.heap.size W w3 := qW.trans (b3.mono qW.size)
        clear hc b3 c0 c1 c2 c3 c4 c5 d0 d5
        go_wp2
        go_ret
        exact ⟨by rw [HE.out]; rfl, q3⟩
      · have HOwn := hide hown
        clear hown
        go_wp2_with fail
        refine hc.mono ?_
        rintro e w3 ⟨rfl, b3⟩
        have ho2 := (own1_below HOwn.out b3).alloc (.cells #[.int .i64 z] 3)
        have q3 : Below B w0 w3 := hnx.trans (b3.mono hszB)
        have hs3 : B ≤ w3.heap.size := Nat.le_trans hszB b3.size
        have hxlt := ho2.lt
        clear HOwn b3 hc c0 c1 c2 c3 c4 c5 d0 d5
        go_wp2_with (at_builtin; refine wpList_append_own _ rfl _ _ 74 rfl B 3 i0 (.int .i64 0) 1 8 Tryz.underlying74 hi hz0 hz1 hz2 rfl (by decide) _ _ _ rfl ho2 ⟨w3.heap.size, 0, none⟩ 1 1 [.int .i64 z] rfl rfl ?c1 ?c2 ?c3 ?c4 ?c5 ?_)
        case c1 =>
          intro j u hj
          match j, hj with
            | 0, hj => simp at hj; subst hj; simp [Addr.add]
        case c2 => intro u hu; simp at hu; rcases hu with rfl; rfl
        case c3 => unfold maxLen; omega
        case c4 => omega
        case c5 => simp; omega
        intro v' w4 hown' hgrow _
        have q4 : Below B w0 w4 := (q3.alloc hs3 _).grown hgrow (by simp; omega) (fun q hq => (hxlt q hq).1)
        have R3 : w4.ownsRow B 3 1 v' (j + 1) ((KS.take (j + 1)).map (fun z => Value.int .i64 z)) := by
          have e1 : KS.take (j + 1) = KS.take j ++ [z] := by rw [List.take_add_one, HZ1.out]; rfl
          rw [e1, List.map_append, List.map_take]
          exact hown'
        clear hown' hgrow ho2 hxlt
        go_wp2
        go_roundw
        case rel =>
          refine ⟨j + 1, by omega, by go_num, R3, q4, fun q y hq hy => ?_⟩
          rcases Nat.lt_or_ge q j with h | h
          · exact HZ.out q y h hy
          · rw [show q = j by omega, HZ1.out] at hy; cases hy; omega
        case measure => simp [intOf]; omega
    · obtain rfl : j = 2 := by omega
      have hall : ∀ z ∈ KS, 0 ≤ z := by
        intro z hz
        obtain ⟨q, hq, e⟩ := List.getElem_of_mem hz
        exact HZ.out q z (by rw [← HL.out]; exact hq) (by rw [List.getElem?_eq_getElem hq, e])
      have hk : KS.take 2 = KS := List.take_of_length_le (by rw [HL.out]; exact Nat.le_refl _)
      rw [hk] at hown
      have HAll := hide hall
      obtain ⟨g, vc, hv, hBg, hgw⟩ := owns_some hown (by decide)
      subst hv
      have hk0 : ∀ q z, KS[q]? = some z → wr.cell? ⟨g, q, none⟩ = some (.int .i64 z) := by
        intro q z hq
        have hlt' : q < KS.length := (List.getElem?_eq_some_iff.1 hq).1
        have := hown.cellAt q (by rw [HL.out] at hlt'; omega)
        rw [this, List.getElem?_map, hq]; rfl
      have HK := hide hk0
      have hgw' : g < wr.heap.size := hgw
      have hWl : W.heap.size < wr.heap.size := by have := HB.out; omega
      clear hk0 hall hk HZ HS HF HN hown hgw
      go_wp2
      have b5 : Below wr.heap.size wr (wr.alloc (.cells #[.int .i64 0, .int .i64 0, .int .i64 0, .int .i64 3, .int .i64 0, .int .i64 3, .int .i64 3, .int .i64 1, .int .i64 1, .int .i64 2, .int .i64 0, .int .i64 0] 3)) := (Below.refl _ _).alloc (Nat.le_refl _) _
      generalize wr.alloc (.cells #[.int .i64 0, .int .i64 0, .int .i64 0, .int .i64 3, .int .i64 0, .int .i64 3, .int .i64 3, .int .i64 1, .int .i64 1, .int .i64 2, .int .i64 0, .int .i64 0] 3) = w5 at *
      generalize wr = wo at *
      go_loopw [9] (fun i wl => ∃ j : Nat, j ≤ 2 ∧ i = .int .i64 j ∧ Below wo.heap.size wo wl ∧ Hid (∀ q z, q < j → KS[q]? = some z → ¬ ((0 : Int) < 3 ∧ 0 < z ∧ z ≠ 3))) (fun i _ => 2 - (intOf i).toNat)
      case atStart => exact ⟨0, Nat.zero_le _, rfl, b5, fun q z hq => absurd hq (Nat.not_lt_zero _)⟩
      case round =>
        obtain ⟨j, hj, rfl, hnx, HZ⟩ := hrel
        clear b5
        have qX : Below W.heap.size W wr := qW.trans (hnx.mono (by omega))
        have d0' := (hnx.cell (p := ⟨W.heap.size, 0, none⟩) hWl).trans d0
        by_cases hlt : j < 2
        · obtain ⟨z, hz⟩ : ∃ z, KS[j]? = some z := ⟨KS[j]'(by rw [HL.out]; exact hlt), List.getElem?_eq_getElem _⟩
          have c0 := (hnx.cell (p := ⟨g, j, none⟩) hgw').trans (HK.out j z hz)
          have hlt' : (j : Int) < 2 := by omega
          have HZ1 := hide hz
          have hd : z ≤ 0 ∨ (0 < z ∧ z = 3) ∨ (0 < z ∧ z ≠ 3) := by omega
          clear hz HK
          rcases hd with h1 | ⟨h1, h2⟩ | ⟨h1, h2⟩
          · have h1' : ¬ (0 < z) := by omega
            have HH := hide h1'
            go_wp2
            go_roundw
            case rel =>
              refine ⟨j + 1, by omega, by go_num, hnx, fun q y hq hy => ?_⟩
              rcases Nat.lt_or_ge q j with h | h
              · exact HZ.out q y h hy
              · rw [show q = j by omega, HZ1.out] at hy; cases hy; intro hh; exact HH.out hh.2.1
            case measure => simp [intOf]; omega
          · subst h2
            go_wp2
            go_roundw
            case rel =>
              refine ⟨j + 1, by omega, by go_num, hnx, fun q y hq hy => ?_⟩
              rcases Nat.lt_or_ge q j with h | h
              · exact HZ.out q y h hy
              · rw [show q = j by omega, HZ1.out] at hy; cases hy; intro hh; exact hh.2.2 rfl
            case measure => simp [intOf]; omega
          · have HE : Hid (T = -1) := HM.out z (List.mem_of_getElem? HZ1.out) (by decide) h1 h2
            have h2' : (z != 3) = true := by simpa using h2
            clear HM HP HO HZ
            go_wp2
            go_ret
            exact ⟨by rw [HE.out]; rfl, qX⟩
        · obtain rfl : j = 2 := by omega
          have hnm : ∀ z ∈ KS, ¬ ((0 : Int) < 3 ∧ 0 < z ∧ z ≠ 3) := by
            intro z hz
            obtain ⟨q, hq, e⟩ := List.getElem_of_mem hz
            exact HZ.out q z (by rw [← HL.out]; exact hq) (by rw [List.getElem?_eq_getElem hq, e])
          have HNm := hide hnm
          clear hnm HZ HM
          have HE : Hid (T = 3) := HO.out HAll.out HNm.out (fun h => absurd h (by decide))
          clear HP HO HK
          go_wp2_with fail
          go_quiet (fail)
          go_wp2_with (go_at_call 43; refine (hbt _).mono ?_; rintro e w7 ⟨rfl, e7⟩; obtain rfl := e7.symm; clear e7)
          go_ret
          exact ⟨by rw [HE.out]; rfl, below_drewN qX _⟩

end Go.Proofs.YtbelnjefnhelhabGreat
