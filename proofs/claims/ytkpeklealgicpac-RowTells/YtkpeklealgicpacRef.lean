/-
  'CheckValues', 'EncodeOf' of package overhaulref.
-/
import Derived.Test.YtkpeklealgicpacRbg
namespace Go.Proofs.Ytkpeklealgicpac
open Go.RowKit

set_option maxRecDepth 100000 in
set_option maxHeartbeats 1600000 in
theorem ckvs_any (L : List Vl) (u : Value) (w : World) (h : VsAt w u L) : Calls Try.prog 7 #[u] w fun e w' => e = .returned (.int .i64 (chkL L : Nat)) ∧ Below w.heap.size w w' := by
  obtain ⟨ao, cap, rfl, h1, h2, h3⟩ := h
  obtain ⟨n, hn⟩ : ∃ n, L.length = n := ⟨_, rfl⟩
  unfold chkL
  rw [hn] at h1 ⊢
  by_cases h5 : 5 < n
  · rw [if_pos h5]
    have h5' : (n : Int) > 5 := by omega
    clear h2 h3
    go_enter Try.func7, Try.ntmps7
    go_wp2
    go_ret
    exact ⟨rfl, Below.refl _ _⟩
  rw [if_neg h5]
  have h5' : ¬ (n : Int) > 5 := by omega
  obtain ⟨b, Hb⟩ : ∃ b, Hid (badL L = b) := ⟨_, rfl⟩
  rw [Hb.out]
  go_enter Try.func7, Try.ntmps7
  go_wp2
  go_loopw [3] (fun i wl => ∃ k : Nat, k ≤ n ∧ i = .int .i64 k ∧ Below w.heap.size w wl ∧ Hid (∀ j x, j < k → L[j]? = some x → chkV x.k x.n x.s = 0)) (fun i _ => n - (intOf i).toNat)
  case atStart => exact ⟨0, Nat.zero_le _, rfl, Below.refl _ _, fun j _ hj => absurd hj (Nat.not_lt_zero _)⟩
  case round =>
    obtain ⟨k, hk, rfl, hnx, HA⟩ := hrel
    by_cases hlt : k < n
    · obtain ⟨x, hx⟩ : ∃ x, L[k]? = some x := ⟨L[k], List.getElem?_eq_getElem (by omega)⟩
      obtain ⟨g, o, rfl, hg, hc⟩ := h3 (by intro e; rw [e] at hx; cases hx)
      obtain ⟨a0, a1, a2⟩ := hc k x hx
      have c0 := (hnx.cell (p := ⟨g, o + k * 3, none⟩) hg).trans a0
      have c1 := (hnx.cell (p := ⟨g, o + k * 3 + 1, none⟩) hg).trans a1
      have c2 := (hnx.cell (p := ⟨g, o + k * 3 + 2, none⟩) hg).trans a2
      have hlt' : (k : Int) < (n : Int) := by omega
      have hsz := hnx.size
      have hf := ckv_any x.k x.n ⟨x.s.toArray⟩ wr (by rw [size_mk]; exact h2 x (List.mem_of_getElem? hx))
      have e0 : (⟨x.s.toArray⟩ : ByteArray).data.toList = x.s := by simp
      rw [e0] at hf
      have HX : Hid (L[k]? = some x) := hx
      clear hc h3 h2 a0 a1 a2 hx e0
      by_cases hB : chkV x.k x.n x.s = 0
      · have HB : Hid (chkV x.k x.n x.s = 0) := hB
        rw [hB] at hf
        clear hB
        go_wp2_with (go_at_call 16; refine hf.mono ?_; rintro e w2 ⟨rfl, b2⟩)
        go_roundw
        case rel =>
          refine ⟨k + 1, by omega, by go_num, hnx.trans (b2.mono hsz), fun j y hj hy => ?_⟩
          rcases Nat.lt_or_ge j k with h | h
          · exact HA.out j y h hy
          · rw [show j = k by omega, HX.out] at hy; cases hy; exact HB.out
        case measure => simp [intOf]; omega
      · have HB := hide (badL_at L k x HX.out HA.out hB)
        have hB' : (((chkV x.k x.n x.s : Nat) : Int) != 0) = true := by simpa using hB
        clear hB
        generalize chkV x.k x.n x.s = c at hf HB hB'
        go_wp2_with (go_at_call 16; refine hf.mono ?_; rintro e w2 ⟨rfl, b2⟩)
        go_ret
        exact ⟨by rw [← Hb.out, HB.out]; rfl, hnx.trans (b2.mono hsz)⟩
    · have HB : Hid (badL L = 0) := by
        show _ = _
        rw [badL_skip L L.length (fun j x hj hx => HA.out j x (by omega) hx), List.drop_length]; rfl
      clear h2 h3
      go_wp2
      go_ret
      exact ⟨by rw [← Hb.out, HB.out]; rfl, hnx⟩

theorem conv_b (n : Int) (w : World) :
    (convert 33 9 (.slice (some ⟨w.heap.size, 0, none⟩) 1 1)).run Try.prog (w.alloc (.cells #[.int .u8 (n % 256)] 5)) = .ok (.string ⟨#[b8 n]⟩) (w.alloc (.cells #[.int .u8 (n % 256)] 5)) := by
  have h := run_convert_bytes_back (P := Try.prog) (w.alloc (.cells #[.int .u8 (n % 256)] 5)) 33 9 5 ⟨w.heap.size, 0, none⟩ 1 [b8 n] Try.underlying33 Try.underlying5 Try.underlying9 (by
    intro j hj
    have : j = 0 := by simpa using hj
    subst this
    have e := b8_toNat n
    simp [Addr.add, e])
  exact h
theorem conv_g (n : Int) (w : World) (g : Nat) (hg : g = w.heap.size) :
    (convert 33 9 (.slice (some ⟨g, 0, none⟩) 1 1)).run Try.prog (w.alloc (.cells #[.int .u8 (n % 256)] 5)) = .ok (.string ⟨#[b8 n]⟩) (w.alloc (.cells #[.int .u8 (n % 256)] 5)) := by
  subst hg; exact conv_b n w
theorem conv_k (n : Int) (hn : 0 ≤ n) (hn' : n < 256) (w : World) (g : Nat) (hg : g = w.heap.size) :
    (convert 33 9 (.slice (some ⟨g, 0, none⟩) 1 1)).run Try.prog (w.alloc (.cells #[.int .u8 n] 5)) = .ok (.string ⟨#[b8 n]⟩) (w.alloc (.cells #[.int .u8 n] 5)) := by
  subst hg
  have h := conv_b n w
  rw [show n % 256 = n by omega] at h
  exact h

/-- what is left behind a text that was made -/
def TxPost (w : World) (l : List UInt8) (e : Ending) (w' : World) : Prop := e = .returned (.string ⟨l.toArray⟩) ∧ Below w.heap.size w w'

set_option maxRecDepth 100000 in
set_option maxHeartbeats 3200000 in
theorem encodeOf_any (L : List Vl) (u : Value) (w : World) (h : VsAt w u L) (hE : chkL L = 0) : Calls Try.prog 8 #[u] w fun e w' => TxPost w (encL L) e w' := by
  unfold chkL at hE
  have hl5 : ¬ 5 < L.length := by intro h5; rw [if_pos h5] at hE; cases hE
  rw [if_neg hl5] at hE
  have hall := (badL_zero L).1 hE
  obtain ⟨ao, cap, rfl, h1, h2, h3⟩ := h
  obtain ⟨n, hn⟩ : ∃ n, L.length = n := ⟨_, rfl⟩
  have HEnc : Hid (encL L = b8 (n : Int) :: L.flatMap encV) := by show _ = _; rw [encL, hn]
  rw [hn] at hl5 h1 ⊢
  clear hE
  have hc0 := conv_k (n : Int) (by omega) (by omega)
  go_enter Try.func8, Try.ntmps8
  go_wp2_with fail
  have b0 := (Below.refl w.heap.size w).alloc (Nat.le_refl _) (.cells #[.int .u8 (n : Int)] 5)
  clear hc0
  go_loopw [3, 4] (fun v i wl => ∃ (k : Nat) (acc : List UInt8), k ≤ n ∧ i = .int .i64 k ∧ v = .string ⟨acc.toArray⟩ ∧ Below w.heap.size w wl ∧ Hid (acc = b8 (n : Int) :: (L.take k).flatMap encV)) (fun _ i _ => n - (intOf i).toNat)
  case atStart => exact ⟨0, [b8 (n : Int)], Nat.zero_le _, rfl, rfl, b0, rfl⟩
  case round =>
    obtain ⟨k, acc, hk, rfl, rfl, hnx, HA⟩ := hrel
    clear b0
    have hsz := hnx.size
    have hlen : acc.length ≤ 200 := by
      have := flat_len (L.take k) fun x hx => hall x (List.mem_of_mem_take hx)
      rw [HA.out, List.length_cons]
      rw [List.length_take] at this
      omega
    have hsa := size_mk acc
    by_cases hlt : k < n
    · obtain ⟨x, hx⟩ : ∃ x, L[k]? = some x := ⟨L[k], List.getElem?_eq_getElem (by omega)⟩
      obtain ⟨g, o, rfl, hg, hc⟩ := h3 (by intro e; rw [e] at hx; cases hx)
      obtain ⟨a0, a1, a2⟩ := hc k x hx
      have c0 := (hnx.cell (p := ⟨g, o + k * 3, none⟩) hg).trans a0
      have c1 := (hnx.cell (p := ⟨g, o + k * 3 + 1, none⟩) hg).trans a1
      have c2 := (hnx.cell (p := ⟨g, o + k * 3 + 2, none⟩) hg).trans a2
      have hlt' : (k : Int) < (n : Int) := by omega
      have HT : Hid (b8 (n : Int) :: (L.take (k + 1)).flatMap encV = acc ++ encV x) := by
        show _ = _
        obtain ⟨hkl, rfl⟩ := List.getElem?_eq_some_iff.1 hx
        rw [List.take_succ_eq_append_getElem hkl, List.flatMap_append, HA.out]
        simp
      have hck := hall x (List.mem_of_getElem? hx)
      clear hc a0 a1 a2 hx HA h2 h3 hall HEnc
      obtain ⟨K, M, S⟩ := x
      rcases chkV_zero hck with ⟨q1, q2, q3⟩ | ⟨q1, q2, q3, q4⟩ | ⟨q1, q2, q3⟩ | ⟨q1, q2, q3⟩
      · simp only at q1; subst q1
        have hk0 := conv_k 0 (by decide) (by decide)
        go_wp2
        go_roundw
        case rel => exact ⟨k + 1, acc ++ [b8 0], by omega, by go_num, by rw [← mk_append], (hnx.alloc hsz _).alloc (by simp; omega) _, HT.out.symm⟩
        case measure => simp [intOf]; omega
      · simp only at q1 q2 q3; subst q1
        have hk0 := conv_k 1 (by decide) (by decide)
        go_wp2_with fail
        clear hk0
        go_loopw [3, 6, 7] (fun v m i wl => ∃ (j : Nat) (acc' : List UInt8) (n' : Int), j ≤ 4 ∧ i = .int .i64 j ∧ v = .string ⟨acc'.toArray⟩ ∧ m = .int .i64 n' ∧ 0 ≤ n' ∧ n' ≤ 1999999998 ∧ Below w.heap.size w wl ∧ acc'.length ≤ 201 + j ∧ Hid (acc' ++ leB (4 - j) n' = acc ++ (b8 1 :: leB 4 (M + 999999999)))) (fun _ _ i _ => 4 - (intOf i).toNat)
        case atStart => exact ⟨0, acc ++ [b8 1], M + 999999999, by decide, rfl, by rw [← mk_append], rfl, by omega, by omega, (hnx.alloc hsz _).alloc (by simp; omega) _, by simp; omega, by show _ = _; simp⟩
        case round =>
          obtain ⟨j, acc', n', hj, rfl, rfl, rfl, hn0, hn1, hnx2, hal, HB⟩ := hrel
          have hs2 := hnx2.size
          have hsa2 := size_mk acc'
          by_cases hj4 : j < 4
          · have hj4' : (j : Int) < 4 := by omega
            have hcv := conv_g n'
            have HB2 : Hid ((acc' ++ [b8 n']) ++ leB (4 - (j + 1)) (n' / 256) = acc ++ (b8 1 :: leB 4 (M + 999999999))) := by
              show _ = _
              rw [← HB.out, show 4 - j = (4 - (j + 1)) + 1 by omega, leB]
              simp
            clear HB
            go_wp2
            go_roundw
            case rel => exact ⟨j + 1, acc' ++ [b8 n'], n' / 256, by omega, by go_num, by rw [← mk_append], rfl, by omega, by omega, hnx2.alloc hs2 _, by simp; omega, HB2⟩
            case measure => simp [intOf]; omega
          · obtain rfl : j = 4 := by omega
            have HB2 : Hid (acc' = acc ++ encV ⟨1, M, S⟩) := by
              show _ = _
              have := HB.out
              rw [show 4 - 4 = 0 from rfl, leB, List.append_nil] at this
              exact this
            clear HB
            go_wp2
            go_roundw
            case rel => exact ⟨k + 1, acc', by omega, by go_num, rfl, hnx2, by show _ = _; rw [HT.out, HB2.out]⟩
            case measure => simp [intOf]; omega
      · simp only at q1; subst q1
        have hk0 := conv_k 2 (by decide) (by decide)
        have hk1 := conv_k (S.length : Int) (by omega) (by simp only at q3; omega)
        have hss := size_mk S
        simp only at q3
        go_wp2
        go_roundw
        case rel =>
          refine ⟨k + 1, acc ++ encV ⟨2, M, S⟩, by omega, by go_num, ?_, ((hnx.alloc hsz _).alloc (by simp; omega) _).alloc (by simp; omega) _, HT.out.symm⟩
          have e : encV ⟨2, M, S⟩ = [b8 2] ++ ([b8 (S.length : Nat)] ++ S) := rfl
          rw [e, ← List.append_assoc, ← mk_append, ← mk_append, ← mk_append]
        case measure => simp [intOf]; omega
      · simp only at q1 q2; subst q1
        have hk0 := conv_k 3 (by decide) (by decide)
        have hk1 := conv_k M (by omega) (by omega)
        have hm0 : 0 ≤ M := by omega
        have hm1 : M ≤ 1 := by omega
        go_wp2
        go_roundw
        case rel =>
          refine ⟨k + 1, acc ++ encV ⟨3, M, S⟩, by omega, by go_num, ?_, ((hnx.alloc hsz _).alloc (by simp; omega) _).alloc (by simp; omega) _, HT.out.symm⟩
          have e : encV ⟨3, M, S⟩ = [b8 3] ++ [b8 M] := rfl
          rw [e, ← List.append_assoc, ← mk_append, ← mk_append]
        case measure => simp [intOf]; omega
    · obtain rfl : k = n := by omega
      have HQ : Hid (encL L = acc) := by show _ = _; rw [HEnc.out, HA.out, List.take_of_length_le (by omega)]
      clear h2 h3 hall HEnc HA
      go_wp2
      go_ret
      exact ⟨by rw [HQ.out]; rfl, hnx⟩

end Go.Proofs.Ytkpeklealgicpac
