/-
  The document's 'JoinOf' (package overhaulref): it answers the same plain function as 'Join'.
-/
import Derived.Test.YtpigdmnpnceohaaIsTok
namespace Go.Proofs.Ytpigdmnpnceohaa
open Go.RowKit

theorem isTok_any (K : Int) (t : ByteArray) (w : World) (hm : t.size ≤ 9223372036854775000) :
    Calls Try.prog 24 #[.int .i64 K, .string t] w fun e w' => e = .returned (.bool (aloneB K t.data.toList)) ∧ w' = w := by
  rw [isTok_iff]
  have hl : t.data.toList.length = t.size := by simp
  have hem : t.toList.isEmpty = decide (t.data.toList = []) := by rw [Lib.toList_data]; cases t.data.toList <;> simp
  by_cases h0 : t.data.toList = []
  · rw [show isTokB K t.data.toList = false by simp [isTokB, h0]]
    exact isTok_empty K t w (by rw [hem]; simp [h0])
  have he : t.toList.isEmpty = false := by rw [hem]; simp [h0]
  by_cases h1 : 2000 < t.size
  · rw [show isTokB K t.data.toList = false by simp only [isTokB, decide_eq_false_iff_not]; omega]
    exact isTok_long K t w he h1 hm
  have hpos : 0 < t.size := by rw [← hl]; exact List.length_pos_iff.2 h0
  obtain ⟨k, N, hp⟩ : ∃ k N, tokL t.data.toList = (k, N) := ⟨_, _, rfl⟩
  have hk4 := (tokL_kind t.data.toList).1
  rw [hp] at hk4
  cases hk : (K == 0)
  · have e : isTokB K t.data.toList = (((k : Int) == K) && ((N : Int) == (t.size : Int)) && (((wrongL k t.data.toList : Nat) : Int) == 0)) := by
      rw [Bool.eq_iff_iff]
      simp only [isTokB, hp, decide_eq_true_eq, Bool.and_eq_true, beq_iff_eq]
      constructor
      · rintro ⟨_, _, a, b, c⟩; exact ⟨⟨a, by omega⟩, by omega⟩
      · rintro ⟨⟨a, b⟩, c⟩; exact ⟨h0, by omega, a, by omega, by omega⟩
    rw [e]
    exact isTok_go K t w he hpos (by omega) hk k N _ hp hk4 rfl
  · have hk0 : K = 0 := eq_of_beq hk
    rw [show isTokB K t.data.toList = false by
      simp only [isTokB, hp, decide_eq_false_iff_not]
      rintro ⟨_, _, a, _, c⟩
      have : k = 0 := by omega
      subst this; simp [wrongL] at c]
    exact isTok_kind0 K t w he (by omega) hk

/-- how long what is joined is, and how long it would be: less one for none -/
def lenJ (L : List Tk) : Int := if L = [] then -1 else ((joinL L).length : Int)

theorem lenJ_snoc (L : List Tk) (x : Tk) : lenJ (L ++ [x]) = lenJ L + (1 + (x.t.length : Int)) := by
  by_cases h : L = []
  · subst h; simp [lenJ, joinL]; omega
  · unfold lenJ; rw [if_neg (by simp), if_neg h, joinL_snoc _ _ h]; simp; omega

theorem mk_append (a b : List UInt8) : ((⟨a.toArray⟩ : ByteArray) ++ ⟨b.toArray⟩) = ⟨(a ++ b).toArray⟩ := by
  apply ByteArray.ext
  simp

theorem lenJ_len (L : List Tk) (h : L ≠ []) : lenJ L = ((joinL L).length : Int) := by unfold lenJ; rw [if_neg h]

set_option maxHeartbeats 1000000 in
theorem joinOf_some (b off n cap : Nat) (L : List Tk) (w : World) (hr : n * 32 ≤ 140737488355328) (hb : b < w.heap.size) (hL : TokRow w b off n L) (ht : ∀ x ∈ L, x.t.length ≤ 9223372036854775000) :
    Calls Try.prog 12 #[.slice (some ⟨b, off, none⟩) n cap] w fun e w' => e = .returned (.tuple #[.string ⟨(joinS L).1.toArray⟩, .int .i64 ((joinS L).2 : Nat)]) ∧ Below w.heap.size w w' := by
  obtain ⟨hlen, hcells⟩ := hL
  have HC := hide hcells
  clear hcells
  go_enter Try.func12, Try.ntmps12
  go_wp2
  go_loopw [4, 5, 6] (fun sv nv i wr => ∃ (k : Nat) (S : List UInt8) (nk : Int), k ≤ n ∧ i = .int .i64 k ∧ sv = .string ⟨S.toArray⟩ ∧ nv = .int .i64 nk ∧ Below w.heap.size w wr ∧ -1 ≤ nk ∧ nk ≤ 23 * k ∧ S.length ≤ 2000 ∧
      Hid (nk = lenJ (L.take k)) ∧ Hid (nk ≤ 2000 → S = joinL (L.take k)) ∧ Hid ((L.take k).all (fun x => aloneB x.k x.t) = true)) (fun _ _ i _ => n - (intOf i).toNat)
  case atStart =>
    exact ⟨0, [], -1, Nat.zero_le _, rfl, rfl, rfl, Below.refl _ _, by omega, by omega, by simp, rfl, hide (fun _ => rfl), by simp [Hid]⟩
  case round =>
    obtain ⟨k, S, nk, hk, rfl, rfl, rfl, hnx, hn1, hn2, hS, HN, HJ, HA⟩ := hrel
    by_cases hlt : k < n
    · obtain ⟨x, hx⟩ : ∃ x, L[k]? = some x := ⟨L[k], List.getElem?_eq_getElem (by omega)⟩
      obtain ⟨f0, f1, f2⟩ := HC.out k x hx
      have e0 := (hnx.cell (p := ⟨b, off + k * 3, none⟩) hb).trans f0
      have e2 := (hnx.cell (p := ⟨b, off + k * 3 + 2, none⟩) hb).trans f2
      clear f0 f1 f2
      have hal := fun W => isTok_any x.k ⟨x.t.toArray⟩ W (by rw [size_mk]; exact ht x (List.mem_of_getElem? hx))
      cases hx1 : aloneB x.k x.t
      · simp only [hx1] at hal
        go_wp2
        go_quiet ((go_at_call 24; exact Calls.quiet_of_same (hal _)))
        go_wp2
        go_ret2
        have hJ : joinS L = ([], 1) := by
          unfold joinS
          rw [if_neg]
          intro h
          have := List.all_eq_true.1 h x (List.mem_of_getElem? hx)
          rw [hx1] at this; cases this
        rw [hJ]
        exact ⟨rfl, below_drewN hnx _⟩
      · simp only [hx1] at hal
        have hxl := alone_len hx1
        have hk1 := hide (take_snocT L k x hx)
        have HX := hide hx1
        have HA1 : Hid ((L.take (k + 1)).all (fun x => aloneB x.k x.t) = true) := by
          show (L.take (k + 1)).all (fun x => aloneB x.k x.t) = true
          rw [hk1.out, List.all_append, HA.out]; simpa using hx1
        have HN1 : Hid (nk + (1 + (x.t.length : Int)) = lenJ (L.take (k + 1))) := by
          show nk + (1 + (x.t.length : Int)) = lenJ (L.take (k + 1))
          rw [hk1.out, lenJ_snoc, HN.out]
        have hxs := size_mk x.t
        clear hx1 hx HA
        have R : 0 < k → nk + (1 + (x.t.length : Int)) ≤ 2000 → S ++ [32] ++ x.t = joinL (L.take (k + 1)) ∧ ((joinL (L.take (k + 1))).length : Int) ≤ 2000 := by
          intro h h'
          have e := HN1.out
          rw [lenJ_len _ (by rw [hk1.out]; simp)] at e
          refine ⟨?_, by omega⟩
          rw [hk1.out, joinL_snoc _ _ (by intro h; have := congrArg List.length h; rw [List.length_take, Nat.min_eq_left (by omega)] at this; simp at this; omega), HJ.out (by omega)]
          simp
        have R0 : ¬ 0 < k → nk + (1 + (x.t.length : Int)) ≤ 2000 → S ++ x.t = joinL (L.take (k + 1)) ∧ ((joinL (L.take (k + 1))).length : Int) ≤ 2000 := by
          intro h h'
          have e := HN1.out
          rw [lenJ_len _ (by rw [hk1.out]; simp)] at e
          refine ⟨?_, by omega⟩
          rw [hk1.out, HJ.out (by omega), show k = 0 by omega]
          simp [joinL]
        have HR := hide R
        have HR0 := hide R0
        clear R R0
        by_cases h2 : nk + (1 + (x.t.length : Int)) ≤ 2000
        · by_cases hk0 : 0 < k
          · go_wp2
            go_quiet ((go_at_call 24; exact Calls.quiet_of_same (hal _)))
            go_wp2
            go_roundw
            case rel =>
              refine ⟨k + 1, S ++ [32] ++ x.t, nk + (1 + (x.t.length : Int)), by omega, by go_num, ?_, rfl, below_drewN hnx _, by omega, by omega, ?_, HN1, ?_, HA1⟩
              · rw [← mk_append, ← mk_append]
              · have := HR.out hk0 h2; rw [this.1]; omega
              · exact hide (fun _ => (HR.out hk0 h2).1)
            case measure => simp [intOf]; omega
          · go_wp2
            go_quiet ((go_at_call 24; exact Calls.quiet_of_same (hal _)))
            go_wp2
            go_roundw
            case rel =>
              refine ⟨k + 1, S ++ x.t, nk + (1 + (x.t.length : Int)), by omega, by go_num, ?_, rfl, below_drewN hnx _, by omega, by omega, ?_, HN1, ?_, HA1⟩
              · rw [← mk_append]
              · have := HR0.out hk0 h2; rw [this.1]; omega
              · exact hide (fun _ => (HR0.out hk0 h2).1)
            case measure => simp [intOf]; omega
        · go_wp2
          go_quiet ((go_at_call 24; exact Calls.quiet_of_same (hal _)))
          go_wp2
          go_roundw
          case rel => exact ⟨k + 1, S, nk + (1 + (x.t.length : Int)), by omega, by go_num, rfl, rfl, below_drewN hnx _, by omega, by omega, hS, HN1, hide (fun h => absurd h (by omega)), HA1⟩
          case measure => simp [intOf]; omega
    · have hkn : k = n := by omega
      have HT : Hid (L.take k = L) := List.take_of_length_le (by omega)
      have HJ2 : Hid (joinS L = if 2000 < (joinL L).length then ([], 2) else (joinL L, 0)) := by
        show joinS L = _
        unfold joinS
        rw [if_pos]
        have := HA.out
        rw [HT.out] at this; exact this
      have hN := HN.out
      rw [HT.out] at hN
      have hlj : (2000 < nk → 2000 < (joinL L).length) ∧ (nk ≤ 2000 → ¬ 2000 < (joinL L).length) := by
        by_cases hL0 : L = []
        · subst hL0; simp [lenJ] at hN; subst hN; simp [joinL]
        · rw [lenJ_len L hL0] at hN; omega
      have HJL := hide hlj
      clear hkn hN hlj
      by_cases h2 : 2000 < nk
      · go_wp2
        go_ret2
        rw [HJ2.out, if_pos (HJL.out.1 h2)]
        exact ⟨rfl, hnx⟩
      · go_wp2
        go_ret2
        rw [HJ2.out, if_neg (HJL.out.2 (by omega)), show joinL L = S by rw [HJ.out (by omega), HT.out]]
        exact ⟨rfl, hnx⟩

set_option maxHeartbeats 400000 in
theorem joinOf_none (ao : Option Addr) (cap : Nat) (w : World) :
    Calls Try.prog 12 #[.slice ao 0 cap] w fun e w' => e = .returned (.tuple #[.string ⟨#[]⟩, .int .i64 0]) ∧ Below w.heap.size w w' := by
  go_enter Try.func12, Try.ntmps12
  go_wp2
  go_loop [4, 5, 6] (fun sv nv i => i = .int .i64 0 ∧ sv = .string ⟨#[]⟩ ∧ nv = .int .i64 (-1)) (fun _ _ _ => 0)
  case atStart => exact ⟨rfl, rfl, rfl⟩
  case round =>
    obtain ⟨rfl, rfl, rfl⟩ := hrel
    go_wp2
    go_ret2
    exact ⟨rfl, Below.refl _ _⟩

end Go.Proofs.Ytpigdmnpnceohaa
