/-
  'CheckDeltas' of package overhaulref.
-/
import Derived.Test.YtcnnjladaoaeiaaGreatDoorSxa
namespace Go.Proofs.YtcnnjladaoaeiaaGreatDoor
open Go.RowKit

set_option maxRecDepth 100000 in
set_option maxHeartbeats 1600000 in
theorem rckd_out (wd : Int) (ao : Option Addr) (n cap : Nat) (w : World) (h : (decide (0 ≤ wd) && decide (wd ≤ 5)) = false) :
    Calls Tryz.prog 34 #[.int .i64 wd, .slice ao n cap] w fun e w' => e = .returned (.tuple #[.int .i64 0, .int .i64 3]) ∧ w' = w := by
  have hb := between_rw h
  clear h
  go_enter Tryz.func34, Tryz.ntmps34
  go_wp2_with (go_at_call 32; refine (hb _).mono ?_; rintro e w' ⟨rfl, hw'⟩; obtain rfl := hw'.symm; clear hw')
  go_ret2
  exact ⟨rfl, rfl⟩

set_option maxRecDepth 100000 in
set_option maxHeartbeats 12800000 in
theorem rckd_in (L : List Dl) (u : Value) (wd : Int) (w : World) (h : DsAt w u L) (h0 : 0 ≤ wd) (h5 : wd ≤ 5) :
    Calls Tryz.prog 34 #[.int .i64 wd, u] w fun e w' => e = .returned (.tuple #[.int .i64 (ckD wd L).1, .int .i64 ((ckD wd L).2 : Nat)]) ∧ Below w.heap.size w w' := by
  have hb0 := between_rw (n := wd) (a := 0) (b := 5) (r := true) (by simp [h0, h5])
  obtain ⟨ao, cap, rfl, hcap, hcm, hl, hs, hc⟩ := h
  obtain ⟨n, hn⟩ : ∃ n, L.length = n := ⟨_, rfl⟩
  rw [hn] at hl hcap ⊢
  have HC : Hid (L ≠ [] → ∃ g o, ao = some ⟨g, o, none⟩ ∧ g < w.heap.size ∧ ∀ i x, L[i]? = some x → Dc w g (o + i * 6) x) := hc
  have HS : Hid (∀ x ∈ L, x.v.s.length ≤ 140737488355328) := hs
  obtain ⟨PP, hPP⟩ : ∃ PP : Ending → World → Prop, PP = fun e w' => e = .returned (.tuple #[.int .i64 (ckD wd L).1, .int .i64 ((ckD wd L).2 : Nat)]) ∧ Below w.heap.size w w' := ⟨_, rfl⟩
  have HP : Hid (∀ (X : Int) (E : Nat) (w' : World), ckD wd L = (X, E) → Below w.heap.size w w' → PP (.returned (.tuple #[.int .i64 X, .int .i64 (E : Int)])) w') := by
    intro X E w' h1 h2
    rw [hPP]
    exact ⟨by rw [h1], h2⟩
  refine Calls.mono (R := PP) ?_ (by rw [hPP]; exact fun _ _ h => h)
  clear hc hs hPP
  go_enter Tryz.func34, Tryz.ntmps34
  go_wp2_with (go_at_call 32; refine (hb0 _).mono ?_; rintro e w' ⟨rfl, hw'⟩; obtain rfl := hw'.symm; clear hw')
  clear hb0
  go_loopw [0, 6] (fun x i wl => ∃ (k : Nat) (wk : Int), k ≤ n ∧ i = .int .i64 k ∧ x = .int .i64 wk ∧ 0 ≤ wk ∧ wk ≤ 5 ∧ Below w.heap.size w wl ∧ Hid (ckD wd L = ckD wk (L.drop k))) (fun _ i _ => n - (intOf i).toNat)
  case atStart => exact ⟨0, wd, Nat.zero_le _, rfl, rfl, h0, h5, Below.refl _ _, rfl⟩
  case round =>
    obtain ⟨k, wk, hk, rfl, rfl, k0, k5, hnx, HD⟩ := hrel
    clear h0 h5
    by_cases hlt : k < n
    · obtain ⟨d, hd⟩ : ∃ d, L[k]? = some d := ⟨L[k], List.getElem?_eq_getElem (by omega)⟩
      obtain ⟨g, o, rfl, hg, hcc⟩ := HC.out (by intro e; rw [e] at hd; cases hd)
      obtain ⟨a0, a1, a2, a3, a4, a5⟩ := (hcc k d hd).keep (hnx.block g hg)
      have hlt' : (k : Int) < (n : Int) := by omega
      have hck := ckvX d.v (HS.out d (List.mem_of_getElem? hd))
      have hsv := sv0_any d.v
      have HDr : Hid (ckD wd L = if (widB wk d).2 = 0 then ckD (widB wk d).1 (L.drop (k + 1)) else (0, (widB wk d).2)) := by
        obtain ⟨hi, rfl⟩ := List.getElem?_eq_some_iff.1 hd
        rw [Hid, HD.out, List.drop_eq_getElem_cons hi, ckD]
      have hsz := hnx.size
      have b1 := hnx.alloc hsz (.cells #[.int .i64 d.k, .int .i64 d.a, .int .i64 d.ty, .int .i64 d.v.k, .int .i64 d.v.n, .string ⟨d.v.s.toArray⟩] 51)
      have kb := hide (heap_alloc_new wr (.cells #[.int .i64 d.k, .int .i64 d.a, .int .i64 d.ty, .int .i64 d.v.k, .int .i64 d.v.n, .string ⟨d.v.s.toArray⟩] 51))
      clear hcc hd HC HS HD hnx
      obtain ⟨dk, da, dt, dv⟩ := d
      simp only at a0 a1 a2 a3 a4 a5 hck hsv b1 kb
      by_cases hr : (decide (1 ≤ dk) && decide (dk ≤ 3)) = false
      · have hq := between_rw hr
        have HE : Hid (ckD wd L = (0, 7)) := by
          rw [Bool.and_eq_false_iff, decide_eq_false_iff_not, decide_eq_false_iff_not] at hr
          have e1 : ¬ dk = 1 := by omega
          have e2 : ¬ dk = 2 := by omega
          have e3 : ¬ dk = 3 := by omega
          rw [Hid, HDr.out]
          simp [widB, formF, e1, e2, e3]
        clear hr HDr kb hck hsv
        go_wp2_with (go_at_call 32; refine (hq _).mono ?_; rintro e w' ⟨rfl, hw'⟩; obtain rfl := hw'.symm; clear hw')
        exact HP.out _ _ _ HE.out b1
      · by_cases h1 : dk = 1
        · subst h1
          clear hr
          have hq1 := between_rw (n := 1) (a := 1) (b := 3) (r := true) (by decide)
          by_cases ha : da = 0
          · subst ha
            by_cases ht : dt = 0
            · subst ht
              by_cases hF : chkV dv.k dv.n dv.s = 0
              · rw [hF] at hck
                by_cases h5 : wk = 5
                · subst h5
                  have HE : Hid (ckD wd L = (0, 2)) := by
                    rw [Hid, HDr.out]
                    simp [widB, formF, hF]
                  clear HDr
                  go_wp2_with fail
                  refine (hq1 _).mono ?_
                  rintro e w' ⟨rfl, hw'⟩
                  obtain rfl := hw'.symm
                  clear hw'
                  go_wp2_with fail
                  refine (hck _).mono ?_
                  rintro e w1 ⟨rfl, c1⟩
                  have kb1 := (c1.block wr.heap.size (by simp)).trans kb.out
                  obtain ⟨d0, d1, d2, d3, d4, d5⟩ := six_at kb1
                  have q1 := b1.trans (c1.mono b1.size)
                  clear hck c1 kb1 hsv
                  go_wp2
                  exact HP.out _ _ _ HE.out q1
                · have h5' : (wk == 5) = false := by simpa using h5
                  have HE : Hid (ckD wd L = ckD (wk + 1) (L.drop (k + 1))) := by
                    rw [Hid, HDr.out]
                    simp [widB, formF, hF, h5]
                  clear HDr
                  go_wp2_with fail
                  refine (hq1 _).mono ?_
                  rintro e w' ⟨rfl, hw'⟩
                  obtain rfl := hw'.symm
                  clear hw'
                  go_wp2_with fail
                  refine (hck _).mono ?_
                  rintro e w1 ⟨rfl, c1⟩
                  have kb1 := (c1.block wr.heap.size (by simp)).trans kb.out
                  obtain ⟨d0, d1, d2, d3, d4, d5⟩ := six_at kb1
                  have q1 := b1.trans (c1.mono b1.size)
                  clear hck c1 kb1 hsv
                  go_wp2
                  go_roundw
                  case rel => exact ⟨k + 1, wk + 1, by omega, by go_num, by first | rfl | go_num, by omega, by omega, q1, HE⟩
                  case measure => simp [intOf]; omega
              · have hFi : ((chkV dv.k dv.n dv.s : Nat) : Int) ≠ 0 := by simpa using hF
                have HF := hide hF
                have HE : Hid (ckD wd L = (0, chkV dv.k dv.n dv.s)) := by
                  rw [Hid, HDr.out]
                  simp [widB, formF, hF]
                clear HDr
                generalize chkV dv.k dv.n dv.s = F at hck HE hFi
                clear hF HF
                go_wp2_with fail
                refine (hq1 _).mono ?_
                rintro e w' ⟨rfl, hw'⟩
                obtain rfl := hw'.symm
                clear hw'
                go_wp2_with fail
                refine (hck _).mono ?_
                rintro e w1 ⟨rfl, c1⟩
                have kb1 := (c1.block wr.heap.size (by simp)).trans kb.out
                obtain ⟨d0, d1, d2, d3, d4, d5⟩ := six_at kb1
                have q1 := b1.trans (c1.mono b1.size)
                clear hck c1 kb1 hsv
                go_wp2
                exact HP.out _ _ _ HE.out q1
            · have HE : Hid (ckD wd L = (0, 1)) := by
                rw [Hid, HDr.out]
                simp [widB, formF, ht]
              clear HDr
              clear hck hsv kb
              go_wp2_with fail
              refine (hq1 _).mono ?_
              rintro e w' ⟨rfl, hw'⟩
              obtain rfl := hw'.symm
              clear hw'
              go_wp2
              exact HP.out _ _ _ HE.out b1
          · have HE : Hid (ckD wd L = (0, 1)) := by
              rw [Hid, HDr.out]
              simp [widB, formF, ha]
            clear HDr
            clear hck hsv kb
            go_wp2_with fail
            refine (hq1 _).mono ?_
            rintro e w' ⟨rfl, hw'⟩
            obtain rfl := hw'.symm
            clear hw'
            go_wp2
            exact HP.out _ _ _ HE.out b1
        by_cases h2 : dk = 2
        · subst h2
          clear hr
          have hq1 := between_rw (n := 2) (a := 1) (b := 3) (r := true) (by decide)
          by_cases ht : dt = 0
          · subst ht
            by_cases hv : dv = vl0
            · have hF : chkV dv.k dv.n dv.s = 0 := by rw [hv]; decide
              rw [hF] at hck
              rw [decide_eq_true hv] at hsv
              by_cases hA : (decide (0 ≤ da) && decide (da ≤ wk - 1)) = true
              · have hq2 := between_rw hA
                simp only [Bool.and_eq_true, decide_eq_true_eq] at hA
                have n1 : ¬ (da < 0 ∨ wk ≤ da) := by omega
                have HE : Hid (ckD wd L = ckD (wk - 1) (L.drop (k + 1))) := by
                  rw [Hid, HDr.out]
                  simp [widB, formF, hv, n1]
                clear HDr
                clear hA hv
                go_wp2_with fail
                refine (hq1 _).mono ?_
                rintro e w' ⟨rfl, hw'⟩
                obtain rfl := hw'.symm
                clear hw'
                go_wp2_with fail
                refine (hsv _).mono ?_
                rintro e w1 ⟨rfl, c1⟩
                have kb1 := (c1.block wr.heap.size (by simp)).trans kb.out
                have z1 : wr.heap.size < w1.heap.size := (Array.getElem?_eq_some_iff.1 kb1).1
                obtain ⟨d0, d1, d2, d3, d4, d5⟩ := six_at kb1
                have q1 := b1.trans (c1.mono b1.size)
                clear hsv c1
                go_wp2_with fail
                refine (hck _).mono ?_
                rintro e w2 ⟨rfl, c2⟩
                have kb2 := (c2.block wr.heap.size z1).trans kb1
                clear d0 d1 d2 d3 d4 d5
                obtain ⟨d0, d1, d2, d3, d4, d5⟩ := six_at kb2
                have q2 := q1.trans (c2.mono q1.size)
                clear hck c2 kb2 kb1 q1
                go_wp2_with fail
                refine (hq2 _).mono ?_
                rintro e w' ⟨rfl, hw'⟩
                obtain rfl := hw'.symm
                clear hw'
                go_wp2
                go_roundw
                case rel => exact ⟨k + 1, wk - 1, by omega, by go_num, by first | rfl | go_num, by omega, by omega, q2, HE⟩
                case measure => simp [intOf]; omega
              · have hA' : (decide (0 ≤ da) && decide (da ≤ wk - 1)) = false := by simpa using hA
                have hq2 := between_rw hA'
                rw [Bool.and_eq_false_iff, decide_eq_false_iff_not, decide_eq_false_iff_not] at hA'
                have n1 : da < 0 ∨ wk ≤ da := by omega
                have HE : Hid (ckD wd L = (0, 5)) := by
                  rw [Hid, HDr.out]
                  simp [widB, formF, hv, n1]
                clear HDr
                clear hA hA' hv
                go_wp2_with fail
                refine (hq1 _).mono ?_
                rintro e w' ⟨rfl, hw'⟩
                obtain rfl := hw'.symm
                clear hw'
                go_wp2_with fail
                refine (hsv _).mono ?_
                rintro e w1 ⟨rfl, c1⟩
                have kb1 := (c1.block wr.heap.size (by simp)).trans kb.out
                have z1 : wr.heap.size < w1.heap.size := (Array.getElem?_eq_some_iff.1 kb1).1
                obtain ⟨d0, d1, d2, d3, d4, d5⟩ := six_at kb1
                have q1 := b1.trans (c1.mono b1.size)
                clear hsv c1
                go_wp2_with fail
                refine (hck _).mono ?_
                rintro e w2 ⟨rfl, c2⟩
                have kb2 := (c2.block wr.heap.size z1).trans kb1
                clear d0 d1 d2 d3 d4 d5
                obtain ⟨d0, d1, d2, d3, d4, d5⟩ := six_at kb2
                have q2 := q1.trans (c2.mono q1.size)
                clear hck c2 kb2 kb1 q1
                go_wp2_with fail
                refine (hq2 _).mono ?_
                rintro e w' ⟨rfl, hw'⟩
                obtain rfl := hw'.symm
                clear hw'
                go_wp2
                exact HP.out _ _ _ HE.out q2
            · rw [decide_eq_false hv] at hsv
              have HE : Hid (ckD wd L = (0, 1)) := by
                rw [Hid, HDr.out]
                simp [widB, formF, hv]
              clear HDr
              clear hv
              go_wp2_with fail
              refine (hq1 _).mono ?_
              rintro e w' ⟨rfl, hw'⟩
              obtain rfl := hw'.symm
              clear hw'
              go_wp2_with fail
              refine (hsv _).mono ?_
              rintro e w1 ⟨rfl, c1⟩
              have kb1 := (c1.block wr.heap.size (by simp)).trans kb.out
              have z1 : wr.heap.size < w1.heap.size := (Array.getElem?_eq_some_iff.1 kb1).1
              obtain ⟨d0, d1, d2, d3, d4, d5⟩ := six_at kb1
              have q1 := b1.trans (c1.mono b1.size)
              clear hsv c1
              go_wp2
              exact HP.out _ _ _ HE.out q1
          · have HE : Hid (ckD wd L = (0, 1)) := by
              rw [Hid, HDr.out]
              simp [widB, formF, ht]
            clear HDr
            clear hck hsv kb
            go_wp2_with fail
            refine (hq1 _).mono ?_
            rintro e w' ⟨rfl, hw'⟩
            obtain rfl := hw'.symm
            clear hw'
            go_wp2
            exact HP.out _ _ _ HE.out b1
        obtain rfl : dk = 3 := by
          have hr' : (decide (1 ≤ dk) && decide (dk ≤ 3)) = true := by simpa using hr
          simp only [Bool.and_eq_true, decide_eq_true_eq] at hr'
          omega
        clear hr h1 h2
        have hq1 := between_rw (n := 3) (a := 1) (b := 3) (r := true) (by decide)
        by_cases hv : dv = vl0
        · have hF : chkV dv.k dv.n dv.s = 0 := by rw [hv]; decide
          rw [hF] at hck
          rw [decide_eq_true hv] at hsv
          by_cases hA : (decide (0 ≤ da) && decide (da ≤ wk - 1)) = true
          · have hq2 := between_rw hA
            simp only [Bool.and_eq_true, decide_eq_true_eq] at hA
            have n1 : ¬ (da < 0 ∨ wk ≤ da) := by omega
            by_cases hT : (decide (1 ≤ dt) && decide (dt ≤ 3)) = true
            · have hq3 := between_rw hT
              simp only [Bool.and_eq_true, decide_eq_true_eq] at hT
              have HE : Hid (ckD wd L = ckD (wk) (L.drop (k + 1))) := by
                rw [Hid, HDr.out]
                simp [widB, formF, hv, n1, hT]
              clear HDr
              clear hA hv
              go_wp2_with fail
              refine (hq1 _).mono ?_
              rintro e w' ⟨rfl, hw'⟩
              obtain rfl := hw'.symm
              clear hw'
              go_wp2_with fail
              refine (hsv _).mono ?_
              rintro e w1 ⟨rfl, c1⟩
              have kb1 := (c1.block wr.heap.size (by simp)).trans kb.out
              have z1 : wr.heap.size < w1.heap.size := (Array.getElem?_eq_some_iff.1 kb1).1
              obtain ⟨d0, d1, d2, d3, d4, d5⟩ := six_at kb1
              have q1 := b1.trans (c1.mono b1.size)
              clear hsv c1
              go_wp2_with fail
              refine (hck _).mono ?_
              rintro e w2 ⟨rfl, c2⟩
              have kb2 := (c2.block wr.heap.size z1).trans kb1
              clear d0 d1 d2 d3 d4 d5
              obtain ⟨d0, d1, d2, d3, d4, d5⟩ := six_at kb2
              have q2 := q1.trans (c2.mono q1.size)
              clear hck c2 kb2 kb1 q1
              go_wp2_with fail
              refine (hq2 _).mono ?_
              rintro e w' ⟨rfl, hw'⟩
              obtain rfl := hw'.symm
              clear hw'
              go_wp2_with fail
              refine (hq3 _).mono ?_
              rintro e w' ⟨rfl, hw'⟩
              obtain rfl := hw'.symm
              clear hw'
              go_wp2
              go_roundw
              case rel => exact ⟨k + 1, wk, by omega, by go_num, by first | rfl | go_num, by omega, by omega, q2, HE⟩
              case measure => simp [intOf]; omega
            · have hT' : (decide (1 ≤ dt) && decide (dt ≤ 3)) = false := by simpa using hT
              have hq3 := between_rw hT'
              rw [Bool.and_eq_false_iff, decide_eq_false_iff_not, decide_eq_false_iff_not] at hT'
              have n2 : ¬ (1 ≤ dt ∧ dt ≤ 3) := by omega
              have HE : Hid (ckD wd L = (0, 7)) := by
                rw [Hid, HDr.out]
                simp [widB, formF, hv, n1, n2]
              clear HDr
              clear hA hT hT' hv
              go_wp2_with fail
              refine (hq1 _).mono ?_
              rintro e w' ⟨rfl, hw'⟩
              obtain rfl := hw'.symm
              clear hw'
              go_wp2_with fail
              refine (hsv _).mono ?_
              rintro e w1 ⟨rfl, c1⟩
              have kb1 := (c1.block wr.heap.size (by simp)).trans kb.out
              have z1 : wr.heap.size < w1.heap.size := (Array.getElem?_eq_some_iff.1 kb1).1
              obtain ⟨d0, d1, d2, d3, d4, d5⟩ := six_at kb1
              have q1 := b1.trans (c1.mono b1.size)
              clear hsv c1
              go_wp2_with fail
              refine (hck _).mono ?_
              rintro e w2 ⟨rfl, c2⟩
              have kb2 := (c2.block wr.heap.size z1).trans kb1
              clear d0 d1 d2 d3 d4 d5
              obtain ⟨d0, d1, d2, d3, d4, d5⟩ := six_at kb2
              have q2 := q1.trans (c2.mono q1.size)
              clear hck c2 kb2 kb1 q1
              go_wp2_with fail
              refine (hq2 _).mono ?_
              rintro e w' ⟨rfl, hw'⟩
              obtain rfl := hw'.symm
              clear hw'
              go_wp2_with fail
              refine (hq3 _).mono ?_
              rintro e w' ⟨rfl, hw'⟩
              obtain rfl := hw'.symm
              clear hw'
              go_wp2
              exact HP.out _ _ _ HE.out q2
          · have hA' : (decide (0 ≤ da) && decide (da ≤ wk - 1)) = false := by simpa using hA
            have hq2 := between_rw hA'
            rw [Bool.and_eq_false_iff, decide_eq_false_iff_not, decide_eq_false_iff_not] at hA'
            have n1 : da < 0 ∨ wk ≤ da := by omega
            have HE : Hid (ckD wd L = (0, 5)) := by
              rw [Hid, HDr.out]
              simp [widB, formF, hv, n1]
            clear HDr
            clear hA hA' hv
            go_wp2_with fail
            refine (hq1 _).mono ?_
            rintro e w' ⟨rfl, hw'⟩
            obtain rfl := hw'.symm
            clear hw'
            go_wp2_with fail
            refine (hsv _).mono ?_
            rintro e w1 ⟨rfl, c1⟩
            have kb1 := (c1.block wr.heap.size (by simp)).trans kb.out
            have z1 : wr.heap.size < w1.heap.size := (Array.getElem?_eq_some_iff.1 kb1).1
            obtain ⟨d0, d1, d2, d3, d4, d5⟩ := six_at kb1
            have q1 := b1.trans (c1.mono b1.size)
            clear hsv c1
            go_wp2_with fail
            refine (hck _).mono ?_
            rintro e w2 ⟨rfl, c2⟩
            have kb2 := (c2.block wr.heap.size z1).trans kb1
            clear d0 d1 d2 d3 d4 d5
            obtain ⟨d0, d1, d2, d3, d4, d5⟩ := six_at kb2
            have q2 := q1.trans (c2.mono q1.size)
            clear hck c2 kb2 kb1 q1
            go_wp2_with fail
            refine (hq2 _).mono ?_
            rintro e w' ⟨rfl, hw'⟩
            obtain rfl := hw'.symm
            clear hw'
            go_wp2
            exact HP.out _ _ _ HE.out q2
        · rw [decide_eq_false hv] at hsv
          have HE : Hid (ckD wd L = (0, 1)) := by
            rw [Hid, HDr.out]
            simp [widB, formF, hv]
          clear HDr
          clear hv
          go_wp2_with fail
          refine (hq1 _).mono ?_
          rintro e w' ⟨rfl, hw'⟩
          obtain rfl := hw'.symm
          clear hw'
          go_wp2_with fail
          refine (hsv _).mono ?_
          rintro e w1 ⟨rfl, c1⟩
          have kb1 := (c1.block wr.heap.size (by simp)).trans kb.out
          have z1 : wr.heap.size < w1.heap.size := (Array.getElem?_eq_some_iff.1 kb1).1
          obtain ⟨d0, d1, d2, d3, d4, d5⟩ := six_at kb1
          have q1 := b1.trans (c1.mono b1.size)
          clear hsv c1
          go_wp2
          exact HP.out _ _ _ HE.out q1
    · obtain rfl : k = n := by omega
      have HE : Hid (ckD wd L = (wk, 0)) := by
        rw [Hid, HD.out, ← hn, List.drop_length]; rfl
      clear HC HS HD
      go_wp2
      exact HP.out _ _ _ HE.out hnx

end Go.Proofs.YtcnnjladaoaeiaaGreatDoor
