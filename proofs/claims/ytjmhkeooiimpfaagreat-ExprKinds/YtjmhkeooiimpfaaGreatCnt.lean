/-
  'truth' of package expr; slices.Index and Contains at values.
-/
import Derived.Test.YtjmhkeooiimpfaaGreatRwg
import Derived.Deep.QuietTactic
import Derived.BigQuiet
namespace Go.Proofs.YtjmhkeooiimpfaaGreat
open Go.RowKit

theorem eql25 (k a k' a' : Int) (t t' : ByteArray) (w : World) :
    (binOp .eql 25 (.agg #[.int .i64 k, .int .i64 a, .string t]) (.agg #[.int .i64 k', .int .i64 a', .string t'])).run Tryz.prog w = .ok (.bool (sameTk k a t k' a' t')) w := by
  rw [run_eql_struct, run_equalIn_struct w 9999 25 _ _ Tryz.under25 Tryz.stood25]
  obtain ⟨f0, f1, f2, hf, n0, t0, o0, n1, t1, o1, n2, t2, o2⟩ := fields_three Tryz.fields25
  rw [hf]
  simp [Op.eqFields, n0, t0, o0, n1, t1, o1, n2, t2, o2, go_sem]
  unfold sameTk
  by_cases h1 : k = k' <;> by_cases h2 : a = a' <;> by_cases h3 : t.toList = t'.toList <;> simp [h1, h2, h3]

theorem sameV (x y : Vl) : sameTk x.k x.n ⟨x.s.toArray⟩ y.k y.n ⟨y.s.toArray⟩ = decide (x = y) := by
  obtain ⟨k, n, s⟩ := x
  obtain ⟨k', n', s'⟩ := y
  unfold sameTk
  have e1 : (⟨s.toArray⟩ : ByteArray).toList = s := by rw [Lib.toList_data]
  have e2 : (⟨s'.toArray⟩ : ByteArray).toList = s' := by rw [Lib.toList_data]
  simp only [e1, e2]
  rw [Bool.eq_iff_iff]
  simp [and_assoc]

set_option maxRecDepth 100000 in
set_option maxHeartbeats 400000 in
theorem tr_any (b : Bool) (w : World) : Calls Tryz.prog 21 #[.bool b] w fun e w' => e = .returned (vlV (truthV b)) ∧ Below w.heap.size w w' := by
  cases b
  · go_enter Tryz.func21, Tryz.ntmps21
    go_wp2
    refine bodyPost_ret (v := .agg #[.int .i64 3, .int .i64 0, .string ⟨#[]⟩]) ?_ rfl ⟨rfl, ?_⟩
    · simp [results, Tryz.results21, go_sem]
    · exact (Below.refl _ _).alloc (Nat.le_refl _) _
  · go_enter Tryz.func21, Tryz.ntmps21
    go_wp2
    refine bodyPost_ret (v := .agg #[.int .i64 3, .int .i64 1, .string ⟨#[]⟩]) ?_ rfl ⟨rfl, ?_⟩
    · simp [results, Tryz.results21, go_sem]
    · exact (Below.refl _ _).alloc (Nat.le_refl _) _

set_option maxRecDepth 100000 in
set_option maxHeartbeats 1600000 in
/-- what Index answers is not below 0 just where the value is there -/
theorem index_any (R : List Vl) (ru : Value) (y : Vl) (W : World) (hR : VsAt W ru R) :
    Calls Tryz.prog 42 #[ru, vlV y] W fun e w' => ∃ i : Int, e = .returned (.int .i64 i) ∧ (0 ≤ i ↔ R.contains y = true) ∧ Below W.heap.size W w' := by
  obtain ⟨ao, cap, rfl, r1, r2, r3⟩ := hR
  obtain ⟨n, hn⟩ : ∃ n, R.length = n := ⟨_, rfl⟩
  rw [hn] at r1 ⊢
  have b0 := (Below.refl W.heap.size W).alloc (Nat.le_refl _) (.cells #[.int .i64 y.k, .int .i64 y.n, .string ⟨y.s.toArray⟩] 25)
  have y0 : (W.alloc (.cells #[.int .i64 y.k, .int .i64 y.n, .string ⟨y.s.toArray⟩] 25)).cell? ⟨W.heap.size, 0, none⟩ = some (.int .i64 y.k) := by simp
  have y1 : (W.alloc (.cells #[.int .i64 y.k, .int .i64 y.n, .string ⟨y.s.toArray⟩] 25)).cell? ⟨W.heap.size, 1, none⟩ = some (.int .i64 y.n) := by simp
  have y2 : (W.alloc (.cells #[.int .i64 y.k, .int .i64 y.n, .string ⟨y.s.toArray⟩] 25)).cell? ⟨W.heap.size, 2, none⟩ = some (.string ⟨y.s.toArray⟩) := by simp
  have mw : W.heap.size < (W.alloc (.cells #[.int .i64 y.k, .int .i64 y.n, .string ⟨y.s.toArray⟩] 25)).heap.size := by simp
  have hr3 := hide r3
  clear r3 r2
  have hq := eql25
  unfold vlV
  go_enter Tryz.func42, Tryz.ntmps42
  go_wp2
  generalize W.alloc (.cells #[.int .i64 y.k, .int .i64 y.n, .string ⟨y.s.toArray⟩] 25) = w0 at *
  go_loopw [8] (fun i wl => ∃ j : Nat, j ≤ n ∧ i = .int .i64 j ∧ Below w0.heap.size w0 wl ∧ Hid (∀ q x, q < j → R[q]? = some x → x ≠ y)) (fun i _ => n - (intOf i).toNat)
  case atStart => exact ⟨0, Nat.zero_le _, rfl, Below.refl _ _, fun q _ hq => absurd hq (Nat.not_lt_zero _)⟩
  case round =>
    obtain ⟨j, hj, rfl, hnx, HA⟩ := hrel
    have qW : Below W.heap.size W wr := b0.trans (hnx.mono b0.size)
    have z0 := (hnx.cell (p := ⟨W.heap.size, 0, none⟩) mw).trans y0
    have z1 := (hnx.cell (p := ⟨W.heap.size, 1, none⟩) mw).trans y1
    have z2 := (hnx.cell (p := ⟨W.heap.size, 2, none⟩) mw).trans y2
    clear y0 y1 y2
    by_cases hlt : j < n
    · obtain ⟨x, hx⟩ : ∃ x, R[j]? = some x := ⟨R[j], List.getElem?_eq_getElem (by omega)⟩
      obtain ⟨g, o, rfl, hg, hc⟩ := hr3.out (by intro e; rw [e] at hx; cases hx)
      obtain ⟨a0, a1, a2⟩ := hc j x hx
      have c0 := (qW.cell (p := ⟨g, o + j * 3, none⟩) hg).trans a0
      have c1 := (qW.cell (p := ⟨g, o + j * 3 + 1, none⟩) hg).trans a1
      have c2 := (qW.cell (p := ⟨g, o + j * 3 + 2, none⟩) hg).trans a2
      have hlt' : (j : Int) < (n : Int) := by omega
      have HX := hide hx
      have hs := sameV y x
      clear hc a0 a1 a2 hx hr3
      by_cases hB : y = x
      · have HB := hide hB
        rw [decide_eq_true hB] at hs
        clear hB
        go_wp2
        go_quiet (fail)
        go_wp2
        go_ret
        refine ⟨(j : Int), rfl, ⟨fun _ => ?_, fun _ => by omega⟩, below_drewN qW _⟩
        rw [HB.out]; simp only [List.contains_iff_mem]; exact List.mem_of_getElem? HX.out
      · have HB := hide hB
        rw [decide_eq_false hB] at hs
        clear hB
        go_wp2
        go_quiet (fail)
        go_wp2
        go_roundw
        case rel =>
          refine ⟨j + 1, by omega, by go_num, below_drewN hnx _, fun q z hq hz => ?_⟩
          rcases Nat.lt_or_ge q j with h | h
          · exact HA.out q z h hz
          · rw [show q = j by omega, HX.out] at hz; cases hz; exact fun e => HB.out e.symm
        case measure => simp [intOf]; omega
    · have HN : Hid (¬ R.contains y = true) := by
        intro h
        simp only [List.contains_iff_mem] at h
        obtain ⟨q, hq, e⟩ := List.getElem_of_mem h
        exact HA.out q y (by omega) (by rw [List.getElem?_eq_getElem hq, e]) rfl
      clear HA hr3
      go_wp2
      go_ret
      exact ⟨-1, rfl, ⟨fun h => absurd h (by decide), fun h => absurd h HN.out⟩, qW⟩

set_option maxRecDepth 100000 in
set_option maxHeartbeats 800000 in
theorem contains_any (R : List Vl) (ru : Value) (y : Vl) (W : World) (hR : VsAt W ru R) :
    Calls Tryz.prog 30 #[ru, vlV y] W fun e w' => e = .returned (.bool (R.contains y)) ∧ Below W.heap.size W w' := by
  have b0 := (Below.refl W.heap.size W).alloc (Nat.le_refl _) (.cells #[.int .i64 y.k, .int .i64 y.n, .string ⟨y.s.toArray⟩] 25)
  have h := index_any R ru y _ (hR.below b0)
  have hx : ru.oneCell' = true := by obtain ⟨ao, cap, rfl, -⟩ := hR; rfl
  generalize R.contains y = B at h ⊢
  unfold vlV at h ⊢
  clear hR
  go_enter Tryz.func30, Tryz.ntmps30
  go_wp2_with fail
  refine h.mono ?_
  rintro e w1 ⟨i, rfl, hi, b1⟩
  have q1 : Below W.heap.size W w1 := b0.trans (b1.mono (by simp))
  have hd : decide (0 ≤ i) = B := by
    cases B
    · simpa using hi
    · simpa using hi
  have HD := hide hd
  clear h b0 b1 hi hd
  go_wp2
  go_ret
  refine ⟨ret_bool ?_, q1⟩
  rw [← HD.out]

end Go.Proofs.YtjmhkeooiimpfaaGreat
