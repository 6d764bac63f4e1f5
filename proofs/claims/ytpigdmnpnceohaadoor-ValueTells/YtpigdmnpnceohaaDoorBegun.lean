/-
  'valueBegun', and two values held against each other.
-/
import Derived.Test.YtpigdmnpnceohaaDoorCast
namespace Go.Proofs.YtpigdmnpnceohaaDoor
open Go.RowKit

theorem Tryd.fields23 : (Tryd.prog.fieldsOf 23).toList.map (fun f => (f.name, f.type, f.offset)) = [("Kind", 3, 0), ("N", 3, 1), ("S", 9, 2)] := by kernel_rfl
theorem Tryd.under23 : Tryd.prog.underlying 23 = some (.struct (Tryd.prog.fieldsOf 23)) := by kernel_rfl
theorem Tryd.stood23 : Tryd.prog.stoodInHeld 23 = false := by kernel_rfl

theorem eql23 (k a k' a' : Int) (t t' : ByteArray) (w : World) :
    (binOp .eql 23 (.agg #[.int .i64 k, .int .i64 a, .string t]) (.agg #[.int .i64 k', .int .i64 a', .string t'])).run Tryd.prog w = .ok (.bool (sameTk k a t k' a' t')) w := by
  rw [run_eql_struct, run_equalIn_struct w 9999 23 _ _ Tryd.under23 Tryd.stood23]
  obtain ⟨f0, f1, f2, hf, n0, t0, o0, n1, t1, o1, n2, t2, o2⟩ := fields_three Tryd.fields23
  rw [hf]
  simp [Op.eqFields, n0, t0, o0, n1, t1, o1, n2, t2, o2, go_sem]
  unfold sameTk
  by_cases h1 : k = k' <;> by_cases h2 : a = a' <;> by_cases h3 : t.toList = t'.toList <;> simp [h1, h2, h3]

set_option maxRecDepth 100000 in
theorem num_any (N : Int) (w : World) : Calls Tryd.prog 28 #[.int .i64 N] w fun e w' => e = .returned (.agg #[.int .i64 1, .int .i64 N, .string ⟨#[]⟩]) ∧ Below w.heap.size w w' := by
  go_enter Tryd.func28, Tryd.ntmps28
  go_wp2
  refine bodyPost_ret (v := .agg #[.int .i64 1, .int .i64 N, .string ⟨#[]⟩]) ?_ rfl ⟨rfl, ?_⟩
  · simp [results, Tryd.results28, go_sem]
  · exact (Below.refl _ _).alloc (Nat.le_refl _) _

set_option maxRecDepth 100000 in
theorem txt_any (s : ByteArray) (w : World) : Calls Tryd.prog 29 #[.string s] w fun e w' => e = .returned (.agg #[.int .i64 2, .int .i64 0, .string s]) ∧ Below w.heap.size w w' := by
  go_enter Tryd.func29, Tryd.ntmps29
  go_wp2
  refine bodyPost_ret (v := .agg #[.int .i64 2, .int .i64 0, .string s]) ?_ rfl ⟨rfl, ?_⟩
  · simp [results, Tryd.results29, go_sem]
  · exact (Below.refl _ _).alloc (Nat.le_refl _) _

theorem b_chk : chkV 1 3 [] = 0 ∧ chkV 2 0 [97] = 0 ∧ chkV 1 (-3) [] = 0 ∧ chkV 2 0 [45, 51] = 0 := by decide +kernel
theorem b_ord : ordN 1 3 [] 2 0 [97] = -1 ∧ ordE 1 3 [] 2 0 [97] = 0 := by decide +kernel
theorem b_itoa : Lib.itoa (-3) = [45, 51] := by simp [Lib.itoa, Lib.decDigits]
theorem b_cast : castR 1 (-3) [] 2 = (2, 0, [45, 51]) ∧ castE 1 (-3) [] 2 = 0 := by
  have h : castE 1 (-3) [] 2 = 0 := by decide +kernel
  refine ⟨?_, h⟩
  rw [castR, if_pos h]
  simp [castV, b_itoa]
theorem b_key : keyV 1 (-3) [] = [49, 48, 57, 57, 57, 57, 57, 57, 57, 57, 55] := by
  simp [keyV, tenL, Lib.itoa, Lib.decDigits, Lib.repeatL]

theorem keepB {w W W' : World} {b : Nat} {x y z : Value} (h : W.cell? ⟨b, 0, none⟩ = some x ∧ W.cell? ⟨b, 1, none⟩ = some y ∧ W.cell? ⟨b, 2, none⟩ = some z ∧ Below w.heap.size w W ∧ b < W.heap.size) (hb : Below W.heap.size W W') :
    W'.cell? ⟨b, 0, none⟩ = some x ∧ W'.cell? ⟨b, 1, none⟩ = some y ∧ W'.cell? ⟨b, 2, none⟩ = some z ∧ Below w.heap.size w W' ∧ b < W'.heap.size :=
  ⟨(hb.cell h.2.2.2.2).trans h.1, (hb.cell h.2.2.2.2).trans h.2.1, (hb.cell h.2.2.2.2).trans h.2.2.1, h.2.2.2.1.trans (hb.mono h.2.2.2.1.size), Nat.lt_of_lt_of_le h.2.2.2.2 hb.size⟩

set_option maxRecDepth 100000 in
set_option maxHeartbeats 1600000 in
theorem begun_any (w : World) (hl : Laid w) : Calls Tryd.prog 12 #[] w fun e w' => e = .returned (.bool true) ∧ Below w.heap.size w w' := by
  have ho : ∀ W : World, Calls Tryd.prog 5 #[.agg #[.int .i64 1, .int .i64 3, .string ⟨#[]⟩], .agg #[.int .i64 2, .int .i64 0, .string ⟨#[97]⟩]] W fun e w' => e = .returned (.tuple #[.int .i64 (-1), .int .i64 0]) ∧ Below W.heap.size W w' := by
    intro W
    have h := order_any 1 3 2 0 ⟨#[]⟩ ⟨#[97]⟩ W (by decide) (by decide)
    rw [b_ord.1, b_ord.2] at h
    exact h
  have hk : ∀ W : World, Below w.heap.size w W → Calls Tryd.prog 7 #[.agg #[.int .i64 1, .int .i64 (-3), .string ⟨#[]⟩]] W fun e w' => e = .returned (.tuple #[.string ⟨#[49, 48, 57, 57, 57, 57, 57, 57, 57, 57, 55]⟩, .int .i64 0]) ∧ Below W.heap.size W w' := by
    intro W hW
    have h := key_any 1 (-3) ⟨#[]⟩ W (by decide) (hl.below hW)
    rw [b_chk.2.2.1, if_pos rfl, b_key] at h
    exact h
  have hc : ∀ W : World, Below w.heap.size w W → Calls Tryd.prog 6 #[.agg #[.int .i64 1, .int .i64 (-3), .string ⟨#[]⟩], .int .i64 2] W fun e w' => e = .returned (.tuple #[.agg #[.int .i64 2, .int .i64 0, .string ⟨#[45, 51]⟩], .int .i64 0]) ∧ Below W.heap.size W w' := by
    intro W hW
    have h := cast_any 1 (-3) 2 ⟨#[]⟩ W (by decide) (hl.below hW)
    rw [b_cast.1, b_cast.2] at h
    exact h
  have hx : ∀ W : World, Calls Tryd.prog 13 #[.agg #[.int .i64 2, .int .i64 0, .string ⟨#[45, 51]⟩]] W fun e w' => e = .returned (.int .i64 0) ∧ Below W.heap.size W w' := by
    intro W
    have h := check_any 2 0 ⟨#[45, 51]⟩ W (by decide)
    rw [b_chk.2.2.2] at h
    exact h
  have hq := eql23
  have hst : sameTk 2 0 ⟨#[45, 51]⟩ 2 0 ⟨#[45, 51]⟩ = true := by decide +kernel
  clear hl
  go_enter Tryd.func12, Tryd.ntmps12
  go_wp2_with fail
  refine (num_any 3 _).mono ?_
  rintro e w1 ⟨rfl, b1⟩
  go_wp2_with fail
  refine (txt_any _ _).mono ?_
  rintro e w2 ⟨rfl, b2⟩
  have q2 : Below w.heap.size w w2 := b1.trans (b2.mono b1.size)
  clear b1 b2
  go_wp2_with fail
  refine (ho _).mono ?_
  rintro e w3 ⟨rfl, b3⟩
  have q3 : Below w.heap.size w w3 := q2.trans (b3.mono q2.size)
  clear q2 b3 ho
  go_wp2_with fail
  refine (num_any _ _).mono ?_
  rintro e w4 ⟨rfl, b4⟩
  have q4 : Below w.heap.size w w4 := q3.trans (b4.mono q3.size)
  clear q3 b4
  go_wp2_with fail
  refine (hc _ q4).mono ?_
  rintro e w5 ⟨rfl, b5⟩
  have q5 : Below w.heap.size w w5 := q4.trans (b5.mono q4.size)
  clear q4 b5 hc
  go_wp2_with fail
  refine (num_any _ _).mono ?_
  rintro e w6 ⟨rfl, b6⟩
  have z5 := q5.size
  have a6 : w6.heap[w5.heap.size]? = some (.cells #[.int .i64 2, .int .i64 0, .string ⟨#[45, 51]⟩] 23) := (b6.block _ (by simp)).trans (heap_alloc_new _ _)
  have q6 : Below w.heap.size w w6 := (q5.alloc z5 _).trans (b6.mono (by simp; omega))
  have z6 : w5.heap.size < w6.heap.size := by have := b6.size; simp at this; omega
  clear q5 b6
  go_wp2_with fail
  refine (hk _ q6).mono ?_
  rintro e w7 ⟨rfl, b7⟩
  have a7 := (b7.block _ z6).trans a6
  have q7 : Below w.heap.size w w7 := q6.trans (b7.mono q6.size)
  obtain ⟨⟨c0, c1, c2⟩, -⟩ := three a7
  have z7 : w5.heap.size < w7.heap.size := Nat.lt_of_lt_of_le z6 b7.size
  clear q6 b7 hk a6 a7
  go_wp2_with fail
  go_region_held3 (fun w' => w'.cell? ⟨w5.heap.size, 0, none⟩ = some (.int .i64 2) ∧ w'.cell? ⟨w5.heap.size, 1, none⟩ = some (.int .i64 0) ∧ w'.cell? ⟨w5.heap.size, 2, none⟩ = some (.string ⟨#[45, 51]⟩) ∧ Below w.heap.size w w' ∧ w5.heap.size < w'.heap.size) (first | exact ⟨c0, c1, c2, q7.drew, z7⟩ | exact keepB (by assumption) (by assumption)) (first | (go_at_call 29; refine (txt_any _ _).mono ?_; rintro e w' ⟨rfl, hb⟩) | (go_at_call 13; refine (hx _).mono ?_; rintro e w' ⟨rfl, hb⟩))
  rename_i hH
  have q8 := hH.2.2.2.1
  clear hH
  go_wp2
  go_ret
  exact ⟨rfl, q8⟩

end Go.Proofs.YtpigdmnpnceohaaDoor
