/-
  fit.Row of columns and a row.
  The document's own small functions (package overhaulref), as ValueTells calls them.
  'Digits' of package overhaulref.
  'SameValue' with nothing, 'CheckValue'; a delta's cells.
  Slices of values and of deltas that came in: what their reading says of their cells.
  'deltaBegun': what must be in any case.
  Rows as bytes, without memory: what is encoded is decoded as it was, and nothing else is.
  The reader of package row: 'take', 'number'.
  The reader of package row: 'value'.
  The reader of package row: 'values'.
-/
import Derived.Laws.IdiomStrings
import Derived.Lib.QuoteBits
import Derived.Lib.ConvBytes
import Derived.Test.YtcnnjladaoaeiaaGreatDoorGa
import Derived.Test.YtcnnjladaoaeiaaGreatDoorGc
import Derived.Test.YtcnnjladaoaeiaaGreatDoorGd

set_option maxRecDepth 100000
set_option maxHeartbeats 25600000
namespace Go.Proofs.YtcnnjladaoaeiaaGreatDoor
open Go.RowKit
theorem fk_any (k m : Int) (r : Bool) (hr : Hid ((decide (k = 0) || decide (k = m)) = r)) (w : World) : Calls Tryz.prog 106 #[.int .i64 k, .int .i64 m] w fun e w' => e = .returned (.bool r) ∧ w' = w := by
  have hc : (k == 0) = true ∨ ((k == 0) = false ∧ (k == m) = true) ∨ ((k == 0) = false ∧ (k == m) = false) := by
    cases h1 : (k == 0) <;> cases h2 : (k == m) <;> simp
  rcases hc with h | ⟨h, h2⟩ | ⟨h, h2⟩
  · obtain rfl : r = true := by rw [← hr.out]; simp at h; simp [h]
    go_enter Tryz.func106, Tryz.ntmps106
    go_wp2
    go_ret
    exact ⟨rfl, rfl⟩
  · obtain rfl : r = true := by rw [← hr.out]; simp at h h2; simp [h2]
    go_enter Tryz.func106, Tryz.ntmps106
    go_wp2
    go_ret
    exact ⟨rfl, rfl⟩
  · obtain rfl : r = false := by rw [← hr.out]; simp at h h2; simp [h, h2]
    go_enter Tryz.func106, Tryz.ntmps106
    go_wp2
    go_ret
    exact ⟨rfl, rfl⟩
theorem row1_any (c : Cl) (x : Vl) (w : World) : Calls Tryz.prog 139 #[.agg #[.string ⟨c.name.toArray⟩, .int .i64 c.ty], .agg #[.int .i64 x.k, .int .i64 x.n, .string ⟨x.s.toArray⟩]] w fun e w' => e = .returned (.bool (decide (x.k = 0) || decide (x.k = c.ty))) ∧ Below w.heap.size w w' := by
  have h := fun W => fk_any x.k c.ty _ rfl W
  generalize (decide (x.k = 0) || decide (x.k = c.ty)) = r at h ⊢
  go_enter Tryz.func139, Tryz.ntmps139
  go_wp2_with (go_at_call 106; refine (h _).mono ?_; rintro e w1 ⟨rfl, rfl⟩)
  go_ret
  exact ⟨rfl, ((Below.refl w.heap.size w).alloc (Nat.le_refl _) _).alloc (by simp) _⟩
theorem eqf_any (L : List Cl) (R : List Vl) (cu ru : Value) (W : World) (hC : CsAt W cu L) (hR : VsAt W ru R) (hlen : R.length = L.length) :
    Calls Tryz.prog 138 #[cu, ru, .func (.func 139) #[] #[]] W fun e w' => e = .returned (.bool (kindsR L R)) ∧ Below W.heap.size W w' := by
  obtain ⟨ao, cap, rfl, c1, c3⟩ := hC
  obtain ⟨ao2, cap2, rfl, r1, r2, r3⟩ := hR
  obtain ⟨n, hn⟩ : ∃ n, L.length = n := ⟨_, rfl⟩
  rw [hlen, hn] at r1 ⊢
  rw [hn] at c1
  have HL := hide hlen
  clear hlen r2
  go_enter Tryz.func138, Tryz.ntmps138
  go_wp2
  go_loopw [17] (fun i wl => ∃ j : Nat, j ≤ n ∧ i = .int .i64 j ∧ Below W.heap.size W wl ∧ Hid (kindsR L R = kindsR (L.drop j) (R.drop j))) (fun i _ => n - (intOf i).toNat)
  case atStart => exact ⟨0, Nat.zero_le _, rfl, Below.refl _ _, rfl⟩
  case round =>
    obtain ⟨j, hj, rfl, hnx, HA⟩ := hrel
    by_cases hlt : j < n
    · obtain ⟨c, hc⟩ : ∃ c, L[j]? = some c := ⟨L[j], List.getElem?_eq_getElem (by omega)⟩
      obtain ⟨x, hx⟩ : ∃ x, R[j]? = some x := ⟨R[j]'(by rw [HL.out]; omega), List.getElem?_eq_getElem _⟩
      obtain ⟨g, o, rfl, hg, hcc⟩ := c3 (by intro e; rw [e] at hc; cases hc)
      obtain ⟨g2, o2, rfl, hg2, hcr⟩ := r3 (by intro e; rw [e] at hx; cases hx)
      obtain ⟨a0, a1⟩ := hcc j c hc
      obtain ⟨b0, b1, b2⟩ := hcr j x hx
      have lg : g < wr.heap.size := Nat.lt_of_lt_of_le hg hnx.size
      have lg2 : g2 < wr.heap.size := Nat.lt_of_lt_of_le hg2 hnx.size
      have d0 := (hnx.cell (p := ⟨g, o + j * 2, none⟩) hg).trans a0
      have d1 := (hnx.cell (p := ⟨g, o + j * 2 + 1, none⟩) hg).trans a1
      have e0 := (hnx.cell (p := ⟨g2, o2 + j * 3, none⟩) hg2).trans b0
      have e1 := (hnx.cell (p := ⟨g2, o2 + j * 3 + 1, none⟩) hg2).trans b1
      have e2 := (hnx.cell (p := ⟨g2, o2 + j * 3 + 2, none⟩) hg2).trans b2
      have hlt' : (j : Int) < (n : Int) := by omega
      have hsz := hnx.size
      have q2 : Below W.heap.size W ((wr.alloc (.cells #[.string ⟨c.name.toArray⟩, .int .i64 c.ty] 65)).alloc (.cells #[.int .i64 x.k, .int .i64 x.n, .string ⟨x.s.toArray⟩] 49)) := (hnx.alloc hsz _).alloc (by simp; omega) _
      have hf := row1_any c x ((wr.alloc (.cells #[.string ⟨c.name.toArray⟩, .int .i64 c.ty] 65)).alloc (.cells #[.int .i64 x.k, .int .i64 x.n, .string ⟨x.s.toArray⟩] 49))
      have qE := fun (w3 : World) (b : Below ((wr.alloc (.cells #[.string ⟨c.name.toArray⟩, .int .i64 c.ty] 65)).alloc (.cells #[.int .i64 x.k, .int .i64 x.n, .string ⟨x.s.toArray⟩] 49)).heap.size ((wr.alloc (.cells #[.string ⟨c.name.toArray⟩, .int .i64 c.ty] 65)).alloc (.cells #[.int .i64 x.k, .int .i64 x.n, .string ⟨x.s.toArray⟩] 49)) w3) => q2.trans (b.mono q2.size)
      have HD : Hid (kindsR L R = ((decide (x.k = 0) || decide (x.k = c.ty)) && kindsR (L.drop (j + 1)) (R.drop (j + 1)))) := by
        obtain ⟨hi, rfl⟩ := List.getElem?_eq_some_iff.1 hc
        obtain ⟨hi2, rfl⟩ := List.getElem?_eq_some_iff.1 hx
        rw [Hid, HA.out, List.drop_eq_getElem_cons hi, List.drop_eq_getElem_cons hi2, kindsR]
      generalize (decide (x.k = 0) || decide (x.k = c.ty)) = B at hf HD
      clear hcc hcr c3 r3 a0 a1 b0 b1 b2 hc hx HA q2
      cases B with
      | true =>
        have HB : Hid (kindsR L R = kindsR (L.drop (j + 1)) (R.drop (j + 1))) := by rw [Hid, HD.out, Bool.true_and]
        clear HD
        go_wp2_with (go_at_call 139; refine hf.mono ?_; rintro e w3 ⟨rfl, b3⟩; have q3 := qE w3 b3; clear qE hf b3)
        go_roundw
        case rel => exact ⟨j + 1, by omega, by go_num, q3, HB⟩
        case measure => simp [intOf]; omega
      | false =>
        have HB : Hid (kindsR L R = false) := by rw [Hid, HD.out, Bool.false_and]
        clear HD
        go_wp2_with (go_at_call 139; refine hf.mono ?_; rintro e w3 ⟨rfl, b3⟩; have q3 := qE w3 b3; clear qE hf b3)
        go_ret
        exact ⟨by rw [HB.out]; rfl, q3⟩
    · have HB : Hid (kindsR L R = true) := by
        rw [Hid, HA.out, List.drop_of_length_le (by omega)]
        unfold kindsR; rfl
      clear c3 r3 HA
      go_wp2
      go_ret
      exact ⟨by rw [HB.out]; rfl, hnx⟩
theorem fitRow_any (L : List Cl) (R : List Vl) (cu ru : Value) (W : World) (hC : CsAt W cu L) (hR : VsAt W ru R) (hlen : R.length = L.length) :
    Calls Tryz.prog 89 #[cu, ru] W fun e w' => e = .returned (.bool (kindsR L R)) ∧ Below W.heap.size W w' := by
  have h := eqf_any L R cu ru W hC hR hlen
  generalize kindsR L R = B at h ⊢
  clear hC hR hlen
  go_enter Tryz.func89, Tryz.ntmps89
  go_wp2_with fail
  refine h.mono ?_
  rintro e w1 ⟨rfl, b1⟩
  go_wp2
  go_ret
  exact ⟨rfl, b1⟩
theorem between_any (n a b : Int) (w : World) :
    Calls Tryz.prog 32 #[.int .i64 n, .int .i64 a, .int .i64 b] w fun e w' => e = .returned (.bool (decide (a ≤ n) && decide (n ≤ b))) ∧ w' = w := by
  go_enter Tryz.func32, Tryz.ntmps32
  go_wp2
  all_goals go_ret
  all_goals exact ⟨ret_bool (by simp [*] <;> omega), rfl⟩
theorem refD_any (c : UInt8) (w : World) :
    Calls Tryz.prog 149 #[.int .u8 (c.toNat : Int)] w fun e w' => e = .returned (.bool (isD c)) ∧ w' = w := by
  have hc : (c.toNat : Int) ≤ 255 := by have := c.toNat_lt; omega
  go_enter Tryz.func149, Tryz.ntmps149
  go_wp2_with (go_at_call 32; refine (between_any _ _ _ _).mono ?_; rintro e w' ⟨rfl, rfl⟩)
  go_ret
  exact ⟨ret_bool (by rfl), rfl⟩
theorem refD_rw {c : UInt8} {b : Bool} (h : isD c = b) (w : World) : Calls Tryz.prog 149 #[.int .u8 (c.toNat : Int)] w fun e w' => e = .returned (.bool b) ∧ w' = w := by
  rw [← h]; exact refD_any c w
theorem truth_any (b : Bool) (w : World) : Calls Tryz.prog 116 #[.bool b] w fun e w' => e = .returned (.agg #[.int .i64 3, .int .i64 (oneV b), .string ⟨#[]⟩]) ∧ Below w.heap.size w w' := by
  cases b
  · go_enter Tryz.func116, Tryz.ntmps116
    go_wp2
    refine bodyPost_ret (v := .agg #[.int .i64 3, .int .i64 (oneV false), .string ⟨#[]⟩]) ?_ rfl ⟨rfl, ?_⟩
    · simp [results, Tryz.results116, go_sem, oneV]
    · exact (Below.refl _ _).alloc (Nat.le_refl _) _
  · go_enter Tryz.func116, Tryz.ntmps116
    go_wp2
    refine bodyPost_ret (v := .agg #[.int .i64 3, .int .i64 (oneV true), .string ⟨#[]⟩]) ?_ rfl ⟨rfl, ?_⟩
    · simp [results, Tryz.results116, go_sem, oneV]
    · exact (Below.refl _ _).alloc (Nat.le_refl _) _
theorem conv_one (u : Nat) (w : World) (hu : u < 10) :
    (convert 134 9 (.slice (some ⟨w.heap.size, 0, none⟩) 1 1)).run Tryz.prog (w.alloc (.cells #[.int .u8 (48 + (u : Int))] 5)) = .ok (.string ⟨#[UInt8.ofNat (48 + u)]⟩) (w.alloc (.cells #[.int .u8 (48 + (u : Int))] 5)) := by
  have h := run_convert_bytes_back (P := Tryz.prog) (w.alloc (.cells #[.int .u8 (48 + (u : Int))] 5)) 134 9 5 ⟨w.heap.size, 0, none⟩ 1 [UInt8.ofNat (48 + u)] Tryz.underlying134 Tryz.underlying5 Tryz.underlying9 (by
    intro j hj
    have : j = 0 := by simpa using hj
    subst this
    have e : ((48 + u) % 256 : Nat) = 48 + u := by omega
    simp [Addr.add, e])
  exact h
theorem digits_one (u : Nat) (w : World) (hu : u < 10) : Calls Tryz.prog 113 #[.int .i64 (u : Int)] w fun e w' => e = .returned (.string ⟨(Lib.decDigits u).toArray⟩) ∧ Below w.heap.size w w' := by
  rw [Lib.decDigits, dif_pos hu]
  have hc := conv_one u w hu
  go_enter Tryz.func113, Tryz.ntmps113
  go_wp2
  go_ret
  exact ⟨rfl, (Below.refl _ _).alloc (Nat.le_refl _) _⟩
theorem digits_two (u : Nat) (w : World) (h10 : 10 ≤ u) (hm : u < 1000000000000000000) (A B : List UInt8) (hA : A.length ≤ 30) (hB : B.length ≤ 30)
    (h1 : ∀ W : World, Calls Tryz.prog 113 #[.int .i64 ((u : Int) / 10)] W fun e w' => e = .returned (.string ⟨A.toArray⟩) ∧ Below W.heap.size W w')
    (h2 : ∀ W : World, Calls Tryz.prog 113 #[.int .i64 ((u : Int) % 10)] W fun e w' => e = .returned (.string ⟨B.toArray⟩) ∧ Below W.heap.size W w') :
    Calls Tryz.prog 113 #[.int .i64 (u : Int)] w fun e w' => e = .returned (.string ⟨(A ++ B).toArray⟩) ∧ Below w.heap.size w w' := by
  have sA := size_mk A
  have sB := size_mk B
  go_enter Tryz.func113, Tryz.ntmps113
  go_wp2_with fail
  refine (h1 _).mono ?_
  rintro e w1 ⟨rfl, b1⟩
  go_wp2_with fail
  refine (h2 _).mono ?_
  rintro e w2 ⟨rfl, b2⟩
  go_wp2
  go_ret
  refine ⟨?_, b1.trans (b2.mono b1.size)⟩
  rw [← mk_append]
  rfl
theorem digits_nat : ∀ (u : Nat), u < 1000000000000000000 → ∀ w : World, Calls Tryz.prog 113 #[.int .i64 (u : Int)] w fun e w' => e = .returned (.string ⟨(Lib.decDigits u).toArray⟩) ∧ Below w.heap.size w w' := by
  intro u
  induction u using Nat.strongRecOn with
  | _ u ih =>
    intro hu w
    by_cases h : u < 10
    · exact digits_one u w h
    · have e : Lib.decDigits u = Lib.decDigits (u / 10) ++ Lib.decDigits (u % 10) := by
        rw [Lib.decDigits, dif_neg h]
        congr 1
        rw [Lib.decDigits, dif_pos (Nat.mod_lt _ (by decide))]
      rw [e]
      have l1 := decDigits_len 17 (u / 10) (by omega)
      have l2 := decDigits_len 17 (u % 10) (by omega)
      exact digits_two u w (by omega) hu _ _ (by omega) (by omega) (fun W => ih (u / 10) (by omega) (by omega) W) (fun W => ih (u % 10) (by omega) (by omega) W)
theorem digits_neg1 (n : Int) (w : World) (h0 : n < 0) (h1 : -10 < n) (A : List UInt8) (hA : A.length ≤ 30)
    (hd : ∀ W : World, Calls Tryz.prog 113 #[.int .i64 (-n)] W fun e w' => e = .returned (.string ⟨A.toArray⟩) ∧ Below W.heap.size W w') :
    Calls Tryz.prog 113 #[.int .i64 n] w fun e w' => e = .returned (.string ⟨(45 :: A).toArray⟩) ∧ Below w.heap.size w w' := by
  have sA := size_mk A
  go_enter Tryz.func113, Tryz.ntmps113
  go_wp2_with fail
  refine (hd _).mono ?_
  rintro e w1 ⟨rfl, b1⟩
  go_wp2
  go_ret
  refine ⟨?_, b1⟩
  rw [show (45 :: A) = [45] ++ A from rfl, ← mk_append]
  rfl
theorem digits_neg2 (n : Int) (w : World) (h0 : n ≤ -10) (h1 : -999999999999999999 ≤ n) (A B : List UInt8) (hA : A.length ≤ 30) (hB : B.length ≤ 30)
    (ha : ∀ W : World, Calls Tryz.prog 113 #[.int .i64 (wrap64 (-n.tdiv 10))] W fun e w' => e = .returned (.string ⟨A.toArray⟩) ∧ Below W.heap.size W w')
    (hb : ∀ W : World, Calls Tryz.prog 113 #[.int .i64 (wrap64 (-n.tmod 10))] W fun e w' => e = .returned (.string ⟨B.toArray⟩) ∧ Below W.heap.size W w') :
    Calls Tryz.prog 113 #[.int .i64 n] w fun e w' => e = .returned (.string ⟨(45 :: (A ++ B)).toArray⟩) ∧ Below w.heap.size w w' := by
  have sA := size_mk A
  have sB := size_mk B
  go_enter Tryz.func113, Tryz.ntmps113
  go_wp2_with fail
  refine (ha _).mono ?_
  rintro e w1 ⟨rfl, b1⟩
  go_wp2_with fail
  refine (hb _).mono ?_
  rintro e w2 ⟨rfl, b2⟩
  go_wp2
  go_ret
  refine ⟨?_, b1.trans (b2.mono b1.size)⟩
  rw [show (45 :: (A ++ B)) = ([45] ++ A) ++ B from rfl, ← mk_append, ← mk_append]
  rfl
theorem digits_any (n : Int) (w : World) (h0 : -999999999999999999 ≤ n) (h1 : n ≤ 999999999999999999) :
    Calls Tryz.prog 113 #[.int .i64 n] w fun e w' => e = .returned (.string ⟨(Lib.itoa n).toArray⟩) ∧ Below w.heap.size w w' := by
  unfold Lib.itoa
  by_cases h : n < 0
  · rw [if_pos h]
    obtain ⟨u, rfl⟩ : ∃ u : Nat, n = -(u : Int) := ⟨n.natAbs, by omega⟩
    have hu : (-(u : Int)).natAbs = u := by omega
    rw [hu]
    by_cases h2 : u < 10
    · have l := decDigits_len 17 u (by omega)
      refine digits_neg1 _ w h (by omega) _ (by omega) fun W => ?_
      have := digits_nat u (by omega) W
      rw [show - -(u : Int) = (u : Int) by omega]
      exact this
    · have e : Lib.decDigits u = Lib.decDigits (u / 10) ++ Lib.decDigits (u % 10) := by
        rw [Lib.decDigits, dif_neg h2]
        congr 1
        rw [Lib.decDigits, dif_pos (Nat.mod_lt _ (by decide))]
      have l1 := decDigits_len 17 (u / 10) (by omega)
      have l2 := decDigits_len 17 (u % 10) (by omega)
      have q : wrap64 (-(-(u : Int)).tdiv 10) = ((u / 10 : Nat) : Int) := by
        rw [Int.neg_tdiv, Int.neg_neg, Int.tdiv_eq_ediv_of_nonneg (by omega)]
        unfold wrap64
        omega
      have r : wrap64 (-(-(u : Int)).tmod 10) = ((u % 10 : Nat) : Int) := by
        rw [Int.neg_tmod, Int.neg_neg, Int.tmod_eq_emod_of_nonneg (by omega)]
        unfold wrap64
        omega
      rw [e]
      refine digits_neg2 _ w (by omega) (by omega) _ _ (by omega) (by omega) (fun W => ?_) (fun W => ?_)
      · rw [q]; exact digits_nat _ (by omega) W
      · rw [r]; exact digits_nat _ (by omega) W
  · rw [if_neg h]
    obtain ⟨u, rfl⟩ : ∃ u : Nat, n = (u : Int) := ⟨n.toNat, by omega⟩
    rw [Int.toNat_natCast]
    exact digits_nat u (by omega) w
theorem six_at {W : World} {b : Nat} {x0 x1 x2 x3 x4 x5 : Value} {t : TypeId} (h : W.heap[b]? = some (.cells #[x0, x1, x2, x3, x4, x5] t)) :
    W.cell? ⟨b, 0, none⟩ = some x0 ∧ W.cell? ⟨b, 1, none⟩ = some x1 ∧ W.cell? ⟨b, 2, none⟩ = some x2 ∧ W.cell? ⟨b, 3, none⟩ = some x3 ∧ W.cell? ⟨b, 4, none⟩ = some x4 ∧ W.cell? ⟨b, 5, none⟩ = some x5 :=
  ⟨(Lib.cell_of_heap h 0).trans rfl, (Lib.cell_of_heap h 1).trans rfl, (Lib.cell_of_heap h 2).trans rfl, (Lib.cell_of_heap h 3).trans rfl, (Lib.cell_of_heap h 4).trans rfl, (Lib.cell_of_heap h 5).trans rfl⟩
theorem Tryz.cells51 : Tryz.prog.cellsOf 51 = 6 := by kernel_rfl
def dlC (d : Dl) : List Value := [.int .i64 d.k, .int .i64 d.a, .int .i64 d.ty, .int .i64 d.v.k, .int .i64 d.v.n, .string ⟨d.v.s.toArray⟩]
theorem open_dl {H : Type} {enc : TypeId × Value → H} {W : World} {spare : Nat → Bool} {held : Bool} {fuel : Nat} {cs : List Value} {x : DataW H × List MemPlace}
    (h : DataW.trod enc Tryz.prog W 0 spare held fuel 51 cs = some x) : ∃ y : Dl, cs = dlC y ∧ x.1 = .agg [.lit (.int .i64 y.k), .lit (.int .i64 y.a), .lit (.int .i64 y.ty), .agg [.lit (.int .i64 y.v.k), .lit (.int .i64 y.v.n), .lit (.string y.v.s)]] := by
  obtain ⟨y0, y1, y2, y3, n, rfl, hl, h0, h1, h2, h3⟩ := Joins.trod_struct4 Tryz.underlying51 h
  rw [Tryz.cells51] at hl
  obtain ⟨c0, c1, c2, c3, c4, c5, rfl⟩ := len6 hl
  · simp only [Tryz.cells3, Tryz.cells49, List.take, List.drop] at h0 h1 h2 h3
    obtain ⟨k, e0, rfl, _⟩ := DataW.trod_int Tryz.underlying3 h0
    obtain ⟨a, e1, rfl, _⟩ := DataW.trod_int Tryz.underlying3 h1
    obtain ⟨t, e2, rfl, _⟩ := DataW.trod_int Tryz.underlying3 h2
    obtain ⟨v, e3, e4⟩ := open_vl h3
    simp at e0 e1 e2
    simp only [vlC, List.cons.injEq, and_true] at e3
    obtain ⟨rfl, rfl, rfl⟩ := e3
    subst e0 e1 e2
    exact ⟨⟨k, a, t, v⟩, rfl, by rw [e4]⟩
theorem txt_any (s : ByteArray) (w : World) : Calls Tryz.prog 40 #[.string s] w fun e w' => e = .returned (.agg #[.int .i64 2, .int .i64 0, .string s]) ∧ Below w.heap.size w w' := by
  go_enter Tryz.func40, Tryz.ntmps40
  go_wp2
  refine bodyPost_ret (v := .agg #[.int .i64 2, .int .i64 0, .string s]) ?_ rfl ⟨rfl, ?_⟩
  · simp [results, Tryz.results40, go_sem]
  · exact (Below.refl _ _).alloc (Nat.le_refl _) _
theorem num_any (n : Int) (w : World) : Calls Tryz.prog 41 #[.int .i64 n] w fun e w' => e = .returned (.agg #[.int .i64 1, .int .i64 n, .string ⟨#[]⟩]) ∧ Below w.heap.size w w' := by
  go_enter Tryz.func41, Tryz.ntmps41
  go_wp2
  refine bodyPost_ret (v := .agg #[.int .i64 1, .int .i64 n, .string ⟨#[]⟩]) ?_ rfl ⟨rfl, ?_⟩
  · simp [results, Tryz.results41, go_sem]
  · exact (Below.refl _ _).alloc (Nat.le_refl _) _
theorem ds_new (w : World) (b : Nat) (L : List Dl) (cs : Array Value) (n : Nat) (hn : L.length = n) (h : n ≤ 1000) (hs : ∀ x ∈ L, x.v.s.length ≤ 100) (hk : w.heap[b]? = some (.cells cs 51)) (hc : ∀ i x, L[i]? = some x → cs[i * 6]? = some (.int .i64 x.k) ∧ cs[i * 6 + 1]? = some (.int .i64 x.a) ∧ cs[i * 6 + 2]? = some (.int .i64 x.ty) ∧ cs[i * 6 + 3]? = some (.int .i64 x.v.k) ∧ cs[i * 6 + 4]? = some (.int .i64 x.v.n) ∧ cs[i * 6 + 5]? = some (.string ⟨x.v.s.toArray⟩)) :
    DsAt w (.slice (some ⟨b, 0, none⟩) n n) L := by
  refine ⟨some ⟨b, 0, none⟩, n, by rw [hn], by omega, by omega, by omega, fun x hx => by have := hs x hx; omega, fun _ => ⟨b, 0, rfl, (ltS hk), fun i x hx => ?_⟩⟩
  obtain ⟨h0, h1, h2, h3, h4, h5⟩ := hc i x hx
  rw [Nat.zero_add]
  exact ⟨(Lib.cell_of_heap hk _).trans h0, (Lib.cell_of_heap hk _).trans h1, (Lib.cell_of_heap hk _).trans h2, (Lib.cell_of_heap hk _).trans h3, (Lib.cell_of_heap hk _).trans h4, (Lib.cell_of_heap hk _).trans h5⟩
def b8 (n : Int) : UInt8 := UInt8.ofNat (n % 256).toNat
theorem b8_toNat (n : Int) : ((b8 n).toNat : Int) = n % 256 := by
  unfold b8
  have h1 : (UInt8.ofNat (n % 256).toNat).toNat = (n % 256).toNat % 256 := by simp
  rw [h1]; omega
def leB : Nat → Int → List UInt8
  | 0, _ => []
  | k + 1, n => b8 n :: leB k (n / 256)
theorem leB_length (k : Nat) : ∀ n, (leB k n).length = k := by
  induction k with
  | zero => intro n; rfl
  | succ k ih => intro n; simp [leB, ih]
def numL : List UInt8 → Nat
  | [] => 0
  | c :: r => c.toNat + 256 * numL r
theorem numL_lt (l : List UInt8) : numL l < 256 ^ l.length := by
  induction l with
  | nil => simp [numL]
  | cons c r ih =>
    have := c.toNat_lt
    simp only [numL, List.length_cons, Nat.pow_succ]
    omega
theorem leB_num (k : Nat) : ∀ n : Int, 0 ≤ n → n < 256 ^ k → ((numL (leB k n) : Nat) : Int) = n := by
  induction k with
  | zero => intro n h0 h1; simp [leB, numL] at *; omega
  | succ k ih =>
    intro n h0 h1
    have h2 : n / 256 < 256 ^ k := by
      have : (256 : Int) ^ (k + 1) = 256 ^ k * 256 := by rw [Int.pow_succ]
      omega
    have h3 := ih (n / 256) (by omega) h2
    have h4 := b8_toNat n
    simp only [leB, numL]
    omega
def encV (x : Vl) : List UInt8 :=
  b8 x.k :: (if x.k = 1 then leB 4 (x.n + 999999999) else if x.k = 2 then b8 (x.s.length : Nat) :: x.s else if x.k = 3 then [b8 x.n] else [])
def encL (l : List Vl) : List UInt8 := b8 (l.length : Nat) :: l.flatMap encV
def valP : List UInt8 → Option (Vl × List UInt8)
  | [] => none
  | c :: r =>
    if c = 0 then some (⟨0, 0, []⟩, r)
    else if c = 1 then (if r.length < 4 then none else some (⟨1, (numL (r.take 4) : Nat) - 999999999, []⟩, r.drop 4))
    else if c = 2 then (match r with | [] => none | m :: r' => if r'.length < m.toNat then none else some (⟨2, 0, r'.take m.toNat⟩, r'.drop m.toNat))
    else if c = 3 then (match r with | [] => none | m :: r' => some (⟨3, (m.toNat : Nat), []⟩, r'))
    else none
def valsP : Nat → List UInt8 → Option (List Vl × List UInt8)
  | 0, l => some ([], l)
  | k + 1, l => (valP l).bind fun p => (valsP k p.2).map fun q => (p.1 :: q.1, q.2)
def decP : List UInt8 → Option (List Vl)
  | [] => none
  | c :: r => match valsP c.toNat r with | some (xs, []) => some xs | _ => none
def decE (s : List UInt8) : Nat := match decP s with | none => 1 | some xs => chkL xs
def decR (s : List UInt8) : List Vl := if decE s = 0 then (decP s).getD [] else []
theorem chkV_zero {K N : Int} {S : List UInt8} (h : chkV K N S = 0) : (K = 0 ∧ N = 0 ∧ S = []) ∨ (K = 1 ∧ -999999999 ≤ N ∧ N ≤ 999999999 ∧ S = []) ∨ (K = 2 ∧ N = 0 ∧ S.length ≤ 20) ∨ (K = 3 ∧ (N = 0 ∨ N = 1) ∧ S = []) := by
  unfold chkV at h
  by_cases h0 : K = 0
  · rw [if_pos h0] at h
    left
    by_cases h1 : N = 0 ∧ S = []
    · exact ⟨h0, h1.1, h1.2⟩
    · rw [if_neg h1] at h; cases h
  rw [if_neg h0] at h
  by_cases h1 : K = 1
  · rw [if_pos h1] at h
    right; left
    by_cases h2 : isInt N = true ∧ S = []
    · have := h2.1
      simp only [isInt, Bool.and_eq_true, decide_eq_true_eq] at this
      exact ⟨h1, this.1, this.2, h2.2⟩
    · rw [if_neg h2] at h; cases h
  rw [if_neg h1] at h
  by_cases h2 : K = 2
  · rw [if_pos h2] at h
    right; right; left
    by_cases h3 : N = 0 ∧ quotB S = true
    · have := h3.2
      simp only [quotB, Bool.and_eq_true, decide_eq_true_eq] at this
      exact ⟨h2, h3.1, this.1⟩
    · rw [if_neg h3] at h; cases h
  rw [if_neg h2] at h
  by_cases h3 : K = 3
  · rw [if_pos h3] at h
    right; right; right
    by_cases h4 : (N = 0 ∨ N = 1) ∧ S = []
    · exact ⟨h3, h4.1, h4.2⟩
    · rw [if_neg h4] at h; cases h
  rw [if_neg h3] at h
  cases h
theorem valP_enc (x : Vl) (r : List UInt8) (h : chkV x.k x.n x.s = 0) : valP (encV x ++ r) = some (x, r) := by
  obtain ⟨K, N, S⟩ := x
  rcases chkV_zero h with ⟨h1, h2, h3⟩ | ⟨h1, h2, h3, h4⟩ | ⟨h1, h2, h3⟩ | ⟨h1, h2, h3⟩
  · simp only at h1 h2 h3; subst h1 h2 h3
    simp [encV, valP, b8]
  · simp only at h1 h2 h3 h4; subst h1 h4
    have hl := leB_length 4 (N + 999999999)
    have hn := leB_num 4 (N + 999999999) (by omega) (by simp; omega)
    simp only [encV, if_true, List.cons_append, valP]
    rw [if_neg (by decide), if_pos (by decide), if_neg (by simp [hl])]
    have t1 : List.take 4 (leB 4 (N + 999999999) ++ r) = leB 4 (N + 999999999) := List.take_left' hl
    have t2 : List.drop 4 (leB 4 (N + 999999999) ++ r) = r := List.drop_left' hl
    rw [t1, t2, hn]
    simp
  · simp only at h1 h2 h3; subst h1 h2
    have e : (b8 ((S.length : Nat) : Int)).toNat = S.length := by
      have := b8_toNat (S.length : Nat); omega
    have e0 : encV ⟨2, 0, S⟩ = 2 :: b8 (S.length : Nat) :: S := rfl
    rw [e0]
    simp only [List.cons_append, valP]
    rw [if_neg (by decide), if_neg (by decide), if_pos (by decide)]
    simp [e]
  · simp only at h1 h2 h3; subst h1 h3
    have e : ((b8 N).toNat : Int) = N := by
      have := b8_toNat N; omega
    have e0 : encV ⟨3, N, []⟩ = 3 :: [b8 N] := rfl
    rw [e0]
    simp only [List.cons_append, valP]
    rw [if_neg (by decide), if_neg (by decide), if_neg (by decide), if_pos (by decide)]
    simp [e]
theorem valsP_enc (l : List Vl) (h : ∀ x ∈ l, chkV x.k x.n x.s = 0) : valsP l.length (l.flatMap encV) = some (l, []) := by
  induction l with
  | nil => rfl
  | cons x r ih =>
    simp only [List.length_cons, valsP, List.flatMap_cons]
    rw [valP_enc x _ (h x (by simp))]
    simp [ih fun y hy => h y (by simp [hy])]
theorem dec_enc (l : List Vl) (h : chkL l = 0) : decE (encL l) = 0 ∧ decR (encL l) = l := by
  unfold chkL at h
  have hl : ¬ 5 < l.length := by intro h5; rw [if_pos h5] at h; cases h
  have h0 := h
  rw [if_neg hl] at h
  have e : (b8 ((l.length : Nat) : Int)).toNat = l.length := by
    have := b8_toNat (l.length : Nat); omega
  have hp : decP (encL l) = some l := by
    simp only [encL, decP]
    rw [e, valsP_enc l ((badL_zero l).1 h)]
  have hE : decE (encL l) = 0 := by unfold decE; rw [hp]; exact h0
  exact ⟨hE, by unfold decR; rw [if_pos hE, hp]; rfl⟩
theorem decR_none (s : List UInt8) (h : decE s ≠ 0) : decR s = [] := by unfold decR; rw [if_neg h]
theorem grown_refl (w : World) (r : Option Nat) : w.grownBy w r := ⟨rfl, rfl, rfl, Nat.le_refl _, fun _ _ _ => rfl⟩
theorem grown_below {w w' : World} (h : Below w.heap.size w w') (r : Option Nat) : w.grownBy w' r := ⟨h.os, h.tape, h.output, h.size, fun k hk _ => h.block k hk⟩
theorem grown_trans {a b c : World} {r : Option Nat} (h : a.grownBy b r) (k : b.grownBy c r) : a.grownBy c r :=
  ⟨k.os.trans h.os, k.tape.trans h.tape, k.output.trans h.output, Nat.le_trans h.size k.size, fun j hj hr => (k.block j (Nat.lt_of_lt_of_le hj h.size) hr).trans (h.block j hj hr)⟩
theorem grown_set (w : World) (b o : Nat) (x : Value) : w.grownBy (w.setCell ⟨b, o, none⟩ x) (some b) :=
  ⟨rfl, rfl, rfl, by simp [World.setCell], fun k _ hr => heap_setCell_other w _ k x (by intro e; exact hr (by rw [e]))⟩
theorem grown_put {w w' : World} {r : Option Nat} (h : w.grownBy w' r) {b : Nat} (hb : w.heap.size ≤ b) (o : Nat) (x : Value) : w.grownBy (w'.setCell ⟨b, o, none⟩ x) r :=
  ⟨h.os, h.tape, h.output, by simpa [World.setCell] using h.size, fun k hk hr => (heap_setCell_other w' _ k x (by simp only; omega)).trans (h.block k hk hr)⟩
theorem grown_alloc {w w' : World} {r : Option Nat} (h : w.grownBy w' r) (o : Obj) : w.grownBy (w'.alloc o) r :=
  grown_trans h (grown_below ((Below.refl _ _).alloc (Nat.le_refl _) o) r)
theorem two {W : World} {b : Nat} {x y : Value} {t : TypeId} (h : W.heap[b]? = some (.cells #[x, y] t)) :
    (W.cell? ⟨b, 0, none⟩ = some x ∧ W.cell? ⟨b, 1, none⟩ = some y) ∧ (W.frozen? ⟨b, 0, none⟩ = false ∧ W.frozen? ⟨b, 1, none⟩ = false) := by
  refine ⟨⟨?_, ?_⟩, Lib.frozen_of_heap h 0, Lib.frozen_of_heap h 1⟩
  all_goals (rw [Lib.cell_of_heap h]; rfl)
theorem inner (l : List UInt8) (a b : Nat) : (⟨l.toArray⟩ : ByteArray).extract a b = ⟨((l.drop a).take (b - a)).toArray⟩ := by
  apply ByteArray.ext
  apply Array.ext'
  have := Lib.extract_data (⟨l.toArray⟩ : ByteArray) a b
  rw [this]
def tkB (m : Nat) (L : List UInt8) : List UInt8 := if L.length < m then [] else L.take m
def tkL (m : Nat) (L : List UInt8) : List UInt8 := if L.length < m then L else L.drop m
def RdAt (w : World) (b : Nat) (L : List UInt8) (wr : Bool) : Prop := w.heap[b]? = some (.cells #[.string ⟨L.toArray⟩, .bool wr] 107)
theorem take_any (b : Nat) (m : Int) (L : List UInt8) (wr : Bool) (w : World) (hb : RdAt w b L wr) (h0 : 0 ≤ m) :
    Calls Tryz.prog 155 #[.pointer (some ⟨b, 0, none⟩), .int .i64 m] w fun e w' => e = .returned (.string ⟨(tkB m.toNat L).toArray⟩) ∧ RdAt w' b (tkL m.toNat L) (wr || decide (L.length < m.toNat)) ∧ w.grownBy w' (some b) := by
  obtain ⟨n, rfl⟩ := Int.eq_ofNat_of_zero_le h0
  rw [Int.toNat_natCast]
  obtain ⟨⟨c0, c1⟩, f0, f1⟩ := two hb
  have hsz := size_mk L
  by_cases h : L.length < n
  · have hd : ((n : Int) > (L.length : Int)) := by omega
    rw [decide_eq_true h, Bool.or_true, tkB, tkL, if_pos h, if_pos h]
    have H : Hid (RdAt (w.setCell ⟨b, 1, none⟩ (.bool true)) b L true) := heap_setCell_same w b 1 _ 107 _ hb
    clear hb
    go_enter Tryz.func155, Tryz.ntmps155
    go_wp2
    go_ret
    exact ⟨rfl, H.out, grown_set _ _ _ _⟩
  · have hd : ¬ ((n : Int) > (L.length : Int)) := by omega
    have hd2 : (n : Int) ≤ (L.length : Int) := by omega
    rw [decide_eq_false h, Bool.or_false, tkB, tkL, if_neg h, if_neg h]
    have H : Hid (RdAt (w.setCell ⟨b, 0, none⟩ (.string ⟨(L.drop n).toArray⟩)) b (L.drop n) wr) := heap_setCell_same w b 0 _ 107 _ hb
    clear hb
    go_enter Tryz.func155, Tryz.ntmps155
    go_wp2
    go_ret
    have e1 : (⟨L.toArray⟩ : ByteArray).extract 0 n = ⟨(L.take n).toArray⟩ := by rw [inner]; simp
    have e2 : (⟨L.toArray⟩ : ByteArray).extract n L.length = ⟨(L.drop n).toArray⟩ := by rw [inner, List.take_of_length_le (by simp)]
    rw [e2]
    exact ⟨by rw [← e1]; rfl, H.out, grown_set _ _ _ _⟩
theorem numL_append (a b : List UInt8) : numL (a ++ b) = numL a + 256 ^ a.length * numL b := by
  induction a with
  | nil => simp [numL]
  | cons c r ih =>
    rw [List.cons_append, numL, numL, ih, List.length_cons, Nat.pow_succ, Nat.mul_add, Nat.mul_comm (256 ^ r.length) 256, Nat.mul_assoc]
    omega
theorem or_nat (a b : Nat) (ha : a < 9223372036854775808) (hb : b < 9223372036854775808) (h : a ||| b < 9223372036854775808) : bits .or .i64 (a : Int) (b : Int) = ((a ||| b : Nat) : Int) := by
  show IntKind.i64.wrap ((BitVec.ofInt 64 (a : Int) ||| BitVec.ofInt 64 (b : Int)).toNat : Int) = _
  rw [BitVec.toNat_or, ofInt_u64 a (by omega), ofInt_u64 b (by omega)]
  exact Lib.wrap_i64_small _ (by omega)
theorem or_place (a c i : Nat) (hi : i ≤ 3) (ha : a < 256 ^ i) (hc : c < 256) : bits .or .i64 (a : Int) ((c * 256 ^ i : Nat) : Int) = ((a + c * 256 ^ i : Nat) : Int) := by
  have e : a ||| c * 256 ^ i = a + c * 256 ^ i := by
    have e1 : 256 ^ i = 2 ^ (8 * i) := by rw [Nat.pow_mul]
    rw [e1] at ha ⊢
    have := Nat.shiftLeft_add_eq_or_of_lt ha c
    rw [Nat.shiftLeft_eq] at this
    rw [Nat.or_comm, ← this]; omega
  have b1 : 256 ^ i ≤ 16777216 := by
    have := Nat.pow_le_pow_right (show 0 < 256 by decide) hi
    simpa using this
  have b2 : c * 256 ^ i ≤ 256 * 16777216 := Nat.mul_le_mul (by omega) b1
  rw [or_nat a _ (by omega) (by omega) (by rw [e]; omega), e]
theorem wrap_place (c i : Nat) (hi : i ≤ 3) (hc : c < 256) : wrap64 ((c : Int) * 2 ^ (8 * i)) = ((c * 256 ^ i : Nat) : Int) := by
  have e : (c : Int) * 2 ^ (8 * i) = ((c * 256 ^ i : Nat) : Int) := by
    have e1 : 256 ^ i = 2 ^ (8 * i) := by rw [Nat.pow_mul]
    rw [e1]; simp
  have b1 : 256 ^ i ≤ 16777216 := by
    have := Nat.pow_le_pow_right (show 0 < 256 by decide) hi
    simpa using this
  have b2 : c * 256 ^ i ≤ 256 * 16777216 := Nat.mul_le_mul (by omega) b1
  rw [e]
  unfold wrap64
  omega
theorem tkB_len (m : Nat) (L : List UInt8) : (tkB m L).length ≤ m := by
  unfold tkB
  by_cases h : L.length < m
  · rw [if_pos h]; exact Nat.zero_le _
  · rw [if_neg h, List.length_take]; omega
theorem grown_bytes (w : World) (e : TypeId) (s : ByteArray) (r : Option Nat) : w.grownBy (Lib.bytesWorld w e s) r :=
  ⟨by simp [Lib.bytesWorld, World.freeze, World.alloc, World.drew, -World.alloc_eq, -World.drew_eq], by simp [Lib.bytesWorld, World.freeze, World.alloc, World.drew, -World.alloc_eq, -World.drew_eq], by simp [Lib.bytesWorld, World.freeze, World.alloc, World.drew, -World.alloc_eq, -World.drew_eq],
   by rw [Lib.bytesWorld_size]; omega, fun k hk _ => Lib.bytesWorld_at_old w e s k hk⟩
theorem numL_at (B : List UInt8) (k : Nat) (c : UInt8) (h : B[k]? = some c) : numL (B.take (k + 1)) = numL (B.take k) + c.toNat * 256 ^ k := by
  obtain ⟨hk, rfl⟩ := List.getElem?_eq_some_iff.1 h
  rw [List.take_succ_eq_append_getElem hk, numL_append]
  have : (B.take k).length = k := by rw [List.length_take]; omega
  rw [this]
  simp [numL, Nat.mul_comm]
theorem number_any (b : Nat) (m : Int) (L : List UInt8) (wr : Bool) (w : World) (hb : RdAt w b L wr) (h0 : 0 ≤ m) (hm : m ≤ 4) :
    Calls Tryz.prog 127 #[.pointer (some ⟨b, 0, none⟩), .int .i64 m] w fun e w' => e = .returned (.int .i64 (numL (tkB m.toNat L) : Nat)) ∧ RdAt w' b (tkL m.toNat L) (wr || decide (L.length < m.toNat)) ∧ w.grownBy w' (some b) := by
  have ht := take_any b m L wr w hb h0
  obtain ⟨B, hB⟩ : ∃ B, tkB m.toNat L = B := ⟨_, rfl⟩
  have hl := tkB_len m.toNat L
  have hbl := (ltS hb)
  rw [hB] at ht hl ⊢
  clear hB hb
  have hl4 : B.length ≤ 4 := by omega
  have hsz := size_mk B
  generalize tkL m.toNat L = L' at ht ⊢
  generalize (wr || decide (L.length < m.toNat)) = wr' at ht ⊢
  go_enter Tryz.func127, Tryz.ntmps127
  have hcv := fun W => Lib.run_convert_string_bytes (P := Tryz.prog) W 9 134 5 ⟨B.toArray⟩ (u := .string) Tryz.underlying9 Tryz.underlying134 Tryz.underlying5
  go_wp2_with (go_at_call 155; refine ht.mono ?_; rintro e w1 ⟨rfl, r1, g1⟩)
  have hcell := Lib.bytesWorld_cell w1 5 ⟨B.toArray⟩
  have g2 := hide (grown_trans g1 (grown_bytes w1 5 ⟨B.toArray⟩ (some b)))
  have r2 : Hid (RdAt (Lib.bytesWorld w1 5 ⟨B.toArray⟩) b L' wr') := (Lib.bytesWorld_at_old w1 5 ⟨B.toArray⟩ b (Nat.lt_of_lt_of_le hbl g1.size)).trans r1
  clear r1 g1 hcv ht
  generalize Lib.bytesWorld w1 5 ⟨B.toArray⟩ = W at hcell g2 r2 ⊢
  generalize w1.heap.size = nb at hcell ⊢
  go_loop [5, 13] (fun n i => ∃ k : Nat, k ≤ B.length ∧ i = .int .i64 k ∧ n = .int .i64 (numL (B.take k) : Nat)) (fun _ i => B.length - (intOf i).toNat)
  case atStart => exact ⟨0, Nat.zero_le _, rfl, rfl⟩
  case round =>
    obtain ⟨k, hk, rfl, rfl⟩ := hrel
    by_cases hlt : k < B.length
    · obtain ⟨c, hc⟩ : ∃ c, B[k]? = some c := ⟨B[k], List.getElem?_eq_getElem hlt⟩
      have hc0 : W.cell? ⟨nb, k, none⟩ = some (.int .u8 (c.toNat : Int)) := by
        rw [hcell k (by rw [size_mk]; exact hlt)]
        simp [List.getD, hc]
      have HN := hide (numL_at B k c hc)
      have hN := numL_lt (B.take k)
      have hkl : (B.take k).length = k := by rw [List.length_take]; omega
      rw [hkl] at hN
      have hc1 := c.toNat_lt
      clear hcell hc hkl
      generalize numL (B.take k) = a at HN hN ⊢
      obtain ⟨a', HA⟩ : ∃ a', Hid (numL (B.take (k + 1)) = a') := ⟨_, rfl⟩
      rw [Hid, HA.out] at HN
      replace HN : Hid (a' = a + c.toNat * 256 ^ k) := HN
      have HO := hide (or_place a c.toNat k (by omega) hN hc1)
      have HW := hide (wrap_place c.toNat k (by omega) hc1)
      have hlt' : (k : Int) < (B.length : Int) := by omega
      go_wp2
      go_round
      case rel =>
        refine ⟨k + 1, hlt, by go_num, ?_⟩
        rw [HA.out, HN.out, HW.out, HO.out]
      case measure => simp [intOf]; omega
    · go_wp2
      go_ret
      exact ⟨by rw [List.take_of_length_le (by omega)]; rfl, r2.out, g2.out⟩
theorem RdAt.lt {w : World} {b : Nat} {L : List UInt8} {wr : Bool} (h : RdAt w b L wr) : b < w.heap.size := (ltS h)
theorem RdAt.alloc {w : World} {b : Nat} {L : List UInt8} {wr : Bool} (h : RdAt w b L wr) (o : Obj) : RdAt (w.alloc o) b L wr :=
  (((Below.refl w.heap.size w).alloc (Nat.le_refl _) o).block b h.lt).trans h
theorem RdAt.put {w : World} {b : Nat} {L : List UInt8} {wr : Bool} (h : RdAt w b L wr) {c : Nat} (hc : c ≠ b) (o : Nat) (x : Value) : RdAt (w.setCell ⟨c, o, none⟩ x) b L wr :=
  (heap_setCell_other w ⟨c, o, none⟩ b x (by simpa using fun e => hc e.symm)).trans h
theorem RdAt.wrong {w : World} {b : Nat} {L : List UInt8} {wr : Bool} (h : RdAt w b L wr) : RdAt (w.setCell ⟨b, 1, none⟩ (.bool true)) b L true := heap_setCell_same w b 1 _ 107 _ h
def ValPost (w : World) (b : Nat) (L : List UInt8) (e : Ending) (w' : World) : Prop :=
  ∃ (x : Vl) (L' : List UInt8) (wr : Bool), e = .returned (vlV x) ∧ RdAt w' b L' wr ∧ w.grownBy w' (some b) ∧ valP L = if wr = true then none else some (x, L')
theorem value_no (b : Nat) (w : World) (hb : RdAt w b ([]) false) :
    Calls Tryz.prog 128 #[.pointer (some ⟨b, 0, none⟩)] w fun e w' => ValPost w b ([]) e w' := by
  have n1 := number_any b 1 _ false _ (hb.alloc (.cells #[.int .i64 0, .int .i64 0, .string ⟨#[]⟩] 49)) (by decide) (by decide)
  have hlt := hb.lt
  have k0 : (w.alloc (.cells #[.int .i64 0, .int .i64 0, .string ⟨#[]⟩] 49)).heap[w.heap.size]? = some (.cells #[.int .i64 0, .int .i64 0, .string ⟨#[]⟩] 49) := heap_alloc_new _ _
  have g0 := grown_alloc (grown_refl w (some b)) (.cells #[.int .i64 0, .int .i64 0, .string ⟨#[]⟩] 49)
  have e1 : numL (tkB 1 []) = 0 := by simp [tkB, numL]
  have e2 : tkL 1 [] = [] := by simp [tkL]
  have e3 : decide (([] : List UInt8).length < 1) = true := by simp
  rw [show (1 : Int).toNat = 1 from rfl, e1, e2, e3] at n1
  clear e1 e2 e3
  clear hb
  go_enter Tryz.func128, Tryz.ntmps128
  go_wp2_with fail
  refine n1.mono ?_
  rintro e w1 ⟨rfl, r1, g1⟩
  have k1 := (g1.block w.heap.size (by simp) (by simp; omega)).trans k0
  have z1 : w.heap.size < w1.heap.size := by have := g1.size; simp at this; omega
  have g1 := grown_trans g0 g1
  have p : w.heap.size ≠ b := by omega
  have zb : b < w1.heap.size := by omega
  clear k0 g0 n1
  obtain ⟨⟨c0, c1, c2⟩, f0, f1, f2⟩ := three k1
  have kz := three_put k1 (.int .i64 0) (.int .i64 0) (.string ⟨#[]⟩)
  have rz := ((r1.put p 0 (.int .i64 0)).put p 1 (.int .i64 0)).put p 2 (.string ⟨#[]⟩)
  have gz := grown_put (grown_put (grown_put g1 (Nat.le_refl _) 0 (.int .i64 0)) (Nat.le_refl _) 1 (.int .i64 0)) (Nat.le_refl _) 2 (.string ⟨#[]⟩)
  have kz := (((Below.refl _ _).alloc (Nat.le_refl _) (.cells #[.int .i64 0, .int .i64 0, .string ⟨#[]⟩] 49)).block _ (ltS kz)).trans kz
  have rz := rz.alloc (.cells #[.int .i64 0, .int .i64 0, .string ⟨#[]⟩] 49)
  have gz := grown_alloc gz (.cells #[.int .i64 0, .int .i64 0, .string ⟨#[]⟩] 49)
  have Kz := hide kz
  have Rz := hide rz
  have Gz := hide gz
  clear kz rz gz
  go_wp2_with fail
  generalize ((((w1.setCell ⟨w.heap.size, 0, none⟩ (.int .i64 0)).setCell ⟨w.heap.size, 1, none⟩ (.int .i64 0)).setCell ⟨w.heap.size, 2, none⟩ (.string ⟨#[]⟩)).alloc (.cells #[.int .i64 0, .int .i64 0, .string ⟨#[]⟩] 49)) = wz at *
  obtain ⟨⟨e0, e1, e2⟩, -⟩ := three Kz.out
  refine bodyPost_ret (v := vlV ⟨0, 0, []⟩) ?_ rfl ⟨_, _, true, rfl, Rz.out, Gz.out, rfl⟩
  simp [results, Tryz.results128, go_sem, vlV, e0, e1, e2]
theorem value_0 (b : Nat) (r : List UInt8) (w : World) (hb : RdAt w b (0 :: r) false) :
    Calls Tryz.prog 128 #[.pointer (some ⟨b, 0, none⟩)] w fun e w' => ValPost w b (0 :: r) e w' := by
  have n1 := number_any b 1 _ false _ (hb.alloc (.cells #[.int .i64 0, .int .i64 0, .string ⟨#[]⟩] 49)) (by decide) (by decide)
  have hlt := hb.lt
  have k0 : (w.alloc (.cells #[.int .i64 0, .int .i64 0, .string ⟨#[]⟩] 49)).heap[w.heap.size]? = some (.cells #[.int .i64 0, .int .i64 0, .string ⟨#[]⟩] 49) := heap_alloc_new _ _
  have g0 := grown_alloc (grown_refl w (some b)) (.cells #[.int .i64 0, .int .i64 0, .string ⟨#[]⟩] 49)
  have e1 : numL (tkB 1 (0 :: r)) = 0 := by simp [tkB, numL]
  have e2 : tkL 1 (0 :: r) = r := by simp [tkL]
  have e3 : decide ((0 :: r).length < 1) = false := by simp
  rw [show (1 : Int).toNat = 1 from rfl, e1, e2, e3] at n1
  clear e1 e2 e3
  clear hb
  go_enter Tryz.func128, Tryz.ntmps128
  go_wp2_with fail
  refine n1.mono ?_
  rintro e w1 ⟨rfl, r1, g1⟩
  have k1 := (g1.block w.heap.size (by simp) (by simp; omega)).trans k0
  have z1 : w.heap.size < w1.heap.size := by have := g1.size; simp at this; omega
  have g1 := grown_trans g0 g1
  have p : w.heap.size ≠ b := by omega
  have zb : b < w1.heap.size := by omega
  clear k0 g0 n1
  obtain ⟨⟨c0, c1, c2⟩, f0, f1, f2⟩ := three k1
  have kz := three_put k1 (.int .i64 0) (.int .i64 0) (.string ⟨#[]⟩)
  have rz := ((r1.put p 0 (.int .i64 0)).put p 1 (.int .i64 0)).put p 2 (.string ⟨#[]⟩)
  have gz := grown_put (grown_put (grown_put g1 (Nat.le_refl _) 0 (.int .i64 0)) (Nat.le_refl _) 1 (.int .i64 0)) (Nat.le_refl _) 2 (.string ⟨#[]⟩)
  have kz := (((Below.refl _ _).alloc (Nat.le_refl _) (.cells #[.int .i64 0, .int .i64 0, .string ⟨#[]⟩] 49)).block _ (ltS kz)).trans kz
  have rz := rz.alloc (.cells #[.int .i64 0, .int .i64 0, .string ⟨#[]⟩] 49)
  have gz := grown_alloc gz (.cells #[.int .i64 0, .int .i64 0, .string ⟨#[]⟩] 49)
  have Kz := hide kz
  have Rz := hide rz
  have Gz := hide gz
  clear kz rz gz
  go_wp2_with fail
  generalize ((((w1.setCell ⟨w.heap.size, 0, none⟩ (.int .i64 0)).setCell ⟨w.heap.size, 1, none⟩ (.int .i64 0)).setCell ⟨w.heap.size, 2, none⟩ (.string ⟨#[]⟩)).alloc (.cells #[.int .i64 0, .int .i64 0, .string ⟨#[]⟩] 49)) = wz at *
  obtain ⟨⟨e0, e1, e2⟩, -⟩ := three Kz.out
  refine bodyPost_ret (v := vlV ⟨0, 0, []⟩) ?_ rfl ⟨_, _, false, rfl, Rz.out, Gz.out, rfl⟩
  simp [results, Tryz.results128, go_sem, vlV, e0, e1, e2]
theorem valP_one (r : List UInt8) : valP (1 :: r) = if (false || decide (r.length < 4)) = true then none else some (⟨1, (numL (tkB 4 r) : Nat) - 999999999, []⟩, tkL 4 r) := by
  by_cases h : r.length < 4
  · simp [h, valP]
  · simp [h, valP, tkB, tkL]
theorem valP_two (r : List UInt8) : valP (2 :: r) = if ((false || decide (r.length < 1)) || decide ((tkL 1 r).length < numL (tkB 1 r))) = true then none else some (⟨2, 0, tkB (numL (tkB 1 r)) (tkL 1 r)⟩, tkL (numL (tkB 1 r)) (tkL 1 r)) := by
  cases r with
  | nil => simp [valP]
  | cons m r =>
    have e1 : numL (tkB 1 (m :: r)) = m.toNat := by simp [tkB, numL]
    have e2 : tkL 1 (m :: r) = r := by simp [tkL]
    rw [e1, e2]
    simp only [valP]
    rw [if_neg (by decide), if_neg (by decide), if_pos trivial]
    by_cases h : r.length < m.toNat
    · simp [h]
    · simp [h, tkB, tkL]
theorem valP_three (r : List UInt8) : valP (3 :: r) = if (false || decide (r.length < 1)) = true then none else some (⟨3, (numL (tkB 1 r) : Nat), []⟩, tkL 1 r) := by
  cases r with
  | nil => simp [valP]
  | cons m r =>
    have e1 : numL (tkB 1 (m :: r)) = m.toNat := by simp [tkB, numL]
    have e2 : tkL 1 (m :: r) = r := by simp [tkL]
    rw [e1, e2]
    simp [valP]
theorem numL_4 (r : List UInt8) : ((numL (tkB 4 r) : Nat) : Int) < 4294967296 := by
  have h := numL_lt (tkB 4 r)
  have h2 := Nat.pow_le_pow_right (show 0 < 256 by decide) (tkB_len 4 r)
  have h3 : (256 : Nat) ^ 4 = 4294967296 := by decide
  omega
theorem value_1 (b : Nat) (r : List UInt8) (w : World) (hb : RdAt w b (1 :: r) false) :
    Calls Tryz.prog 128 #[.pointer (some ⟨b, 0, none⟩)] w fun e w' => ValPost w b (1 :: r) e w' := by
  have n1 := number_any b 1 _ false _ (hb.alloc (.cells #[.int .i64 0, .int .i64 0, .string ⟨#[]⟩] 49)) (by decide) (by decide)
  have hlt := hb.lt
  have k0 : (w.alloc (.cells #[.int .i64 0, .int .i64 0, .string ⟨#[]⟩] 49)).heap[w.heap.size]? = some (.cells #[.int .i64 0, .int .i64 0, .string ⟨#[]⟩] 49) := heap_alloc_new _ _
  have g0 := grown_alloc (grown_refl w (some b)) (.cells #[.int .i64 0, .int .i64 0, .string ⟨#[]⟩] 49)
  have e1 : numL (tkB 1 (1 :: r)) = 1 := by simp [tkB, numL]
  have e2 : tkL 1 (1 :: r) = r := by simp [tkL]
  have e3 : decide ((1 :: r).length < 1) = false := by simp
  rw [show (1 : Int).toNat = 1 from rfl, e1, e2, e3] at n1
  clear e1 e2 e3
  have HV := hide (valP_one r)
  have hn := numL_4 r
  clear hb
  go_enter Tryz.func128, Tryz.ntmps128
  go_wp2_with fail
  refine n1.mono ?_
  rintro e w1 ⟨rfl, r1, g1⟩
  have k1 := (g1.block w.heap.size (by simp) (by simp; omega)).trans k0
  have z1 : w.heap.size < w1.heap.size := by have := g1.size; simp at this; omega
  have g1 := grown_trans g0 g1
  have p : w.heap.size ≠ b := by omega
  have zb : b < w1.heap.size := by omega
  clear k0 g0 n1
  have n2 := number_any b 4 r (false || false) _ (r1.alloc (.cells #[.int .i64 1, .int .i64 0, .string ⟨#[]⟩] 49)) (by decide) (by decide)
  have g1 := grown_alloc g1 (.cells #[.int .i64 1, .int .i64 0, .string ⟨#[]⟩] 49)
  have k1 : (w1.alloc (.cells #[.int .i64 1, .int .i64 0, .string ⟨#[]⟩] 49)).heap[w.heap.size]? = some (.cells #[.int .i64 0, .int .i64 0, .string ⟨#[]⟩] 49) := (((Below.refl w1.heap.size w1).alloc (Nat.le_refl _) _).block _ z1).trans k1
  have v1 : (w1.alloc (.cells #[.int .i64 1, .int .i64 0, .string ⟨#[]⟩] 49)).heap[w1.heap.size]? = some (.cells #[.int .i64 1, .int .i64 0, .string ⟨#[]⟩] 49) := heap_alloc_new _ _
  rw [show (4 : Int).toNat = 4 from rfl, Bool.false_or] at n2
  clear r1
  go_wp2_with fail
  refine n2.mono ?_
  rintro e w2 ⟨rfl, r2, g2⟩
  have k2 := (g2.block w.heap.size (by simp; omega) (by simp; omega)).trans k1
  have v2 := (g2.block w1.heap.size (by simp) (by simp; omega)).trans v1
  have z2 : w1.heap.size < w2.heap.size := by have := g2.size; simp at this; omega
  have g2 := grown_trans g1 g2
  clear k1 v1 g1 n2
  generalize numL (tkB 4 r) = n at HV hn ⊢
  generalize tkL 4 r = L' at HV r2
  generalize (false || decide (r.length < 4)) = wr at HV r2
  obtain ⟨⟨v0, v1, v2⟩, y0, y1, y2⟩ := three v2
  obtain ⟨⟨c0, c1, c2⟩, f0, f1, f2⟩ := three k2
  have kk' := (heap_setCell_other w2 ⟨w1.heap.size, 1, none⟩ w.heap.size (.int .i64 ((n : Int) - 999999999)) (by simp; omega)).trans k2
  have rr' := r2.put (show w1.heap.size ≠ b by omega) 1 (.int .i64 ((n : Int) - 999999999))
  have gg' := grown_put g2 (show w.heap.size ≤ w1.heap.size by omega) 1 (.int .i64 ((n : Int) - 999999999))
  have kz := three_put kk' (.int .i64 1) (.int .i64 ((n : Int) - 999999999)) (.string ⟨#[]⟩)
  have rz := ((rr'.put p 0 (.int .i64 1)).put p 1 (.int .i64 ((n : Int) - 999999999))).put p 2 (.string ⟨#[]⟩)
  have gz := grown_put (grown_put (grown_put gg' (Nat.le_refl _) 0 (.int .i64 1)) (Nat.le_refl _) 1 (.int .i64 ((n : Int) - 999999999))) (Nat.le_refl _) 2 (.string ⟨#[]⟩)
  have Kz := hide kz
  have Rz := hide rz
  have Gz := hide gz
  clear kz rz gz kk' rr' gg'
  go_wp2_with fail
  generalize ((((w2.setCell ⟨w1.heap.size, 1, none⟩ (.int .i64 ((n : Int) - 999999999))).setCell ⟨w.heap.size, 0, none⟩ (.int .i64 1)).setCell ⟨w.heap.size, 1, none⟩ (.int .i64 ((n : Int) - 999999999))).setCell ⟨w.heap.size, 2, none⟩ (.string ⟨#[]⟩)) = wz at *
  obtain ⟨⟨e0, e1, e2⟩, -⟩ := three Kz.out
  refine bodyPost_ret (v := vlV ⟨1, ((n : Int) - 999999999), []⟩) ?_ rfl ⟨_, _, _, rfl, Rz.out, Gz.out, HV.out⟩
  simp [results, Tryz.results128, go_sem, vlV, e0, e1, e2]
theorem value_3 (b : Nat) (r : List UInt8) (w : World) (hb : RdAt w b (3 :: r) false) :
    Calls Tryz.prog 128 #[.pointer (some ⟨b, 0, none⟩)] w fun e w' => ValPost w b (3 :: r) e w' := by
  have n1 := number_any b 1 _ false _ (hb.alloc (.cells #[.int .i64 0, .int .i64 0, .string ⟨#[]⟩] 49)) (by decide) (by decide)
  have hlt := hb.lt
  have k0 : (w.alloc (.cells #[.int .i64 0, .int .i64 0, .string ⟨#[]⟩] 49)).heap[w.heap.size]? = some (.cells #[.int .i64 0, .int .i64 0, .string ⟨#[]⟩] 49) := heap_alloc_new _ _
  have g0 := grown_alloc (grown_refl w (some b)) (.cells #[.int .i64 0, .int .i64 0, .string ⟨#[]⟩] 49)
  have e1 : numL (tkB 1 (3 :: r)) = 3 := by simp [tkB, numL]
  have e2 : tkL 1 (3 :: r) = r := by simp [tkL]
  have e3 : decide ((3 :: r).length < 1) = false := by simp
  rw [show (1 : Int).toNat = 1 from rfl, e1, e2, e3] at n1
  clear e1 e2 e3
  have HV := hide (valP_three r)
  clear hb
  go_enter Tryz.func128, Tryz.ntmps128
  go_wp2_with fail
  refine n1.mono ?_
  rintro e w1 ⟨rfl, r1, g1⟩
  have k1 := (g1.block w.heap.size (by simp) (by simp; omega)).trans k0
  have z1 : w.heap.size < w1.heap.size := by have := g1.size; simp at this; omega
  have g1 := grown_trans g0 g1
  have p : w.heap.size ≠ b := by omega
  have zb : b < w1.heap.size := by omega
  clear k0 g0 n1
  have n2 := number_any b 1 r (false || false) _ (r1.alloc (.cells #[.int .i64 3, .int .i64 0, .string ⟨#[]⟩] 49)) (by decide) (by decide)
  have g1 := grown_alloc g1 (.cells #[.int .i64 3, .int .i64 0, .string ⟨#[]⟩] 49)
  have k1 : (w1.alloc (.cells #[.int .i64 3, .int .i64 0, .string ⟨#[]⟩] 49)).heap[w.heap.size]? = some (.cells #[.int .i64 0, .int .i64 0, .string ⟨#[]⟩] 49) := (((Below.refl w1.heap.size w1).alloc (Nat.le_refl _) _).block _ z1).trans k1
  have v1 : (w1.alloc (.cells #[.int .i64 3, .int .i64 0, .string ⟨#[]⟩] 49)).heap[w1.heap.size]? = some (.cells #[.int .i64 3, .int .i64 0, .string ⟨#[]⟩] 49) := heap_alloc_new _ _
  rw [show (1 : Int).toNat = 1 from rfl, Bool.false_or] at n2
  clear r1
  go_wp2_with fail
  refine n2.mono ?_
  rintro e w2 ⟨rfl, r2, g2⟩
  have k2 := (g2.block w.heap.size (by simp; omega) (by simp; omega)).trans k1
  have v2 := (g2.block w1.heap.size (by simp) (by simp; omega)).trans v1
  have z2 : w1.heap.size < w2.heap.size := by have := g2.size; simp at this; omega
  have g2 := grown_trans g1 g2
  clear k1 v1 g1 n2
  generalize numL (tkB 1 r) = n at HV ⊢
  generalize tkL 1 r = L' at HV r2
  generalize (false || decide (r.length < 1)) = wr at HV r2
  obtain ⟨⟨v0, v1, v2⟩, y0, y1, y2⟩ := three v2
  obtain ⟨⟨c0, c1, c2⟩, f0, f1, f2⟩ := three k2
  have kk' := (heap_setCell_other w2 ⟨w1.heap.size, 1, none⟩ w.heap.size (.int .i64 (n : Int)) (by simp; omega)).trans k2
  have rr' := r2.put (show w1.heap.size ≠ b by omega) 1 (.int .i64 (n : Int))
  have gg' := grown_put g2 (show w.heap.size ≤ w1.heap.size by omega) 1 (.int .i64 (n : Int))
  have kz := three_put kk' (.int .i64 3) (.int .i64 (n : Int)) (.string ⟨#[]⟩)
  have rz := ((rr'.put p 0 (.int .i64 3)).put p 1 (.int .i64 (n : Int))).put p 2 (.string ⟨#[]⟩)
  have gz := grown_put (grown_put (grown_put gg' (Nat.le_refl _) 0 (.int .i64 3)) (Nat.le_refl _) 1 (.int .i64 (n : Int))) (Nat.le_refl _) 2 (.string ⟨#[]⟩)
  have Kz := hide kz
  have Rz := hide rz
  have Gz := hide gz
  clear kz rz gz kk' rr' gg'
  go_wp2_with fail
  generalize ((((w2.setCell ⟨w1.heap.size, 1, none⟩ (.int .i64 (n : Int))).setCell ⟨w.heap.size, 0, none⟩ (.int .i64 3)).setCell ⟨w.heap.size, 1, none⟩ (.int .i64 (n : Int))).setCell ⟨w.heap.size, 2, none⟩ (.string ⟨#[]⟩)) = wz at *
  obtain ⟨⟨e0, e1, e2⟩, -⟩ := three Kz.out
  refine bodyPost_ret (v := vlV ⟨3, (n : Int), []⟩) ?_ rfl ⟨_, _, _, rfl, Rz.out, Gz.out, HV.out⟩
  simp [results, Tryz.results128, go_sem, vlV, e0, e1, e2]
theorem value_2 (b : Nat) (r : List UInt8) (w : World) (hb : RdAt w b (2 :: r) false) :
    Calls Tryz.prog 128 #[.pointer (some ⟨b, 0, none⟩)] w fun e w' => ValPost w b (2 :: r) e w' := by
  have n1 := number_any b 1 _ false _ (hb.alloc (.cells #[.int .i64 0, .int .i64 0, .string ⟨#[]⟩] 49)) (by decide) (by decide)
  have hlt := hb.lt
  have k0 : (w.alloc (.cells #[.int .i64 0, .int .i64 0, .string ⟨#[]⟩] 49)).heap[w.heap.size]? = some (.cells #[.int .i64 0, .int .i64 0, .string ⟨#[]⟩] 49) := heap_alloc_new _ _
  have g0 := grown_alloc (grown_refl w (some b)) (.cells #[.int .i64 0, .int .i64 0, .string ⟨#[]⟩] 49)
  have e1 : numL (tkB 1 (2 :: r)) = 2 := by simp [tkB, numL]
  have e2 : tkL 1 (2 :: r) = r := by simp [tkL]
  have e3 : decide ((2 :: r).length < 1) = false := by simp
  rw [show (1 : Int).toNat = 1 from rfl, e1, e2, e3] at n1
  clear e1 e2 e3
  have HV := hide (valP_two r)
  clear hb
  go_enter Tryz.func128, Tryz.ntmps128
  go_wp2_with fail
  refine n1.mono ?_
  rintro e w1 ⟨rfl, r1, g1⟩
  have k1 := (g1.block w.heap.size (by simp) (by simp; omega)).trans k0
  have z1 : w.heap.size < w1.heap.size := by have := g1.size; simp at this; omega
  have g1 := grown_trans g0 g1
  have p : w.heap.size ≠ b := by omega
  have zb : b < w1.heap.size := by omega
  clear k0 g0 n1
  have n2 := number_any b 1 r (false || false) _ (r1.alloc (.cells #[.int .i64 2, .int .i64 0, .string ⟨#[]⟩] 49)) (by decide) (by decide)
  have g1 := grown_alloc g1 (.cells #[.int .i64 2, .int .i64 0, .string ⟨#[]⟩] 49)
  have k1 : (w1.alloc (.cells #[.int .i64 2, .int .i64 0, .string ⟨#[]⟩] 49)).heap[w.heap.size]? = some (.cells #[.int .i64 0, .int .i64 0, .string ⟨#[]⟩] 49) := (((Below.refl w1.heap.size w1).alloc (Nat.le_refl _) _).block _ z1).trans k1
  have v1 : (w1.alloc (.cells #[.int .i64 2, .int .i64 0, .string ⟨#[]⟩] 49)).heap[w1.heap.size]? = some (.cells #[.int .i64 2, .int .i64 0, .string ⟨#[]⟩] 49) := heap_alloc_new _ _
  rw [show (1 : Int).toNat = 1 from rfl, Bool.false_or] at n2
  clear r1
  go_wp2_with fail
  refine n2.mono ?_
  rintro e w2 ⟨rfl, r2, g2⟩
  have k2 := (g2.block w.heap.size (by simp; omega) (by simp; omega)).trans k1
  have v2 := (g2.block w1.heap.size (by simp) (by simp; omega)).trans v1
  have z2 : w1.heap.size < w2.heap.size := by have := g2.size; simp at this; omega
  have g2 := grown_trans g1 g2
  clear k1 v1 g1 n2
  generalize numL (tkB 1 r) = n at HV ⊢
  generalize tkL 1 r = L1 at HV r2
  generalize (false || decide (r.length < 1)) = wr1 at HV r2
  have n3 := take_any b (n : Int) L1 wr1 w2 r2 (by omega)
  rw [Int.toNat_natCast] at n3
  clear r2
  go_wp2_with fail
  refine n3.mono ?_
  rintro e w3 ⟨rfl, r3, g3⟩
  have k3 := (g3.block w.heap.size (by omega) (by simp; omega)).trans k2
  have v3 := (g3.block w1.heap.size (by omega) (by simp; omega)).trans v2
  have g3 := grown_trans g2 g3
  clear k2 v2 g2 n3
  generalize tkB n L1 = s at HV ⊢
  generalize tkL n L1 = L' at HV r3
  generalize (wr1 || decide (L1.length < n)) = wr at HV r3
  obtain ⟨⟨v0, v1, v2⟩, y0, y1, y2⟩ := three v3
  obtain ⟨⟨c0, c1, c2⟩, f0, f1, f2⟩ := three k3
  have kk' := (heap_setCell_other w3 ⟨w1.heap.size, 2, none⟩ w.heap.size (.string ⟨s.toArray⟩) (by simp; omega)).trans k3
  have rr' := r3.put (show w1.heap.size ≠ b by omega) 2 (.string ⟨s.toArray⟩)
  have gg' := grown_put g3 (show w.heap.size ≤ w1.heap.size by omega) 2 (.string ⟨s.toArray⟩)
  have kz := three_put kk' (.int .i64 2) (.int .i64 0) (.string ⟨s.toArray⟩)
  have rz := ((rr'.put p 0 (.int .i64 2)).put p 1 (.int .i64 0)).put p 2 (.string ⟨s.toArray⟩)
  have gz := grown_put (grown_put (grown_put gg' (Nat.le_refl _) 0 (.int .i64 2)) (Nat.le_refl _) 1 (.int .i64 0)) (Nat.le_refl _) 2 (.string ⟨s.toArray⟩)
  have Kz := hide kz
  have Rz := hide rz
  have Gz := hide gz
  clear kz rz gz kk' rr' gg'
  go_wp2_with fail
  generalize ((((w3.setCell ⟨w1.heap.size, 2, none⟩ (.string ⟨s.toArray⟩)).setCell ⟨w.heap.size, 0, none⟩ (.int .i64 2)).setCell ⟨w.heap.size, 1, none⟩ (.int .i64 0)).setCell ⟨w.heap.size, 2, none⟩ (.string ⟨s.toArray⟩)) = wz at *
  obtain ⟨⟨e0, e1, e2⟩, -⟩ := three Kz.out
  refine bodyPost_ret (v := vlV ⟨2, 0, s⟩) ?_ rfl ⟨_, _, _, rfl, Rz.out, Gz.out, HV.out⟩
  simp [results, Tryz.results128, go_sem, vlV, e0, e1, e2]
theorem value_x (b : Nat) (c : UInt8) (r : List UInt8) (h0 : ((c.toNat : Int) == 0) = false) (h1 : ((c.toNat : Int) == 1) = false) (h2 : ((c.toNat : Int) == 2) = false) (h3 : ((c.toNat : Int) == 3) = false) (w : World) (hb : RdAt w b (c :: r) false) :
    Calls Tryz.prog 128 #[.pointer (some ⟨b, 0, none⟩)] w fun e w' => ValPost w b (c :: r) e w' := by
  have n1 := number_any b 1 _ false _ (hb.alloc (.cells #[.int .i64 0, .int .i64 0, .string ⟨#[]⟩] 49)) (by decide) (by decide)
  have hlt := hb.lt
  have k0 : (w.alloc (.cells #[.int .i64 0, .int .i64 0, .string ⟨#[]⟩] 49)).heap[w.heap.size]? = some (.cells #[.int .i64 0, .int .i64 0, .string ⟨#[]⟩] 49) := heap_alloc_new _ _
  have g0 := grown_alloc (grown_refl w (some b)) (.cells #[.int .i64 0, .int .i64 0, .string ⟨#[]⟩] 49)
  have e1 : numL (tkB 1 (c :: r)) = c.toNat := by simp [tkB, numL]
  have e2 : tkL 1 (c :: r) = r := by simp [tkL]
  have e3 : decide ((c :: r).length < 1) = false := by simp
  rw [show (1 : Int).toNat = 1 from rfl, e1, e2, e3] at n1
  clear e1 e2 e3
  have HV : Hid (valP (c :: r) = none) := by
    have hc : ∀ d : UInt8, ((c.toNat : Int) == (d.toNat : Int)) = false → c ≠ d := by
      intro d hd e; rw [e] at hd; simp at hd
    show valP (c :: r) = none
    simp only [valP]
    rw [if_neg (hc 0 h0), if_neg (hc 1 h1), if_neg (hc 2 h2), if_neg (hc 3 h3)]
  clear hb
  go_enter Tryz.func128, Tryz.ntmps128
  go_wp2_with fail
  refine n1.mono ?_
  rintro e w1 ⟨rfl, r1, g1⟩
  have k1 := (g1.block w.heap.size (by simp) (by simp; omega)).trans k0
  have z1 : w.heap.size < w1.heap.size := by have := g1.size; simp at this; omega
  have g1 := grown_trans g0 g1
  have p : w.heap.size ≠ b := by omega
  have zb : b < w1.heap.size := by omega
  clear k0 g0 n1
  obtain ⟨⟨x0, x1⟩, y0, y1⟩ := two r1
  obtain ⟨⟨a0, a1, a2⟩, b0, b1, b2⟩ := three k1
  have k1 := (heap_setCell_other w1 ⟨b, 1, none⟩ w.heap.size (.bool true) (by simp; omega)).trans k1
  have r1 := r1.wrong
  have g1 := grown_trans g1 (grown_set w1 b 1 (.bool true))
  obtain ⟨⟨c0, c1, c2⟩, f0, f1, f2⟩ := three k1
  have kz := three_put k1 (.int .i64 (c.toNat : Int)) (.int .i64 0) (.string ⟨#[]⟩)
  have rz := ((r1.put p 0 (.int .i64 (c.toNat : Int))).put p 1 (.int .i64 0)).put p 2 (.string ⟨#[]⟩)
  have gz := grown_put (grown_put (grown_put g1 (Nat.le_refl _) 0 (.int .i64 (c.toNat : Int))) (Nat.le_refl _) 1 (.int .i64 0)) (Nat.le_refl _) 2 (.string ⟨#[]⟩)
  have kz := (((Below.refl _ _).alloc (Nat.le_refl _) (.cells #[.int .i64 (c.toNat : Int), .int .i64 0, .string ⟨#[]⟩] 49)).block _ (ltS kz)).trans kz
  have rz := rz.alloc (.cells #[.int .i64 (c.toNat : Int), .int .i64 0, .string ⟨#[]⟩] 49)
  have gz := grown_alloc gz (.cells #[.int .i64 (c.toNat : Int), .int .i64 0, .string ⟨#[]⟩] 49)
  have Kz := hide kz
  have Rz := hide rz
  have Gz := hide gz
  clear kz rz gz
  go_wp2_with fail
  generalize (((((w1.setCell ⟨b, 1, none⟩ (.bool true)).setCell ⟨w.heap.size, 0, none⟩ (.int .i64 (c.toNat : Int))).setCell ⟨w.heap.size, 1, none⟩ (.int .i64 0)).setCell ⟨w.heap.size, 2, none⟩ (.string ⟨#[]⟩)).alloc (.cells #[.int .i64 (c.toNat : Int), .int .i64 0, .string ⟨#[]⟩] 49)) = wz at *
  obtain ⟨⟨e0, e1, e2⟩, -⟩ := three Kz.out
  refine bodyPost_ret (v := vlV ⟨(c.toNat : Int), 0, []⟩) ?_ rfl ⟨_, _, true, rfl, Rz.out, Gz.out, HV.out⟩
  simp [results, Tryz.results128, go_sem, vlV, e0, e1, e2]
theorem value_any (b : Nat) (L : List UInt8) (w : World) (hb : RdAt w b L false) :
    Calls Tryz.prog 128 #[.pointer (some ⟨b, 0, none⟩)] w fun e w' => ValPost w b L e w' := by
  cases L with
  | nil => exact value_no b w hb
  | cons c r =>
    have hq : ∀ d : UInt8, c ≠ d → ((c.toNat : Int) == (d.toNat : Int)) = false := by
      intro d hd
      rw [beq_eq_false_iff_ne]
      intro e
      exact hd (UInt8.toNat_inj.1 (by omega))
    by_cases h0 : c = 0
    · subst h0; exact value_0 b r w hb
    by_cases h1 : c = 1
    · subst h1; exact value_1 b r w hb
    by_cases h2 : c = 2
    · subst h2; exact value_2 b r w hb
    by_cases h3 : c = 3
    · subst h3; exact value_3 b r w hb
    exact value_x b c r (hq 0 h0) (hq 1 h1) (hq 2 h2) (hq 3 h3) w hb
def valsOf : List UInt8 → Option (List Vl × List UInt8)
  | [] => none
  | c :: r => valsP c.toNat r
theorem RdAt.keep {w w' : World} {b : Nat} {L : List UInt8} {wr : Bool} (h : RdAt w b L wr) (hk : w'.heap[b]? = w.heap[b]?) : RdAt w' b L wr := hk.trans h
theorem vals_step (L : List UInt8) (m : Nat) (acc : List Vl) (x : Vl) (L' L2 : List UInt8) (wr : Bool) (h : valsOf L = (valsP (m + 1) L').map fun q => (acc ++ q.1, q.2)) (hv : valP L' = if wr = true then none else some (x, L2)) :
    valsOf L = if wr = true then none else (valsP m L2).map fun q => ((acc ++ [x]) ++ q.1, q.2) := by
  rw [h, valsP, hv]
  cases wr with
  | true => rfl
  | false =>
    simp only [Bool.false_eq_true, if_false, Option.bind_some]
    cases valsP m L2 <;> simp
theorem own_ne {w : World} {base b : Nat} {e : TypeId} {size n : Nat} {v : Value} {xs : List Value} (h : w.ownsRow base e size v n xs) (hb : b < base) : v.ownBlock = none ∨ v.ownBlock ≠ some b := by
  rcases h.2 with ⟨hv, -⟩ | ⟨g, cap, cur, hv, hg, -⟩
  · rw [hv]; exact .inl rfl
  · rw [hv]; right; simp only [Value.ownBlock, ne_eq, Option.some.injEq]; omega
def ValsPost (w : World) (b : Nat) (L : List UInt8) (e : Ending) (w' : World) : Prop :=
  ∃ (v : Value) (xs : List Vl) (L' : List UInt8) (wr : Bool), e = .returned v ∧ w'.ownsRow w.heap.size 49 3 v xs.length (xs.flatMap vlC) ∧ RdAt w' b L' wr ∧ w.grownBy w' (some b) ∧ xs.length ≤ 255 ∧ (valsOf L = if wr = true then none else some (xs, L'))
theorem values_any (b : Nat) (L : List UInt8) (w : World) (hb : RdAt w b L false) :
    Calls Tryz.prog 78 #[.pointer (some ⟨b, 0, none⟩)] w fun e w' => ValsPost w b L e w' := by
  obtain ⟨i0, hi, hz0, hz1, hz2⟩ := info_parts Tryz.info_val
  have n1 := number_any b 1 L false w hb (by decide) (by decide)
  have hlt := hb.lt
  obtain ⟨m0, L0, wr0, e1, e2, e3, hm0, hs⟩ : ∃ (m0 : Nat) (L0 : List UInt8) (wr0 : Bool), numL (tkB (1 : Int).toNat L) = m0 ∧ tkL (1 : Int).toNat L = L0 ∧ (false || decide (L.length < (1 : Int).toNat)) = wr0 ∧ m0 ≤ 255 ∧ valsOf L = if wr0 = true then none else (valsP m0 L0).map fun q => ([] ++ q.1, q.2) := by
    cases L with
    | nil => exact ⟨0, [], true, rfl, rfl, rfl, by omega, rfl⟩
    | cons c r =>
      refine ⟨c.toNat, r, false, by simp [tkB, numL], by simp [tkL], by simp, by have := c.toNat_lt; omega, ?_⟩
      simp [valsOf]
  rw [e1, e2, e3] at n1
  have HS := hide hs
  clear e1 e2 e3 hs hb
  go_enter Tryz.func78, Tryz.ntmps78
  go_wp2_with (go_at_call 127; refine n1.mono ?_; rintro e w1 ⟨rfl, r1, g1⟩)
  go_loopw [3, 4] (fun v i wl => ∃ (acc : List Vl) (m : Nat) (L' : List UInt8) (wr : Bool), i = .int .i64 (m : Int) ∧ wl.ownsRow w.heap.size 49 3 v acc.length (acc.flatMap vlC) ∧ RdAt wl b L' wr ∧ w.grownBy wl (some b) ∧ acc.length + m ≤ 255 ∧ Hid (valsOf L = if wr = true then none else (valsP m L').map fun q => (acc ++ q.1, q.2))) (fun _ i _ => (intOf i).toNat)
  case atStart => exact ⟨[], m0, L0, wr0, rfl, World.ownsRow_nil _ _ _ _, r1, g1, by simp; omega, HS⟩
  case round =>
    obtain ⟨acc, m, L', bad, rfl, hown, hr, hg, hacc, HE⟩ := hrel
    clear n1 r1 g1 HS hm0
    obtain ⟨⟨c0, c1⟩, f0, f1⟩ := two hr
    by_cases hm : 0 < m
    · have hm' : (m : Int) > 0 := by omega
      cases bad with
      | true =>
        obtain ⟨ao, cap, hv⟩ := owns_slice hown
        subst hv
        have Hown := hide hown
        clear hown
        go_wp2
        go_ret
        exact ⟨_, acc, L', true, rfl, Hown.out, hr, hg, by omega, HE.out⟩
      | false =>
        have hval := value_any b L' wr hr
        obtain ⟨m, rfl⟩ : ∃ m', m = m' + 1 := ⟨m - 1, by omega⟩
        have HE2 := HE.out
        simp only [Bool.false_eq_true, if_false] at HE2
        replace HE2 := hide HE2
        clear HE
        go_wp2_with fail
        refine hval.mono ?_
        rintro e wc ⟨x, L2, wr2, rfl, rc, gc, hv⟩
        have HE3 := hide (vals_step L m acc x L' L2 wr2 HE2.out hv)
        have hown2 := (hown.kept gc (own_ne hown hlt)).alloc (.cells #[.int .i64 x.k, .int .i64 x.n, .string ⟨x.s.toArray⟩] 49)
        have rc1 := rc.alloc (.cells #[.int .i64 x.k, .int .i64 x.n, .string ⟨x.s.toArray⟩] 49)
        have q := grown_alloc (grown_trans hg gc) (.cells #[.int .i64 x.k, .int .i64 x.n, .string ⟨x.s.toArray⟩] 49)
        have hlt5 := hown2.lt
        have hgs := hg.size
        have hgs2 := gc.size
        clear HE2 hv hval hown hr rc c0 c1 f0 f1
        rw [vlV]
        go_wp2_with (at_builtin; refine wpList_append_own _ rfl _ _ 41 rfl w.heap.size 49 i0 (.agg #[.int .i64 0, .int .i64 0, .string ⟨#[]⟩]) 3 32 Tryz.underlying41 hi hz0 hz1 hz2 rfl (by decide) _ _ _ rfl hown2 ⟨wc.heap.size, 0, none⟩ 1 1 [.int .i64 x.k, .int .i64 x.n, .string ⟨x.s.toArray⟩] rfl rfl ?c1 ?c2 ?c3 ?c4 ?c5 ?_)
        case c1 =>
          intro j u hj
          match j, hj with
            | 0, hj => simp at hj; subst hj; simp [Addr.add]
            | 1, hj => simp at hj; subst hj; simp [Addr.add]
            | 2, hj => simp at hj; subst hj; simp [Addr.add]
        case c2 => intro u hu; simp at hu; rcases hu with rfl | rfl | rfl <;> rfl
        case c3 => unfold maxLen; omega
        case c4 => omega
        case c5 => simp; omega
        intro v' w3 hown' hgrow _
        have hg3 : w.grownBy w3 (some b) := by
          refine ⟨hgrow.os.trans q.os, hgrow.tape.trans q.tape, hgrow.output.trans q.output, Nat.le_trans q.size hgrow.size, fun k hk hr => (hgrow.block k (Nat.lt_of_lt_of_le hk q.size) ?_).trans (q.block k hk hr)⟩
          intro e
          have := (hlt5 _ e.symm).1
          omega
        have rc3 : RdAt w3 b L2 wr2 := rc1.keep (hgrow.block b rc1.lt (fun e => by have := (hlt5 _ e.symm).1; omega))
        have R3 : w3.ownsRow w.heap.size 49 3 v' (acc ++ [x]).length ((acc ++ [x]).flatMap vlC) := by
          rw [List.length_append, List.flatMap_append]
          have e1 : [x].flatMap vlC = vlC x := by simp
          rw [e1]; exact hown'
        clear hown' hgrow hown2 hlt5 rc1 gc hg q
        go_wp2
        go_roundw
        case rel => exact ⟨acc ++ [x], m, L2, wr2, by go_num, R3, rc3, hg3, by simp; omega, HE3⟩
        case measure => simp [intOf]
    · obtain rfl : m = 0 := by omega
      obtain ⟨ao, cap, hv⟩ := owns_slice hown
      subst hv
      have Hown := hide hown
      clear hown
      go_wp2
      go_ret
      refine ⟨_, acc, L', bad, rfl, Hown.out, hr, hg, by omega, ?_⟩
      rw [HE.out]
      cases bad <;> simp [valsP]
end Go.Proofs.YtcnnjladaoaeiaaGreatDoor
