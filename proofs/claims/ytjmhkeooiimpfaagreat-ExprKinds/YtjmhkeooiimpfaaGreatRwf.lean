/-
  'Kind' and 'Row' of package fit; 'rowFault' of package expr.
-/
import Derived.Test.YtjmhkeooiimpfaaGreatFlv
namespace Go.Proofs.YtjmhkeooiimpfaaGreat
open Go.RowKit

set_option maxRecDepth 100000 in
set_option maxHeartbeats 800000 in
theorem fk_any (k m : Int) (r : Bool) (hr : Hid ((decide (k = 0) || decide (k = m)) = r)) (w : World) : Calls Tryz.prog 20 #[.int .i64 k, .int .i64 m] w fun e w' => e = .returned (.bool r) ∧ w' = w := by
  have hc : (k == 0) = true ∨ ((k == 0) = false ∧ (k == m) = true) ∨ ((k == 0) = false ∧ (k == m) = false) := by
    cases h1 : (k == 0) <;> cases h2 : (k == m) <;> simp
  rcases hc with h | ⟨h, h2⟩ | ⟨h, h2⟩
  · obtain rfl : r = true := by rw [← hr.out]; simp at h; simp [h]
    go_enter Tryz.func20, Tryz.ntmps20
    go_wp2
    go_ret
    exact ⟨rfl, rfl⟩
  · obtain rfl : r = true := by rw [← hr.out]; simp at h h2; simp [h2]
    go_enter Tryz.func20, Tryz.ntmps20
    go_wp2
    go_ret
    exact ⟨rfl, rfl⟩
  · obtain rfl : r = false := by rw [← hr.out]; simp at h h2; simp [h, h2]
    go_enter Tryz.func20, Tryz.ntmps20
    go_wp2
    go_ret
    exact ⟨rfl, rfl⟩

set_option maxRecDepth 100000 in
set_option maxHeartbeats 800000 in
theorem row1_any (c : Cl) (x : Vl) (w : World) : Calls Tryz.prog 40 #[.agg #[.string ⟨c.name.toArray⟩, .int .i64 c.ty], .agg #[.int .i64 x.k, .int .i64 x.n, .string ⟨x.s.toArray⟩]] w fun e w' => e = .returned (.bool (decide (x.k = 0) || decide (x.k = c.ty))) ∧ Below w.heap.size w w' := by
  have h := fun W => fk_any x.k c.ty _ rfl W
  generalize (decide (x.k = 0) || decide (x.k = c.ty)) = r at h ⊢
  go_enter Tryz.func40, Tryz.ntmps40
  go_wp2_with (go_at_call 20; refine (h _).mono ?_; rintro e w1 ⟨rfl, rfl⟩)
  go_ret
  exact ⟨rfl, ((Below.refl w.heap.size w).alloc (Nat.le_refl _) _).alloc (by simp) _⟩

set_option maxRecDepth 100000 in
set_option maxHeartbeats 1600000 in
theorem eqf_any (L : List Cl) (R : List Vl) (cu ru : Value) (W : World) (hC : CsAt W cu L) (hR : VsAt W ru R) (hlen : R.length = L.length) :
    Calls Tryz.prog 39 #[cu, ru, .func (.func 40) #[] #[]] W fun e w' => e = .returned (.bool (kindsR L R)) ∧ Below W.heap.size W w' := by
  obtain ⟨ao, cap, rfl, c1, c3⟩ := hC
  obtain ⟨ao2, cap2, rfl, r1, r2, r3⟩ := hR
  obtain ⟨n, hn⟩ : ∃ n, L.length = n := ⟨_, rfl⟩
  rw [hlen, hn] at r1 ⊢
  rw [hn] at c1
  have HL := hide hlen
  clear hlen r2
  go_enter Tryz.func39, Tryz.ntmps39
  go_wp2
  go_loopw [17] (fun i wl => ∃ j : Nat, j ≤ n ∧ i = .int .i64 j ∧ Below W.heap.size W wl ∧ Hid (kindsR L R = kindsR (L.drop j) (R.drop j))) (fun i _ => n - (intOf i).toNat)
  case atStart => exact ⟨0, Nat.zero_le _, rfl, Below.refl _ _, rfl⟩
  case round =>
    obtain ⟨j, hj, rfl, hnx, HA⟩ := hrel
    by_cases hlt : j < n
    · obtain ⟨c, hc⟩ : ∃ c, L[j]? = some c := ⟨L[j], List.getElem?_eq_getElem (by omega)⟩
      obtain ⟨x, hx⟩ : ∃ x, R[j]? = some x := ⟨R[j]'(by rw [HL.out]; omega), List.getElem?_eq_getElem _⟩
      obtain ⟨g, o, rfl, hg, hcc⟩ := c3 (by intro e; rw [e] at hc; cases hc)
      obtain ⟨g2, o2, rfl, hg2, hcr⟩ := r3 (by intro e; rw [e] at hx; cases hx)
      obtain ⟨a0, a1⟩ := hcc j c hc
      obtain ⟨b0, b1, b2⟩ := hcr j x hx
      have lg : g < wr.heap.size := Nat.lt_of_lt_of_le hg hnx.size
      have lg2 : g2 < wr.heap.size := Nat.lt_of_lt_of_le hg2 hnx.size
      have d0 := (hnx.cell (p := ⟨g, o + j * 2, none⟩) hg).trans a0
      have d1 := (hnx.cell (p := ⟨g, o + j * 2 + 1, none⟩) hg).trans a1
      have e0 := (hnx.cell (p := ⟨g2, o2 + j * 3, none⟩) hg2).trans b0
      have e1 := (hnx.cell (p := ⟨g2, o2 + j * 3 + 1, none⟩) hg2).trans b1
      have e2 := (hnx.cell (p := ⟨g2, o2 + j * 3 + 2, none⟩) hg2).trans b2
      have hlt' : (j : Int) < (n : Int) := by omega
      have hsz := hnx.size
      have q2 : Below W.heap.size W ((wr.alloc (.cells #[.string ⟨c.name.toArray⟩, .int .i64 c.ty] 43)).alloc (.cells #[.int .i64 x.k, .int .i64 x.n, .string ⟨x.s.toArray⟩] 25)) := (hnx.alloc hsz _).alloc (by simp; omega) _
      have hf := row1_any c x ((wr.alloc (.cells #[.string ⟨c.name.toArray⟩, .int .i64 c.ty] 43)).alloc (.cells #[.int .i64 x.k, .int .i64 x.n, .string ⟨x.s.toArray⟩] 25))
      have qE := fun (w3 : World) (b : Below ((wr.alloc (.cells #[.string ⟨c.name.toArray⟩, .int .i64 c.ty] 43)).alloc (.cells #[.int .i64 x.k, .int .i64 x.n, .string ⟨x.s.toArray⟩] 25)).heap.size ((wr.alloc (.cells #[.string ⟨c.name.toArray⟩, .int .i64 c.ty] 43)).alloc (.cells #[.int .i64 x.k, .int .i64 x.n, .string ⟨x.s.toArray⟩] 25)) w3) => q2.trans (b.mono q2.size)
      have HD : Hid (kindsR L R = ((decide (x.k = 0) || decide (x.k = c.ty)) && kindsR (L.drop (j + 1)) (R.drop (j + 1)))) := by
        obtain ⟨hi, rfl⟩ := List.getElem?_eq_some_iff.1 hc
        obtain ⟨hi2, rfl⟩ := List.getElem?_eq_some_iff.1 hx
        rw [Hid, HA.out, List.drop_eq_getElem_cons hi, List.drop_eq_getElem_cons hi2, kindsR]
      generalize (decide (x.k = 0) || decide (x.k = c.ty)) = B at hf HD
      clear hcc hcr c3 r3 a0 a1 b0 b1 b2 hc hx HA q2
      cases B with
      | true =>
        have HB : Hid (kindsR L R = kindsR (L.drop (j + 1)) (R.drop (j + 1))) := by rw [Hid, HD.out, Bool.true_and]
        clear HD
        go_wp2_with (go_at_call 40; refine hf.mono ?_; rintro e w3 ⟨rfl, b3⟩; have q3 := qE w3 b3; clear qE hf b3)
        go_roundw
        case rel => exact ⟨j + 1, by omega, by go_num, q3, HB⟩
        case measure => simp [intOf]; omega
      | false =>
        have HB : Hid (kindsR L R = false) := by rw [Hid, HD.out, Bool.false_and]
        clear HD
        go_wp2_with (go_at_call 40; refine hf.mono ?_; rintro e w3 ⟨rfl, b3⟩; have q3 := qE w3 b3; clear qE hf b3)
        go_ret
        exact ⟨by rw [HB.out]; rfl, q3⟩
    · have HB : Hid (kindsR L R = true) := by
        rw [Hid, HA.out, List.drop_of_length_le (by omega)]
        unfold kindsR; rfl
      clear c3 r3 HA
      go_wp2
      go_ret
      exact ⟨by rw [HB.out]; rfl, hnx⟩

set_option maxRecDepth 100000 in
set_option maxHeartbeats 800000 in
theorem fitRow_any (L : List Cl) (R : List Vl) (cu ru : Value) (W : World) (hC : CsAt W cu L) (hR : VsAt W ru R) (hlen : R.length = L.length) :
    Calls Tryz.prog 28 #[cu, ru] W fun e w' => e = .returned (.bool (kindsR L R)) ∧ Below W.heap.size W w' := by
  have h := eqf_any L R cu ru W hC hR hlen
  generalize kindsR L R = B at h ⊢
  clear hC hR hlen
  go_enter Tryz.func28, Tryz.ntmps28
  go_wp2_with fail
  refine h.mono ?_
  rintro e w1 ⟨rfl, b1⟩
  go_wp2
  go_ret
  exact ⟨rfl, b1⟩

end Go.Proofs.YtjmhkeooiimpfaaGreat
