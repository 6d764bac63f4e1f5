/-
  'deltaBegun': what must be in any case.
-/
import Derived.Test.YtcnnjladaoaeiaaGreatDoorDop
namespace Go.Proofs.YtcnnjladaoaeiaaGreatDoor
open Go.RowKit

set_option maxRecDepth 100000 in
set_option maxHeartbeats 800000 in
theorem txt_any (s : ByteArray) (w : World) : Calls Tryz.prog 40 #[.string s] w fun e w' => e = .returned (.agg #[.int .i64 2, .int .i64 0, .string s]) ∧ Below w.heap.size w w' := by
  go_enter Tryz.func40, Tryz.ntmps40
  go_wp2
  refine bodyPost_ret (v := .agg #[.int .i64 2, .int .i64 0, .string s]) ?_ rfl ⟨rfl, ?_⟩
  · simp [results, Tryz.results40, go_sem]
  · exact (Below.refl _ _).alloc (Nat.le_refl _) _

set_option maxRecDepth 100000 in
set_option maxHeartbeats 800000 in
theorem num_any (n : Int) (w : World) : Calls Tryz.prog 41 #[.int .i64 n] w fun e w' => e = .returned (.agg #[.int .i64 1, .int .i64 n, .string ⟨#[]⟩]) ∧ Below w.heap.size w w' := by
  go_enter Tryz.func41, Tryz.ntmps41
  go_wp2
  refine bodyPost_ret (v := .agg #[.int .i64 1, .int .i64 n, .string ⟨#[]⟩]) ?_ rfl ⟨rfl, ?_⟩
  · simp [results, Tryz.results41, go_sem]
  · exact (Below.refl _ _).alloc (Nat.le_refl _) _

def bL : List Dl := [⟨1, 0, 0, ⟨2, 0, [55]⟩⟩, ⟨2, 0, 0, vl0⟩, ⟨3, 0, 1, vl0⟩]
def bR : List Vl := [⟨1, 1, []⟩]

theorem b_check : checkD 1 bL = (1, 0) := by decide
theorem b_int : intV [55] = some 7 := by
  have h : Lib.atoiAll [55] = .ok 7 := by rfl
  simp [intV, h, isInt, Lib.itoa, Lib.decDigits]
theorem b_applyE : applyE bR bL = 0 := by decide
theorem b_apply : applyL bR bL = [⟨1, 7, []⟩] := by
  rw [applyL, if_pos b_applyE]
  simp [bR, bL, rowB, castX, castV, b_int]

theorem ds_new (w : World) (b : Nat) (L : List Dl) (cs : Array Value) (n : Nat) (hn : L.length = n) (h : n ≤ 1000) (hs : ∀ x ∈ L, x.v.s.length ≤ 100) (hk : w.heap[b]? = some (.cells cs 51)) (hc : ∀ i x, L[i]? = some x → cs[i * 6]? = some (.int .i64 x.k) ∧ cs[i * 6 + 1]? = some (.int .i64 x.a) ∧ cs[i * 6 + 2]? = some (.int .i64 x.ty) ∧ cs[i * 6 + 3]? = some (.int .i64 x.v.k) ∧ cs[i * 6 + 4]? = some (.int .i64 x.v.n) ∧ cs[i * 6 + 5]? = some (.string ⟨x.v.s.toArray⟩)) :
    DsAt w (.slice (some ⟨b, 0, none⟩) n n) L := by
  refine ⟨some ⟨b, 0, none⟩, n, by rw [hn], by omega, by omega, by omega, fun x hx => by have := hs x hx; omega, fun _ => ⟨b, 0, rfl, (Array.getElem?_eq_some_iff.1 hk).1, fun i x hx => ?_⟩⟩
  obtain ⟨h0, h1, h2, h3, h4, h5⟩ := hc i x hx
  rw [Nat.zero_add]
  exact ⟨(Lib.cell_of_heap hk _).trans h0, (Lib.cell_of_heap hk _).trans h1, (Lib.cell_of_heap hk _).trans h2, (Lib.cell_of_heap hk _).trans h3, (Lib.cell_of_heap hk _).trans h4, (Lib.cell_of_heap hk _).trans h5⟩

theorem vs_one (w : World) (x : Vl) (b cap : Nat) (hs : x.s.length ≤ 100) (hk : w.heap[b]? = some (.cells #[.int .i64 x.k, .int .i64 x.n, .string ⟨x.s.toArray⟩] 49)) : VsAt w (.slice (some ⟨b, 0, none⟩) 1 cap) [x] := by
  refine ⟨some ⟨b, 0, none⟩, cap, rfl, by simp, fun y hy => by simp at hy; subst hy; omega, fun _ => ⟨b, 0, rfl, (Array.getElem?_eq_some_iff.1 hk).1, fun i y hy => ?_⟩⟩
  match i, hy with
  | 0, hy =>
    simp at hy; subst hy
    exact ⟨(Lib.cell_of_heap hk _).trans rfl, (Lib.cell_of_heap hk _).trans rfl, (Lib.cell_of_heap hk _).trans rfl⟩
  | i + 1, hy => simp at hy

set_option maxRecDepth 100000 in
set_option maxHeartbeats 3200000 in
theorem begun_any (w : World) (laid : Laid w) : Calls Tryz.prog 25 #[] w fun e w' => e = .returned (.bool true) ∧ Below w.heap.size w w' := by
  have HL := hide laid
  clear laid
  go_enter Tryz.func25, Tryz.ntmps25
  go_wp2_with fail
  refine (txt_any _ _).mono ?_
  rintro e w1 ⟨rfl, b1⟩
  have k1 := heap_alloc_new w1 (.cells #[.int .i64 1, .int .i64 0, .int .i64 0, .int .i64 2, .int .i64 0, .string ⟨#[55]⟩, .int .i64 2, .int .i64 0, .int .i64 0, .int .i64 0, .int .i64 0, .string ⟨#[]⟩, .int .i64 3, .int .i64 0, .int .i64 1, .int .i64 0, .int .i64 0, .string ⟨#[]⟩] 51)
  have q1 := b1.alloc b1.size (.cells #[.int .i64 1, .int .i64 0, .int .i64 0, .int .i64 2, .int .i64 0, .string ⟨#[55]⟩, .int .i64 2, .int .i64 0, .int .i64 0, .int .i64 0, .int .i64 0, .string ⟨#[]⟩, .int .i64 3, .int .i64 0, .int .i64 1, .int .i64 0, .int .i64 0, .string ⟨#[]⟩] 51)
  have d1 : DsAt (w1.alloc (.cells #[.int .i64 1, .int .i64 0, .int .i64 0, .int .i64 2, .int .i64 0, .string ⟨#[55]⟩, .int .i64 2, .int .i64 0, .int .i64 0, .int .i64 0, .int .i64 0, .string ⟨#[]⟩, .int .i64 3, .int .i64 0, .int .i64 1, .int .i64 0, .int .i64 0, .string ⟨#[]⟩] 51)) (.slice (some ⟨w1.heap.size, 0, none⟩) 3 3) bL := by
    refine ds_new _ _ bL _ 3 rfl (by decide) (by decide) k1 (fun i x hx => ?_)
    match i, hx with
    | 0, hx => simp [bL] at hx; subst hx; exact ⟨rfl, rfl, rfl, rfl, rfl, rfl⟩
    | 1, hx => simp [bL] at hx; subst hx; exact ⟨rfl, rfl, rfl, rfl, rfl, rfl⟩
    | 2, hx => simp [bL] at hx; subst hx; exact ⟨rfl, rfl, rfl, rfl, rfl, rfl⟩
    | i + 3, hx => simp [bL] at hx
  clear k1
  have hc := checkD_any bL _ 1 _ d1
  rw [b_check] at hc
  go_wp2_with fail
  refine hc.mono ?_
  rintro e w2 ⟨rfl, b2⟩
  have D2 := hide (d1.below b2)
  have q2 := q1.trans (b2.mono (by simp; exact Nat.le_succ_of_le b1.size))
  have z2 : w1.heap.size + 1 ≤ w2.heap.size := by have := b2.size; simp at this; omega
  clear d1 hc q1 b2
  go_wp2_with fail
  refine (num_any _ _).mono ?_
  rintro e w3 ⟨rfl, b3⟩
  have D3 := hide (D2.out.below b3)
  have q3 := q2.trans (b3.mono q2.size)
  have k3 := heap_alloc_new w3 (.cells #[.int .i64 1, .int .i64 1, .string ⟨#[]⟩] 49)
  have b4 := (Below.refl w3.heap.size w3).alloc (Nat.le_refl _) (.cells #[.int .i64 1, .int .i64 1, .string ⟨#[]⟩] 49)
  have q4 := q3.alloc q3.size (.cells #[.int .i64 1, .int .i64 1, .string ⟨#[]⟩] 49)
  have v4 := vs_one _ ⟨1, 1, []⟩ w3.heap.size 1 (by decide) k3
  have ha := apply_any bR bL _ _ _ v4 (fun ao cap e h => by cases e) (D3.out.below b4) (HL.out.of_below q4 (Nat.le_refl _))
  rw [b_apply, b_applyE] at ha
  have HA := hide ha
  clear D2 q2 b3 k3 v4 ha z2
  go_wp2_with fail
  refine HA.out.mono ?_
  rintro e w5 ⟨x, rfl, ox, b5⟩
  have q5 := q4.trans (b5.mono q4.size)
  have V5 := hide (vs_of_own ox (by decide) (by decide))
  obtain ⟨xa, xc, hx⟩ := owns_slice ox
  subst hx
  clear ox HA D3 q3 b4 q4 b5 b1
  go_wp2_with fail
  refine (num_any _ _).mono ?_
  rintro e w6 ⟨rfl, b6⟩
  have b7 := b6.alloc b6.size (.cells #[.int .i64 1, .int .i64 7, .string ⟨#[]⟩] 49)
  have k7 := heap_alloc_new w6 (.cells #[.int .i64 1, .int .i64 7, .string ⟨#[]⟩] 49)
  have q7 := q5.trans (b7.mono q5.size)
  have HS := hide (same_vals [⟨1, 7, []⟩] _ _ _ (V5.out.below b7) (vs_one _ ⟨1, 7, []⟩ w6.heap.size 1 (by decide) k7))
  clear b6 k7 V5 b7
  go_wp2_with fail
  refine HS.out.mono ?_
  rintro e w8 ⟨rfl, b8⟩
  have q8 := q7.trans (b8.mono q7.size)
  clear HS q7 b8
  go_wp2
  go_ret
  exact ⟨rfl, q8⟩

end Go.Proofs.YtcnnjladaoaeiaaGreatDoor
