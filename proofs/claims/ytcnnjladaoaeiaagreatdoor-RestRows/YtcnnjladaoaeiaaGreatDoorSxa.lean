/-
  'SameValue' with nothing, 'CheckValue'; a delta's cells.
-/
import Derived.Test.YtcnnjladaoaeiaaGreatDoorDck
import Derived.Test.YtcnnjladaoaeiaaGreatDoorCheckV
namespace Go.Proofs.YtcnnjladaoaeiaaGreatDoor
open Go.RowKit

set_option maxRecDepth 100000 in
set_option maxHeartbeats 800000 in
theorem sv0_no (x : Vl) (w : World) (h : ¬ x.k = 0 ∨ (x.k = 0 ∧ ¬ x.n = 0) ∨ (x.k = 0 ∧ x.n = 0 ∧ x.s.isEmpty = false)) :
    Calls Tryz.prog 70 #[.agg #[.int .i64 x.k, .int .i64 x.n, .string ⟨x.s.toArray⟩], .agg #[.int .i64 0, .int .i64 0, .string ⟨#[]⟩]] w fun e w' => e = .returned (.bool false) ∧ Below w.heap.size w w' := by
  obtain ⟨k, n, s⟩ := x
  simp only at h
  rcases h with h | ⟨rfl, h⟩ | ⟨rfl, rfl, h⟩
  · go_enter Tryz.func70, Tryz.ntmps70
    go_wp2
    go_ret
    exact ⟨ret_bool (by simp), ((Below.refl _ _).alloc (Nat.le_refl _) _).alloc (by simp) _⟩
  · go_enter Tryz.func70, Tryz.ntmps70
    go_wp2
    go_ret
    exact ⟨ret_bool (by simp), ((Below.refl _ _).alloc (Nat.le_refl _) _).alloc (by simp) _⟩
  · have hq : ((⟨s.toArray⟩ : ByteArray).toList == ([] : List UInt8)) = false := by rw [Lib.toList_data]; cases s <;> simp at h; simp
    go_enter Tryz.func70, Tryz.ntmps70
    go_wp2
    go_ret
    exact ⟨ret_bool (by first | (simp; done) | simp_all), ((Below.refl _ _).alloc (Nat.le_refl _) _).alloc (by simp) _⟩

theorem sv0_any (x : Vl) (w : World) : Calls Tryz.prog 70 #[.agg #[.int .i64 x.k, .int .i64 x.n, .string ⟨x.s.toArray⟩], .agg #[.int .i64 0, .int .i64 0, .string ⟨#[]⟩]] w fun e w' => e = .returned (.bool (decide (x = vl0))) ∧ Below w.heap.size w w' := by
  by_cases h : x = vl0
  · rw [decide_eq_true h]
    subst h
    exact same_any 0 0 ⟨#[]⟩ w
  · rw [decide_eq_false h]
    refine sv0_no x w ?_
    obtain ⟨k, n, s⟩ := x
    by_cases h1 : k = 0
    · by_cases h2 : n = 0
      · refine .inr (.inr ⟨h1, h2, ?_⟩)
        subst h1 h2
        cases s with
        | nil => exact absurd rfl h
        | cons c r => rfl
      · exact .inr (.inl ⟨h1, h2⟩)
    · exact .inl h1

/-- a delta's six cells at the head of a block -/
theorem six_at {W : World} {b : Nat} {x0 x1 x2 x3 x4 x5 : Value} {t : TypeId} (h : W.heap[b]? = some (.cells #[x0, x1, x2, x3, x4, x5] t)) :
    W.cell? ⟨b, 0, none⟩ = some x0 ∧ W.cell? ⟨b, 1, none⟩ = some x1 ∧ W.cell? ⟨b, 2, none⟩ = some x2 ∧ W.cell? ⟨b, 3, none⟩ = some x3 ∧ W.cell? ⟨b, 4, none⟩ = some x4 ∧ W.cell? ⟨b, 5, none⟩ = some x5 :=
  ⟨(Lib.cell_of_heap h 0).trans rfl, (Lib.cell_of_heap h 1).trans rfl, (Lib.cell_of_heap h 2).trans rfl, (Lib.cell_of_heap h 3).trans rfl, (Lib.cell_of_heap h 4).trans rfl, (Lib.cell_of_heap h 5).trans rfl⟩

theorem ckvX (x : Vl) (hs : x.s.length ≤ 140737488355328) (W : World) : Calls Tryz.prog 63 #[.agg #[.int .i64 x.k, .int .i64 x.n, .string ⟨x.s.toArray⟩]] W fun e w' => e = .returned (.int .i64 (chkV x.k x.n x.s : Nat)) ∧ Below W.heap.size W w' := by
  have h := ckv_any x.k x.n ⟨x.s.toArray⟩ W (by rw [size_mk]; exact hs)
  have e0 : (⟨x.s.toArray⟩ : ByteArray).data.toList = x.s := by simp
  rw [e0] at h
  exact h

end Go.Proofs.YtcnnjladaoaeiaaGreatDoor
