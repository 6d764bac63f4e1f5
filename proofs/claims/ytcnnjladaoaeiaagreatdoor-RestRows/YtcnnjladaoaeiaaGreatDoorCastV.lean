/-
  'CastOf' of package overhaulref.
-/
import Derived.Test.YtcnnjladaoaeiaaGreatDoorIntVS
namespace Go.Proofs.YtcnnjladaoaeiaaGreatDoor
open Go.RowKit

set_option maxRecDepth 100000 in
set_option maxHeartbeats 800000 in
theorem co_0 (N tt : Int) (s : ByteArray) (w : World) :
    Calls Tryz.prog 71 #[.agg #[.int .i64 0, .int .i64 N, .string s], .int .i64 tt] w fun e w' => e = .returned (.agg #[.int .i64 0, .int .i64 N, .string s]) ∧ Below w.heap.size w w' := by
  go_enter Tryz.func71, Tryz.ntmps71
  go_wp2
  refine bodyPost_ret (v := .agg #[.int .i64 0, .int .i64 N, .string s]) ?_ rfl ⟨rfl, ?_⟩
  · simp [results, Tryz.results71, go_sem]
  · exact ((Below.refl _ _).alloc (Nat.le_refl _) _).alloc (by simp) _

set_option maxRecDepth 100000 in
set_option maxHeartbeats 800000 in
theorem co_same (K N : Int) (s : ByteArray) (hK : (K == 0) = false) (w : World) :
    Calls Tryz.prog 71 #[.agg #[.int .i64 K, .int .i64 N, .string s], .int .i64 K] w fun e w' => e = .returned (.agg #[.int .i64 K, .int .i64 N, .string s]) ∧ Below w.heap.size w w' := by
  go_enter Tryz.func71, Tryz.ntmps71
  go_wp2
  refine bodyPost_ret (v := .agg #[.int .i64 K, .int .i64 N, .string s]) ?_ rfl ⟨rfl, ?_⟩
  · simp [results, Tryz.results71, go_sem]
  · exact ((Below.refl _ _).alloc (Nat.le_refl _) _).alloc (by simp) _

set_option maxRecDepth 100000 in
set_option maxHeartbeats 800000 in
theorem co_31 (N : Int) (s : ByteArray) (w : World) :
    Calls Tryz.prog 71 #[.agg #[.int .i64 3, .int .i64 N, .string s], .int .i64 1] w fun e w' => e = .returned (.agg #[.int .i64 1, .int .i64 N, .string ⟨#[]⟩]) ∧ Below w.heap.size w w' := by
  go_enter Tryz.func71, Tryz.ntmps71
  go_wp2
  refine bodyPost_ret (v := .agg #[.int .i64 1, .int .i64 N, .string ⟨#[]⟩]) ?_ rfl ⟨rfl, ?_⟩
  · simp [results, Tryz.results71, go_sem]
  · exact ((Below.refl _ _).alloc (Nat.le_refl _) _).alloc (by simp) _

set_option maxRecDepth 100000 in
set_option maxHeartbeats 800000 in
theorem co_23o (N : Int) (s : ByteArray) (ht : (s.toList == [116, 114, 117, 101]) = false) (hf : (s.toList == [102, 97, 108, 115, 101]) = false) (w : World) :
    Calls Tryz.prog 71 #[.agg #[.int .i64 2, .int .i64 N, .string s], .int .i64 3] w fun e w' => e = .returned (.agg #[.int .i64 0, .int .i64 0, .string ⟨#[]⟩]) ∧ Below w.heap.size w w' := by
  go_enter Tryz.func71, Tryz.ntmps71
  go_wp2
  refine bodyPost_ret (v := .agg #[.int .i64 0, .int .i64 0, .string ⟨#[]⟩]) ?_ rfl ⟨rfl, ?_⟩
  · simp [results, Tryz.results71, go_sem]
  · exact ((Below.refl _ _).alloc (Nat.le_refl _) _).alloc (by simp) _

set_option maxRecDepth 100000 in
set_option maxHeartbeats 800000 in
theorem co_12 (N : Int) (s T : ByteArray) (w : World) (hc : ∀ W : World, Calls Tryz.prog 113 #[.int .i64 N] W fun e w' => e = .returned (.string T) ∧ Below W.heap.size W w') :
    Calls Tryz.prog 71 #[.agg #[.int .i64 1, .int .i64 N, .string s], .int .i64 2] w fun e w' => e = .returned (.agg #[.int .i64 2, .int .i64 0, .string T]) ∧ Below w.heap.size w w' := by
  go_enter Tryz.func71, Tryz.ntmps71
  go_wp2_with fail
  refine (hc _).mono ?_
  rintro e w1 ⟨rfl, b1⟩
  have hz : (w.alloc (.cells #[.int .i64 1, .int .i64 N, .string s] 49)).heap.size = w.heap.size + 1 := by simp
  have c : w1.heap[w.heap.size + 1]? = some (.cells #[.int .i64 0, .int .i64 0, .string ⟨#[]⟩] 49) := (b1.block _ (by simp)).trans (by rw [← hz]; exact heap_alloc_new _ _)
  obtain ⟨⟨c0, c1, c2⟩, f0, f1, f2⟩ := three c
  obtain ⟨⟨d0, d1, d2⟩, -⟩ := three (three_put c (.int .i64 2) (.int .i64 0) (.string T))
  have q1 : Below w.heap.size w w1 := (((Below.refl _ _).alloc (Nat.le_refl _) _).alloc (by simp) _).trans (b1.mono (by simp; omega))
  clear hc b1 c hz
  go_wp2
  have q2 : Below w.heap.size w (((w1.setCell ⟨w.heap.size + 1, 0, none⟩ (.int .i64 2)).setCell ⟨w.heap.size + 1, 1, none⟩ (.int .i64 0)).setCell ⟨w.heap.size + 1, 2, none⟩ (.string T)) := ((q1.setCell (by simp) _).setCell (by simp) _).setCell (by simp) _
  generalize ((w1.setCell ⟨w.heap.size + 1, 0, none⟩ (.int .i64 2)).setCell ⟨w.heap.size + 1, 1, none⟩ (.int .i64 0)).setCell ⟨w.heap.size + 1, 2, none⟩ (.string T) = w2 at *
  refine bodyPost_ret (v := .agg #[.int .i64 2, .int .i64 0, .string T]) ?_ rfl ⟨rfl, q2⟩
  simp [results, Tryz.results71, go_sem, d0, d1, d2]

set_option maxRecDepth 100000 in
set_option maxHeartbeats 800000 in
theorem co_32 (N : Int) (s T : ByteArray) (w : World) (hc : ∀ W : World, Calls Tryz.prog 114 #[.agg #[.int .i64 3, .int .i64 N, .string s]] W fun e w' => e = .returned (.string T) ∧ Below W.heap.size W w') :
    Calls Tryz.prog 71 #[.agg #[.int .i64 3, .int .i64 N, .string s], .int .i64 2] w fun e w' => e = .returned (.agg #[.int .i64 2, .int .i64 0, .string T]) ∧ Below w.heap.size w w' := by
  go_enter Tryz.func71, Tryz.ntmps71
  go_wp2_with fail
  refine (hc _).mono ?_
  rintro e w1 ⟨rfl, b1⟩
  have hz : (w.alloc (.cells #[.int .i64 3, .int .i64 N, .string s] 49)).heap.size = w.heap.size + 1 := by simp
  have c : w1.heap[w.heap.size + 1]? = some (.cells #[.int .i64 0, .int .i64 0, .string ⟨#[]⟩] 49) := (b1.block _ (by simp)).trans (by rw [← hz]; exact heap_alloc_new _ _)
  obtain ⟨⟨c0, c1, c2⟩, f0, f1, f2⟩ := three c
  obtain ⟨⟨d0, d1, d2⟩, -⟩ := three (three_put c (.int .i64 2) (.int .i64 0) (.string T))
  have q1 : Below w.heap.size w w1 := (((Below.refl _ _).alloc (Nat.le_refl _) _).alloc (by simp) _).trans (b1.mono (by simp; omega))
  clear hc b1 c hz
  go_wp2
  have q2 : Below w.heap.size w (((w1.setCell ⟨w.heap.size + 1, 0, none⟩ (.int .i64 2)).setCell ⟨w.heap.size + 1, 1, none⟩ (.int .i64 0)).setCell ⟨w.heap.size + 1, 2, none⟩ (.string T)) := ((q1.setCell (by simp) _).setCell (by simp) _).setCell (by simp) _
  generalize ((w1.setCell ⟨w.heap.size + 1, 0, none⟩ (.int .i64 2)).setCell ⟨w.heap.size + 1, 1, none⟩ (.int .i64 0)).setCell ⟨w.heap.size + 1, 2, none⟩ (.string T) = w2 at *
  refine bodyPost_ret (v := .agg #[.int .i64 2, .int .i64 0, .string T]) ?_ rfl ⟨rfl, q2⟩
  simp [results, Tryz.results71, go_sem, d0, d1, d2]

set_option maxRecDepth 100000 in
set_option maxHeartbeats 800000 in
theorem co_21y (N n : Int) (s : ByteArray) (w : World) (hc : ∀ W : World, Calls Tryz.prog 115 #[.string s] W fun e w' => e = .returned (.tuple #[.int .i64 n, .bool true]) ∧ Below W.heap.size W w') :
    Calls Tryz.prog 71 #[.agg #[.int .i64 2, .int .i64 N, .string s], .int .i64 1] w fun e w' => e = .returned (.agg #[.int .i64 1, .int .i64 n, .string ⟨#[]⟩]) ∧ Below w.heap.size w w' := by
  go_enter Tryz.func71, Tryz.ntmps71
  go_wp2_with fail
  refine (hc _).mono ?_
  rintro e w1 ⟨rfl, b1⟩
  have hz : (w.alloc (.cells #[.int .i64 2, .int .i64 N, .string s] 49)).heap.size = w.heap.size + 1 := by simp
  have c : w1.heap[w.heap.size + 1]? = some (.cells #[.int .i64 0, .int .i64 0, .string ⟨#[]⟩] 49) := (b1.block _ (by simp)).trans (by rw [← hz]; exact heap_alloc_new _ _)
  obtain ⟨⟨c0, c1, c2⟩, f0, f1, f2⟩ := three c
  obtain ⟨⟨d0, d1, d2⟩, -⟩ := three (three_put c (.int .i64 1) (.int .i64 n) (.string ⟨#[]⟩))
  have q1 : Below w.heap.size w w1 := (((Below.refl _ _).alloc (Nat.le_refl _) _).alloc (by simp) _).trans (b1.mono (by simp; omega))
  clear hc b1 c hz
  go_wp2
  have q2 : Below w.heap.size w (((w1.setCell ⟨w.heap.size + 1, 0, none⟩ (.int .i64 1)).setCell ⟨w.heap.size + 1, 1, none⟩ (.int .i64 n)).setCell ⟨w.heap.size + 1, 2, none⟩ (.string ⟨#[]⟩)) := ((q1.setCell (by simp) _).setCell (by simp) _).setCell (by simp) _
  generalize ((w1.setCell ⟨w.heap.size + 1, 0, none⟩ (.int .i64 1)).setCell ⟨w.heap.size + 1, 1, none⟩ (.int .i64 n)).setCell ⟨w.heap.size + 1, 2, none⟩ (.string ⟨#[]⟩) = w2 at *
  refine bodyPost_ret (v := .agg #[.int .i64 1, .int .i64 n, .string ⟨#[]⟩]) ?_ rfl ⟨rfl, q2⟩
  simp [results, Tryz.results71, go_sem, d0, d1, d2]

set_option maxRecDepth 100000 in
set_option maxHeartbeats 800000 in
theorem co_21n (N : Int) (s : ByteArray) (w : World) (hc : ∀ W : World, Calls Tryz.prog 115 #[.string s] W fun e w' => e = .returned (.tuple #[.int .i64 0, .bool false]) ∧ Below W.heap.size W w') :
    Calls Tryz.prog 71 #[.agg #[.int .i64 2, .int .i64 N, .string s], .int .i64 1] w fun e w' => e = .returned (.agg #[.int .i64 0, .int .i64 0, .string ⟨#[]⟩]) ∧ Below w.heap.size w w' := by
  go_enter Tryz.func71, Tryz.ntmps71
  go_wp2_with fail
  refine (hc _).mono ?_
  rintro e w1 ⟨rfl, b1⟩
  have hz : (w.alloc (.cells #[.int .i64 2, .int .i64 N, .string s] 49)).heap.size = w.heap.size + 1 := by simp
  have c : w1.heap[w.heap.size + 1]? = some (.cells #[.int .i64 0, .int .i64 0, .string ⟨#[]⟩] 49) := (b1.block _ (by simp)).trans (by rw [← hz]; exact heap_alloc_new _ _)
  obtain ⟨⟨c0, c1, c2⟩, f0, f1, f2⟩ := three c
  obtain ⟨⟨d0, d1, d2⟩, -⟩ := three (three_put c (.int .i64 0) (.int .i64 0) (.string ⟨#[]⟩))
  have q1 : Below w.heap.size w w1 := (((Below.refl _ _).alloc (Nat.le_refl _) _).alloc (by simp) _).trans (b1.mono (by simp; omega))
  clear hc b1 c hz
  go_wp2
  have q2 : Below w.heap.size w (((w1.setCell ⟨w.heap.size + 1, 0, none⟩ (.int .i64 0)).setCell ⟨w.heap.size + 1, 1, none⟩ (.int .i64 0)).setCell ⟨w.heap.size + 1, 2, none⟩ (.string ⟨#[]⟩)) := ((q1.setCell (by simp) _).setCell (by simp) _).setCell (by simp) _
  generalize ((w1.setCell ⟨w.heap.size + 1, 0, none⟩ (.int .i64 0)).setCell ⟨w.heap.size + 1, 1, none⟩ (.int .i64 0)).setCell ⟨w.heap.size + 1, 2, none⟩ (.string ⟨#[]⟩) = w2 at *
  refine bodyPost_ret (v := .agg #[.int .i64 0, .int .i64 0, .string ⟨#[]⟩]) ?_ rfl ⟨rfl, q2⟩
  simp [results, Tryz.results71, go_sem, d0, d1, d2]

set_option maxRecDepth 100000 in
set_option maxHeartbeats 800000 in
theorem co_13 (N m : Int) (s : ByteArray) (w : World) (hc : ∀ W : World, Calls Tryz.prog 116 #[.bool (N != 0)] W fun e w' => e = .returned (.agg #[.int .i64 3, .int .i64 m, .string ⟨#[]⟩]) ∧ Below W.heap.size W w') :
    Calls Tryz.prog 71 #[.agg #[.int .i64 1, .int .i64 N, .string s], .int .i64 3] w fun e w' => e = .returned (.agg #[.int .i64 3, .int .i64 m, .string ⟨#[]⟩]) ∧ Below w.heap.size w w' := by
  go_enter Tryz.func71, Tryz.ntmps71
  go_wp2_with fail
  refine (hc _).mono ?_
  rintro e w1 ⟨rfl, b1⟩
  have hz : (w.alloc (.cells #[.int .i64 1, .int .i64 N, .string s] 49)).heap.size = w.heap.size + 1 := by simp
  have c : w1.heap[w.heap.size + 1]? = some (.cells #[.int .i64 0, .int .i64 0, .string ⟨#[]⟩] 49) := (b1.block _ (by simp)).trans (by rw [← hz]; exact heap_alloc_new _ _)
  obtain ⟨⟨c0, c1, c2⟩, f0, f1, f2⟩ := three c
  obtain ⟨⟨d0, d1, d2⟩, -⟩ := three (three_put c (.int .i64 3) (.int .i64 m) (.string ⟨#[]⟩))
  have q1 : Below w.heap.size w w1 := (((Below.refl _ _).alloc (Nat.le_refl _) _).alloc (by simp) _).trans (b1.mono (by simp; omega))
  clear hc b1 c hz
  go_wp2
  have q2 : Below w.heap.size w (((w1.setCell ⟨w.heap.size + 1, 0, none⟩ (.int .i64 3)).setCell ⟨w.heap.size + 1, 1, none⟩ (.int .i64 m)).setCell ⟨w.heap.size + 1, 2, none⟩ (.string ⟨#[]⟩)) := ((q1.setCell (by simp) _).setCell (by simp) _).setCell (by simp) _
  generalize ((w1.setCell ⟨w.heap.size + 1, 0, none⟩ (.int .i64 3)).setCell ⟨w.heap.size + 1, 1, none⟩ (.int .i64 m)).setCell ⟨w.heap.size + 1, 2, none⟩ (.string ⟨#[]⟩) = w2 at *
  refine bodyPost_ret (v := .agg #[.int .i64 3, .int .i64 m, .string ⟨#[]⟩]) ?_ rfl ⟨rfl, q2⟩
  simp [results, Tryz.results71, go_sem, d0, d1, d2]

set_option maxRecDepth 100000 in
set_option maxHeartbeats 800000 in
theorem co_23t (N m : Int) (s : ByteArray) (ht : (s.toList == [116, 114, 117, 101]) = true) (w : World) (hc : ∀ W : World, Calls Tryz.prog 116 #[.bool true] W fun e w' => e = .returned (.agg #[.int .i64 3, .int .i64 m, .string ⟨#[]⟩]) ∧ Below W.heap.size W w') :
    Calls Tryz.prog 71 #[.agg #[.int .i64 2, .int .i64 N, .string s], .int .i64 3] w fun e w' => e = .returned (.agg #[.int .i64 3, .int .i64 m, .string ⟨#[]⟩]) ∧ Below w.heap.size w w' := by
  go_enter Tryz.func71, Tryz.ntmps71
  go_wp2_with fail
  refine (hc _).mono ?_
  rintro e w1 ⟨rfl, b1⟩
  have hz : (w.alloc (.cells #[.int .i64 2, .int .i64 N, .string s] 49)).heap.size = w.heap.size + 1 := by simp
  have c : w1.heap[w.heap.size + 1]? = some (.cells #[.int .i64 0, .int .i64 0, .string ⟨#[]⟩] 49) := (b1.block _ (by simp)).trans (by rw [← hz]; exact heap_alloc_new _ _)
  obtain ⟨⟨c0, c1, c2⟩, f0, f1, f2⟩ := three c
  obtain ⟨⟨d0, d1, d2⟩, -⟩ := three (three_put c (.int .i64 3) (.int .i64 m) (.string ⟨#[]⟩))
  have q1 : Below w.heap.size w w1 := (((Below.refl _ _).alloc (Nat.le_refl _) _).alloc (by simp) _).trans (b1.mono (by simp; omega))
  clear hc b1 c hz
  go_wp2
  have q2 : Below w.heap.size w (((w1.setCell ⟨w.heap.size + 1, 0, none⟩ (.int .i64 3)).setCell ⟨w.heap.size + 1, 1, none⟩ (.int .i64 m)).setCell ⟨w.heap.size + 1, 2, none⟩ (.string ⟨#[]⟩)) := ((q1.setCell (by simp) _).setCell (by simp) _).setCell (by simp) _
  generalize ((w1.setCell ⟨w.heap.size + 1, 0, none⟩ (.int .i64 3)).setCell ⟨w.heap.size + 1, 1, none⟩ (.int .i64 m)).setCell ⟨w.heap.size + 1, 2, none⟩ (.string ⟨#[]⟩) = w2 at *
  refine bodyPost_ret (v := .agg #[.int .i64 3, .int .i64 m, .string ⟨#[]⟩]) ?_ rfl ⟨rfl, q2⟩
  simp [results, Tryz.results71, go_sem, d0, d1, d2]

set_option maxRecDepth 100000 in
set_option maxHeartbeats 800000 in
theorem co_23f (N m : Int) (s : ByteArray) (ht : (s.toList == [116, 114, 117, 101]) = false) (hf : (s.toList == [102, 97, 108, 115, 101]) = true) (w : World) (hc : ∀ W : World, Calls Tryz.prog 116 #[.bool false] W fun e w' => e = .returned (.agg #[.int .i64 3, .int .i64 m, .string ⟨#[]⟩]) ∧ Below W.heap.size W w') :
    Calls Tryz.prog 71 #[.agg #[.int .i64 2, .int .i64 N, .string s], .int .i64 3] w fun e w' => e = .returned (.agg #[.int .i64 3, .int .i64 m, .string ⟨#[]⟩]) ∧ Below w.heap.size w w' := by
  go_enter Tryz.func71, Tryz.ntmps71
  go_wp2_with fail
  refine (hc _).mono ?_
  rintro e w1 ⟨rfl, b1⟩
  have hz : (w.alloc (.cells #[.int .i64 2, .int .i64 N, .string s] 49)).heap.size = w.heap.size + 1 := by simp
  have c : w1.heap[w.heap.size + 1]? = some (.cells #[.int .i64 0, .int .i64 0, .string ⟨#[]⟩] 49) := (b1.block _ (by simp)).trans (by rw [← hz]; exact heap_alloc_new _ _)
  obtain ⟨⟨c0, c1, c2⟩, f0, f1, f2⟩ := three c
  obtain ⟨⟨d0, d1, d2⟩, -⟩ := three (three_put c (.int .i64 3) (.int .i64 m) (.string ⟨#[]⟩))
  have q1 : Below w.heap.size w w1 := (((Below.refl _ _).alloc (Nat.le_refl _) _).alloc (by simp) _).trans (b1.mono (by simp; omega))
  clear hc b1 c hz
  go_wp2
  have q2 : Below w.heap.size w (((w1.setCell ⟨w.heap.size + 1, 0, none⟩ (.int .i64 3)).setCell ⟨w.heap.size + 1, 1, none⟩ (.int .i64 m)).setCell ⟨w.heap.size + 1, 2, none⟩ (.string ⟨#[]⟩)) := ((q1.setCell (by simp) _).setCell (by simp) _).setCell (by simp) _
  generalize ((w1.setCell ⟨w.heap.size + 1, 0, none⟩ (.int .i64 3)).setCell ⟨w.heap.size + 1, 1, none⟩ (.int .i64 m)).setCell ⟨w.heap.size + 1, 2, none⟩ (.string ⟨#[]⟩) = w2 at *
  refine bodyPost_ret (v := .agg #[.int .i64 3, .int .i64 m, .string ⟨#[]⟩]) ?_ rfl ⟨rfl, q2⟩
  simp [results, Tryz.results71, go_sem, d0, d1, d2]

end Go.Proofs.YtcnnjladaoaeiaaGreatDoor
