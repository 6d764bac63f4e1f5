/-
  Out of my texts Keys: what is wanted here.
-/
import Derived.Test.YtcnnjladaoaeiaaGreatDoorCheckV
namespace Go.Proofs.YtcnnjladaoaeiaaGreatDoor
open Go.RowKit

/-- two boxed values, held below -/
def Two (w : World) (K N : Int) (s : ByteArray) (K' N' : Int) (s' : ByteArray) (W : World) : Prop :=
  W.heap[w.heap.size]? = some (.cells #[.int .i64 K, .int .i64 N, .string s] 49) ∧ W.heap[w.heap.size + 1]? = some (.cells #[.int .i64 K', .int .i64 N', .string s'] 49) ∧ Below w.heap.size w W ∧ w.heap.size + 2 ≤ W.heap.size

theorem Two.start (w : World) (K N : Int) (s : ByteArray) (K' N' : Int) (s' : ByteArray) :
    Two w K N s K' N' s' ((w.alloc (.cells #[.int .i64 K, .int .i64 N, .string s] 49)).alloc (.cells #[.int .i64 K', .int .i64 N', .string s'] 49)) := by
  have hz : (w.alloc (.cells #[.int .i64 K, .int .i64 N, .string s] 49)).heap.size = w.heap.size + 1 := by simp
  refine ⟨?_, ?_, ((Below.refl _ _).alloc (Nat.le_refl _) _).alloc (by simp) _, by simp⟩
  · exact (Below.heap_alloc _ _ _ (by omega)).trans (heap_alloc_new _ _)
  · rw [← hz]; exact heap_alloc_new _ _

theorem Two.below {w : World} {K N : Int} {s : ByteArray} {K' N' : Int} {s' : ByteArray} {W W' : World} (h : Two w K N s K' N' s' W) (hb : Below W.heap.size W W') : Two w K N s K' N' s' W' := by
  obtain ⟨h1, h2, h3, h4⟩ := h
  exact ⟨(hb.block _ (by omega)).trans h1, (hb.block _ (by omega)).trans h2, h3.trans (hb.mono h3.size), Nat.le_trans h4 hb.size⟩

theorem Two.alloc {w : World} {K N : Int} {s : ByteArray} {K' N' : Int} {s' : ByteArray} {W : World} (h : Two w K N s K' N' s' W) (o : Obj) : Two w K N s K' N' s' (W.alloc o) :=
  h.below ((Below.refl _ _).alloc (Nat.le_refl _) o)

end Go.Proofs.YtcnnjladaoaeiaaGreatDoor
