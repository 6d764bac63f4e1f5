/-
  slices.Delete of one value out of a row of one's own.
-/
import Derived.Test.YtcnnjladaoaeiaaGreatDoorDla
import Derived.Deep.RegionLaw
import Derived.Lib.SliceRun
import Derived.Shelf.RegionOpenPlain
namespace Go.Proofs.YtcnnjladaoaeiaaGreatDoor
open Go.RowKit

/-- a row's block behind a store of several cells -/
theorem heap_setCells (b : Nat) (t : TypeId) : ∀ (vs : List Value) (o : Nat) (W : World) (cur : Array Value), W.heap[b]? = some (.cells cur t) → o + vs.length ≤ cur.size →
    ∃ cur' : Array Value, (W.setCells b o vs).heap[b]? = some (.cells cur' t) ∧ cur'.toList = cur.toList.take o ++ vs ++ cur.toList.drop (o + vs.length) := by
  intro vs
  induction vs with
  | nil => intro o W cur h hl; exact ⟨cur, h, by simp⟩
  | cons v r ih =>
    intro o W cur h hl
    simp only [List.length_cons] at hl
    obtain ⟨cur', h1, h2⟩ := ih (o + 1) (W.setCell ⟨b, o, none⟩ v) _ (heap_setCell_same W b o cur t v h) (by simp; omega)
    refine ⟨cur', h1, h2.trans ?_⟩
    have ho : o < cur.toList.length := by simp; omega
    rw [Array.toList_setIfInBounds, List.take_succ_eq_append_getElem (by simpa using ho), List.take_set_of_le (Nat.le_refl _), List.getElem_set_self, List.drop_set_of_lt (by omega)]
    simp only [List.length_cons, List.append_assoc, List.singleton_append]
    rw [show o + 1 + r.length = o + (r.length + 1) by omega]

theorem below_cells {B : Nat} {a : World} (b : Nat) (hb : B ≤ b) : ∀ (vs : List Value) (o : Nat) (w : World), Below B a w → Below B a (w.setCells b o vs)
  | [], _, _, h => h
  | _ :: r, _, _, h => below_cells b hb r _ _ (h.setCell hb _)

abbrev z3 : List Value := [.int .i64 0, .int .i64 0, .string ⟨#[]⟩]

theorem clear_one (w : World) (ty : TypeId) (b o c : Nat) (hc : ∀ j, j < 3 → (w.cell? ⟨b, o + j, none⟩).isSome = true) (hf : ∀ j, j < 3 → w.frozen? ⟨b, o + j, none⟩ = false) :
    (Builtin.clear_ #[41] ty #[.slice (some ⟨b, o, none⟩) 1 c]).run Tryz.prog w = .ok (.tuple #[]) (w.setCells b o z3) := by
  have hzc : (Builtin.zeroCells (Value.agg #[.int .i64 0, .int .i64 0, .string ⟨#[]⟩]).cells 1).toList = z3 := by
    simp [Builtin.zeroCells, Value.cells, z3]
    rfl
  have hst := run_storeCells_cells (P := Tryz.prog) b o z3 0 w (by simpa using hc) (by simpa using hf) (by intro v hv; simp only [z3, List.mem_cons, List.not_mem_nil, or_false] at hv; rcases hv with rfl | rfl | rfl <;> rfl)
  simp only [Nat.add_zero] at hst
  simp [Builtin.clear_, run_underlying Tryz.underlying41, Tryz.zeroValue49, hzc, hst]

theorem flatV_append (A B : List Vl) : (A ++ B).flatMap vlC = A.flatMap vlC ++ B.flatMap vlC := List.flatMap_append
theorem flatV_take (L : List Vl) (i : Nat) : (L.take i).flatMap vlC = (L.flatMap vlC).take (i * 3) := by
  induction L generalizing i with
  | nil => simp
  | cons x r ih =>
    cases i with
    | zero => simp
    | succ i =>
      rw [List.take_succ_cons, List.flatMap_cons, List.flatMap_cons, ih]
      have e : (i + 1) * 3 = (vlC x).length + i * 3 := by simp [vlC]; omega
      rw [e, List.take_length_add_append]
theorem flatV_drop (L : List Vl) (i : Nat) : (L.drop i).flatMap vlC = (L.flatMap vlC).drop (i * 3) := by
  induction L generalizing i with
  | nil => simp
  | cons x r ih =>
    cases i with
    | zero => simp
    | succ i =>
      rw [List.drop_succ_cons, List.flatMap_cons, ih]
      have e : (i + 1) * 3 = (vlC x).length + i * 3 := by simp [vlC]; omega
      rw [e, List.drop_append]
      simp [vlC]

end Go.Proofs.YtcnnjladaoaeiaaGreatDoor
