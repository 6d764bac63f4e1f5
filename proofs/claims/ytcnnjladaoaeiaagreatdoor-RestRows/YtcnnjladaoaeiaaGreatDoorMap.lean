/-
  The map of three entries that 'ofEachKind' makes, over the model's own operations.
-/
import Derived.Test.YtcnnjladaoaeiaaGreatDoorKey
import Derived.MapKept
namespace Go.Proofs.YtcnnjladaoaeiaaGreatDoor
open Go.RowKit

/-- the map whose keys are the kinds of columns -/
def mp (a b c : Value) : Obj := .map #[⟨.int .i64 1, a, 0⟩, ⟨.int .i64 2, b, 1⟩, ⟨.int .i64 3, c, 2⟩] 3

theorem get_map {W : World} {r : Nat} {es : Array MapEntry} {clock : Nat} (hb : W.heap[r]? = some (.map es clock)) : (getObj r).run Tryz.prog W = .ok (.map es clock) W := by
  simp [getObj, Sem.run, hb]
theorem set_map {W : World} {r : Nat} {es : Array MapEntry} {clock : Nat} (o : Obj) (hb : W.heap[r]? = some (.map es clock)) : (setObj r o).run Tryz.prog W = .ok () { W with heap := W.heap.setIfInBounds r o } := by
  simp [setObj, Sem.run, hb]
theorem check_key (W : World) (k : Int) (e : Bool) : (Instr.checkKey e 10000 3 (.int .i64 k)).run Tryz.prog W = .ok () W := by
  unfold Instr.checkKey
  simp only [Sem.run_bind, run_underlying Tryz.underlying3, Result.andThen]
  rfl
theorem find_key (W : World) (k : Int) (l : List MapEntry) (a : Option (Nat × Value)) (h : Instr.findNow (.int .i64) (.int .i64 k) l 0 = some a) : (Instr.findKey 3 (.int .i64 k) l).run Tryz.prog W = .ok a W := by
  simp [Instr.findKey, run_underlying Tryz.underlying3, Result.andThen, h]

theorem upd_none {W : World} {r : Nat} {es : Array MapEntry} {clock : Nat} (k : Int) (v : Value) (hb : W.heap[r]? = some (.map es clock)) (h : Instr.findNow (.int .i64) (.int .i64 k) es.toList 0 = some none) :
    (Instr.mapUpdate 180 (.map (some r)) (.int .i64 k) v).run Tryz.prog W = .ok () { W with heap := W.heap.setIfInBounds r (.map (es.push ⟨.int .i64 k, v, clock⟩) (clock + 1)) } := by
  unfold Instr.mapUpdate
  simp only [Sem.run_bind, run_underlying Tryz.underlying180, Result.andThen, get_map hb, check_key, find_key W k es.toList none h, set_map _ hb]

theorem upd_some {W : World} {r : Nat} {es : Array MapEntry} {clock : Nat} (k : Int) (v : Value) (i : Nat) (x : Value) (hb : W.heap[r]? = some (.map es clock)) (h : Instr.findNow (.int .i64) (.int .i64 k) es.toList 0 = some (some (i, x))) (hk : ((es[i]?).map (·.key)).getD (.int .i64 k) = .int .i64 k) :
    (Instr.mapUpdate 180 (.map (some r)) (.int .i64 k) v).run Tryz.prog W = .ok () { W with heap := W.heap.setIfInBounds r (.map (es.modify i fun e => { e with key := .int .i64 k, val := v }) clock) } := by
  unfold Instr.mapUpdate
  simp only [Sem.run_bind, run_underlying Tryz.underlying180, Result.andThen, get_map hb, check_key, find_key W k es.toList _ h, hk, Instr.keyThatStays]
  rw [if_pos (by simp [Instr.sameBits])]
  simp only [Sem.run_pure, set_map _ hb]

/-- a world with another thing in one block -/
def pu (W : World) (r : Nat) (o : Obj) : World := { W with heap := W.heap.setIfInBounds r o }

theorem pu_same {W : World} {r : Nat} {o o' : Obj} (h : W.heap[r]? = some o) : (pu W r o').heap[r]? = some o' := by
  have := (Array.getElem?_eq_some_iff.1 h).1
  simp [pu, this]
theorem pu_other {W : World} {r k : Nat} {o : Obj} (h : k ≠ r) : (pu W r o).heap[k]? = W.heap[k]? := by
  simp only [pu]
  rw [Array.getElem?_setIfInBounds_ne (fun e => h e.symm)]
theorem pu_below {B : Nat} {W : World} {r : Nat} (o : Obj) (h : B ≤ r) : Below B W (pu W r o) :=
  ⟨rfl, rfl, rfl, by simp [pu], fun k hk => pu_other (by omega)⟩
theorem pu_alloc (w : World) (o o' : Obj) : pu (w.alloc o) w.heap.size o' = w.alloc o' := by
  show ({ (w.alloc o) with heap := (w.heap.push o).setIfInBounds w.heap.size o' } : World) = { w with heap := w.heap.push o' }
  rw [show (w.heap.push o).setIfInBounds w.heap.size o' = w.heap.push o' by
    apply Array.ext'
    simp [Array.setIfInBounds, Array.toList_set]]
  rfl

theorem ins1 (w : World) (v : Value) : (Instr.mapUpdate 180 (.map (some w.heap.size)) (.int .i64 1) v).run Tryz.prog (w.alloc (.map #[] 0)) = .ok () (w.alloc (.map #[⟨.int .i64 1, v, 0⟩] 1)) := by
  rw [upd_none 1 v (heap_alloc_new w (.map #[] 0)) rfl]
  exact congrArg (Result.ok ()) (pu_alloc w _ _)
theorem ins2 (w : World) (a v : Value) : (Instr.mapUpdate 180 (.map (some w.heap.size)) (.int .i64 2) v).run Tryz.prog (w.alloc (.map #[⟨.int .i64 1, a, 0⟩] 1)) = .ok () (w.alloc (.map #[⟨.int .i64 1, a, 0⟩, ⟨.int .i64 2, v, 1⟩] 2)) := by
  rw [upd_none 2 v (heap_alloc_new w (.map #[⟨.int .i64 1, a, 0⟩] 1)) rfl]
  exact congrArg (Result.ok ()) (pu_alloc w _ _)
theorem ins3 (w : World) (a b v : Value) : (Instr.mapUpdate 180 (.map (some w.heap.size)) (.int .i64 3) v).run Tryz.prog (w.alloc (.map #[⟨.int .i64 1, a, 0⟩, ⟨.int .i64 2, b, 1⟩] 2)) = .ok () (w.alloc (mp a b v)) := by
  rw [upd_none 3 v (heap_alloc_new w (.map #[⟨.int .i64 1, a, 0⟩, ⟨.int .i64 2, b, 1⟩] 2)) rfl]
  exact congrArg (Result.ok ()) (pu_alloc w _ _)

theorem put1 {W : World} {r : Nat} {x y z : Value} (v : Value) (hb : W.heap[r]? = some (mp x y z)) : (Instr.mapUpdate 180 (.map (some r)) (.int .i64 1) v).run Tryz.prog W = .ok () (pu W r (mp v y z)) := by
  rw [upd_some 1 v 0 x hb rfl rfl]; rfl
theorem put2 {W : World} {r : Nat} {x y z : Value} (v : Value) (hb : W.heap[r]? = some (mp x y z)) : (Instr.mapUpdate 180 (.map (some r)) (.int .i64 2) v).run Tryz.prog W = .ok () (pu W r (mp x v z)) := by
  rw [upd_some 2 v 1 y hb rfl rfl]; rfl
theorem put3 {W : World} {r : Nat} {x y z : Value} (v : Value) (hb : W.heap[r]? = some (mp x y z)) : (Instr.mapUpdate 180 (.map (some r)) (.int .i64 3) v).run Tryz.prog W = .ok () (pu W r (mp x y v)) := by
  rw [upd_some 3 v 2 z hb rfl rfl]; rfl

/-- a value as the model has it -/
def tv (k n : Int) (s : ByteArray) : Value := .agg #[.int .i64 k, .int .i64 n, .string s]

/-- what lies there while 'ofEachKind' works: the value, where the map is, the map -/
def Inv (W : World) (p b r : Nat) (K N : Int) (s : ByteArray) (x y z : Value) : Prop :=
  W.cell? ⟨p, 0, none⟩ = some (.int .i64 K) ∧ W.cell? ⟨p, 1, none⟩ = some (.int .i64 N) ∧ W.cell? ⟨p, 2, none⟩ = some (.string s) ∧ W.cell? ⟨b, 0, none⟩ = some (.map (some r)) ∧ W.heap[r]? = some (mp x y z)

theorem cell_ne {W : World} {r p i : Nat} {x y z v : Value} (hr : W.heap[r]? = some (mp x y z)) (hc : W.cell? ⟨p, i, none⟩ = some v) : p ≠ r := by
  intro e
  subst e
  simp [World.cell?, hr, mp] at hc

theorem cell_lt {W : World} {p i : Nat} {v : Value} (hc : W.cell? ⟨p, i, none⟩ = some v) : p < W.heap.size := by
  rcases Nat.lt_or_ge p W.heap.size with h | h
  · exact h
  · simp [World.cell?, Array.getElem?_eq_none h] at hc

theorem Inv.put {W : World} {p b r : Nat} {K N : Int} {s : ByteArray} {x y z : Value} (h : Inv W p b r K N s x y z) (x' y' z' : Value) : Inv (pu W r (mp x' y' z')) p b r K N s x' y' z' := by
  obtain ⟨h0, h1, h2, h3, h4⟩ := h
  have hp := cell_ne h4 h0
  have hb := cell_ne h4 h3
  have cp : ∀ i, (pu W r (mp x' y' z')).cell? ⟨p, i, none⟩ = W.cell? ⟨p, i, none⟩ := fun i => World.cell?_of_block (w := W) (pu_other hp)
  have cb : ∀ i, (pu W r (mp x' y' z')).cell? ⟨b, i, none⟩ = W.cell? ⟨b, i, none⟩ := fun i => World.cell?_of_block (w := W) (pu_other hb)
  exact ⟨(cp 0).trans h0, (cp 1).trans h1, (cp 2).trans h2, (cb 0).trans h3, pu_same h4⟩

theorem Inv.below {W W' : World} {p b r : Nat} {K N : Int} {s : ByteArray} {x y z : Value} (h : Inv W p b r K N s x y z) (hb : Below W.heap.size W W') : Inv W' p b r K N s x y z := by
  obtain ⟨h0, h1, h2, h3, h4⟩ := h
  exact ⟨(hb.cell (p := ⟨p, 0, none⟩) (cell_lt h0)).trans h0, (hb.cell (p := ⟨p, 1, none⟩) (cell_lt h0)).trans h1, (hb.cell (p := ⟨p, 2, none⟩) (cell_lt h0)).trans h2, (hb.cell (p := ⟨b, 0, none⟩) (cell_lt h3)).trans h3, (hb.block r (Array.getElem?_eq_some_iff.1 h4).1).trans h4⟩

set_option maxRecDepth 100000 in
set_option maxHeartbeats 400000 in
theorem putInt_any (n : Int) (W : World) (B p b r : Nat) (K N : Int) (s : ByteArray) (x y z : Value) (h : Inv W p b r K N s x y z) (hB : B ≤ r) :
    Calls Tryz.prog 169 #[.int .i64 n, .pointer (some ⟨b, 0, none⟩)] W fun e w' => e = .returned (.tuple #[]) ∧ Inv w' p b r K N s (tv 1 n ⟨#[]⟩) y z ∧ Below B W w' := by
  have hI := hide (h.put (tv 1 n ⟨#[]⟩) y z)
  have hc := h.2.2.2.1
  have hu := put1 (.agg #[.int .i64 1, .int .i64 n, .string ⟨#[]⟩]) h.2.2.2.2
  have hpu : Below B W (pu W r (mp (tv 1 n ⟨#[]⟩) y z)) := pu_below _ hB
  clear h
  go_enter Tryz.func169, Tryz.ntmps169
  go_wp2
  go_end0
  exact ⟨rfl, hI.out, hpu⟩

set_option maxRecDepth 100000 in
set_option maxHeartbeats 400000 in
theorem putText_any (t : ByteArray) (W : World) (B p b r : Nat) (K N : Int) (s : ByteArray) (x y z : Value) (h : Inv W p b r K N s x y z) (hB : B ≤ r) :
    Calls Tryz.prog 170 #[.string t, .pointer (some ⟨b, 0, none⟩)] W fun e w' => e = .returned (.tuple #[]) ∧ Inv w' p b r K N s x (tv 2 0 t) z ∧ Below B W w' := by
  have hI := hide (h.put x (tv 2 0 t) z)
  have hc := h.2.2.2.1
  have hu := put2 (.agg #[.int .i64 2, .int .i64 0, .string t]) h.2.2.2.2
  have hpu : Below B W (pu W r (mp x (tv 2 0 t) z)) := pu_below _ hB
  clear h
  go_enter Tryz.func170, Tryz.ntmps170
  go_wp2
  go_end0
  exact ⟨rfl, hI.out, hpu⟩

def oneV (x : Bool) : Int := if x = true then 1 else 0

set_option maxHeartbeats 400000 in
theorem one_any (x : Bool) (w : World) : Calls Tryz.prog 172 #[.bool x] w fun e w' => e = .returned (.int .i64 (oneV x)) ∧ w' = w := by
  cases x
  all_goals
    go_enter Tryz.func172, Tryz.ntmps172
    go_wp2
    go_ret
    exact ⟨rfl, rfl⟩

set_option maxRecDepth 100000 in
set_option maxHeartbeats 400000 in
theorem putBool_any (t : Bool) (W : World) (B p b r : Nat) (K N : Int) (s : ByteArray) (x y z : Value) (h : Inv W p b r K N s x y z) (hB : B ≤ r) :
    Calls Tryz.prog 171 #[.bool t, .pointer (some ⟨b, 0, none⟩)] W fun e w' => e = .returned (.tuple #[]) ∧ Inv w' p b r K N s x y (tv 3 (oneV t) ⟨#[]⟩) ∧ Below B W w' := by
  have hI := hide (h.put x y (tv 3 (oneV t) ⟨#[]⟩))
  have hc := h.2.2.2.1
  have hu := put3 (W := W.drew) (.agg #[.int .i64 3, .int .i64 (oneV t), .string ⟨#[]⟩]) h.2.2.2.2
  have hpu : Below B W (pu W r (mp x y (tv 3 (oneV t) ⟨#[]⟩))) := pu_below _ hB
  clear h
  go_enter Tryz.func171, Tryz.ntmps171
  go_wp2
  go_region_with (go_at_call 172; refine (one_any _ _).mono ?_; rintro e w' ⟨rfl, rfl⟩)
  all_goals
    go_wp2
    go_end0
    exact ⟨rfl, hI.out, hpu.os, hpu.tape, hpu.output, hpu.size, hpu.block⟩

end Go.Proofs.YtcnnjladaoaeiaaGreatDoor
