/-
  'Cast' of package value.
-/
import Derived.Test.YtcnnjladaoaeiaaGreatDoorEach
namespace Go.Proofs.YtcnnjladaoaeiaaGreatDoor
open Go.RowKit

/-- what a right value is as a kind of columns: kind, number, text -/
def castV (K N : Int) (S : List UInt8) (tt : Int) : Int × Int × List UInt8 :=
  if tt = 1 then (if K = 1 then (1, N, []) else if K = 2 then (match intV S with | some n => (1, n, []) | none => (0, 0, [])) else if K = 3 then (1, N, []) else (0, 0, []))
  else if tt = 2 then (if K = 1 then (2, 0, Lib.itoa N) else if K = 2 then (2, 0, S) else if K = 3 then (2, 0, Lib.formatBool (N == 1)) else (0, 0, []))
  else (if K = 1 then (3, oneV (N != 0), []) else if K = 2 then (if S = tru then (3, 1, []) else if S = fal then (3, 0, []) else (0, 0, [])) else if K = 3 then (3, oneV (N == 1), []) else (0, 0, []))

def tvl (x : Int × Int × List UInt8) : Value := .agg #[.int .i64 x.1, .int .i64 x.2.1, .string ⟨x.2.2.toArray⟩]

theorem tv_bytes (k n : Int) (s : ByteArray) : tv k n s = tvl (k, n, s.data.toList) := rfl

theorem each_any (K N : Int) (s : ByteArray) (w : World) (hs : s.size ≤ 140737488355328) (hl : Laid w) (h : chkV K N s.data.toList = 0) :
    Calls Tryz.prog 154 #[.agg #[.int .i64 K, .int .i64 N, .string s]] w fun e w' => ∃ r, e = .returned (.map (some r)) ∧
      w'.heap[r]? = some (mp (tvl (castV K N s.data.toList 1)) (tvl (castV K N s.data.toList 2)) (tvl (castV K N s.data.toList 3))) ∧ Below w.heap.size w w' := by
  rcases chk_zero h with ⟨rfl, _⟩ | ⟨rfl, ⟨h1, h2⟩, _⟩ | ⟨rfl, _⟩ | ⟨rfl, h1, _⟩
  · exact each_0 N s w
  · exact each_1 N s w hl h1 h2
  · have hi := fun W (hW : Below w.heap.size w W) => intOf_any s W hs (hl.below hW)
    have e2 : tvl (castV 2 N s.data.toList 2) = tv 2 0 s := rfl
    rw [e2]
    have ht : (s.toList == [116, 114, 117, 101]) = decide (s.data.toList = tru) := by rw [Lib.toList_data, Bool.eq_iff_iff, beq_iff_eq, decide_eq_true_iff]; rfl
    have hf : (s.toList == [102, 97, 108, 115, 101]) = decide (s.data.toList = fal) := by rw [Lib.toList_data, Bool.eq_iff_iff, beq_iff_eq, decide_eq_true_iff]; rfl
    cases hv : intV s.data.toList with
    | some n =>
      rw [show castV 2 N s.data.toList 1 = (1, n, []) by simp [castV, hv]]
      rw [hv] at hi
      by_cases t : s.data.toList = tru
      · rw [show castV 2 N s.data.toList 3 = (3, 1, []) by simp [castV, t]]
        exact each_2yt N s w n hi (by rw [ht]; simp [t])
      · by_cases f : s.data.toList = fal
        · rw [show castV 2 N s.data.toList 3 = (3, 0, []) by simp only [castV, f]; simp [tru, fal]]
          exact each_2yf N s w n hi (by rw [ht]; simp [t]) (by rw [hf]; simp [f])
        · rw [show castV 2 N s.data.toList 3 = (0, 0, []) by simp [castV, t, f]]
          exact each_2yo N s w n hi (by rw [ht]; simp [t]) (by rw [hf]; simp [f])
    | none =>
      rw [show castV 2 N s.data.toList 1 = (0, 0, []) by simp [castV, hv]]
      rw [hv] at hi
      by_cases t : s.data.toList = tru
      · rw [show castV 2 N s.data.toList 3 = (3, 1, []) by simp [castV, t]]
        exact each_2nt N s w hi (by rw [ht]; simp [t])
      · by_cases f : s.data.toList = fal
        · rw [show castV 2 N s.data.toList 3 = (3, 0, []) by simp only [castV, f]; simp [tru, fal]]
          exact each_2nf N s w hi (by rw [ht]; simp [t]) (by rw [hf]; simp [f])
        · rw [show castV 2 N s.data.toList 3 = (0, 0, []) by simp [castV, t, f]]
          exact each_2no N s w hi (by rw [ht]; simp [t]) (by rw [hf]; simp [f])
  · exact each_3 N s w

theorem look_some {W : World} {r : Nat} {es : Array MapEntry} {clock : Nat} (k : Int) (i : Nat) (x : Value) (hb : W.heap[r]? = some (.map es clock)) (h : Instr.findNow (.int .i64) (.int .i64 k) es.toList 0 = some (some (i, x))) :
    (Instr.lookup 180 (.map (some r)) (.int .i64 k) true).run Tryz.prog W = .ok (.tuple #[x, .bool true]) W := by
  unfold Instr.lookup
  simp only [Sem.run_bind, run_underlying Tryz.underlying180, Result.andThen, get_map hb, Sem.run_pure, check_key, find_key W k es.toList _ h, if_true]

theorem look_none {W : World} {r : Nat} {es : Array MapEntry} {clock : Nat} (k : Int) (hb : W.heap[r]? = some (.map es clock)) (h : Instr.findNow (.int .i64) (.int .i64 k) es.toList 0 = some none) :
    (Instr.lookup 180 (.map (some r)) (.int .i64 k) true).run Tryz.prog W = .ok (.tuple #[.agg #[.int .i64 0, .int .i64 0, .string ⟨#[]⟩], .bool false]) W := by
  unfold Instr.lookup
  simp only [Sem.run_bind, run_underlying Tryz.underlying180, Result.andThen, get_map hb, Sem.run_pure, check_key, find_key W k es.toList _ h, if_true, Tryz.zeroValue49]

theorem look_mp {W : World} {r : Nat} {x y z : Value} (hb : W.heap[r]? = some (mp x y z)) (tt : Int) :
    (Instr.lookup 180 (.map (some r)) (.int .i64 tt) true).run Tryz.prog W = .ok (if tt = 1 then .tuple #[x, .bool true] else if tt = 2 then .tuple #[y, .bool true] else if tt = 3 then .tuple #[z, .bool true] else .tuple #[.agg #[.int .i64 0, .int .i64 0, .string ⟨#[]⟩], .bool false]) W := by
  by_cases h1 : tt = 1
  · subst h1; rw [if_pos rfl]; exact look_some 1 0 x hb rfl
  by_cases h2 : tt = 2
  · subst h2; rw [if_neg (by decide), if_pos rfl]; exact look_some 2 1 y hb rfl
  by_cases h3 : tt = 3
  · subst h3; rw [if_neg (by decide), if_neg (by decide), if_pos rfl]; exact look_some 3 2 z hb rfl
  rw [if_neg h1, if_neg h2, if_neg h3]
  have e1 : (tt == 1) = false := by simpa using h1
  have e2 : (tt == 2) = false := by simpa using h2
  have e3 : (tt == 3) = false := by simpa using h3
  exact look_none tt hb (by simp [Instr.findNow, Instr.sameNow, e1, e2, e3])

theorem three {W : World} {b : Nat} {x y z : Value} {t : TypeId} (h : W.heap[b]? = some (.cells #[x, y, z] t)) :
    (W.cell? ⟨b, 0, none⟩ = some x ∧ W.cell? ⟨b, 1, none⟩ = some y ∧ W.cell? ⟨b, 2, none⟩ = some z) ∧ (W.frozen? ⟨b, 0, none⟩ = false ∧ W.frozen? ⟨b, 1, none⟩ = false ∧ W.frozen? ⟨b, 2, none⟩ = false) := by
  refine ⟨⟨?_, ?_, ?_⟩, Lib.frozen_of_heap h 0, Lib.frozen_of_heap h 1, Lib.frozen_of_heap h 2⟩
  · rw [Lib.cell_of_heap h]; rfl
  · rw [Lib.cell_of_heap h]; rfl
  · rw [Lib.cell_of_heap h]; rfl

theorem three_put {W : World} {b : Nat} {x y z : Value} {t : TypeId} (h : W.heap[b]? = some (.cells #[x, y, z] t)) (x' y' z' : Value) :
    (((W.setCell ⟨b, 0, none⟩ x').setCell ⟨b, 1, none⟩ y').setCell ⟨b, 2, none⟩ z').heap[b]? = some (.cells #[x', y', z'] t) :=
  heap_setCell_same _ b 2 _ t z' (heap_setCell_same _ b 1 _ t y' (heap_setCell_same W b 0 _ t x' h))

set_option maxRecDepth 100000 in
set_option maxHeartbeats 800000 in
theorem cast_bad (K N tt : Int) (s : ByteArray) (w : World) (E : Nat) (hE : ((E : Int) != 0) = true)
    (hc : ∀ W : World, Calls Tryz.prog 124 #[.agg #[.int .i64 K, .int .i64 N, .string s]] W fun e w' => e = .returned (.int .i64 (E : Nat)) ∧ Below W.heap.size W w') :
    Calls Tryz.prog 126 #[.agg #[.int .i64 K, .int .i64 N, .string s], .int .i64 tt] w fun e w' => e = .returned (.tuple #[tvl (0, 0, []), .int .i64 (E : Nat)]) ∧ Below w.heap.size w w' := by
  go_enter Tryz.func126, Tryz.ntmps126
  go_wp2_with fail
  refine (hc _).mono ?_
  rintro e w1 ⟨rfl, hb1⟩
  have hz : (w.alloc (.cells #[.int .i64 K, .int .i64 N, .string s] 49)).heap.size = w.heap.size + 1 := by simp
  have c : w1.heap[w.heap.size + 1]? = some (.cells #[.int .i64 0, .int .i64 0, .string ⟨#[]⟩] 49) := (hb1.block _ (by simp)).trans (by rw [← hz]; exact heap_alloc_new _ _)
  obtain ⟨⟨c0, c1, c2⟩, f0, f1, f2⟩ := three c
  obtain ⟨⟨d0, d1, d2⟩, -⟩ := three (three_put c (.int .i64 0) (.int .i64 0) (.string ⟨#[]⟩))
  have q1 : Below w.heap.size w w1 := (((Below.refl _ _).alloc (Nat.le_refl _) _).alloc (by simp) _).trans (hb1.mono (by simp; omega))
  clear hc hb1 c hz
  go_wp2_with fail
  have q2 : Below w.heap.size w (((w1.setCell ⟨w.heap.size + 1, 0, none⟩ (.int .i64 0)).setCell ⟨w.heap.size + 1, 1, none⟩ (.int .i64 0)).setCell ⟨w.heap.size + 1, 2, none⟩ (.string ⟨#[]⟩)) := ((q1.setCell (by simp) _).setCell (by simp) _).setCell (by simp) _
  generalize ((w1.setCell ⟨w.heap.size + 1, 0, none⟩ (.int .i64 0)).setCell ⟨w.heap.size + 1, 1, none⟩ (.int .i64 0)).setCell ⟨w.heap.size + 1, 2, none⟩ (.string ⟨#[]⟩) = w2 at *
  refine bodyPost_ret (v := .tuple #[tvl (0, 0, []), .int .i64 (E : Nat)]) ?_ rfl ⟨rfl, q2⟩
  simp [results, Tryz.results126, go_sem, tvl, d0, d1, d2]

set_option maxRecDepth 100000 in
set_option maxHeartbeats 800000 in
theorem cast_no (K N tt : Int) (s : ByteArray) (w : World) (X Y Z : Value)
    (hc : ∀ W : World, Calls Tryz.prog 124 #[.agg #[.int .i64 K, .int .i64 N, .string s]] W fun e w' => e = .returned (.int .i64 0) ∧ Below W.heap.size W w')
    (he : ∀ W : World, Below w.heap.size w W → Calls Tryz.prog 154 #[.agg #[.int .i64 K, .int .i64 N, .string s]] W fun e w' => ∃ r, e = .returned (.map (some r)) ∧ w'.heap[r]? = some (mp X Y Z) ∧ Below W.heap.size W w')
    (h1 : tt ≠ 1) (h2 : tt ≠ 2) (h3 : tt ≠ 3) :
    Calls Tryz.prog 126 #[.agg #[.int .i64 K, .int .i64 N, .string s], .int .i64 tt] w fun e w' => e = .returned (.tuple #[tvl (0, 0, []), .int .i64 7]) ∧ Below w.heap.size w w' := by
  go_enter Tryz.func126, Tryz.ntmps126
  go_wp2_with fail
  refine (hc _).mono ?_
  rintro e w1 ⟨rfl, hb1⟩
  have hz : (w.alloc (.cells #[.int .i64 K, .int .i64 N, .string s] 49)).heap.size = w.heap.size + 1 := by simp
  have c : w1.heap[w.heap.size + 1]? = some (.cells #[.int .i64 0, .int .i64 0, .string ⟨#[]⟩] 49) := (hb1.block _ (by simp)).trans (by rw [← hz]; exact heap_alloc_new _ _)
  have a0 : w1.cell? ⟨w.heap.size, 0, none⟩ = some (.int .i64 K) := (hb1.cell (by simp; omega)).trans (by simp)
  have a1 : w1.cell? ⟨w.heap.size, 1, none⟩ = some (.int .i64 N) := (hb1.cell (by simp; omega)).trans (by simp)
  have a2 : w1.cell? ⟨w.heap.size, 2, none⟩ = some (.string s) := (hb1.cell (by simp; omega)).trans (by simp)
  have q1 : Below w.heap.size w w1 := (((Below.refl _ _).alloc (Nat.le_refl _) _).alloc (by simp) _).trans (hb1.mono (by simp; omega))
  have z1 : w.heap.size + 2 ≤ w1.heap.size := by have := hb1.size; simp at this; omega
  clear hc hb1 hz
  go_wp2_with fail
  refine (he _ q1).mono ?_
  rintro e w2 ⟨r, rfl, hr, b2⟩
  have L := look_mp hr tt
  rw [if_neg h1, if_neg h2, if_neg h3] at L
  have q2 : Below w.heap.size w w2 := q1.trans (b2.mono q1.size)
  have z2 : w.heap.size + 2 ≤ w2.heap.size := Nat.le_trans z1 b2.size
  have c' : w2.heap[w.heap.size + 1]? = some (.cells #[.int .i64 0, .int .i64 0, .string ⟨#[]⟩] 49) := (b2.block _ (by omega)).trans c
  obtain ⟨⟨c0, c1, c2⟩, f0, f1, f2⟩ := three c'
  obtain ⟨⟨d0, d1, d2⟩, -⟩ := three (three_put c' (.int .i64 0) (.int .i64 0) (.string ⟨#[]⟩))
  have z3 : w.heap.size + 1 < w2.heap.size := by omega
  have q3 : Below w.heap.size w (((w2.setCell ⟨w.heap.size + 1, 0, none⟩ (.int .i64 0)).setCell ⟨w.heap.size + 1, 1, none⟩ (.int .i64 0)).setCell ⟨w.heap.size + 1, 2, none⟩ (.string ⟨#[]⟩)) := ((q2.setCell (by simp) _).setCell (by simp) _).setCell (by simp) _
  clear a0 a1 a2 c c' q1 b2 z1
  go_wp2_with fail
  have z4 : w.heap.size + 1 < (((w2.setCell ⟨w.heap.size + 1, 0, none⟩ (.int .i64 0)).setCell ⟨w.heap.size + 1, 1, none⟩ (.int .i64 0)).setCell ⟨w.heap.size + 1, 2, none⟩ (.string ⟨#[]⟩)).heap.size := by simpa using z3
  generalize ((w2.setCell ⟨w.heap.size + 1, 0, none⟩ (.int .i64 0)).setCell ⟨w.heap.size + 1, 1, none⟩ (.int .i64 0)).setCell ⟨w.heap.size + 1, 2, none⟩ (.string ⟨#[]⟩) = w3 at *
  refine bodyPost_ret (v := .tuple #[tvl (0, 0, []), .int .i64 7]) ?_ rfl ⟨rfl, q3.alloc (by omega) _⟩
  simp [results, Tryz.results126, go_sem, tvl, d0, d1, d2, z4]

set_option maxRecDepth 100000 in
set_option maxHeartbeats 800000 in
theorem cast_yes (K N tt : Int) (s : ByteArray) (w : World) (X Y Z : Value) (k n : Int) (u : ByteArray)
    (hc : ∀ W : World, Calls Tryz.prog 124 #[.agg #[.int .i64 K, .int .i64 N, .string s]] W fun e w' => e = .returned (.int .i64 0) ∧ Below W.heap.size W w')
    (he : ∀ W : World, Below w.heap.size w W → Calls Tryz.prog 154 #[.agg #[.int .i64 K, .int .i64 N, .string s]] W fun e w' => ∃ r, e = .returned (.map (some r)) ∧ w'.heap[r]? = some (mp X Y Z) ∧ Below W.heap.size W w')
    (hL : ∀ (W : World) (r : Nat), W.heap[r]? = some (mp X Y Z) → (Instr.lookup 180 (.map (some r)) (.int .i64 tt) true).run Tryz.prog W = .ok (.tuple #[.agg #[.int .i64 k, .int .i64 n, .string u], .bool true]) W) :
    Calls Tryz.prog 126 #[.agg #[.int .i64 K, .int .i64 N, .string s], .int .i64 tt] w fun e w' => e = .returned (.tuple #[tv k n u, .int .i64 0]) ∧ Below w.heap.size w w' := by
  go_enter Tryz.func126, Tryz.ntmps126
  go_wp2_with fail
  refine (hc _).mono ?_
  rintro e w1 ⟨rfl, hb1⟩
  have hz : (w.alloc (.cells #[.int .i64 K, .int .i64 N, .string s] 49)).heap.size = w.heap.size + 1 := by simp
  have c : w1.heap[w.heap.size + 1]? = some (.cells #[.int .i64 0, .int .i64 0, .string ⟨#[]⟩] 49) := (hb1.block _ (by simp)).trans (by rw [← hz]; exact heap_alloc_new _ _)
  have a0 : w1.cell? ⟨w.heap.size, 0, none⟩ = some (.int .i64 K) := (hb1.cell (by simp; omega)).trans (by simp)
  have a1 : w1.cell? ⟨w.heap.size, 1, none⟩ = some (.int .i64 N) := (hb1.cell (by simp; omega)).trans (by simp)
  have a2 : w1.cell? ⟨w.heap.size, 2, none⟩ = some (.string s) := (hb1.cell (by simp; omega)).trans (by simp)
  have q1 : Below w.heap.size w w1 := (((Below.refl _ _).alloc (Nat.le_refl _) _).alloc (by simp) _).trans (hb1.mono (by simp; omega))
  have z1 : w.heap.size + 2 ≤ w1.heap.size := by have := hb1.size; simp at this; omega
  clear hc hb1 hz
  go_wp2_with fail
  refine (he _ q1).mono ?_
  rintro e w2 ⟨r, rfl, hr, b2⟩
  have L := hL w2 r hr
  clear hL
  have q2 : Below w.heap.size w w2 := q1.trans (b2.mono q1.size)
  have z2 : w.heap.size + 2 ≤ w2.heap.size := Nat.le_trans z1 b2.size
  have c' : w2.heap[w.heap.size + 1]? = some (.cells #[.int .i64 0, .int .i64 0, .string ⟨#[]⟩] 49) := (b2.block _ (by omega)).trans c
  obtain ⟨⟨c0, c1, c2⟩, f0, f1, f2⟩ := three c'
  obtain ⟨⟨d0, d1, d2⟩, -⟩ := three (three_put c' (.int .i64 k) (.int .i64 n) (.string u))
  have z3 : w.heap.size + 1 < w2.heap.size := by omega
  have q3 : Below w.heap.size w (((w2.setCell ⟨w.heap.size + 1, 0, none⟩ (.int .i64 k)).setCell ⟨w.heap.size + 1, 1, none⟩ (.int .i64 n)).setCell ⟨w.heap.size + 1, 2, none⟩ (.string u)) := ((q2.setCell (by simp) _).setCell (by simp) _).setCell (by simp) _
  clear a0 a1 a2 c c' q1 b2 z1
  go_wp2_with fail
  have z4 : w.heap.size + 1 < (((w2.setCell ⟨w.heap.size + 1, 0, none⟩ (.int .i64 k)).setCell ⟨w.heap.size + 1, 1, none⟩ (.int .i64 n)).setCell ⟨w.heap.size + 1, 2, none⟩ (.string u)).heap.size := by simpa using z3
  generalize ((w2.setCell ⟨w.heap.size + 1, 0, none⟩ (.int .i64 k)).setCell ⟨w.heap.size + 1, 1, none⟩ (.int .i64 n)).setCell ⟨w.heap.size + 1, 2, none⟩ (.string u) = w3 at *
  refine bodyPost_ret (v := .tuple #[tv k n u, .int .i64 0]) ?_ rfl ⟨rfl, q3.alloc (by omega) _⟩
  simp [results, Tryz.results126, go_sem, tv, d0, d1, d2, z4]


/-- what Cast answers -/
def castE (K N : Int) (S : List UInt8) (tt : Int) : Nat := if chkV K N S ≠ 0 then chkV K N S else if tt = 1 ∨ tt = 2 ∨ tt = 3 then 0 else 7
def castR (K N : Int) (S : List UInt8) (tt : Int) : Int × Int × List UInt8 := if castE K N S tt = 0 then castV K N S tt else (0, 0, [])

theorem cast_any (K N tt : Int) (s : ByteArray) (w : World) (hs : s.size ≤ 140737488355328) (hl : Laid w) :
    Calls Tryz.prog 126 #[.agg #[.int .i64 K, .int .i64 N, .string s], .int .i64 tt] w fun e w' =>
      e = .returned (.tuple #[tvl (castR K N s.data.toList tt), .int .i64 (castE K N s.data.toList tt : Nat)]) ∧ Below w.heap.size w w' := by
  have hc := fun W => check_any K N s W hs
  by_cases h : chkV K N s.data.toList = 0
  · have he := fun W (hW : Below w.heap.size w W) => each_any K N s W hs (hl.below hW) h
    rw [h] at hc
    have look : ∀ X Y Z : Value, ∀ (W : World) (r : Nat), W.heap[r]? = some (mp X Y Z) → _ := fun X Y Z W r hr => look_mp hr tt
    by_cases h1 : tt = 1
    · have e1 : castE K N s.data.toList tt = 0 := by simp [castE, h, h1]
      have e2 : castR K N s.data.toList tt = castV K N s.data.toList 1 := by rw [castR, if_pos e1, h1]
      rw [e1, e2]
      refine cast_yes K N tt s w _ _ _ _ _ _ hc he fun W r hr => (look _ _ _ W r hr).trans ?_
      rw [if_pos h1]; rfl
    by_cases h2 : tt = 2
    · have e1 : castE K N s.data.toList tt = 0 := by simp [castE, h, h2]
      have e2 : castR K N s.data.toList tt = castV K N s.data.toList 2 := by rw [castR, if_pos e1, h2]
      rw [e1, e2]
      refine cast_yes K N tt s w _ _ _ _ _ _ hc he fun W r hr => (look _ _ _ W r hr).trans ?_
      rw [if_neg h1, if_pos h2]; rfl
    by_cases h3 : tt = 3
    · have e1 : castE K N s.data.toList tt = 0 := by simp [castE, h, h3]
      have e2 : castR K N s.data.toList tt = castV K N s.data.toList 3 := by rw [castR, if_pos e1, h3]
      rw [e1, e2]
      refine cast_yes K N tt s w _ _ _ _ _ _ hc he fun W r hr => (look _ _ _ W r hr).trans ?_
      rw [if_neg h1, if_neg h2, if_pos h3]; rfl
    have e1 : castE K N s.data.toList tt = 7 := by simp [castE, h, h1, h2, h3]
    have e2 : castR K N s.data.toList tt = (0, 0, []) := by rw [castR, if_neg (by omega)]
    rw [e1, e2]
    exact cast_no K N tt s w _ _ _ hc he h1 h2 h3
  · have e1 : castE K N s.data.toList tt = chkV K N s.data.toList := by simp [castE, h]
    have e2 : castR K N s.data.toList tt = (0, 0, []) := by rw [castR, if_neg (by omega)]
    rw [e1, e2]
    exact cast_bad K N tt s w _ (by simp; omega) hc

end Go.Proofs.YtcnnjladaoaeiaaGreatDoor
