/-
  Out of my texts Key Order Map Cast KeysP Keys Refs CheckV OrdV: what is wanted here.
-/
import Derived.Test.YtbelnjefnhelhabGreatIsl
import Derived.Deep.RegionHeld3
import Derived.BigQuiet
namespace Go.Proofs.YtbelnjefnhelhabGreat
open Go.RowKit

theorem chk_zero {K N : Int} {S : List UInt8} (h : chkV K N S = 0) :
    (K = 0 ∧ N = 0 ∧ S = []) ∨ (K = 1 ∧ (-999999999 ≤ N ∧ N ≤ 999999999) ∧ S = []) ∨ (K = 2 ∧ N = 0 ∧ S.length ≤ 20 ∧ S.all isQ = true) ∨ (K = 3 ∧ (N = 0 ∨ N = 1) ∧ S = []) := by
  unfold chkV at h
  by_cases h0 : K = 0
  · rw [if_pos h0] at h
    by_cases h1 : N = 0 ∧ S = []
    · exact Or.inl ⟨h0, h1⟩
    · rw [if_neg h1] at h; cases h
  rw [if_neg h0] at h
  by_cases h0 : K = 1
  · rw [if_pos h0] at h
    by_cases h1 : isInt N = true ∧ S = []
    · refine Or.inr (Or.inl ⟨h0, ?_, h1.2⟩)
      have := h1.1
      simp only [isInt, Bool.and_eq_true, decide_eq_true_eq] at this
      exact this
    · rw [if_neg h1] at h; cases h
  rw [if_neg h0] at h
  by_cases h0 : K = 2
  · rw [if_pos h0] at h
    by_cases h1 : N = 0 ∧ quotB S = true
    · refine Or.inr (Or.inr (Or.inl ⟨h0, h1.1, ?_⟩))
      have := h1.2
      simp only [quotB, Bool.and_eq_true, decide_eq_true_eq] at this
      exact this
    · rw [if_neg h1] at h; cases h
  rw [if_neg h0] at h
  by_cases h0 : K = 3
  · rw [if_pos h0] at h
    by_cases h1 : (N = 0 ∨ N = 1) ∧ S = []
    · exact Or.inr (Or.inr (Or.inr ⟨h0, h1⟩))
    · rw [if_neg h1] at h; cases h
  rw [if_neg h0] at h; cases h

/-- the first of three that is not 0 -/
def orV (x y z : Int) : Int := if x ≠ 0 then x else if y ≠ 0 then y else z

set_option maxRecDepth 100000 in
set_option maxHeartbeats 400000 in
theorem or_any (b c : Nat) (x y z : Int) (w : World) (h0 : w.cell? ⟨b, 0, none⟩ = some (.int .i64 x)) (h1 : w.cell? ⟨b, 1, none⟩ = some (.int .i64 y)) (h2 : w.cell? ⟨b, 2, none⟩ = some (.int .i64 z)) :
    Calls Tryz.prog 35 #[.slice (some ⟨b, 0, none⟩) 3 c] w fun e w' => e = .returned (.int .i64 (orV x y z)) ∧ w' = w := by
  cases e0 : (x != 0)
  · cases e1 : (y != 0)
    · cases e2 : (z != 0)
      · have hx : orV x y z = 0 := by
          simp only [bne_eq_false_iff_eq] at e0 e1 e2
          simp [orV, e0, e1, e2]
        rw [hx]
        clear hx
        go_enter Tryz.func35, Tryz.ntmps35
        go_wp2
        refine wp_loop_rounds 4 ?_
        rw [rounds_succ]
        go_wp2
        rw [rounds_succ]
        go_wp2
        rw [rounds_succ]
        go_wp2
        rw [rounds_succ]
        go_wp2
        go_ret
        exact ⟨rfl, rfl⟩
      · have hx : orV x y z = z := by
          simp only [bne_eq_false_iff_eq] at e0 e1
          simp [orV, e0, e1]
        rw [hx]
        clear hx
        go_enter Tryz.func35, Tryz.ntmps35
        go_wp2
        refine wp_loop_rounds 3 ?_
        rw [rounds_succ]
        go_wp2
        rw [rounds_succ]
        go_wp2
        rw [rounds_succ]
        go_wp2
        go_ret
        exact ⟨rfl, rfl⟩
    · have hx : orV x y z = y := by
        simp only [bne_eq_false_iff_eq, bne_iff_ne] at e0 e1
        simp [orV, e0, e1]
      rw [hx]
      clear hx
      go_enter Tryz.func35, Tryz.ntmps35
      go_wp2
      refine wp_loop_rounds 2 ?_
      rw [rounds_succ]
      go_wp2
      rw [rounds_succ]
      go_wp2
      go_ret
      exact ⟨rfl, rfl⟩
  · have hx : orV x y z = x := by
      simp only [bne_iff_ne] at e0
      simp [orV, e0]
    rw [hx]
    clear hx
    go_enter Tryz.func35, Tryz.ntmps35
    go_wp2
    refine wp_loop_rounds 1 ?_
    rw [rounds_succ]
    go_wp2
    go_ret
    exact ⟨rfl, rfl⟩

/-- how two values stand to each other -/
def ordV (K N : Int) (S : List UInt8) (K' N' : Int) (S' : List UInt8) : Int := orV (Lib.compareInt K K') (Lib.compareInt N N') (Lib.compareBytes S S')

set_option maxRecDepth 100000 in
set_option maxHeartbeats 800000 in
theorem order_bad1 (K N : Int) (s : ByteArray) (w : World) (E : Nat) (K' N' : Int) (s' : ByteArray) (hE : ((E : Int) != 0) = true)
    (hc : ∀ W : World, Calls Tryz.prog 47 #[.agg #[.int .i64 K, .int .i64 N, .string s]] W fun e w' => e = .returned (.int .i64 (E : Nat)) ∧ Below W.heap.size W w') :
    Calls Tryz.prog 57 #[.agg #[.int .i64 K, .int .i64 N, .string s], .agg #[.int .i64 K', .int .i64 N', .string s']] w fun e w' => e = .returned (.tuple #[.int .i64 0, .int .i64 (E : Nat)]) ∧ Below w.heap.size w w' := by
  go_enter Tryz.func57, Tryz.ntmps57
  go_wp2_with (go_at_call 47; refine (hc _).mono ?_; rintro e w1 ⟨rfl, hb1⟩)
  go_ret2
  exact ⟨rfl, (((Below.refl _ _).alloc (Nat.le_refl _) _).alloc (by simp) _).trans (hb1.mono (by simp; omega))⟩

set_option maxRecDepth 100000 in
set_option maxHeartbeats 800000 in
theorem order_ok (K N K' N' : Int) (s s' : ByteArray) (w : World)
    (hc : ∀ W : World, Calls Tryz.prog 47 #[.agg #[.int .i64 K, .int .i64 N, .string s]] W fun e w' => e = .returned (.int .i64 0) ∧ Below W.heap.size W w')
    (hc' : ∀ W : World, Calls Tryz.prog 47 #[.agg #[.int .i64 K', .int .i64 N', .string s']] W fun e w' => e = .returned (.int .i64 0) ∧ Below W.heap.size W w') :
    Calls Tryz.prog 57 #[.agg #[.int .i64 K, .int .i64 N, .string s], .agg #[.int .i64 K', .int .i64 N', .string s']] w fun e w' => e = .returned (.tuple #[.int .i64 (ordV K N s.data.toList K' N' s'.data.toList), .int .i64 0]) ∧ Below w.heap.size w w' := by
  have hO : ordV K N s.data.toList K' N' s'.data.toList = orV (Lib.compareInt K K') (Lib.compareInt N N') (Lib.compareBytes s.data.toList s'.data.toList) := rfl
  rw [hO]
  have k1 := fun W => Tryz.cmp_Compare_int K K' W
  have k2 := fun W => Tryz.cmp_Compare_int N N' W
  have k3 := fun W => Tryz.strings_Compare s s' W
  generalize Lib.compareInt K K' = c1 at *
  generalize Lib.compareInt N N' = c2 at *
  generalize Lib.compareBytes s.data.toList s'.data.toList = c3 at *
  clear hO
  go_enter Tryz.func57, Tryz.ntmps57
  go_wp2_with fail
  refine (hc _).mono ?_
  rintro e w1 ⟨rfl, hb1⟩
  have hz1 : w.heap.size + 2 ≤ w1.heap.size := by have := hb1.size; simp at this; omega
  have a0 : w1.cell? ⟨w.heap.size, 0, none⟩ = some (.int .i64 K) := (hb1.cell (by simp; omega)).trans (by simp)
  have a1 : w1.cell? ⟨w.heap.size, 1, none⟩ = some (.int .i64 N) := (hb1.cell (by simp; omega)).trans (by simp)
  have a2 : w1.cell? ⟨w.heap.size, 2, none⟩ = some (.string s) := (hb1.cell (by simp; omega)).trans (by simp)
  have b0 : w1.cell? ⟨w.heap.size + 1, 0, none⟩ = some (.int .i64 K') := (hb1.cell (by simp)).trans (by simp)
  have b1 : w1.cell? ⟨w.heap.size + 1, 1, none⟩ = some (.int .i64 N') := (hb1.cell (by simp)).trans (by simp)
  have b2 : w1.cell? ⟨w.heap.size + 1, 2, none⟩ = some (.string s') := (hb1.cell (by simp)).trans (by simp)
  have q1 : Below w.heap.size w w1 := (((Below.refl _ _).alloc (Nat.le_refl _) _).alloc (by simp) _).trans (hb1.mono (by simp; omega))
  clear hb1 hc
  go_wp2_with fail
  refine (hc' _).mono ?_
  rintro e w2 ⟨rfl, hb2⟩
  have e0 := (hb2.cell (p := ⟨w.heap.size, 0, none⟩) (by show w.heap.size < _; omega)).trans a0
  have e1 := (hb2.cell (p := ⟨w.heap.size, 1, none⟩) (by show w.heap.size < _; omega)).trans a1
  have e2 := (hb2.cell (p := ⟨w.heap.size, 2, none⟩) (by show w.heap.size < _; omega)).trans a2
  have f0 := (hb2.cell (p := ⟨w.heap.size + 1, 0, none⟩) (by show w.heap.size + 1 < _; omega)).trans b0
  have f1 := (hb2.cell (p := ⟨w.heap.size + 1, 1, none⟩) (by show w.heap.size + 1 < _; omega)).trans b1
  have f2 := (hb2.cell (p := ⟨w.heap.size + 1, 2, none⟩) (by show w.heap.size + 1 < _; omega)).trans b2
  have q2 : Below w.heap.size w w2 := q1.trans (hb2.mono q1.size)
  have hz2 : w.heap.size + 2 ≤ w2.heap.size := by have := hb2.size; omega
  clear a0 a1 a2 b0 b1 b2 hb2 hc' q1 hz1
  go_wp2_with fail
  go_region_held3 (fun w' => w'.cell? ⟨w.heap.size, 0, none⟩ = some (.int .i64 K) ∧ w'.cell? ⟨w.heap.size, 1, none⟩ = some (.int .i64 N) ∧ w'.cell? ⟨w.heap.size, 2, none⟩ = some (.string s) ∧ w'.cell? ⟨w.heap.size + 1, 0, none⟩ = some (.int .i64 K') ∧ w'.cell? ⟨w.heap.size + 1, 1, none⟩ = some (.int .i64 N') ∧ w'.cell? ⟨w.heap.size + 1, 2, none⟩ = some (.string s')) (go_keep) (first | (go_at_call_of 72 (Value.int IntKind.i64 K); refine (k1 _).mono ?_; rintro e w' ⟨rfl, rfl⟩) | (go_at_call_of 72 (Value.int IntKind.i64 N); refine (k2 _).mono ?_; rintro e w' ⟨rfl, rfl⟩) | (go_at_call 73; refine (k3 _).mono ?_; rintro e w' ⟨rfl, rfl⟩) | (go_at_call 35; refine (or_any _ _ c1 c2 c3 _ (by simp) (by simp) (by simp)).mono ?_; rintro e w' ⟨rfl, rfl⟩))
  all_goals go_wp2
  go_ret2
  exact ⟨rfl, (q2.alloc (by omega) _).drew⟩

set_option maxRecDepth 100000 in
set_option maxHeartbeats 800000 in
theorem order_bad2 (K N K' N' : Int) (s s' : ByteArray) (w : World) (E : Nat) (hE : ((E : Int) != 0) = true)
    (hc : ∀ W : World, Calls Tryz.prog 47 #[.agg #[.int .i64 K, .int .i64 N, .string s]] W fun e w' => e = .returned (.int .i64 0) ∧ Below W.heap.size W w')
    (hc' : ∀ W : World, Calls Tryz.prog 47 #[.agg #[.int .i64 K', .int .i64 N', .string s']] W fun e w' => e = .returned (.int .i64 (E : Nat)) ∧ Below W.heap.size W w') :
    Calls Tryz.prog 57 #[.agg #[.int .i64 K, .int .i64 N, .string s], .agg #[.int .i64 K', .int .i64 N', .string s']] w fun e w' => e = .returned (.tuple #[.int .i64 0, .int .i64 (E : Nat)]) ∧ Below w.heap.size w w' := by
  go_enter Tryz.func57, Tryz.ntmps57
  go_wp2_with fail
  refine (hc _).mono ?_
  rintro e w1 ⟨rfl, hb1⟩
  have hz1 : w.heap.size + 2 ≤ w1.heap.size := by have := hb1.size; simp at this; omega
  have b0 : w1.cell? ⟨w.heap.size + 1, 0, none⟩ = some (.int .i64 K') := (hb1.cell (by simp)).trans (by simp)
  have b1 : w1.cell? ⟨w.heap.size + 1, 1, none⟩ = some (.int .i64 N') := (hb1.cell (by simp)).trans (by simp)
  have b2 : w1.cell? ⟨w.heap.size + 1, 2, none⟩ = some (.string s') := (hb1.cell (by simp)).trans (by simp)
  have q1 : Below w.heap.size w w1 := (((Below.refl _ _).alloc (Nat.le_refl _) _).alloc (by simp) _).trans (hb1.mono (by simp; omega))
  clear hb1 hc
  go_wp2_with fail
  refine (hc' _).mono ?_
  rintro e w2 ⟨rfl, hb2⟩
  go_wp2
  go_ret2
  exact ⟨rfl, q1.trans (hb2.mono q1.size)⟩

/-- what Order answers: an error tells first -/
def ordE (K N : Int) (S : List UInt8) (K' N' : Int) (S' : List UInt8) : Nat := if chkV K N S ≠ 0 then chkV K N S else chkV K' N' S'

def ordN (K N : Int) (S : List UInt8) (K' N' : Int) (S' : List UInt8) : Int := if ordE K N S K' N' S' = 0 then ordV K N S K' N' S' else 0

theorem order_any (K N K' N' : Int) (s s' : ByteArray) (w : World) (hs : s.size ≤ 140737488355328) (hs' : s'.size ≤ 140737488355328) :
    Calls Tryz.prog 57 #[.agg #[.int .i64 K, .int .i64 N, .string s], .agg #[.int .i64 K', .int .i64 N', .string s']] w fun e w' =>
      e = .returned (.tuple #[.int .i64 (ordN K N s.data.toList K' N' s'.data.toList), .int .i64 (ordE K N s.data.toList K' N' s'.data.toList : Nat)]) ∧ Below w.heap.size w w' := by
  have hc := fun W => check_any K N s W hs
  have hc' := fun W => check_any K' N' s' W hs'
  by_cases h1 : chkV K N s.data.toList = 0
  · have hE : ordE K N s.data.toList K' N' s'.data.toList = chkV K' N' s'.data.toList := by simp [ordE, h1]
    rw [h1] at hc
    by_cases h2 : chkV K' N' s'.data.toList = 0
    · have hN : ordN K N s.data.toList K' N' s'.data.toList = ordV K N s.data.toList K' N' s'.data.toList := by simp [ordN, hE, h2]
      rw [h2] at hc' hE
      rw [hE, hN]
      exact order_ok K N K' N' s s' w hc hc'
    · have hN : ordN K N s.data.toList K' N' s'.data.toList = 0 := by simp [ordN, hE, h2]
      rw [hE, hN]
      exact order_bad2 K N K' N' s s' w _ (by simp; omega) hc hc'
  · have hE : ordE K N s.data.toList K' N' s'.data.toList = chkV K N s.data.toList := by simp [ordE, h1]
    have hN : ordN K N s.data.toList K' N' s'.data.toList = 0 := by simp [ordN, hE, h1]
    rw [hE, hN]
    exact order_bad1 K N s w _ K' N' s' (by simp; omega) hc

/-- the map whose keys are the kinds of columns -/
def mp (a b c : Value) : Obj := .map #[⟨.int .i64 1, a, 0⟩, ⟨.int .i64 2, b, 1⟩, ⟨.int .i64 3, c, 2⟩] 3

/-- what lies there while 'ofEachKind' works: the value, where the map is, the map -/
def Inv (W : World) (p b r : Nat) (K N : Int) (s : ByteArray) (x y z : Value) : Prop :=
  W.cell? ⟨p, 0, none⟩ = some (.int .i64 K) ∧ W.cell? ⟨p, 1, none⟩ = some (.int .i64 N) ∧ W.cell? ⟨p, 2, none⟩ = some (.string s) ∧ W.cell? ⟨b, 0, none⟩ = some (.map (some r)) ∧ W.heap[r]? = some (mp x y z)

theorem cell_lt {W : World} {p i : Nat} {v : Value} (hc : W.cell? ⟨p, i, none⟩ = some v) : p < W.heap.size := by
  rcases Nat.lt_or_ge p W.heap.size with h | h
  · exact h
  · simp [World.cell?, Array.getElem?_eq_none h] at hc

theorem Inv.below {W W' : World} {p b r : Nat} {K N : Int} {s : ByteArray} {x y z : Value} (h : Inv W p b r K N s x y z) (hb : Below W.heap.size W W') : Inv W' p b r K N s x y z := by
  obtain ⟨h0, h1, h2, h3, h4⟩ := h
  exact ⟨(hb.cell (p := ⟨p, 0, none⟩) (cell_lt h0)).trans h0, (hb.cell (p := ⟨p, 1, none⟩) (cell_lt h0)).trans h1, (hb.cell (p := ⟨p, 2, none⟩) (cell_lt h0)).trans h2, (hb.cell (p := ⟨b, 0, none⟩) (cell_lt h3)).trans h3, (hb.block r (Array.getElem?_eq_some_iff.1 h4).1).trans h4⟩

def oneV (x : Bool) : Int := if x = true then 1 else 0

theorem three {W : World} {b : Nat} {x y z : Value} {t : TypeId} (h : W.heap[b]? = some (.cells #[x, y, z] t)) :
    (W.cell? ⟨b, 0, none⟩ = some x ∧ W.cell? ⟨b, 1, none⟩ = some y ∧ W.cell? ⟨b, 2, none⟩ = some z) ∧ (W.frozen? ⟨b, 0, none⟩ = false ∧ W.frozen? ⟨b, 1, none⟩ = false ∧ W.frozen? ⟨b, 2, none⟩ = false) := by
  refine ⟨⟨?_, ?_, ?_⟩, Lib.frozen_of_heap h 0, Lib.frozen_of_heap h 1, Lib.frozen_of_heap h 2⟩
  · rw [Lib.cell_of_heap h]; rfl
  · rw [Lib.cell_of_heap h]; rfl
  · rw [Lib.cell_of_heap h]; rfl

theorem cmp_same : ∀ a b : List UInt8, a = b ↔ Lib.compareBytes a b = 0
  | [], [] => by simp [Lib.compareBytes]
  | [], _ :: _ => by simp [Lib.compareBytes]
  | _ :: _, [] => by simp [Lib.compareBytes]
  | x :: a, y :: b => by
    have ih := cmp_same a b
    unfold Lib.compareBytes
    by_cases h1 : x < y
    · have : x ≠ y := fun e => by subst e; exact UInt8.lt_irrefl _ h1
      simp [h1, this]
    · by_cases h2 : y < x
      · have : x ≠ y := fun e => by subst e; exact h1 h2
        simp [h1, h2, this]
      · have : x = y := UInt8.le_antisymm (UInt8.not_lt.1 h2) (UInt8.not_lt.1 h1)
        subst this
        simp [h1, ih]

/-- two boxed values, held below -/
def Two (w : World) (K N : Int) (s : ByteArray) (K' N' : Int) (s' : ByteArray) (W : World) : Prop :=
  W.heap[w.heap.size]? = some (.cells #[.int .i64 K, .int .i64 N, .string s] 25) ∧ W.heap[w.heap.size + 1]? = some (.cells #[.int .i64 K', .int .i64 N', .string s'] 25) ∧ Below w.heap.size w W ∧ w.heap.size + 2 ≤ W.heap.size

theorem Two.start (w : World) (K N : Int) (s : ByteArray) (K' N' : Int) (s' : ByteArray) :
    Two w K N s K' N' s' ((w.alloc (.cells #[.int .i64 K, .int .i64 N, .string s] 25)).alloc (.cells #[.int .i64 K', .int .i64 N', .string s'] 25)) := by
  have hz : (w.alloc (.cells #[.int .i64 K, .int .i64 N, .string s] 25)).heap.size = w.heap.size + 1 := by simp
  refine ⟨?_, ?_, ((Below.refl _ _).alloc (Nat.le_refl _) _).alloc (by simp) _, by simp⟩
  · exact (Below.heap_alloc _ _ _ (by omega)).trans (heap_alloc_new _ _)
  · rw [← hz]; exact heap_alloc_new _ _

theorem Two.below {w : World} {K N : Int} {s : ByteArray} {K' N' : Int} {s' : ByteArray} {W W' : World} (h : Two w K N s K' N' s' W) (hb : Below W.heap.size W W') : Two w K N s K' N' s' W' := by
  obtain ⟨h1, h2, h3, h4⟩ := h
  exact ⟨(hb.block _ (by omega)).trans h1, (hb.block _ (by omega)).trans h2, h3.trans (hb.mono h3.size), Nat.le_trans h4 hb.size⟩

theorem Two.alloc {w : World} {K N : Int} {s : ByteArray} {K' N' : Int} {s' : ByteArray} {W : World} (h : Two w K N s K' N' s' W) (o : Obj) : Two w K N s K' N' s' (W.alloc o) :=
  h.below ((Below.refl _ _).alloc (Nat.le_refl _) o)

set_option maxRecDepth 100000 in
set_option maxHeartbeats 400000 in
theorem between_any (n a b : Int) (w : World) :
    Calls Tryz.prog 43 #[.int .i64 n, .int .i64 a, .int .i64 b] w fun e w' => e = .returned (.bool (decide (a ≤ n) && decide (n ≤ b))) ∧ w' = w := by
  go_enter Tryz.func43, Tryz.ntmps43
  go_wp2
  all_goals go_ret
  all_goals exact ⟨ret_bool (by simp [*] <;> omega), rfl⟩

theorem between_rw {n a b : Int} {r : Bool} (h : (decide (a ≤ n) && decide (n ≤ b)) = r) (w : World) :
    Calls Tryz.prog 43 #[.int .i64 n, .int .i64 a, .int .i64 b] w fun e w' => e = .returned (.bool r) ∧ w' = w := by
  rw [← h]; exact between_any n a b w

set_option maxRecDepth 100000 in
set_option maxHeartbeats 400000 in
theorem refI_any (n : Int) (w : World) : Calls Tryz.prog 29 #[.int .i64 n] w fun e w' => e = .returned (.bool (isInt n)) ∧ w' = w := by
  go_enter Tryz.func29, Tryz.ntmps29
  go_wp2_with (go_at_call 43; refine (between_any _ _ _ _).mono ?_; rintro e w' ⟨rfl, rfl⟩)
  go_ret
  exact ⟨ret_bool (by rfl), rfl⟩

set_option maxRecDepth 100000 in
set_option maxHeartbeats 400000 in
theorem refQ_any (c : UInt8) (w : World) :
    Calls Tryz.prog 44 #[.int .u8 (c.toNat : Int)] w fun e w' => e = .returned (.bool (isQ c)) ∧ w' = w := by
  have hc : (c.toNat : Int) ≤ 255 := by have := c.toNat_lt; omega
  cases h : (decide ((32 : Int) ≤ (c.toNat : Int)) && decide ((c.toNat : Int) ≤ 126))
  · have H : Hid ((decide ((32 : Int) ≤ (c.toNat : Int)) && decide ((c.toNat : Int) ≤ 126)) = false) := h
    have hb := between_any c.toNat 32 126
    rw [h] at hb
    clear h
    go_enter Tryz.func44, Tryz.ntmps44
    go_wp2_with (go_at_call 43; refine (hb _).mono ?_; rintro e w' ⟨rfl, rfl⟩)
    go_ret
    exact ⟨ret_bool (by unfold isQ; rw [H.out]; rfl), rfl⟩
  · have H : Hid ((decide ((32 : Int) ≤ (c.toNat : Int)) && decide ((c.toNat : Int) ≤ 126)) = true) := h
    have hb := between_any c.toNat 32 126
    rw [h] at hb
    clear h
    go_enter Tryz.func44, Tryz.ntmps44
    go_wp2_with (go_at_call 43; refine (hb _).mono ?_; rintro e w' ⟨rfl, rfl⟩)
    go_ret
    exact ⟨ret_bool (by unfold isQ; rw [H.out]; rfl), rfl⟩

set_option maxRecDepth 100000 in
set_option maxHeartbeats 400000 in
theorem truth_any (b : Bool) (w : World) : Calls Tryz.prog 28 #[.bool b] w fun e w' => e = .returned (.agg #[.int .i64 3, .int .i64 (oneV b), .string ⟨#[]⟩]) ∧ Below w.heap.size w w' := by
  cases b
  · go_enter Tryz.func28, Tryz.ntmps28
    go_wp2
    refine bodyPost_ret (v := .agg #[.int .i64 3, .int .i64 (oneV false), .string ⟨#[]⟩]) ?_ rfl ⟨rfl, ?_⟩
    · simp [results, Tryz.results28, go_sem, oneV]
    · exact (Below.refl _ _).alloc (Nat.le_refl _) _
  · go_enter Tryz.func28, Tryz.ntmps28
    go_wp2
    refine bodyPost_ret (v := .agg #[.int .i64 3, .int .i64 (oneV true), .string ⟨#[]⟩]) ?_ rfl ⟨rfl, ?_⟩
    · simp [results, Tryz.results28, go_sem, oneV]
    · exact (Below.refl _ _).alloc (Nat.le_refl _) _

set_option maxRecDepth 100000 in
set_option maxHeartbeats 400000 in
theorem same_any (K N : Int) (s : ByteArray) (w : World) : Calls Tryz.prog 12 #[.agg #[.int .i64 K, .int .i64 N, .string s], .agg #[.int .i64 K, .int .i64 N, .string s]] w fun e w' => e = .returned (.bool true) ∧ Below w.heap.size w w' := by
  go_enter Tryz.func12, Tryz.ntmps12
  go_wp2
  go_ret
  exact ⟨rfl, ((Below.refl _ _).alloc (Nat.le_refl _) _).alloc (by simp) _⟩

theorem all_at (s : ByteArray) : s.data.toList.all isQ = true ↔ ∀ j (h : j < s.size), isQ s[j] = true := by
  rw [List.all_eq_true]
  constructor
  · intro h j hj
    exact h _ (by
      have : s[j] = s.data[j] := rfl
      rw [this]
      exact Array.mem_toList_iff.2 (Array.getElem_mem _))
  · intro h c hc
    obtain ⟨j, hj, rfl⟩ := List.getElem_of_mem hc
    have hj' : j < s.size := by
      have : s.data.toList.length = s.size := Array.length_toList
      omega
    have := h j hj'
    rw [Array.getElem_toList]
    exact this

set_option maxRecDepth 100000 in
set_option maxHeartbeats 800000 in
theorem ckv_bad (K N : Int) (s : ByteArray) (w : World) (hK : (decide (0 ≤ K) && decide (K ≤ 3)) = false) :
    Calls Tryz.prog 27 #[.agg #[.int .i64 K, .int .i64 N, .string s]] w fun e w' => e = .returned (.int .i64 7) ∧ Below w.heap.size w w' := by
  have hb := between_rw hK
  clear hK
  go_enter Tryz.func27, Tryz.ntmps27
  go_wp2_with (go_at_call 43; refine (hb _).mono ?_; rintro e w' ⟨rfl, hw'⟩; obtain rfl := hw'.symm; clear hw')
  go_ret
  exact ⟨rfl, (Below.refl _ _).alloc (Nat.le_refl _) _⟩

/-- right: no error; else out of range -/
def errB (b : Bool) : Int := if b = true then 0 else 3

set_option maxRecDepth 100000 in
set_option maxHeartbeats 800000 in
theorem ckv_0 (N : Int) (s : ByteArray) (w : World) (b d : Bool) (hN : (N == 0) = b) (hS : s.toList.isEmpty = d) :
    Calls Tryz.prog 27 #[.agg #[.int .i64 0, .int .i64 N, .string s]] w fun e w' => e = .returned (.int .i64 (errB (b && d))) ∧ Below w.heap.size w w' := by
  have hb := between_rw (n := 0) (a := 0) (b := 3) (r := true) (by decide)
  cases b <;> cases d
  all_goals
    go_enter Tryz.func27, Tryz.ntmps27
    go_wp2_with (go_at_call 43; refine (hb _).mono ?_; rintro e w' ⟨rfl, hw'⟩; obtain rfl := hw'.symm; clear hw')
    go_ret
    exact ⟨rfl, (Below.refl _ _).alloc (Nat.le_refl _) _⟩

set_option maxRecDepth 100000 in
set_option maxHeartbeats 800000 in
theorem ckv_1 (N : Int) (s : ByteArray) (w : World) (b d : Bool) (hN : isInt N = b) (hS : s.toList.isEmpty = d) :
    Calls Tryz.prog 27 #[.agg #[.int .i64 1, .int .i64 N, .string s]] w fun e w' => e = .returned (.int .i64 (errB (b && d))) ∧ Below w.heap.size w w' := by
  have hb := between_rw (n := 1) (a := 0) (b := 3) (r := true) (by decide)
  have hi := fun W => refI_any N W
  rw [hN] at hi
  clear hN
  cases b <;> cases d
  all_goals
    go_enter Tryz.func27, Tryz.ntmps27
    go_wp2_with (first | (go_at_call 43; refine (hb _).mono ?_; rintro e w' ⟨rfl, hw'⟩; obtain rfl := hw'.symm; clear hw') | (go_at_call 29; refine (hi _).mono ?_; rintro e w' ⟨rfl, hw'⟩; obtain rfl := hw'.symm; clear hw'))
    go_ret
    exact ⟨rfl, (Below.refl _ _).alloc (Nat.le_refl _) _⟩

set_option maxRecDepth 100000 in
set_option maxHeartbeats 800000 in
theorem ckv_3 (N : Int) (s : ByteArray) (w : World) (b d : Bool) (hN : (decide (0 ≤ N) && decide (N ≤ 1)) = b) (hS : s.toList.isEmpty = d) :
    Calls Tryz.prog 27 #[.agg #[.int .i64 3, .int .i64 N, .string s]] w fun e w' => e = .returned (.int .i64 (errB (b && d))) ∧ Below w.heap.size w w' := by
  have hb := between_rw (n := 3) (a := 0) (b := 3) (r := true) (by decide)
  have hi := between_rw hN
  clear hN
  cases b <;> cases d
  all_goals
    go_enter Tryz.func27, Tryz.ntmps27
    go_wp2_with fail
    refine (hb _).mono ?_
    rintro e w' ⟨rfl, hw'⟩
    obtain rfl := hw'.symm
    clear hw' hb
    go_wp2_with fail
    refine (hi _).mono ?_
    rintro e w' ⟨rfl, hw'⟩
    obtain rfl := hw'.symm
    clear hw' hi
    go_wp2
    go_ret
    exact ⟨rfl, (Below.refl _ _).alloc (Nat.le_refl _) _⟩

set_option maxRecDepth 100000 in
set_option maxHeartbeats 800000 in
theorem ckv_2n (N : Int) (s : ByteArray) (w : World) (h : (N == 0) = false ∨ ((N == 0) = true ∧ 20 < s.size)) (hs : s.size ≤ 140737488355328) :
    Calls Tryz.prog 27 #[.agg #[.int .i64 2, .int .i64 N, .string s]] w fun e w' => e = .returned (.int .i64 3) ∧ Below w.heap.size w w' := by
  have hb := between_rw (n := 2) (a := 0) (b := 3) (r := true) (by decide)
  rcases h with h | ⟨h, h'⟩
  all_goals
    go_enter Tryz.func27, Tryz.ntmps27
    go_wp2_with (go_at_call 43; refine (hb _).mono ?_; rintro e w' ⟨rfl, hw'⟩; obtain rfl := hw'.symm; clear hw')
    clear hb
    go_loop [3, 4] (fun o i => o = .bool false ∧ i = .int .i64 0) (fun _ _ => 0)
    case atStart => exact ⟨by first | rfl | (rw [decide_eq_false (by omega)]), rfl⟩
    case round =>
      obtain ⟨rfl, rfl⟩ := hrel
      go_wp2
      all_goals go_ret
      all_goals exact ⟨rfl, (Below.refl _ _).alloc (Nat.le_refl _) _⟩

set_option maxRecDepth 100000 in
set_option maxHeartbeats 1600000 in
theorem ckv_2y (s : ByteArray) (w : World) (hz : s.size ≤ 20) (r : Bool) (Hr : Hid (s.data.toList.all isQ = r)) :
    Calls Tryz.prog 27 #[.agg #[.int .i64 2, .int .i64 0, .string s]] w fun e w' => e = .returned (.int .i64 (errB r)) ∧ Below w.heap.size w w' := by
  have hb := between_rw (n := 2) (a := 0) (b := 3) (r := true) (by decide)
  go_enter Tryz.func27, Tryz.ntmps27
  go_wp2_with (go_at_call 43; refine (hb _).mono ?_; rintro e w' ⟨rfl, hw'⟩; obtain rfl := hw'.symm; clear hw')
  clear hb
  go_loop [3, 4] (fun o i => ∃ (n : Nat) (b : Bool), n ≤ s.size ∧ i = .int .i64 n ∧ o = .bool b ∧ Hid ((b = true → ∀ j (h : j < s.size), j < n → isQ s[j] = true) ∧ (b = false → ∃ j, ∃ h : j < s.size, isQ s[j] = false))) (fun _ i => s.size - (intOf i).toNat)
  case atStart => exact ⟨0, true, by omega, rfl, by rw [decide_eq_true (by omega)], ⟨fun _ j _ h => absurd h (by omega), fun h => by cases h⟩⟩
  case round =>
    obtain ⟨n, b, hn, rfl, rfl, HE⟩ := hrel
    cases b with
    | false =>
      have HF : Hid (s.data.toList.all isQ = false) := by
        obtain ⟨j, hj, hq⟩ := HE.out.2 rfl
        rw [Hid, Bool.eq_false_iff]
        intro h
        have := (all_at s).1 h j hj
        rw [hq] at this
        cases this
      clear HE
      go_wp2
      all_goals go_ret
      all_goals exact ⟨by rw [show r = false from Hr.out.symm.trans HF.out]; rfl, (Below.refl _ _).alloc (Nat.le_refl _) _⟩
    | true =>
      by_cases hlt : n < s.size
      · have hq := fun W => refQ_any s[n] W
        have HG : Hid ((isQ s[n] = true → ∀ j (h : j < s.size), j < n + 1 → isQ s[j] = true) ∧ (isQ s[n] = false → ∃ j, ∃ h : j < s.size, isQ s[j] = false)) := by
          refine ⟨fun h j hj hj' => ?_, fun h => ⟨n, hlt, h⟩⟩
          by_cases e : j = n
          · subst e; exact h
          · exact HE.out.1 rfl j hj (by omega)
        generalize isQ s[n] = q at hq HG
        clear HE
        go_wp2_with (go_at_call 44; refine (hq _).mono ?_; rintro e w' ⟨rfl, hw'⟩; obtain rfl := hw'.symm; clear hw')
        go_round
        case rel => exact ⟨n + 1, q, by omega, by go_num, rfl, HG⟩
        case measure => simp [intOf]; omega
      · have HF : Hid (s.data.toList.all isQ = true) := (all_at s).2 fun j hj => HE.out.1 rfl j hj (by omega)
        clear HE
        go_wp2
        all_goals go_ret
        all_goals exact ⟨by rw [show r = true from Hr.out.symm.trans HF.out]; rfl, (Below.refl _ _).alloc (Nat.le_refl _) _⟩

theorem errB_chk (b : Bool) : errB b = ((if b = true then 0 else 3 : Nat) : Int) := by cases b <;> rfl

theorem ckv_any (K N : Int) (s : ByteArray) (w : World) (hs : s.size ≤ 140737488355328) :
    Calls Tryz.prog 27 #[.agg #[.int .i64 K, .int .i64 N, .string s]] w fun e w' => e = .returned (.int .i64 (chkV K N s.data.toList : Nat)) ∧ Below w.heap.size w w' := by
  have hS := empty_iff s
  by_cases h0 : K = 0
  · subst h0
    have e : chkV 0 N s.data.toList = if ((N == 0) && decide (s.data.toList = [])) = true then 0 else 3 := by simp [chkV]
    rw [e, ← errB_chk]
    exact ckv_0 N s w _ _ rfl hS
  by_cases h1 : K = 1
  · subst h1
    have e : chkV 1 N s.data.toList = if (isInt N && decide (s.data.toList = [])) = true then 0 else 3 := by simp [chkV]
    rw [e, ← errB_chk]
    exact ckv_1 N s w _ _ rfl hS
  by_cases h3 : K = 3
  · subst h3
    have e : chkV 3 N s.data.toList = if ((decide (0 ≤ N) && decide (N ≤ 1)) && decide (s.data.toList = [])) = true then 0 else 3 := by
      have : (N = 0 ∨ N = 1) ↔ (0 ≤ N ∧ N ≤ 1) := by omega
      simp [chkV, this]
    rw [e, ← errB_chk]
    exact ckv_3 N s w _ _ rfl hS
  by_cases h2 : K = 2
  · subst h2
    have hl : s.data.toList.length = s.size := Array.length_toList
    by_cases hN : N = 0
    · subst hN
      by_cases hz : s.size ≤ 20
      · have e : chkV 2 0 s.data.toList = if (s.data.toList.all isQ) = true then 0 else 3 := by
          simp only [chkV, quotB, hl]
          simp [hz]
        rw [e, ← errB_chk]
        exact ckv_2y s w hz _ rfl
      · have e : chkV 2 0 s.data.toList = 3 := by
          simp only [chkV, quotB, hl]
          simp [hz]
        rw [e]
        exact ckv_2n 0 s w (Or.inr ⟨rfl, by omega⟩) hs
    · have e : chkV 2 N s.data.toList = 3 := by simp [chkV, hN]
      rw [e]
      exact ckv_2n N s w (Or.inl (by simpa using hN)) hs
  have e : chkV K N s.data.toList = 7 := by simp [chkV, h0, h1, h2, h3]
  rw [e]
  refine ckv_bad K N s w ?_
  rw [Bool.and_eq_false_iff, decide_eq_false_iff_not, decide_eq_false_iff_not]
  omega

set_option maxRecDepth 100000 in
set_option maxHeartbeats 800000 in
theorem orv_k (K N K' N' : Int) (s s' : ByteArray) (w : World) (h : K ≠ K') :
    Calls Tryz.prog 30 #[.agg #[.int .i64 K, .int .i64 N, .string s], .agg #[.int .i64 K', .int .i64 N', .string s']] w fun e w' => e = .returned (.int .i64 (ordV K N s.data.toList K' N' s'.data.toList)) ∧ Below w.heap.size w w' := by
  by_cases hl : K < K'
  · have hr : ordV K N s.data.toList K' N' s'.data.toList = -1 := by simp [ordV, orV, Lib.compareInt, hl]
    rw [hr]
    clear hr
    go_enter Tryz.func30, Tryz.ntmps30
    go_wp2
    go_ret
    exact ⟨rfl, ((Below.refl _ _).alloc (Nat.le_refl _) _).alloc (by simp) _⟩
  · have hg : K > K' := by omega
    have hr : ordV K N s.data.toList K' N' s'.data.toList = 1 := by simp [ordV, orV, Lib.compareInt, hl, hg]
    rw [hr]
    clear hr
    go_enter Tryz.func30, Tryz.ntmps30
    go_wp2
    go_ret
    exact ⟨rfl, ((Below.refl _ _).alloc (Nat.le_refl _) _).alloc (by simp) _⟩

set_option maxRecDepth 100000 in
set_option maxHeartbeats 800000 in
theorem orv_n (K N N' : Int) (s s' : ByteArray) (w : World) (h : N ≠ N') :
    Calls Tryz.prog 30 #[.agg #[.int .i64 K, .int .i64 N, .string s], .agg #[.int .i64 K, .int .i64 N', .string s']] w fun e w' => e = .returned (.int .i64 (ordV K N s.data.toList K N' s'.data.toList)) ∧ Below w.heap.size w w' := by
  by_cases hl : N < N'
  · have hr : ordV K N s.data.toList K N' s'.data.toList = -1 := by simp [ordV, orV, Lib.compareInt, hl]
    rw [hr]
    clear hr
    go_enter Tryz.func30, Tryz.ntmps30
    go_wp2
    go_ret
    exact ⟨rfl, ((Below.refl _ _).alloc (Nat.le_refl _) _).alloc (by simp) _⟩
  · have hg : N > N' := by omega
    have hr : ordV K N s.data.toList K N' s'.data.toList = 1 := by simp [ordV, orV, Lib.compareInt, hl, hg]
    rw [hr]
    clear hr
    go_enter Tryz.func30, Tryz.ntmps30
    go_wp2
    go_ret
    exact ⟨rfl, ((Below.refl _ _).alloc (Nat.le_refl _) _).alloc (by simp) _⟩

theorem drop_end (s : ByteArray) (n : Nat) (h : s.size ≤ n) : s.data.toList.drop n = [] := by
  have : s.data.toList.length = s.size := Array.length_toList
  exact List.drop_eq_nil_of_le (by omega)

theorem cmp_step (s s' : ByteArray) (n : Nat) (h : n < s.size) (h' : n < s'.size) :
    Lib.compareBytes (s.data.toList.drop n) (s'.data.toList.drop n) = if (s[n].toNat : Int) < s'[n].toNat then -1 else if (s[n].toNat : Int) > s'[n].toNat then 1 else Lib.compareBytes (s.data.toList.drop (n + 1)) (s'.data.toList.drop (n + 1)) := by
  rw [drop_at s n h, drop_at s' n h', Lib.compareBytes]
  have e1 : s[n] < s'[n] ↔ (s[n].toNat : Int) < s'[n].toNat := by rw [UInt8.lt_iff_toNat_lt]; omega
  have e2 : s'[n] < s[n] ↔ (s[n].toNat : Int) > s'[n].toNat := by rw [UInt8.lt_iff_toNat_lt]; omega
  simp only [e1, e2]

set_option maxRecDepth 100000 in
set_option maxHeartbeats 1600000 in
theorem orv_s (K N : Int) (s s' : ByteArray) (w : World) (hs : s.size ≤ 140737488355328) (hs' : s'.size ≤ 140737488355328) (r : Int) (Hr : Hid (Lib.compareBytes s.data.toList s'.data.toList = r)) :
    Calls Tryz.prog 30 #[.agg #[.int .i64 K, .int .i64 N, .string s], .agg #[.int .i64 K, .int .i64 N, .string s']] w fun e w' => e = .returned (.int .i64 r) ∧ Below w.heap.size w w' := by
  have t0 := hide (Two.start w K N s K N s')
  go_enter Tryz.func30, Tryz.ntmps30
  go_wp2
  go_loopw [5] (fun i wr => ∃ n : Nat, n ≤ s.size ∧ n ≤ s'.size ∧ i = .int .i64 n ∧ Hid (Lib.compareBytes (s.data.toList.drop n) (s'.data.toList.drop n) = r) ∧ Two w K N s K N s' wr) (fun i _ => s.size - (intOf i).toNat)
  case atStart => exact ⟨0, by omega, by omega, rfl, Hr.out, t0.out⟩
  case round =>
    obtain ⟨n, hn, hn', rfl, HE, t1⟩ := hrel
    obtain ⟨⟨a0, a1, a2⟩, -⟩ := three t1.1
    obtain ⟨⟨b0, b1, b2⟩, -⟩ := three t1.2.1
    have T1 := hide t1
    clear Hr t0 t1
    by_cases h : n < s.size
    · by_cases h' : n < s'.size
      · have hc := cmp_step s s' n h h'
        rw [HE.out] at hc
        have HC := hide hc
        clear hc HE
        by_cases hl : (s[n].toNat : Int) < s'[n].toNat
        · have HR : Hid (r = -1) := by have := HC.out; rw [if_pos hl] at this; exact this
          clear HC
          go_wp2
          go_quiet (fail)
          go_wp2
          go_ret
          exact ⟨by rw [HR.out]; rfl, below_drewN T1.out.2.2.1 _⟩
        · by_cases hg : (s[n].toNat : Int) > s'[n].toNat
          · have HR : Hid (r = 1) := by have := HC.out; rw [if_neg hl, if_pos hg] at this; exact this
            clear HC
            go_wp2
            go_quiet (fail)
            go_wp2
            go_quiet (fail)
            go_wp2
            go_ret
            exact ⟨by rw [HR.out]; rfl, below_drewN (below_drewN T1.out.2.2.1 _) _⟩
          · have HR : Hid (Lib.compareBytes (s.data.toList.drop (n + 1)) (s'.data.toList.drop (n + 1)) = r) := by have := HC.out; rw [if_neg hl, if_neg hg] at this; exact this.symm
            clear HC
            go_wp2
            go_quiet (fail)
            go_wp2
            go_quiet (fail)
            go_wp2
            go_roundw
            case rel => exact ⟨n + 1, by omega, by omega, by go_num, HR, T1.out.below (below_drewN (Below.refl _ _) _)⟩
            case measure => simp [intOf]; omega
      · have HR : Hid (r = 1) := by
          have := HE.out
          rw [drop_at s n h, drop_end s' n (by omega)] at this
          exact this.symm
        have he : n = s'.size := by omega
        clear HE
        go_wp2
        go_ret
        exact ⟨by rw [HR.out]; rfl, T1.out.2.2.1⟩
    · have he : n = s.size := by omega
      by_cases h' : n < s'.size
      · have HR : Hid (r = -1) := by
          have := HE.out
          rw [drop_end s n (by omega), drop_at s' n h'] at this
          exact this.symm
        clear HE
        go_wp2
        go_ret
        exact ⟨by rw [HR.out]; rfl, T1.out.2.2.1⟩
      · have HR : Hid (r = 0) := by
          have := HE.out
          rw [drop_end s n (by omega), drop_end s' n (by omega)] at this
          exact this.symm
        have he' : n = s'.size := by omega
        clear HE
        go_wp2
        go_ret
        exact ⟨by rw [HR.out]; rfl, T1.out.2.2.1⟩

theorem orv_any (K N K' N' : Int) (s s' : ByteArray) (w : World) (hs : s.size ≤ 140737488355328) (hs' : s'.size ≤ 140737488355328) :
    Calls Tryz.prog 30 #[.agg #[.int .i64 K, .int .i64 N, .string s], .agg #[.int .i64 K', .int .i64 N', .string s']] w fun e w' => e = .returned (.int .i64 (ordV K N s.data.toList K' N' s'.data.toList)) ∧ Below w.heap.size w w' := by
  by_cases hK : K = K'
  · subst hK
    by_cases hN : N = N'
    · subst hN
      have e : ordV K N s.data.toList K N s'.data.toList = Lib.compareBytes s.data.toList s'.data.toList := by simp [ordV, orV, Lib.compareInt]
      rw [e]
      exact orv_s K N s s' w hs hs' _ rfl
    · exact orv_n K N N' s s' w hN
  · exact orv_k K N K' N' s s' w hK

end Go.Proofs.YtbelnjefnhelhabGreat
