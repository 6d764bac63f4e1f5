/-
  Out of my texts Key Order Map Cast KeysP Keys Refs CheckV OrdV: what is wanted here.
-/
import Derived.Test.YtjmhkeooiimpfaaGreatIsl
import Derived.Deep.RegionHeld3
import Derived.BigQuiet
namespace Go.Proofs.YtjmhkeooiimpfaaGreat
open Go.RowKit

theorem chk_zero {K N : Int} {S : List UInt8} (h : chkV K N S = 0) :
    (K = 0 ∧ N = 0 ∧ S = []) ∨ (K = 1 ∧ (-999999999 ≤ N ∧ N ≤ 999999999) ∧ S = []) ∨ (K = 2 ∧ N = 0 ∧ S.length ≤ 20 ∧ S.all isQ = true) ∨ (K = 3 ∧ (N = 0 ∨ N = 1) ∧ S = []) := by
  unfold chkV at h
  by_cases h0 : K = 0
  · rw [if_pos h0] at h
    by_cases h1 : N = 0 ∧ S = []
    · exact Or.inl ⟨h0, h1⟩
    · rw [if_neg h1] at h; cases h
  rw [if_neg h0] at h
  by_cases h0 : K = 1
  · rw [if_pos h0] at h
    by_cases h1 : isInt N = true ∧ S = []
    · refine Or.inr (Or.inl ⟨h0, ?_, h1.2⟩)
      have := h1.1
      simp only [isInt, Bool.and_eq_true, decide_eq_true_eq] at this
      exact this
    · rw [if_neg h1] at h; cases h
  rw [if_neg h0] at h
  by_cases h0 : K = 2
  · rw [if_pos h0] at h
    by_cases h1 : N = 0 ∧ quotB S = true
    · refine Or.inr (Or.inr (Or.inl ⟨h0, h1.1, ?_⟩))
      have := h1.2
      simp only [quotB, Bool.and_eq_true, decide_eq_true_eq] at this
      exact this
    · rw [if_neg h1] at h; cases h
  rw [if_neg h0] at h
  by_cases h0 : K = 3
  · rw [if_pos h0] at h
    by_cases h1 : (N = 0 ∨ N = 1) ∧ S = []
    · exact Or.inr (Or.inr (Or.inr ⟨h0, h1⟩))
    · rw [if_neg h1] at h; cases h
  rw [if_neg h0] at h; cases h

/-- the first of three that is not 0 -/
def orV (x y z : Int) : Int := if x ≠ 0 then x else if y ≠ 0 then y else z

set_option maxRecDepth 100000 in
set_option maxHeartbeats 400000 in
theorem or_any (b c : Nat) (x y z : Int) (w : World) (h0 : w.cell? ⟨b, 0, none⟩ = some (.int .i64 x)) (h1 : w.cell? ⟨b, 1, none⟩ = some (.int .i64 y)) (h2 : w.cell? ⟨b, 2, none⟩ = some (.int .i64 z)) :
    Calls Tryz.prog 26 #[.slice (some ⟨b, 0, none⟩) 3 c] w fun e w' => e = .returned (.int .i64 (orV x y z)) ∧ w' = w := by
  cases e0 : (x != 0)
  · cases e1 : (y != 0)
    · cases e2 : (z != 0)
      · have hx : orV x y z = 0 := by
          simp only [bne_eq_false_iff_eq] at e0 e1 e2
          simp [orV, e0, e1, e2]
        rw [hx]
        clear hx
        go_enter Tryz.func26, Tryz.ntmps26
        go_wp2
        refine wp_loop_rounds 4 ?_
        rw [rounds_succ]
        go_wp2
        rw [rounds_succ]
        go_wp2
        rw [rounds_succ]
        go_wp2
        rw [rounds_succ]
        go_wp2
        go_ret
        exact ⟨rfl, rfl⟩
      · have hx : orV x y z = z := by
          simp only [bne_eq_false_iff_eq] at e0 e1
          simp [orV, e0, e1]
        rw [hx]
        clear hx
        go_enter Tryz.func26, Tryz.ntmps26
        go_wp2
        refine wp_loop_rounds 3 ?_
        rw [rounds_succ]
        go_wp2
        rw [rounds_succ]
        go_wp2
        rw [rounds_succ]
        go_wp2
        go_ret
        exact ⟨rfl, rfl⟩
    · have hx : orV x y z = y := by
        simp only [bne_eq_false_iff_eq, bne_iff_ne] at e0 e1
        simp [orV, e0, e1]
      rw [hx]
      clear hx
      go_enter Tryz.func26, Tryz.ntmps26
      go_wp2
      refine wp_loop_rounds 2 ?_
      rw [rounds_succ]
      go_wp2
      rw [rounds_succ]
      go_wp2
      go_ret
      exact ⟨rfl, rfl⟩
  · have hx : orV x y z = x := by
      simp only [bne_iff_ne] at e0
      simp [orV, e0]
    rw [hx]
    clear hx
    go_enter Tryz.func26, Tryz.ntmps26
    go_wp2
    refine wp_loop_rounds 1 ?_
    rw [rounds_succ]
    go_wp2
    go_ret
    exact ⟨rfl, rfl⟩

/-- how two values stand to each other -/
def ordV (K N : Int) (S : List UInt8) (K' N' : Int) (S' : List UInt8) : Int := orV (Lib.compareInt K K') (Lib.compareInt N N') (Lib.compareBytes S S')

set_option maxRecDepth 100000 in
set_option maxHeartbeats 800000 in
theorem order_bad1 (K N : Int) (s : ByteArray) (w : World) (E : Nat) (K' N' : Int) (s' : ByteArray) (hE : ((E : Int) != 0) = true)
    (hc : ∀ W : World, Calls Tryz.prog 8 #[.agg #[.int .i64 K, .int .i64 N, .string s]] W fun e w' => e = .returned (.int .i64 (E : Nat)) ∧ Below W.heap.size W w') :
    Calls Tryz.prog 44 #[.agg #[.int .i64 K, .int .i64 N, .string s], .agg #[.int .i64 K', .int .i64 N', .string s']] w fun e w' => e = .returned (.tuple #[.int .i64 0, .int .i64 (E : Nat)]) ∧ Below w.heap.size w w' := by
  go_enter Tryz.func44, Tryz.ntmps44
  go_wp2_with (go_at_call 8; refine (hc _).mono ?_; rintro e w1 ⟨rfl, hb1⟩)
  go_ret2
  exact ⟨rfl, (((Below.refl _ _).alloc (Nat.le_refl _) _).alloc (by simp) _).trans (hb1.mono (by simp; omega))⟩

set_option maxRecDepth 100000 in
set_option maxHeartbeats 800000 in
theorem order_ok (K N K' N' : Int) (s s' : ByteArray) (w : World)
    (hc : ∀ W : World, Calls Tryz.prog 8 #[.agg #[.int .i64 K, .int .i64 N, .string s]] W fun e w' => e = .returned (.int .i64 0) ∧ Below W.heap.size W w')
    (hc' : ∀ W : World, Calls Tryz.prog 8 #[.agg #[.int .i64 K', .int .i64 N', .string s']] W fun e w' => e = .returned (.int .i64 0) ∧ Below W.heap.size W w') :
    Calls Tryz.prog 44 #[.agg #[.int .i64 K, .int .i64 N, .string s], .agg #[.int .i64 K', .int .i64 N', .string s']] w fun e w' => e = .returned (.tuple #[.int .i64 (ordV K N s.data.toList K' N' s'.data.toList), .int .i64 0]) ∧ Below w.heap.size w w' := by
  have hO : ordV K N s.data.toList K' N' s'.data.toList = orV (Lib.compareInt K K') (Lib.compareInt N N') (Lib.compareBytes s.data.toList s'.data.toList) := rfl
  rw [hO]
  have k1 := fun W => Tryz.cmp_Compare_int K K' W
  have k2 := fun W => Tryz.cmp_Compare_int N N' W
  have k3 := fun W => Tryz.strings_Compare s s' W
  generalize Lib.compareInt K K' = c1 at *
  generalize Lib.compareInt N N' = c2 at *
  generalize Lib.compareBytes s.data.toList s'.data.toList = c3 at *
  clear hO
  go_enter Tryz.func44, Tryz.ntmps44
  go_wp2_with fail
  refine (hc _).mono ?_
  rintro e w1 ⟨rfl, hb1⟩
  have hz1 : w.heap.size + 2 ≤ w1.heap.size := by have := hb1.size; simp at this; omega
  have a0 : w1.cell? ⟨w.heap.size, 0, none⟩ = some (.int .i64 K) := (hb1.cell (by simp; omega)).trans (by simp)
  have a1 : w1.cell? ⟨w.heap.size, 1, none⟩ = some (.int .i64 N) := (hb1.cell (by simp; omega)).trans (by simp)
  have a2 : w1.cell? ⟨w.heap.size, 2, none⟩ = some (.string s) := (hb1.cell (by simp; omega)).trans (by simp)
  have b0 : w1.cell? ⟨w.heap.size + 1, 0, none⟩ = some (.int .i64 K') := (hb1.cell (by simp)).trans (by simp)
  have b1 : w1.cell? ⟨w.heap.size + 1, 1, none⟩ = some (.int .i64 N') := (hb1.cell (by simp)).trans (by simp)
  have b2 : w1.cell? ⟨w.heap.size + 1, 2, none⟩ = some (.string s') := (hb1.cell (by simp)).trans (by simp)
  have q1 : Below w.heap.size w w1 := (((Below.refl _ _).alloc (Nat.le_refl _) _).alloc (by simp) _).trans (hb1.mono (by simp; omega))
  clear hb1 hc
  go_wp2_with fail
  refine (hc' _).mono ?_
  rintro e w2 ⟨rfl, hb2⟩
  have e0 := (hb2.cell (p := ⟨w.heap.size, 0, none⟩) (by show w.heap.size < _; omega)).trans a0
  have e1 := (hb2.cell (p := ⟨w.heap.size, 1, none⟩) (by show w.heap.size < _; omega)).trans a1
  have e2 := (hb2.cell (p := ⟨w.heap.size, 2, none⟩) (by show w.heap.size < _; omega)).trans a2
  have f0 := (hb2.cell (p := ⟨w.heap.size + 1, 0, none⟩) (by show w.heap.size + 1 < _; omega)).trans b0
  have f1 := (hb2.cell (p := ⟨w.heap.size + 1, 1, none⟩) (by show w.heap.size + 1 < _; omega)).trans b1
  have f2 := (hb2.cell (p := ⟨w.heap.size + 1, 2, none⟩) (by show w.heap.size + 1 < _; omega)).trans b2
  have q2 : Below w.heap.size w w2 := q1.trans (hb2.mono q1.size)
  have hz2 : w.heap.size + 2 ≤ w2.heap.size := by have := hb2.size; omega
  clear a0 a1 a2 b0 b1 b2 hb2 hc' q1 hz1
  go_wp2_with fail
  go_region_held3 (fun w' => w'.cell? ⟨w.heap.size, 0, none⟩ = some (.int .i64 K) ∧ w'.cell? ⟨w.heap.size, 1, none⟩ = some (.int .i64 N) ∧ w'.cell? ⟨w.heap.size, 2, none⟩ = some (.string s) ∧ w'.cell? ⟨w.heap.size + 1, 0, none⟩ = some (.int .i64 K') ∧ w'.cell? ⟨w.heap.size + 1, 1, none⟩ = some (.int .i64 N') ∧ w'.cell? ⟨w.heap.size + 1, 2, none⟩ = some (.string s')) (go_keep) (first | (go_at_call_of 62 (Value.int IntKind.i64 K); refine (k1 _).mono ?_; rintro e w' ⟨rfl, rfl⟩) | (go_at_call_of 62 (Value.int IntKind.i64 N); refine (k2 _).mono ?_; rintro e w' ⟨rfl, rfl⟩) | (go_at_call 63; refine (k3 _).mono ?_; rintro e w' ⟨rfl, rfl⟩) | (go_at_call 26; refine (or_any _ _ c1 c2 c3 _ (by simp) (by simp) (by simp)).mono ?_; rintro e w' ⟨rfl, rfl⟩))
  all_goals go_wp2
  go_ret2
  exact ⟨rfl, (q2.alloc (by omega) _).drew⟩

set_option maxRecDepth 100000 in
set_option maxHeartbeats 800000 in
theorem order_bad2 (K N K' N' : Int) (s s' : ByteArray) (w : World) (E : Nat) (hE : ((E : Int) != 0) = true)
    (hc : ∀ W : World, Calls Tryz.prog 8 #[.agg #[.int .i64 K, .int .i64 N, .string s]] W fun e w' => e = .returned (.int .i64 0) ∧ Below W.heap.size W w')
    (hc' : ∀ W : World, Calls Tryz.prog 8 #[.agg #[.int .i64 K', .int .i64 N', .string s']] W fun e w' => e = .returned (.int .i64 (E : Nat)) ∧ Below W.heap.size W w') :
    Calls Tryz.prog 44 #[.agg #[.int .i64 K, .int .i64 N, .string s], .agg #[.int .i64 K', .int .i64 N', .string s']] w fun e w' => e = .returned (.tuple #[.int .i64 0, .int .i64 (E : Nat)]) ∧ Below w.heap.size w w' := by
  go_enter Tryz.func44, Tryz.ntmps44
  go_wp2_with fail
  refine (hc _).mono ?_
  rintro e w1 ⟨rfl, hb1⟩
  have hz1 : w.heap.size + 2 ≤ w1.heap.size := by have := hb1.size; simp at this; omega
  have b0 : w1.cell? ⟨w.heap.size + 1, 0, none⟩ = some (.int .i64 K') := (hb1.cell (by simp)).trans (by simp)
  have b1 : w1.cell? ⟨w.heap.size + 1, 1, none⟩ = some (.int .i64 N') := (hb1.cell (by simp)).trans (by simp)
  have b2 : w1.cell? ⟨w.heap.size + 1, 2, none⟩ = some (.string s') := (hb1.cell (by simp)).trans (by simp)
  have q1 : Below w.heap.size w w1 := (((Below.refl _ _).alloc (Nat.le_refl _) _).alloc (by simp) _).trans (hb1.mono (by simp; omega))
  clear hb1 hc
  go_wp2_with fail
  refine (hc' _).mono ?_
  rintro e w2 ⟨rfl, hb2⟩
  go_wp2
  go_ret2
  exact ⟨rfl, q1.trans (hb2.mono q1.size)⟩

/-- what Order answers: an error tells first -/
def ordE (K N : Int) (S : List UInt8) (K' N' : Int) (S' : List UInt8) : Nat := if chkV K N S ≠ 0 then chkV K N S else chkV K' N' S'

def ordN (K N : Int) (S : List UInt8) (K' N' : Int) (S' : List UInt8) : Int := if ordE K N S K' N' S' = 0 then ordV K N S K' N' S' else 0

theorem order_any (K N K' N' : Int) (s s' : ByteArray) (w : World) (hs : s.size ≤ 140737488355328) (hs' : s'.size ≤ 140737488355328) :
    Calls Tryz.prog 44 #[.agg #[.int .i64 K, .int .i64 N, .string s], .agg #[.int .i64 K', .int .i64 N', .string s']] w fun e w' =>
      e = .returned (.tuple #[.int .i64 (ordN K N s.data.toList K' N' s'.data.toList), .int .i64 (ordE K N s.data.toList K' N' s'.data.toList : Nat)]) ∧ Below w.heap.size w w' := by
  have hc := fun W => check_any K N s W hs
  have hc' := fun W => check_any K' N' s' W hs'
  by_cases h1 : chkV K N s.data.toList = 0
  · have hE : ordE K N s.data.toList K' N' s'.data.toList = chkV K' N' s'.data.toList := by simp [ordE, h1]
    rw [h1] at hc
    by_cases h2 : chkV K' N' s'.data.toList = 0
    · have hN : ordN K N s.data.toList K' N' s'.data.toList = ordV K N s.data.toList K' N' s'.data.toList := by simp [ordN, hE, h2]
      rw [h2] at hc' hE
      rw [hE, hN]
      exact order_ok K N K' N' s s' w hc hc'
    · have hN : ordN K N s.data.toList K' N' s'.data.toList = 0 := by simp [ordN, hE, h2]
      rw [hE, hN]
      exact order_bad2 K N K' N' s s' w _ (by simp; omega) hc hc'
  · have hE : ordE K N s.data.toList K' N' s'.data.toList = chkV K N s.data.toList := by simp [ordE, h1]
    have hN : ordN K N s.data.toList K' N' s'.data.toList = 0 := by simp [ordN, hE, h1]
    rw [hE, hN]
    exact order_bad1 K N s w _ K' N' s' (by simp; omega) hc

theorem cell_lt {W : World} {p i : Nat} {v : Value} (hc : W.cell? ⟨p, i, none⟩ = some v) : p < W.heap.size := by
  rcases Nat.lt_or_ge p W.heap.size with h | h
  · exact h
  · simp [World.cell?, Array.getElem?_eq_none h] at hc

def oneV (x : Bool) : Int := if x = true then 1 else 0

theorem three {W : World} {b : Nat} {x y z : Value} {t : TypeId} (h : W.heap[b]? = some (.cells #[x, y, z] t)) :
    (W.cell? ⟨b, 0, none⟩ = some x ∧ W.cell? ⟨b, 1, none⟩ = some y ∧ W.cell? ⟨b, 2, none⟩ = some z) ∧ (W.frozen? ⟨b, 0, none⟩ = false ∧ W.frozen? ⟨b, 1, none⟩ = false ∧ W.frozen? ⟨b, 2, none⟩ = false) := by
  refine ⟨⟨?_, ?_, ?_⟩, Lib.frozen_of_heap h 0, Lib.frozen_of_heap h 1, Lib.frozen_of_heap h 2⟩
  · rw [Lib.cell_of_heap h]; rfl
  · rw [Lib.cell_of_heap h]; rfl
  · rw [Lib.cell_of_heap h]; rfl

theorem cmp_same : ∀ a b : List UInt8, a = b ↔ Lib.compareBytes a b = 0
  | [], [] => by simp [Lib.compareBytes]
  | [], _ :: _ => by simp [Lib.compareBytes]
  | _ :: _, [] => by simp [Lib.compareBytes]
  | x :: a, y :: b => by
    have ih := cmp_same a b
    unfold Lib.compareBytes
    by_cases h1 : x < y
    · have : x ≠ y := fun e => by subst e; exact UInt8.lt_irrefl _ h1
      simp [h1, this]
    · by_cases h2 : y < x
      · have : x ≠ y := fun e => by subst e; exact h1 h2
        simp [h1, h2, this]
      · have : x = y := UInt8.le_antisymm (UInt8.not_lt.1 h2) (UInt8.not_lt.1 h1)
        subst this
        simp [h1, ih]


end Go.Proofs.YtjmhkeooiimpfaaGreat
