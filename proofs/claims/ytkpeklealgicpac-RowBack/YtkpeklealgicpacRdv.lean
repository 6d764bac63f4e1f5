/-
  The reader of package row: 'value'.
-/
import Derived.Test.YtkpeklealgicpacRed
namespace Go.Proofs.Ytkpeklealgicpac
open Go.RowKit

theorem three {W : World} {b : Nat} {x y z : Value} {t : TypeId} (h : W.heap[b]? = some (.cells #[x, y, z] t)) :
    (W.cell? ⟨b, 0, none⟩ = some x ∧ W.cell? ⟨b, 1, none⟩ = some y ∧ W.cell? ⟨b, 2, none⟩ = some z) ∧ (W.frozen? ⟨b, 0, none⟩ = false ∧ W.frozen? ⟨b, 1, none⟩ = false ∧ W.frozen? ⟨b, 2, none⟩ = false) := by
  refine ⟨⟨?_, ?_, ?_⟩, Lib.frozen_of_heap h 0, Lib.frozen_of_heap h 1, Lib.frozen_of_heap h 2⟩
  · rw [Lib.cell_of_heap h]; rfl
  · rw [Lib.cell_of_heap h]; rfl
  · rw [Lib.cell_of_heap h]; rfl
theorem three_put {W : World} {b : Nat} {x y z : Value} {t : TypeId} (h : W.heap[b]? = some (.cells #[x, y, z] t)) (x' y' z' : Value) :
    (((W.setCell ⟨b, 0, none⟩ x').setCell ⟨b, 1, none⟩ y').setCell ⟨b, 2, none⟩ z').heap[b]? = some (.cells #[x', y', z'] t) :=
  heap_setCell_same _ b 2 _ t z' (heap_setCell_same _ b 1 _ t y' (heap_setCell_same W b 0 _ t x' h))

def vlV (x : Vl) : Value := .agg #[.int .i64 x.k, .int .i64 x.n, .string ⟨x.s.toArray⟩]

theorem RdAt.lt {w : World} {b : Nat} {L : List UInt8} {wr : Bool} (h : RdAt w b L wr) : b < w.heap.size := (Array.getElem?_eq_some_iff.1 h).1
theorem RdAt.alloc {w : World} {b : Nat} {L : List UInt8} {wr : Bool} (h : RdAt w b L wr) (o : Obj) : RdAt (w.alloc o) b L wr :=
  (((Below.refl w.heap.size w).alloc (Nat.le_refl _) o).block b h.lt).trans h
theorem RdAt.put {w : World} {b : Nat} {L : List UInt8} {wr : Bool} (h : RdAt w b L wr) {c : Nat} (hc : c ≠ b) (o : Nat) (x : Value) : RdAt (w.setCell ⟨c, o, none⟩ x) b L wr :=
  (heap_setCell_other w ⟨c, o, none⟩ b x (by simpa using fun e => hc e.symm)).trans h
theorem RdAt.wrong {w : World} {b : Nat} {L : List UInt8} {wr : Bool} (h : RdAt w b L wr) : RdAt (w.setCell ⟨b, 1, none⟩ (.bool true)) b L true := heap_setCell_same w b 1 _ 39 _ h

/-- what 'value' leaves -/
def ValPost (w : World) (b : Nat) (L : List UInt8) (e : Ending) (w' : World) : Prop :=
  ∃ (x : Vl) (L' : List UInt8) (wr : Bool), e = .returned (vlV x) ∧ RdAt w' b L' wr ∧ w.grownBy w' (some b) ∧ valP L = if wr = true then none else some (x, L')



set_option maxRecDepth 100000 in
set_option maxHeartbeats 1600000 in
theorem value_no (b : Nat) (w : World) (hb : RdAt w b ([]) false) :
    Calls Try.prog 22 #[.pointer (some ⟨b, 0, none⟩)] w fun e w' => ValPost w b ([]) e w' := by
  have n1 := number_any b 1 _ false _ (hb.alloc (.cells #[.int .i64 0, .int .i64 0, .string ⟨#[]⟩] 36)) (by decide) (by decide)
  have hlt := hb.lt
  have k0 : (w.alloc (.cells #[.int .i64 0, .int .i64 0, .string ⟨#[]⟩] 36)).heap[w.heap.size]? = some (.cells #[.int .i64 0, .int .i64 0, .string ⟨#[]⟩] 36) := heap_alloc_new _ _
  have g0 := grown_alloc (grown_refl w (some b)) (.cells #[.int .i64 0, .int .i64 0, .string ⟨#[]⟩] 36)
  have e1 : numL (tkB 1 []) = 0 := by simp [tkB, numL]
  have e2 : tkL 1 [] = [] := by simp [tkL]
  have e3 : decide (([] : List UInt8).length < 1) = true := by simp
  rw [show (1 : Int).toNat = 1 from rfl, e1, e2, e3] at n1
  clear e1 e2 e3
  clear hb
  go_enter Try.func22, Try.ntmps22
  go_wp2_with fail
  refine n1.mono ?_
  rintro e w1 ⟨rfl, r1, g1⟩
  have k1 := (g1.block w.heap.size (by simp) (by simp; omega)).trans k0
  have z1 : w.heap.size < w1.heap.size := by have := g1.size; simp at this; omega
  have g1 := grown_trans g0 g1
  have p : w.heap.size ≠ b := by omega
  have zb : b < w1.heap.size := by omega
  clear k0 g0 n1
  obtain ⟨⟨c0, c1, c2⟩, f0, f1, f2⟩ := three k1
  have kz := three_put k1 (.int .i64 0) (.int .i64 0) (.string ⟨#[]⟩)
  have rz := ((r1.put p 0 (.int .i64 0)).put p 1 (.int .i64 0)).put p 2 (.string ⟨#[]⟩)
  have gz := grown_put (grown_put (grown_put g1 (Nat.le_refl _) 0 (.int .i64 0)) (Nat.le_refl _) 1 (.int .i64 0)) (Nat.le_refl _) 2 (.string ⟨#[]⟩)
  have kz := (((Below.refl _ _).alloc (Nat.le_refl _) (.cells #[.int .i64 0, .int .i64 0, .string ⟨#[]⟩] 36)).block _ (Array.getElem?_eq_some_iff.1 kz).1).trans kz
  have rz := rz.alloc (.cells #[.int .i64 0, .int .i64 0, .string ⟨#[]⟩] 36)
  have gz := grown_alloc gz (.cells #[.int .i64 0, .int .i64 0, .string ⟨#[]⟩] 36)
  have Kz := hide kz
  have Rz := hide rz
  have Gz := hide gz
  clear kz rz gz 
  go_wp2_with fail
  generalize ((((w1.setCell ⟨w.heap.size, 0, none⟩ (.int .i64 0)).setCell ⟨w.heap.size, 1, none⟩ (.int .i64 0)).setCell ⟨w.heap.size, 2, none⟩ (.string ⟨#[]⟩)).alloc (.cells #[.int .i64 0, .int .i64 0, .string ⟨#[]⟩] 36)) = wz at *
  obtain ⟨⟨e0, e1, e2⟩, -⟩ := three Kz.out
  refine bodyPost_ret (v := vlV ⟨0, 0, []⟩) ?_ rfl ⟨_, _, true, rfl, Rz.out, Gz.out, rfl⟩
  simp [results, Try.results22, go_sem, vlV, e0, e1, e2]


set_option maxRecDepth 100000 in
set_option maxHeartbeats 1600000 in
theorem value_0 (b : Nat) (r : List UInt8) (w : World) (hb : RdAt w b (0 :: r) false) :
    Calls Try.prog 22 #[.pointer (some ⟨b, 0, none⟩)] w fun e w' => ValPost w b (0 :: r) e w' := by
  have n1 := number_any b 1 _ false _ (hb.alloc (.cells #[.int .i64 0, .int .i64 0, .string ⟨#[]⟩] 36)) (by decide) (by decide)
  have hlt := hb.lt
  have k0 : (w.alloc (.cells #[.int .i64 0, .int .i64 0, .string ⟨#[]⟩] 36)).heap[w.heap.size]? = some (.cells #[.int .i64 0, .int .i64 0, .string ⟨#[]⟩] 36) := heap_alloc_new _ _
  have g0 := grown_alloc (grown_refl w (some b)) (.cells #[.int .i64 0, .int .i64 0, .string ⟨#[]⟩] 36)
  have e1 : numL (tkB 1 (0 :: r)) = 0 := by simp [tkB, numL]
  have e2 : tkL 1 (0 :: r) = r := by simp [tkL]
  have e3 : decide ((0 :: r).length < 1) = false := by simp
  rw [show (1 : Int).toNat = 1 from rfl, e1, e2, e3] at n1
  clear e1 e2 e3
  clear hb
  go_enter Try.func22, Try.ntmps22
  go_wp2_with fail
  refine n1.mono ?_
  rintro e w1 ⟨rfl, r1, g1⟩
  have k1 := (g1.block w.heap.size (by simp) (by simp; omega)).trans k0
  have z1 : w.heap.size < w1.heap.size := by have := g1.size; simp at this; omega
  have g1 := grown_trans g0 g1
  have p : w.heap.size ≠ b := by omega
  have zb : b < w1.heap.size := by omega
  clear k0 g0 n1
  obtain ⟨⟨c0, c1, c2⟩, f0, f1, f2⟩ := three k1
  have kz := three_put k1 (.int .i64 0) (.int .i64 0) (.string ⟨#[]⟩)
  have rz := ((r1.put p 0 (.int .i64 0)).put p 1 (.int .i64 0)).put p 2 (.string ⟨#[]⟩)
  have gz := grown_put (grown_put (grown_put g1 (Nat.le_refl _) 0 (.int .i64 0)) (Nat.le_refl _) 1 (.int .i64 0)) (Nat.le_refl _) 2 (.string ⟨#[]⟩)
  have kz := (((Below.refl _ _).alloc (Nat.le_refl _) (.cells #[.int .i64 0, .int .i64 0, .string ⟨#[]⟩] 36)).block _ (Array.getElem?_eq_some_iff.1 kz).1).trans kz
  have rz := rz.alloc (.cells #[.int .i64 0, .int .i64 0, .string ⟨#[]⟩] 36)
  have gz := grown_alloc gz (.cells #[.int .i64 0, .int .i64 0, .string ⟨#[]⟩] 36)
  have Kz := hide kz
  have Rz := hide rz
  have Gz := hide gz
  clear kz rz gz 
  go_wp2_with fail
  generalize ((((w1.setCell ⟨w.heap.size, 0, none⟩ (.int .i64 0)).setCell ⟨w.heap.size, 1, none⟩ (.int .i64 0)).setCell ⟨w.heap.size, 2, none⟩ (.string ⟨#[]⟩)).alloc (.cells #[.int .i64 0, .int .i64 0, .string ⟨#[]⟩] 36)) = wz at *
  obtain ⟨⟨e0, e1, e2⟩, -⟩ := three Kz.out
  refine bodyPost_ret (v := vlV ⟨0, 0, []⟩) ?_ rfl ⟨_, _, false, rfl, Rz.out, Gz.out, rfl⟩
  simp [results, Try.results22, go_sem, vlV, e0, e1, e2]


theorem valP_one (r : List UInt8) : valP (1 :: r) = if (false || decide (r.length < 4)) = true then none else some (⟨1, (numL (tkB 4 r) : Nat) - 999999999, []⟩, tkL 4 r) := by
  by_cases h : r.length < 4
  · simp [h, valP]
  · simp [h, valP, tkB, tkL]
theorem valP_two (r : List UInt8) : valP (2 :: r) = if ((false || decide (r.length < 1)) || decide ((tkL 1 r).length < numL (tkB 1 r))) = true then none else some (⟨2, 0, tkB (numL (tkB 1 r)) (tkL 1 r)⟩, tkL (numL (tkB 1 r)) (tkL 1 r)) := by
  cases r with
  | nil => simp [valP]
  | cons m r =>
    have e1 : numL (tkB 1 (m :: r)) = m.toNat := by simp [tkB, numL]
    have e2 : tkL 1 (m :: r) = r := by simp [tkL]
    rw [e1, e2]
    simp only [valP]
    rw [if_neg (by decide), if_neg (by decide), if_pos trivial]
    by_cases h : r.length < m.toNat
    · simp [h]
    · simp [h, tkB, tkL]
theorem valP_three (r : List UInt8) : valP (3 :: r) = if (false || decide (r.length < 1)) = true then none else some (⟨3, (numL (tkB 1 r) : Nat), []⟩, tkL 1 r) := by
  cases r with
  | nil => simp [valP]
  | cons m r =>
    have e1 : numL (tkB 1 (m :: r)) = m.toNat := by simp [tkB, numL]
    have e2 : tkL 1 (m :: r) = r := by simp [tkL]
    rw [e1, e2]
    simp [valP]
theorem numL_4 (r : List UInt8) : ((numL (tkB 4 r) : Nat) : Int) < 4294967296 := by
  have h := numL_lt (tkB 4 r)
  have h2 := Nat.pow_le_pow_right (show 0 < 256 by decide) (tkB_len 4 r)
  have h3 : (256 : Nat) ^ 4 = 4294967296 := by decide
  omega
theorem numL_1 (r : List UInt8) : ((numL (tkB 1 r) : Nat) : Int) < 256 := by
  have h := numL_lt (tkB 1 r)
  have h2 := Nat.pow_le_pow_right (show 0 < 256 by decide) (tkB_len 1 r)
  have h3 : (256 : Nat) ^ 1 = 256 := by decide
  omega


set_option maxRecDepth 100000 in
set_option maxHeartbeats 1600000 in
theorem value_1 (b : Nat) (r : List UInt8) (w : World) (hb : RdAt w b (1 :: r) false) :
    Calls Try.prog 22 #[.pointer (some ⟨b, 0, none⟩)] w fun e w' => ValPost w b (1 :: r) e w' := by
  have n1 := number_any b 1 _ false _ (hb.alloc (.cells #[.int .i64 0, .int .i64 0, .string ⟨#[]⟩] 36)) (by decide) (by decide)
  have hlt := hb.lt
  have k0 : (w.alloc (.cells #[.int .i64 0, .int .i64 0, .string ⟨#[]⟩] 36)).heap[w.heap.size]? = some (.cells #[.int .i64 0, .int .i64 0, .string ⟨#[]⟩] 36) := heap_alloc_new _ _
  have g0 := grown_alloc (grown_refl w (some b)) (.cells #[.int .i64 0, .int .i64 0, .string ⟨#[]⟩] 36)
  have e1 : numL (tkB 1 (1 :: r)) = 1 := by simp [tkB, numL]
  have e2 : tkL 1 (1 :: r) = r := by simp [tkL]
  have e3 : decide ((1 :: r).length < 1) = false := by simp
  rw [show (1 : Int).toNat = 1 from rfl, e1, e2, e3] at n1
  clear e1 e2 e3
  have HV := hide (valP_one r)
  have hn := numL_4 r
  clear hb
  go_enter Try.func22, Try.ntmps22
  go_wp2_with fail
  refine n1.mono ?_
  rintro e w1 ⟨rfl, r1, g1⟩
  have k1 := (g1.block w.heap.size (by simp) (by simp; omega)).trans k0
  have z1 : w.heap.size < w1.heap.size := by have := g1.size; simp at this; omega
  have g1 := grown_trans g0 g1
  have p : w.heap.size ≠ b := by omega
  have zb : b < w1.heap.size := by omega
  clear k0 g0 n1
  have n2 := number_any b 4 r (false || false) _ (r1.alloc (.cells #[.int .i64 1, .int .i64 0, .string ⟨#[]⟩] 36)) (by decide) (by decide)
  have g1 := grown_alloc g1 (.cells #[.int .i64 1, .int .i64 0, .string ⟨#[]⟩] 36)
  have k1 : (w1.alloc (.cells #[.int .i64 1, .int .i64 0, .string ⟨#[]⟩] 36)).heap[w.heap.size]? = some (.cells #[.int .i64 0, .int .i64 0, .string ⟨#[]⟩] 36) := (((Below.refl w1.heap.size w1).alloc (Nat.le_refl _) _).block _ z1).trans k1
  have v1 : (w1.alloc (.cells #[.int .i64 1, .int .i64 0, .string ⟨#[]⟩] 36)).heap[w1.heap.size]? = some (.cells #[.int .i64 1, .int .i64 0, .string ⟨#[]⟩] 36) := heap_alloc_new _ _
  rw [show (4 : Int).toNat = 4 from rfl, Bool.false_or] at n2
  clear r1
  go_wp2_with fail
  refine n2.mono ?_
  rintro e w2 ⟨rfl, r2, g2⟩
  have k2 := (g2.block w.heap.size (by simp; omega) (by simp; omega)).trans k1
  have v2 := (g2.block w1.heap.size (by simp) (by simp; omega)).trans v1
  have z2 : w1.heap.size < w2.heap.size := by have := g2.size; simp at this; omega
  have g2 := grown_trans g1 g2
  clear k1 v1 g1 n2
  generalize numL (tkB 4 r) = n at HV hn ⊢
  generalize tkL 4 r = L' at HV r2
  generalize (false || decide (r.length < 4)) = wr at HV r2
  obtain ⟨⟨v0, v1, v2⟩, y0, y1, y2⟩ := three v2
  obtain ⟨⟨c0, c1, c2⟩, f0, f1, f2⟩ := three k2
  have kk' := (heap_setCell_other w2 ⟨w1.heap.size, 1, none⟩ w.heap.size (.int .i64 ((n : Int) - 999999999)) (by simp; omega)).trans k2
  have rr' := r2.put (show w1.heap.size ≠ b by omega) 1 (.int .i64 ((n : Int) - 999999999))
  have gg' := grown_put g2 (show w.heap.size ≤ w1.heap.size by omega) 1 (.int .i64 ((n : Int) - 999999999))
  have kz := three_put kk' (.int .i64 1) (.int .i64 ((n : Int) - 999999999)) (.string ⟨#[]⟩)
  have rz := ((rr'.put p 0 (.int .i64 1)).put p 1 (.int .i64 ((n : Int) - 999999999))).put p 2 (.string ⟨#[]⟩)
  have gz := grown_put (grown_put (grown_put gg' (Nat.le_refl _) 0 (.int .i64 1)) (Nat.le_refl _) 1 (.int .i64 ((n : Int) - 999999999))) (Nat.le_refl _) 2 (.string ⟨#[]⟩)
  have Kz := hide kz
  have Rz := hide rz
  have Gz := hide gz
  clear kz rz gz kk' rr' gg'
  go_wp2_with fail
  generalize ((((w2.setCell ⟨w1.heap.size, 1, none⟩ (.int .i64 ((n : Int) - 999999999))).setCell ⟨w.heap.size, 0, none⟩ (.int .i64 1)).setCell ⟨w.heap.size, 1, none⟩ (.int .i64 ((n : Int) - 999999999))).setCell ⟨w.heap.size, 2, none⟩ (.string ⟨#[]⟩)) = wz at *
  obtain ⟨⟨e0, e1, e2⟩, -⟩ := three Kz.out
  refine bodyPost_ret (v := vlV ⟨1, ((n : Int) - 999999999), []⟩) ?_ rfl ⟨_, _, _, rfl, Rz.out, Gz.out, HV.out⟩
  simp [results, Try.results22, go_sem, vlV, e0, e1, e2]


set_option maxRecDepth 100000 in
set_option maxHeartbeats 1600000 in
theorem value_3 (b : Nat) (r : List UInt8) (w : World) (hb : RdAt w b (3 :: r) false) :
    Calls Try.prog 22 #[.pointer (some ⟨b, 0, none⟩)] w fun e w' => ValPost w b (3 :: r) e w' := by
  have n1 := number_any b 1 _ false _ (hb.alloc (.cells #[.int .i64 0, .int .i64 0, .string ⟨#[]⟩] 36)) (by decide) (by decide)
  have hlt := hb.lt
  have k0 : (w.alloc (.cells #[.int .i64 0, .int .i64 0, .string ⟨#[]⟩] 36)).heap[w.heap.size]? = some (.cells #[.int .i64 0, .int .i64 0, .string ⟨#[]⟩] 36) := heap_alloc_new _ _
  have g0 := grown_alloc (grown_refl w (some b)) (.cells #[.int .i64 0, .int .i64 0, .string ⟨#[]⟩] 36)
  have e1 : numL (tkB 1 (3 :: r)) = 3 := by simp [tkB, numL]
  have e2 : tkL 1 (3 :: r) = r := by simp [tkL]
  have e3 : decide ((3 :: r).length < 1) = false := by simp
  rw [show (1 : Int).toNat = 1 from rfl, e1, e2, e3] at n1
  clear e1 e2 e3
  have HV := hide (valP_three r)
  clear hb
  go_enter Try.func22, Try.ntmps22
  go_wp2_with fail
  refine n1.mono ?_
  rintro e w1 ⟨rfl, r1, g1⟩
  have k1 := (g1.block w.heap.size (by simp) (by simp; omega)).trans k0
  have z1 : w.heap.size < w1.heap.size := by have := g1.size; simp at this; omega
  have g1 := grown_trans g0 g1
  have p : w.heap.size ≠ b := by omega
  have zb : b < w1.heap.size := by omega
  clear k0 g0 n1
  have n2 := number_any b 1 r (false || false) _ (r1.alloc (.cells #[.int .i64 3, .int .i64 0, .string ⟨#[]⟩] 36)) (by decide) (by decide)
  have g1 := grown_alloc g1 (.cells #[.int .i64 3, .int .i64 0, .string ⟨#[]⟩] 36)
  have k1 : (w1.alloc (.cells #[.int .i64 3, .int .i64 0, .string ⟨#[]⟩] 36)).heap[w.heap.size]? = some (.cells #[.int .i64 0, .int .i64 0, .string ⟨#[]⟩] 36) := (((Below.refl w1.heap.size w1).alloc (Nat.le_refl _) _).block _ z1).trans k1
  have v1 : (w1.alloc (.cells #[.int .i64 3, .int .i64 0, .string ⟨#[]⟩] 36)).heap[w1.heap.size]? = some (.cells #[.int .i64 3, .int .i64 0, .string ⟨#[]⟩] 36) := heap_alloc_new _ _
  rw [show (1 : Int).toNat = 1 from rfl, Bool.false_or] at n2
  clear r1
  go_wp2_with fail
  refine n2.mono ?_
  rintro e w2 ⟨rfl, r2, g2⟩
  have k2 := (g2.block w.heap.size (by simp; omega) (by simp; omega)).trans k1
  have v2 := (g2.block w1.heap.size (by simp) (by simp; omega)).trans v1
  have z2 : w1.heap.size < w2.heap.size := by have := g2.size; simp at this; omega
  have g2 := grown_trans g1 g2
  clear k1 v1 g1 n2
  generalize numL (tkB 1 r) = n at HV ⊢
  generalize tkL 1 r = L' at HV r2
  generalize (false || decide (r.length < 1)) = wr at HV r2
  obtain ⟨⟨v0, v1, v2⟩, y0, y1, y2⟩ := three v2
  obtain ⟨⟨c0, c1, c2⟩, f0, f1, f2⟩ := three k2
  have kk' := (heap_setCell_other w2 ⟨w1.heap.size, 1, none⟩ w.heap.size (.int .i64 (n : Int)) (by simp; omega)).trans k2
  have rr' := r2.put (show w1.heap.size ≠ b by omega) 1 (.int .i64 (n : Int))
  have gg' := grown_put g2 (show w.heap.size ≤ w1.heap.size by omega) 1 (.int .i64 (n : Int))
  have kz := three_put kk' (.int .i64 3) (.int .i64 (n : Int)) (.string ⟨#[]⟩)
  have rz := ((rr'.put p 0 (.int .i64 3)).put p 1 (.int .i64 (n : Int))).put p 2 (.string ⟨#[]⟩)
  have gz := grown_put (grown_put (grown_put gg' (Nat.le_refl _) 0 (.int .i64 3)) (Nat.le_refl _) 1 (.int .i64 (n : Int))) (Nat.le_refl _) 2 (.string ⟨#[]⟩)
  have Kz := hide kz
  have Rz := hide rz
  have Gz := hide gz
  clear kz rz gz kk' rr' gg'
  go_wp2_with fail
  generalize ((((w2.setCell ⟨w1.heap.size, 1, none⟩ (.int .i64 (n : Int))).setCell ⟨w.heap.size, 0, none⟩ (.int .i64 3)).setCell ⟨w.heap.size, 1, none⟩ (.int .i64 (n : Int))).setCell ⟨w.heap.size, 2, none⟩ (.string ⟨#[]⟩)) = wz at *
  obtain ⟨⟨e0, e1, e2⟩, -⟩ := three Kz.out
  refine bodyPost_ret (v := vlV ⟨3, (n : Int), []⟩) ?_ rfl ⟨_, _, _, rfl, Rz.out, Gz.out, HV.out⟩
  simp [results, Try.results22, go_sem, vlV, e0, e1, e2]


set_option maxRecDepth 100000 in
set_option maxHeartbeats 1600000 in
theorem value_2 (b : Nat) (r : List UInt8) (w : World) (hb : RdAt w b (2 :: r) false) :
    Calls Try.prog 22 #[.pointer (some ⟨b, 0, none⟩)] w fun e w' => ValPost w b (2 :: r) e w' := by
  have n1 := number_any b 1 _ false _ (hb.alloc (.cells #[.int .i64 0, .int .i64 0, .string ⟨#[]⟩] 36)) (by decide) (by decide)
  have hlt := hb.lt
  have k0 : (w.alloc (.cells #[.int .i64 0, .int .i64 0, .string ⟨#[]⟩] 36)).heap[w.heap.size]? = some (.cells #[.int .i64 0, .int .i64 0, .string ⟨#[]⟩] 36) := heap_alloc_new _ _
  have g0 := grown_alloc (grown_refl w (some b)) (.cells #[.int .i64 0, .int .i64 0, .string ⟨#[]⟩] 36)
  have e1 : numL (tkB 1 (2 :: r)) = 2 := by simp [tkB, numL]
  have e2 : tkL 1 (2 :: r) = r := by simp [tkL]
  have e3 : decide ((2 :: r).length < 1) = false := by simp
  rw [show (1 : Int).toNat = 1 from rfl, e1, e2, e3] at n1
  clear e1 e2 e3
  have HV := hide (valP_two r)
  clear hb
  go_enter Try.func22, Try.ntmps22
  go_wp2_with fail
  refine n1.mono ?_
  rintro e w1 ⟨rfl, r1, g1⟩
  have k1 := (g1.block w.heap.size (by simp) (by simp; omega)).trans k0
  have z1 : w.heap.size < w1.heap.size := by have := g1.size; simp at this; omega
  have g1 := grown_trans g0 g1
  have p : w.heap.size ≠ b := by omega
  have zb : b < w1.heap.size := by omega
  clear k0 g0 n1
  have n2 := number_any b 1 r (false || false) _ (r1.alloc (.cells #[.int .i64 2, .int .i64 0, .string ⟨#[]⟩] 36)) (by decide) (by decide)
  have g1 := grown_alloc g1 (.cells #[.int .i64 2, .int .i64 0, .string ⟨#[]⟩] 36)
  have k1 : (w1.alloc (.cells #[.int .i64 2, .int .i64 0, .string ⟨#[]⟩] 36)).heap[w.heap.size]? = some (.cells #[.int .i64 0, .int .i64 0, .string ⟨#[]⟩] 36) := (((Below.refl w1.heap.size w1).alloc (Nat.le_refl _) _).block _ z1).trans k1
  have v1 : (w1.alloc (.cells #[.int .i64 2, .int .i64 0, .string ⟨#[]⟩] 36)).heap[w1.heap.size]? = some (.cells #[.int .i64 2, .int .i64 0, .string ⟨#[]⟩] 36) := heap_alloc_new _ _
  rw [show (1 : Int).toNat = 1 from rfl, Bool.false_or] at n2
  clear r1
  go_wp2_with fail
  refine n2.mono ?_
  rintro e w2 ⟨rfl, r2, g2⟩
  have k2 := (g2.block w.heap.size (by simp; omega) (by simp; omega)).trans k1
  have v2 := (g2.block w1.heap.size (by simp) (by simp; omega)).trans v1
  have z2 : w1.heap.size < w2.heap.size := by have := g2.size; simp at this; omega
  have g2 := grown_trans g1 g2
  clear k1 v1 g1 n2
  generalize numL (tkB 1 r) = n at HV ⊢
  generalize tkL 1 r = L1 at HV r2
  generalize (false || decide (r.length < 1)) = wr1 at HV r2
  have n3 := take_any b (n : Int) L1 wr1 w2 r2 (by omega)
  rw [Int.toNat_natCast] at n3
  clear r2
  go_wp2_with fail
  refine n3.mono ?_
  rintro e w3 ⟨rfl, r3, g3⟩
  have k3 := (g3.block w.heap.size (by omega) (by simp; omega)).trans k2
  have v3 := (g3.block w1.heap.size (by omega) (by simp; omega)).trans v2
  have g3 := grown_trans g2 g3
  clear k2 v2 g2 n3
  generalize tkB n L1 = s at HV ⊢
  generalize tkL n L1 = L' at HV r3
  generalize (wr1 || decide (L1.length < n)) = wr at HV r3
  obtain ⟨⟨v0, v1, v2⟩, y0, y1, y2⟩ := three v3
  obtain ⟨⟨c0, c1, c2⟩, f0, f1, f2⟩ := three k3
  have kk' := (heap_setCell_other w3 ⟨w1.heap.size, 2, none⟩ w.heap.size (.string ⟨s.toArray⟩) (by simp; omega)).trans k3
  have rr' := r3.put (show w1.heap.size ≠ b by omega) 2 (.string ⟨s.toArray⟩)
  have gg' := grown_put g3 (show w.heap.size ≤ w1.heap.size by omega) 2 (.string ⟨s.toArray⟩)
  have kz := three_put kk' (.int .i64 2) (.int .i64 0) (.string ⟨s.toArray⟩)
  have rz := ((rr'.put p 0 (.int .i64 2)).put p 1 (.int .i64 0)).put p 2 (.string ⟨s.toArray⟩)
  have gz := grown_put (grown_put (grown_put gg' (Nat.le_refl _) 0 (.int .i64 2)) (Nat.le_refl _) 1 (.int .i64 0)) (Nat.le_refl _) 2 (.string ⟨s.toArray⟩)
  have Kz := hide kz
  have Rz := hide rz
  have Gz := hide gz
  clear kz rz gz kk' rr' gg'
  go_wp2_with fail
  generalize ((((w3.setCell ⟨w1.heap.size, 2, none⟩ (.string ⟨s.toArray⟩)).setCell ⟨w.heap.size, 0, none⟩ (.int .i64 2)).setCell ⟨w.heap.size, 1, none⟩ (.int .i64 0)).setCell ⟨w.heap.size, 2, none⟩ (.string ⟨s.toArray⟩)) = wz at *
  obtain ⟨⟨e0, e1, e2⟩, -⟩ := three Kz.out
  refine bodyPost_ret (v := vlV ⟨2, 0, s⟩) ?_ rfl ⟨_, _, _, rfl, Rz.out, Gz.out, HV.out⟩
  simp [results, Try.results22, go_sem, vlV, e0, e1, e2]


set_option maxRecDepth 100000 in
set_option maxHeartbeats 1600000 in
theorem value_x (b : Nat) (c : UInt8) (r : List UInt8) (h0 : ((c.toNat : Int) == 0) = false) (h1 : ((c.toNat : Int) == 1) = false) (h2 : ((c.toNat : Int) == 2) = false) (h3 : ((c.toNat : Int) == 3) = false) (w : World) (hb : RdAt w b (c :: r) false) :
    Calls Try.prog 22 #[.pointer (some ⟨b, 0, none⟩)] w fun e w' => ValPost w b (c :: r) e w' := by
  have n1 := number_any b 1 _ false _ (hb.alloc (.cells #[.int .i64 0, .int .i64 0, .string ⟨#[]⟩] 36)) (by decide) (by decide)
  have hlt := hb.lt
  have k0 : (w.alloc (.cells #[.int .i64 0, .int .i64 0, .string ⟨#[]⟩] 36)).heap[w.heap.size]? = some (.cells #[.int .i64 0, .int .i64 0, .string ⟨#[]⟩] 36) := heap_alloc_new _ _
  have g0 := grown_alloc (grown_refl w (some b)) (.cells #[.int .i64 0, .int .i64 0, .string ⟨#[]⟩] 36)
  have e1 : numL (tkB 1 (c :: r)) = c.toNat := by simp [tkB, numL]
  have e2 : tkL 1 (c :: r) = r := by simp [tkL]
  have e3 : decide ((c :: r).length < 1) = false := by simp
  rw [show (1 : Int).toNat = 1 from rfl, e1, e2, e3] at n1
  clear e1 e2 e3
  have HV : Hid (valP (c :: r) = none) := by
    have hc : ∀ d : UInt8, ((c.toNat : Int) == (d.toNat : Int)) = false → c ≠ d := by
      intro d hd e; rw [e] at hd; simp at hd
    show valP (c :: r) = none
    simp only [valP]
    rw [if_neg (hc 0 h0), if_neg (hc 1 h1), if_neg (hc 2 h2), if_neg (hc 3 h3)]
  clear hb
  go_enter Try.func22, Try.ntmps22
  go_wp2_with fail
  refine n1.mono ?_
  rintro e w1 ⟨rfl, r1, g1⟩
  have k1 := (g1.block w.heap.size (by simp) (by simp; omega)).trans k0
  have z1 : w.heap.size < w1.heap.size := by have := g1.size; simp at this; omega
  have g1 := grown_trans g0 g1
  have p : w.heap.size ≠ b := by omega
  have zb : b < w1.heap.size := by omega
  clear k0 g0 n1
  obtain ⟨⟨x0, x1⟩, y0, y1⟩ := two r1
  obtain ⟨⟨a0, a1, a2⟩, b0, b1, b2⟩ := three k1
  have k1 := (heap_setCell_other w1 ⟨b, 1, none⟩ w.heap.size (.bool true) (by simp; omega)).trans k1
  have r1 := r1.wrong
  have g1 := grown_trans g1 (grown_set w1 b 1 (.bool true))
  obtain ⟨⟨c0, c1, c2⟩, f0, f1, f2⟩ := three k1
  have kz := three_put k1 (.int .i64 (c.toNat : Int)) (.int .i64 0) (.string ⟨#[]⟩)
  have rz := ((r1.put p 0 (.int .i64 (c.toNat : Int))).put p 1 (.int .i64 0)).put p 2 (.string ⟨#[]⟩)
  have gz := grown_put (grown_put (grown_put g1 (Nat.le_refl _) 0 (.int .i64 (c.toNat : Int))) (Nat.le_refl _) 1 (.int .i64 0)) (Nat.le_refl _) 2 (.string ⟨#[]⟩)
  have kz := (((Below.refl _ _).alloc (Nat.le_refl _) (.cells #[.int .i64 (c.toNat : Int), .int .i64 0, .string ⟨#[]⟩] 36)).block _ (Array.getElem?_eq_some_iff.1 kz).1).trans kz
  have rz := rz.alloc (.cells #[.int .i64 (c.toNat : Int), .int .i64 0, .string ⟨#[]⟩] 36)
  have gz := grown_alloc gz (.cells #[.int .i64 (c.toNat : Int), .int .i64 0, .string ⟨#[]⟩] 36)
  have Kz := hide kz
  have Rz := hide rz
  have Gz := hide gz
  clear kz rz gz 
  go_wp2_with fail
  generalize (((((w1.setCell ⟨b, 1, none⟩ (.bool true)).setCell ⟨w.heap.size, 0, none⟩ (.int .i64 (c.toNat : Int))).setCell ⟨w.heap.size, 1, none⟩ (.int .i64 0)).setCell ⟨w.heap.size, 2, none⟩ (.string ⟨#[]⟩)).alloc (.cells #[.int .i64 (c.toNat : Int), .int .i64 0, .string ⟨#[]⟩] 36)) = wz at *
  obtain ⟨⟨e0, e1, e2⟩, -⟩ := three Kz.out
  refine bodyPost_ret (v := vlV ⟨(c.toNat : Int), 0, []⟩) ?_ rfl ⟨_, _, true, rfl, Rz.out, Gz.out, HV.out⟩
  simp [results, Try.results22, go_sem, vlV, e0, e1, e2]


theorem value_any (b : Nat) (L : List UInt8) (w : World) (hb : RdAt w b L false) :
    Calls Try.prog 22 #[.pointer (some ⟨b, 0, none⟩)] w fun e w' => ValPost w b L e w' := by
  cases L with
  | nil => exact value_no b w hb
  | cons c r =>
    have hq : ∀ d : UInt8, c ≠ d → ((c.toNat : Int) == (d.toNat : Int)) = false := by
      intro d hd
      rw [beq_eq_false_iff_ne]
      intro e
      exact hd (UInt8.toNat_inj.1 (by omega))
    by_cases h0 : c = 0
    · subst h0; exact value_0 b r w hb
    by_cases h1 : c = 1
    · subst h1; exact value_1 b r w hb
    by_cases h2 : c = 2
    · subst h2; exact value_2 b r w hb
    by_cases h3 : c = 3
    · subst h3; exact value_3 b r w hb
    exact value_x b c r (hq 0 h0) (hq 1 h1) (hq 2 h2) (hq 3 h3) w hb

end Go.Proofs.Ytkpeklealgicpac
