/-
  The reader of package row: 'take', 'number'.
-/
import Derived.Test.YtkpeklealgicpacRowP
import Derived.Lib.QuoteBits
import Derived.Lib.ConvBytes
namespace Go.Proofs.Ytkpeklealgicpac
open Go.RowKit

theorem grown_refl (w : World) (r : Option Nat) : w.grownBy w r := ⟨rfl, rfl, rfl, Nat.le_refl _, fun _ _ _ => rfl⟩
theorem grown_below {w w' : World} (h : Below w.heap.size w w') (r : Option Nat) : w.grownBy w' r := ⟨h.os, h.tape, h.output, h.size, fun k hk _ => h.block k hk⟩
theorem grown_trans {a b c : World} {r : Option Nat} (h : a.grownBy b r) (k : b.grownBy c r) : a.grownBy c r :=
  ⟨k.os.trans h.os, k.tape.trans h.tape, k.output.trans h.output, Nat.le_trans h.size k.size, fun j hj hr => (k.block j (Nat.lt_of_lt_of_le hj h.size) hr).trans (h.block j hj hr)⟩
theorem grown_set (w : World) (b o : Nat) (x : Value) : w.grownBy (w.setCell ⟨b, o, none⟩ x) (some b) :=
  ⟨rfl, rfl, rfl, by simp [World.setCell], fun k _ hr => heap_setCell_other w _ k x (by intro e; exact hr (by rw [e]))⟩
theorem grown_put {w w' : World} {r : Option Nat} (h : w.grownBy w' r) {b : Nat} (hb : w.heap.size ≤ b) (o : Nat) (x : Value) : w.grownBy (w'.setCell ⟨b, o, none⟩ x) r :=
  ⟨h.os, h.tape, h.output, by simpa [World.setCell] using h.size, fun k hk hr => (heap_setCell_other w' _ k x (by simp only; omega)).trans (h.block k hk hr)⟩
theorem grown_alloc {w w' : World} {r : Option Nat} (h : w.grownBy w' r) (o : Obj) : w.grownBy (w'.alloc o) r :=
  grown_trans h (grown_below ((Below.refl _ _).alloc (Nat.le_refl _) o) r)

theorem two {W : World} {b : Nat} {x y : Value} {t : TypeId} (h : W.heap[b]? = some (.cells #[x, y] t)) :
    (W.cell? ⟨b, 0, none⟩ = some x ∧ W.cell? ⟨b, 1, none⟩ = some y) ∧ (W.frozen? ⟨b, 0, none⟩ = false ∧ W.frozen? ⟨b, 1, none⟩ = false) := by
  refine ⟨⟨?_, ?_⟩, Lib.frozen_of_heap h 0, Lib.frozen_of_heap h 1⟩
  all_goals (rw [Lib.cell_of_heap h]; rfl)

theorem inner (l : List UInt8) (a b : Nat) : (⟨l.toArray⟩ : ByteArray).extract a b = ⟨((l.drop a).take (b - a)).toArray⟩ := by
  apply ByteArray.ext
  apply Array.ext'
  have := Lib.extract_data (⟨l.toArray⟩ : ByteArray) a b
  rw [this]
def tkB (m : Nat) (L : List UInt8) : List UInt8 := if L.length < m then [] else L.take m
def tkL (m : Nat) (L : List UInt8) : List UInt8 := if L.length < m then L else L.drop m

/-- a reader in memory -/
def RdAt (w : World) (b : Nat) (L : List UInt8) (wr : Bool) : Prop := w.heap[b]? = some (.cells #[.string ⟨L.toArray⟩, .bool wr] 39)

set_option maxRecDepth 100000 in
set_option maxHeartbeats 800000 in
theorem take_any (b : Nat) (m : Int) (L : List UInt8) (wr : Bool) (w : World) (hb : RdAt w b L wr) (h0 : 0 ≤ m) :
    Calls Try.prog 29 #[.pointer (some ⟨b, 0, none⟩), .int .i64 m] w fun e w' => e = .returned (.string ⟨(tkB m.toNat L).toArray⟩) ∧ RdAt w' b (tkL m.toNat L) (wr || decide (L.length < m.toNat)) ∧ w.grownBy w' (some b) := by
  obtain ⟨n, rfl⟩ := Int.eq_ofNat_of_zero_le h0
  rw [Int.toNat_natCast]
  obtain ⟨⟨c0, c1⟩, f0, f1⟩ := two hb
  have hsz := size_mk L
  by_cases h : L.length < n
  · have hd : ((n : Int) > (L.length : Int)) := by omega
    rw [decide_eq_true h, Bool.or_true, tkB, tkL, if_pos h, if_pos h]
    have H : Hid (RdAt (w.setCell ⟨b, 1, none⟩ (.bool true)) b L true) := heap_setCell_same w b 1 _ 39 _ hb
    clear hb
    go_enter Try.func29, Try.ntmps29
    go_wp2
    go_ret
    exact ⟨rfl, H.out, grown_set _ _ _ _⟩
  · have hd : ¬ ((n : Int) > (L.length : Int)) := by omega
    have hd2 : (n : Int) ≤ (L.length : Int) := by omega
    rw [decide_eq_false h, Bool.or_false, tkB, tkL, if_neg h, if_neg h]
    have H : Hid (RdAt (w.setCell ⟨b, 0, none⟩ (.string ⟨(L.drop n).toArray⟩)) b (L.drop n) wr) := heap_setCell_same w b 0 _ 39 _ hb
    clear hb
    go_enter Try.func29, Try.ntmps29
    go_wp2
    go_ret
    have e1 : (⟨L.toArray⟩ : ByteArray).extract 0 n = ⟨(L.take n).toArray⟩ := by rw [inner]; simp
    have e2 : (⟨L.toArray⟩ : ByteArray).extract n L.length = ⟨(L.drop n).toArray⟩ := by rw [inner, List.take_of_length_le (by simp)]
    rw [e2]
    exact ⟨by rw [← e1]; rfl, H.out, grown_set _ _ _ _⟩

theorem numL_append (a b : List UInt8) : numL (a ++ b) = numL a + 256 ^ a.length * numL b := by
  induction a with
  | nil => simp [numL]
  | cons c r ih =>
    rw [List.cons_append, numL, numL, ih, List.length_cons, Nat.pow_succ, Nat.mul_add, Nat.mul_comm (256 ^ r.length) 256, Nat.mul_assoc]
    omega

theorem or_nat (a b : Nat) (ha : a < 9223372036854775808) (hb : b < 9223372036854775808) (h : a ||| b < 9223372036854775808) : bits .or .i64 (a : Int) (b : Int) = ((a ||| b : Nat) : Int) := by
  show IntKind.i64.wrap ((BitVec.ofInt 64 (a : Int) ||| BitVec.ofInt 64 (b : Int)).toNat : Int) = _
  rw [BitVec.toNat_or, ofInt_u64 a (by omega), ofInt_u64 b (by omega)]
  exact Lib.wrap_i64_small _ (by omega)

theorem or_place (a c i : Nat) (hi : i ≤ 3) (ha : a < 256 ^ i) (hc : c < 256) : bits .or .i64 (a : Int) ((c * 256 ^ i : Nat) : Int) = ((a + c * 256 ^ i : Nat) : Int) := by
  have e : a ||| c * 256 ^ i = a + c * 256 ^ i := by
    have e1 : 256 ^ i = 2 ^ (8 * i) := by rw [Nat.pow_mul]
    rw [e1] at ha ⊢
    have := Nat.shiftLeft_add_eq_or_of_lt ha c
    rw [Nat.shiftLeft_eq] at this
    rw [Nat.or_comm, ← this]; omega
  have b1 : 256 ^ i ≤ 16777216 := by
    have := Nat.pow_le_pow_right (show 0 < 256 by decide) hi
    simpa using this
  have b2 : c * 256 ^ i ≤ 256 * 16777216 := Nat.mul_le_mul (by omega) b1
  rw [or_nat a _ (by omega) (by omega) (by rw [e]; omega), e]

theorem wrap_place (c i : Nat) (hi : i ≤ 3) (hc : c < 256) : wrap64 ((c : Int) * 2 ^ (8 * i)) = ((c * 256 ^ i : Nat) : Int) := by
  have e : (c : Int) * 2 ^ (8 * i) = ((c * 256 ^ i : Nat) : Int) := by
    have e1 : 256 ^ i = 2 ^ (8 * i) := by rw [Nat.pow_mul]
    rw [e1]; simp
  have b1 : 256 ^ i ≤ 16777216 := by
    have := Nat.pow_le_pow_right (show 0 < 256 by decide) hi
    simpa using this
  have b2 : c * 256 ^ i ≤ 256 * 16777216 := Nat.mul_le_mul (by omega) b1
  rw [e]
  unfold wrap64
  omega

theorem tkB_len (m : Nat) (L : List UInt8) : (tkB m L).length ≤ m := by
  unfold tkB
  by_cases h : L.length < m
  · rw [if_pos h]; exact Nat.zero_le _
  · rw [if_neg h, List.length_take]; omega

theorem grown_bytes (w : World) (e : TypeId) (s : ByteArray) (r : Option Nat) : w.grownBy (Lib.bytesWorld w e s) r :=
  ⟨by simp [Lib.bytesWorld, World.freeze, World.alloc, World.drew, -World.alloc_eq, -World.drew_eq], by simp [Lib.bytesWorld, World.freeze, World.alloc, World.drew, -World.alloc_eq, -World.drew_eq], by simp [Lib.bytesWorld, World.freeze, World.alloc, World.drew, -World.alloc_eq, -World.drew_eq],
   by rw [Lib.bytesWorld_size]; omega, fun k hk _ => Lib.bytesWorld_at_old w e s k hk⟩

theorem numL_at (B : List UInt8) (k : Nat) (c : UInt8) (h : B[k]? = some c) : numL (B.take (k + 1)) = numL (B.take k) + c.toNat * 256 ^ k := by
  obtain ⟨hk, rfl⟩ := List.getElem?_eq_some_iff.1 h
  rw [List.take_succ_eq_append_getElem hk, numL_append]
  have : (B.take k).length = k := by rw [List.length_take]; omega
  rw [this]
  simp [numL, Nat.mul_comm]

set_option maxRecDepth 100000 in
set_option maxHeartbeats 1600000 in
theorem number_any (b : Nat) (m : Int) (L : List UInt8) (wr : Bool) (w : World) (hb : RdAt w b L wr) (h0 : 0 ≤ m) (hm : m ≤ 4) :
    Calls Try.prog 21 #[.pointer (some ⟨b, 0, none⟩), .int .i64 m] w fun e w' => e = .returned (.int .i64 (numL (tkB m.toNat L) : Nat)) ∧ RdAt w' b (tkL m.toNat L) (wr || decide (L.length < m.toNat)) ∧ w.grownBy w' (some b) := by
  have ht := take_any b m L wr w hb h0
  obtain ⟨B, hB⟩ : ∃ B, tkB m.toNat L = B := ⟨_, rfl⟩
  have hl := tkB_len m.toNat L
  have hbl := (Array.getElem?_eq_some_iff.1 hb).1
  rw [hB] at ht hl ⊢
  clear hB hb
  have hl4 : B.length ≤ 4 := by omega
  have hsz := size_mk B
  generalize tkL m.toNat L = L' at ht ⊢
  generalize (wr || decide (L.length < m.toNat)) = wr' at ht ⊢
  go_enter Try.func21, Try.ntmps21
  have hcv := fun W => Lib.run_convert_string_bytes (P := Try.prog) W 9 33 5 ⟨B.toArray⟩ (u := .string) Try.underlying9 Try.underlying33 Try.underlying5
  go_wp2_with (go_at_call 29; refine ht.mono ?_; rintro e w1 ⟨rfl, r1, g1⟩)
  have hcell := Lib.bytesWorld_cell w1 5 ⟨B.toArray⟩
  have g2 := hide (grown_trans g1 (grown_bytes w1 5 ⟨B.toArray⟩ (some b)))
  have r2 : Hid (RdAt (Lib.bytesWorld w1 5 ⟨B.toArray⟩) b L' wr') := (Lib.bytesWorld_at_old w1 5 ⟨B.toArray⟩ b (Nat.lt_of_lt_of_le hbl g1.size)).trans r1
  clear r1 g1 hcv ht
  generalize Lib.bytesWorld w1 5 ⟨B.toArray⟩ = W at hcell g2 r2 ⊢
  generalize w1.heap.size = nb at hcell ⊢
  go_loop [5, 13] (fun n i => ∃ k : Nat, k ≤ B.length ∧ i = .int .i64 k ∧ n = .int .i64 (numL (B.take k) : Nat)) (fun _ i => B.length - (intOf i).toNat)
  case atStart => exact ⟨0, Nat.zero_le _, rfl, rfl⟩
  case round =>
    obtain ⟨k, hk, rfl, rfl⟩ := hrel
    by_cases hlt : k < B.length
    · obtain ⟨c, hc⟩ : ∃ c, B[k]? = some c := ⟨B[k], List.getElem?_eq_getElem hlt⟩
      have hc0 : W.cell? ⟨nb, k, none⟩ = some (.int .u8 (c.toNat : Int)) := by
        rw [hcell k (by rw [size_mk]; exact hlt)]
        simp [List.getD, hc]
      have HN := hide (numL_at B k c hc)
      have hN := numL_lt (B.take k)
      have hkl : (B.take k).length = k := by rw [List.length_take]; omega
      rw [hkl] at hN
      have hc1 := c.toNat_lt
      clear hcell hc hkl
      generalize numL (B.take k) = a at HN hN ⊢
      obtain ⟨a', HA⟩ : ∃ a', Hid (numL (B.take (k + 1)) = a') := ⟨_, rfl⟩
      rw [Hid, HA.out] at HN
      replace HN : Hid (a' = a + c.toNat * 256 ^ k) := HN
      have HO := hide (or_place a c.toNat k (by omega) hN hc1)
      have HW := hide (wrap_place c.toNat k (by omega) hc1)
      have hlt' : (k : Int) < (B.length : Int) := by omega
      go_wp2
      go_round
      case rel =>
        refine ⟨k + 1, hlt, by go_num, ?_⟩
        rw [HA.out, HN.out, HW.out, HO.out]
      case measure => simp [intOf]; omega
    · go_wp2
      go_ret
      exact ⟨by rw [List.take_of_length_le (by omega)]; rfl, r2.out, g2.out⟩

end Go.Proofs.Ytkpeklealgicpac
