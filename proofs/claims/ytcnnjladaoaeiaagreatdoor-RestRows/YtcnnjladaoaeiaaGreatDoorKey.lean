/-
  'tenDigits' and 'Key' of package value.
-/
import Derived.Test.YtcnnjladaoaeiaaGreatDoorCheck
namespace Go.Proofs.YtcnnjladaoaeiaaGreatDoor
open Go.RowKit

theorem var_keep {P : Program} {W W' : World} {n : String} {cs : Array Value} (h : Below W.heap.size W W') (hv : W.var? P n = some cs) : W'.var? P n = some cs := by
  unfold World.var? at hv ⊢
  cases hg : P.globalNamed n with
  | none => rw [hg] at hv; cases hv
  | some g =>
    rw [hg] at hv
    simp only [Option.bind_some] at hv ⊢
    have hlt : g < W.heap.size := by
      rcases Nat.lt_or_ge g W.heap.size with h1 | h1
      · exact h1
      · rw [Array.getElem?_eq_none h1] at hv; cases hv
    rw [h.block g hlt]
    exact hv

/-- what the library's package-level variables hold, as far as this program reads them -/
def Laid (w : World) : Prop :=
  Lib.TabIs Tryz.prog w "internal/strconv.uint64pow10" .u64 Lib.pow10Tab ∧ (∃ tp p, w.var? Tryz.prog "strconv.ErrSyntax" = some #[.iface tp p]) ∧ (∃ tp p, w.var? Tryz.prog "strconv.ErrRange" = some #[.iface tp p])

theorem Laid.below {w w' : World} (h : Laid w) (hb : Below w.heap.size w w') : Laid w' := by
  obtain ⟨h1, ⟨tp, p, h2⟩, tq, q, h3⟩ := h
  exact ⟨var_keep hb h1, ⟨tp, p, var_keep hb h2⟩, tq, q, var_keep hb h3⟩

theorem Laid.of_below {B : Nat} {w w' : World} (h : Laid w) (hb : Below B w w') (hB : w.heap.size ≤ B) : Laid w' := h.below (hb.mono hB)

theorem below_grow (w : World) (q : Nat) (os : Array Obj) : Below w.heap.size w (Sort.grow (w.drewN q) os) := by
  refine ⟨rfl, rfl, rfl, ?_, ?_⟩
  · show w.heap.size ≤ (w.heap ++ os).size
    simp
  · intro k hk
    show (w.heap ++ os)[k]? = w.heap[k]?
    rw [Array.getElem?_append_left hk]

theorem itoa_any (n : Int) (w : World) (h0 : -9223372036854775808 ≤ n) (h1 : n ≤ 9223372036854775807) (hl : Laid w) :
    Calls Tryz.prog 163 #[.int .i64 n] w fun e w' => e = .returned (.string ⟨(Lib.itoa n).toArray⟩) ∧ Below w.heap.size w w' := by
  refine (Tryz.strconv_Itoa n h0 h1 w hl.1).mono ?_
  rintro e w' ⟨rfl, k, os, rfl⟩
  exact ⟨rfl, below_grow w k os⟩

theorem decDigits_len : ∀ (k u : Nat), u < 10 ^ (k + 1) → 1 ≤ (Lib.decDigits u).length ∧ (Lib.decDigits u).length ≤ k + 1 := by
  intro k
  induction k with
  | zero =>
    intro u h
    rw [Lib.decDigits, dif_pos (by simpa using h)]
    simp
  | succ k ih =>
    intro u h
    rw [Lib.decDigits]
    split
    · simp
    · have := ih (u / 10) (by rw [Nat.pow_succ] at h; omega)
      simp; omega

/-- ten digits -/
def tenL (n : Int) : List UInt8 := Lib.repeatL [48] (10 - (Lib.itoa n).length) ++ Lib.itoa n

set_option maxRecDepth 100000 in
set_option maxHeartbeats 400000 in
theorem ten_any (n : Int) (w : World) (h0 : 0 ≤ n) (h1 : n ≤ 1999999999) (hl : Laid w) :
    Calls Tryz.prog 164 #[.int .i64 n] w fun e w' => e = .returned (.string ⟨(tenL n).toArray⟩) ∧ Below w.heap.size w w' := by
  have hi := itoa_any n w (by omega) (by omega) hl
  have hlen : (Lib.itoa n).length ≤ 10 := by
    unfold Lib.itoa
    rw [if_neg (by omega)]
    exact (decDigits_len 9 n.toNat (by omega)).2
  have ht : tenL n = Lib.repeatL [48] (10 - (Lib.itoa n).length) ++ Lib.itoa n := rfl
  obtain ⟨D, hD⟩ : ∃ D, Lib.itoa n = D := ⟨_, rfl⟩
  rw [hD] at hi hlen ht
  have HT := hide ht
  clear hD ht
  have hsz := size_mk D
  have hr := fun W => Tryz.strings_Repeat ⟨#[48]⟩ (10 - D.length) W (by omega) (by show 1 * (10 - D.length) ≤ _; omega)
  have hc : ((10 - D.length : Nat) : Int) = 10 - (D.length : Int) := by omega
  rw [hc] at hr
  have hrl : (Lib.repeatL [48] (10 - D.length)).length = 10 - D.length := by rw [Lib.repeatL_length]; simp
  obtain ⟨R, hR⟩ : ∃ R, Lib.repeatL [48] (10 - D.length) = R := ⟨_, rfl⟩
  have hr2 : ∀ W : World, Calls Tryz.prog 179 #[.string ⟨#[48]⟩, .int .i64 (10 - (D.length : Int))] W fun e w' => e = .returned (.string ⟨R.toArray⟩) ∧ Below W.heap.size W w' := by
    intro W; have := hr W; rw [← hR]; exact this
  rw [hR] at hrl
  have HR := hide hR
  clear hR hr hc
  have hsr := size_mk R
  go_enter Tryz.func164, Tryz.ntmps164
  go_wp2_with (first | (go_at_call 163; refine hi.mono ?_; rintro e w1 ⟨rfl, hb1⟩) | (go_at_call 179; refine (hr2 _).mono ?_; rintro e w2 ⟨rfl, hb2⟩))
  go_ret
  rw [HT.out, HR.out, ← mk_append]
  exact ⟨rfl, hb1.trans (hb2.mono hb1.size)⟩

/-- what Key answers of a right value -/
def keyV (K N : Int) (S : List UInt8) : List UInt8 :=
  if K = 1 then 49 :: tenL (N + 1000000000)
  else if K = 2 then 50 :: S
  else if K = 3 then 51 :: Lib.itoa N
  else [48]

theorem chk_zero {K N : Int} {S : List UInt8} (h : chkV K N S = 0) :
    (K = 0 ∧ N = 0 ∧ S = []) ∨ (K = 1 ∧ (-999999999 ≤ N ∧ N ≤ 999999999) ∧ S = []) ∨ (K = 2 ∧ N = 0 ∧ S.length ≤ 20 ∧ S.all isQ = true) ∨ (K = 3 ∧ (N = 0 ∨ N = 1) ∧ S = []) := by
  unfold chkV at h
  by_cases h0 : K = 0
  · rw [if_pos h0] at h
    by_cases h1 : N = 0 ∧ S = []
    · exact Or.inl ⟨h0, h1⟩
    · rw [if_neg h1] at h; cases h
  rw [if_neg h0] at h
  by_cases h0 : K = 1
  · rw [if_pos h0] at h
    by_cases h1 : isInt N = true ∧ S = []
    · refine Or.inr (Or.inl ⟨h0, ?_, h1.2⟩)
      have := h1.1
      simp only [isInt, Bool.and_eq_true, decide_eq_true_eq] at this
      exact this
    · rw [if_neg h1] at h; cases h
  rw [if_neg h0] at h
  by_cases h0 : K = 2
  · rw [if_pos h0] at h
    by_cases h1 : N = 0 ∧ quotB S = true
    · refine Or.inr (Or.inr (Or.inl ⟨h0, h1.1, ?_⟩))
      have := h1.2
      simp only [quotB, Bool.and_eq_true, decide_eq_true_eq] at this
      exact this
    · rw [if_neg h1] at h; cases h
  rw [if_neg h0] at h
  by_cases h0 : K = 3
  · rw [if_pos h0] at h
    by_cases h1 : (N = 0 ∨ N = 1) ∧ S = []
    · exact Or.inr (Or.inr (Or.inr ⟨h0, h1⟩))
    · rw [if_neg h1] at h; cases h
  rw [if_neg h0] at h; cases h

set_option maxRecDepth 100000 in
set_option maxHeartbeats 400000 in
theorem key_bad (K N : Int) (s : ByteArray) (w : World) (E : Nat) (hc : ∀ W : World, Calls Tryz.prog 124 #[.agg #[.int .i64 K, .int .i64 N, .string s]] W fun e w' => e = .returned (.int .i64 (E : Nat)) ∧ Below W.heap.size W w') (hE : ((E : Int) != 0) = true) :
    Calls Tryz.prog 142 #[.agg #[.int .i64 K, .int .i64 N, .string s]] w fun e w' => e = .returned (.tuple #[.string ⟨#[]⟩, .int .i64 (E : Nat)]) ∧ Below w.heap.size w w' := by
  go_enter Tryz.func142, Tryz.ntmps142
  go_wp2_with (go_at_call 124; refine (hc _).mono ?_; rintro e w1 ⟨rfl, hb1⟩)
  go_ret2
  exact ⟨rfl, ((Below.refl _ _).alloc (Nat.le_refl _) _).trans (hb1.mono (by simp))⟩

theorem itoa_0 : Lib.itoa 0 = [48] := by simp [Lib.itoa, Lib.decDigits]
theorem itoa_1 : Lib.itoa 1 = [49] := by simp [Lib.itoa, Lib.decDigits]
theorem itoa_2 : Lib.itoa 2 = [50] := by simp [Lib.itoa, Lib.decDigits]
theorem itoa_3 : Lib.itoa 3 = [51] := by simp [Lib.itoa, Lib.decDigits]

set_option maxRecDepth 100000 in
set_option maxHeartbeats 400000 in
theorem key_0 (N : Int) (s : ByteArray) (w : World) (hl : Laid w) (hc : ∀ W : World, Calls Tryz.prog 124 #[.agg #[.int .i64 0, .int .i64 N, .string s]] W fun e w' => e = .returned (.int .i64 0) ∧ Below W.heap.size W w') :
    Calls Tryz.prog 142 #[.agg #[.int .i64 0, .int .i64 N, .string s]] w fun e w' => e = .returned (.tuple #[.string ⟨#[48]⟩, .int .i64 0]) ∧ Below w.heap.size w w' := by
  have hi := fun W hW => itoa_any 0 W (by decide) (by decide) (hl.below hW)
  rw [itoa_0] at hi
  have HL := hide hl
  clear hl
  go_enter Tryz.func142, Tryz.ntmps142
  go_wp2_with (first | (go_at_call 124; refine (hc _).mono ?_; rintro e w1 ⟨rfl, hb1⟩; have q1 : Below w.heap.size w w1 := ((Below.refl _ _).alloc (Nat.le_refl _) _).trans (hb1.mono (by simp)); have c0 : w1.cell? ⟨w.heap.size, 0, none⟩ = some (.int .i64 0) := (hb1.cell (by simp)).trans (by simp)) | (go_at_call 163; refine (hi _ q1).mono ?_; rintro e w2 ⟨rfl, hb2⟩; have d0 := (hb2.cell (p := ⟨w.heap.size, 0, none⟩) (by have := hb1.size; simp at this ⊢; omega)).trans c0))
  go_ret2
  exact ⟨rfl, q1.trans (hb2.mono q1.size)⟩

set_option maxRecDepth 100000 in
set_option maxHeartbeats 400000 in
theorem key_1 (N : Int) (s : ByteArray) (w : World) (hl : Laid w) (h0 : -999999999 ≤ N) (h1 : N ≤ 999999999) (hc : ∀ W : World, Calls Tryz.prog 124 #[.agg #[.int .i64 1, .int .i64 N, .string s]] W fun e w' => e = .returned (.int .i64 0) ∧ Below W.heap.size W w') :
    Calls Tryz.prog 142 #[.agg #[.int .i64 1, .int .i64 N, .string s]] w fun e w' => e = .returned (.tuple #[.string ⟨(49 :: tenL (N + 1000000000)).toArray⟩, .int .i64 0]) ∧ Below w.heap.size w w' := by
  have hi := fun W hW => itoa_any 1 W (by decide) (by decide) (hl.below hW)
  rw [itoa_1] at hi
  have ht := fun W hW => ten_any (N + 999999999 + 1) W (by omega) (by omega) (hl.below hW)
  have hN : N + 999999999 + 1 = N + 1000000000 := by omega
  have hT : (tenL (N + 999999999 + 1)).length ≤ 2000 := by
    unfold tenL
    rw [List.length_append, Lib.repeatL_length]
    have : (Lib.itoa (N + 999999999 + 1)).length ≤ 10 := by
      unfold Lib.itoa
      rw [if_neg (by omega)]
      exact (decDigits_len 9 _ (by omega)).2
    simp; omega
  obtain ⟨T, hTe⟩ : ∃ T, tenL (N + 999999999 + 1) = T := ⟨_, rfl⟩
  rw [hTe] at ht hT
  rw [hN] at hTe
  rw [hTe]
  have hts := size_mk T
  clear hTe hN hl
  go_enter Tryz.func142, Tryz.ntmps142
  go_wp2_with (first | (go_at_call 124; refine (hc _).mono ?_; rintro e w1 ⟨rfl, hb1⟩; have q1 : Below w.heap.size w w1 := ((Below.refl _ _).alloc (Nat.le_refl _) _).trans (hb1.mono (by simp)); have c0 : w1.cell? ⟨w.heap.size, 0, none⟩ = some (.int .i64 1) := (hb1.cell (by simp)).trans (by simp); have c1 : w1.cell? ⟨w.heap.size, 1, none⟩ = some (.int .i64 N) := (hb1.cell (by simp)).trans (by simp); have c2 : w1.cell? ⟨w.heap.size, 2, none⟩ = some (.string s) := (hb1.cell (by simp)).trans (by simp); have hz : w.heap.size < w1.heap.size := by (have := hb1.size; simp at this; omega)) | (go_at_call 163; refine (hi _ q1).mono ?_; rintro e w2 ⟨rfl, hb2⟩; have q2 : Below w.heap.size w w2 := q1.trans (hb2.mono q1.size); have d0 := (hb2.cell (p := ⟨w.heap.size, 0, none⟩) hz).trans c0; have d1 := (hb2.cell (p := ⟨w.heap.size, 1, none⟩) hz).trans c1; have d2 := (hb2.cell (p := ⟨w.heap.size, 2, none⟩) hz).trans c2) | (go_at_call 164; refine (ht _ q2).mono ?_; rintro e w3 ⟨rfl, hb3⟩))
  go_ret2
  refine ⟨?_, q2.trans (hb3.mono q2.size)⟩
  rw [show (49 :: T) = [49] ++ T from rfl, ← mk_append]
  rfl

set_option maxRecDepth 100000 in
set_option maxHeartbeats 400000 in
theorem key_2 (N : Int) (s : ByteArray) (w : World) (hl : Laid w) (hs : s.size ≤ 140737488355328) (hc : ∀ W : World, Calls Tryz.prog 124 #[.agg #[.int .i64 2, .int .i64 N, .string s]] W fun e w' => e = .returned (.int .i64 0) ∧ Below W.heap.size W w') :
    Calls Tryz.prog 142 #[.agg #[.int .i64 2, .int .i64 N, .string s]] w fun e w' => e = .returned (.tuple #[.string ⟨(50 :: s.data.toList).toArray⟩, .int .i64 0]) ∧ Below w.heap.size w w' := by
  have hi := fun W hW => itoa_any 2 W (by decide) (by decide) (hl.below hW)
  rw [itoa_2] at hi
  clear hl
  go_enter Tryz.func142, Tryz.ntmps142
  go_wp2_with (first | (go_at_call 124; refine (hc _).mono ?_; rintro e w1 ⟨rfl, hb1⟩; have q1 : Below w.heap.size w w1 := ((Below.refl _ _).alloc (Nat.le_refl _) _).trans (hb1.mono (by simp)); have c0 : w1.cell? ⟨w.heap.size, 0, none⟩ = some (.int .i64 2) := (hb1.cell (by simp)).trans (by simp); have c1 : w1.cell? ⟨w.heap.size, 1, none⟩ = some (.int .i64 N) := (hb1.cell (by simp)).trans (by simp); have c2 : w1.cell? ⟨w.heap.size, 2, none⟩ = some (.string s) := (hb1.cell (by simp)).trans (by simp); have hz : w.heap.size < w1.heap.size := by (have := hb1.size; simp at this; omega)) | (go_at_call 163; refine (hi _ q1).mono ?_; rintro e w2 ⟨rfl, hb2⟩; have q2 : Below w.heap.size w w2 := q1.trans (hb2.mono q1.size); have d0 := (hb2.cell (p := ⟨w.heap.size, 0, none⟩) hz).trans c0; have d1 := (hb2.cell (p := ⟨w.heap.size, 1, none⟩) hz).trans c1; have d2 := (hb2.cell (p := ⟨w.heap.size, 2, none⟩) hz).trans c2))
  go_ret2
  refine ⟨?_, q2⟩
  rw [show (50 :: s.data.toList) = [50] ++ s.data.toList from rfl, ← mk_append]
  rfl

set_option maxRecDepth 100000 in
set_option maxHeartbeats 400000 in
theorem key_3 (N : Int) (s : ByteArray) (w : World) (hl : Laid w) (h0 : 0 ≤ N) (h1 : N ≤ 1) (hc : ∀ W : World, Calls Tryz.prog 124 #[.agg #[.int .i64 3, .int .i64 N, .string s]] W fun e w' => e = .returned (.int .i64 0) ∧ Below W.heap.size W w') :
    Calls Tryz.prog 142 #[.agg #[.int .i64 3, .int .i64 N, .string s]] w fun e w' => e = .returned (.tuple #[.string ⟨(51 :: Lib.itoa N).toArray⟩, .int .i64 0]) ∧ Below w.heap.size w w' := by
  have hi := fun W hW => itoa_any 3 W (by decide) (by decide) (hl.below hW)
  rw [itoa_3] at hi
  have hi2 := fun W hW => itoa_any N W (by omega) (by omega) (hl.below hW)
  have hT : (Lib.itoa N).length ≤ 2000 := by
    unfold Lib.itoa
    rw [if_neg (by omega)]
    exact Nat.le_trans (decDigits_len 9 _ (by omega)).2 (by decide)
  obtain ⟨T, hTe⟩ : ∃ T, Lib.itoa N = T := ⟨_, rfl⟩
  rw [hTe] at hi2 hT ⊢
  have hts := size_mk T
  clear hTe hl
  go_enter Tryz.func142, Tryz.ntmps142
  go_wp2_with (go_at_call 124; refine (hc _).mono ?_; rintro e w1 ⟨rfl, hb1⟩; have q1 : Below w.heap.size w w1 := ((Below.refl _ _).alloc (Nat.le_refl _) _).trans (hb1.mono (by simp)); have c0 : w1.cell? ⟨w.heap.size, 0, none⟩ = some (.int .i64 3) := (hb1.cell (by simp)).trans (by simp); have c1 : w1.cell? ⟨w.heap.size, 1, none⟩ = some (.int .i64 N) := (hb1.cell (by simp)).trans (by simp); have c2 : w1.cell? ⟨w.heap.size, 2, none⟩ = some (.string s) := (hb1.cell (by simp)).trans (by simp); have hz : w.heap.size < w1.heap.size := by (have := hb1.size; simp at this; omega))
  refine (hi _ q1).mono ?_
  rintro e w2 ⟨rfl, hb2⟩
  have q2 : Below w.heap.size w w2 := q1.trans (hb2.mono q1.size)
  have d0 := (hb2.cell (p := ⟨w.heap.size, 0, none⟩) hz).trans c0
  have d1 := (hb2.cell (p := ⟨w.heap.size, 1, none⟩) hz).trans c1
  go_wp2_with fail
  refine (hi2 _ q2).mono ?_
  rintro e w3 ⟨rfl, hb3⟩
  go_wp2
  go_ret2
  refine ⟨?_, q2.trans (hb3.mono q2.size)⟩
  rw [show (51 :: T) = [51] ++ T from rfl, ← mk_append]
  rfl

theorem key_any (K N : Int) (s : ByteArray) (w : World) (hs : s.size ≤ 140737488355328) (hl : Laid w) :
    Calls Tryz.prog 142 #[.agg #[.int .i64 K, .int .i64 N, .string s]] w fun e w' =>
      e = .returned (.tuple #[.string ⟨(if chkV K N s.data.toList = 0 then keyV K N s.data.toList else []).toArray⟩, .int .i64 (chkV K N s.data.toList : Nat)]) ∧ Below w.heap.size w w' := by
  have hc := fun W => check_any K N s W hs
  by_cases h0 : chkV K N s.data.toList = 0
  · rw [if_pos h0]
    rw [h0] at hc ⊢
    rcases chk_zero h0 with ⟨rfl, _⟩ | ⟨rfl, ⟨h1, h2⟩, _⟩ | ⟨rfl, _⟩ | ⟨rfl, h1, _⟩
    · exact key_0 N s w hl hc
    · exact key_1 N s w hl h1 h2 hc
    · exact key_2 N s w hl hs hc
    · exact key_3 N s w hl (by omega) (by omega) hc
  · rw [if_neg h0]
    exact key_bad K N s w _ hc (by simp; omega)

end Go.Proofs.YtcnnjladaoaeiaaGreatDoor
