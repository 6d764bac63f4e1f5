/-
  'ofEachKind' of package value.
-/
import Derived.Test.YtcnnjladaoaeiaaGreatDoorIntOf
namespace Go.Proofs.YtcnnjladaoaeiaaGreatDoor
open Go.RowKit

def zv : Value := .agg #[.int .i64 0, .int .i64 0, .string ⟨#[]⟩]

/-- the three entries laid, in the world in which they are laid -/
theorem lay (w : World) (A : Obj) :
    (Instr.mapUpdate 180 (.map (some (w.heap.size + 1))) (.int .i64 1) (.agg #[.int .i64 0, .int .i64 0, .string ⟨#[]⟩])).run Tryz.prog ((w.alloc A).alloc (.map #[] 0)) = .ok () ((w.alloc A).alloc (.map #[⟨.int .i64 1, zv, 0⟩] 1)) ∧
    (Instr.mapUpdate 180 (.map (some (w.heap.size + 1))) (.int .i64 2) (.agg #[.int .i64 0, .int .i64 0, .string ⟨#[]⟩])).run Tryz.prog ((w.alloc A).alloc (.map #[⟨.int .i64 1, zv, 0⟩] 1)) = .ok () ((w.alloc A).alloc (.map #[⟨.int .i64 1, zv, 0⟩, ⟨.int .i64 2, zv, 1⟩] 2)) ∧
    (Instr.mapUpdate 180 (.map (some (w.heap.size + 1))) (.int .i64 3) (.agg #[.int .i64 0, .int .i64 0, .string ⟨#[]⟩])).run Tryz.prog ((w.alloc A).alloc (.map #[⟨.int .i64 1, zv, 0⟩, ⟨.int .i64 2, zv, 1⟩] 2)) = .ok () ((w.alloc A).alloc (mp zv zv zv)) := by
  have hs : (w.alloc A).heap.size = w.heap.size + 1 := by simp
  have h1 := ins1 (w.alloc A) zv
  have h2 := ins2 (w.alloc A) zv zv
  have h3 := ins3 (w.alloc A) zv zv zv
  rw [hs] at h1 h2 h3
  exact ⟨h1, h2, h3⟩

theorem start_inv (w : World) (K N : Int) (s : ByteArray) :
    Inv (((w.alloc (.cells #[.int .i64 K, .int .i64 N, .string s] 49)).alloc (mp zv zv zv)).alloc (.cells #[.map (some (w.heap.size + 1))] 180)) w.heap.size (w.heap.size + 1 + 1) (w.heap.size + 1) K N s zv zv zv := by
  have s1 : (w.alloc (.cells #[.int .i64 K, .int .i64 N, .string s] 49)).heap.size = w.heap.size + 1 := by simp
  have s2 : ((w.alloc (.cells #[.int .i64 K, .int .i64 N, .string s] 49)).alloc (mp zv zv zv)).heap.size = w.heap.size + 1 + 1 := by simp
  have h0 : (((w.alloc (.cells #[.int .i64 K, .int .i64 N, .string s] 49)).alloc (mp zv zv zv)).alloc (.cells #[.map (some (w.heap.size + 1))] 180)).heap[w.heap.size]? = some (.cells #[.int .i64 K, .int .i64 N, .string s] 49) := by
    rw [Lib.alloc_old _ _ _ (by omega), Lib.alloc_old _ _ _ (by omega)]; exact heap_alloc_new _ _
  have h1 : (((w.alloc (.cells #[.int .i64 K, .int .i64 N, .string s] 49)).alloc (mp zv zv zv)).alloc (.cells #[.map (some (w.heap.size + 1))] 180)).heap[w.heap.size + 1]? = some (mp zv zv zv) := by
    rw [Lib.alloc_old _ _ _ (by omega), ← s1]; exact heap_alloc_new _ _
  have h2 : (((w.alloc (.cells #[.int .i64 K, .int .i64 N, .string s] 49)).alloc (mp zv zv zv)).alloc (.cells #[.map (some (w.heap.size + 1))] 180)).heap[w.heap.size + 1 + 1]? = some (.cells #[.map (some (w.heap.size + 1))] 180) := by
    rw [← s2]; exact heap_alloc_new _ _
  refine ⟨?_, ?_, ?_, ?_, h1⟩
  · rw [Lib.cell_of_heap h0]; rfl
  · rw [Lib.cell_of_heap h0]; rfl
  · rw [Lib.cell_of_heap h0]; rfl
  · rw [Lib.cell_of_heap h2]; rfl

theorem start_below (w : World) (A C : Obj) : Below w.heap.size w (((w.alloc A).alloc (mp zv zv zv)).alloc C) :=
  (((Below.refl _ _).alloc (Nat.le_refl _) _).alloc (by simp) _).alloc (by simp; omega) _

set_option maxRecDepth 100000 in
set_option maxHeartbeats 800000 in
theorem each_0 (N : Int) (s : ByteArray) (w : World) :
    Calls Tryz.prog 154 #[.agg #[.int .i64 0, .int .i64 N, .string s]] w fun e w' => ∃ r, e = .returned (.map (some r)) ∧ w'.heap[r]? = some (mp zv zv zv) ∧ Below w.heap.size w w' := by
  have hmm := @run_makeMap Tryz.prog
  obtain ⟨u1, u2, u3⟩ := lay w (.cells #[.int .i64 0, .int .i64 N, .string s] 49)
  have hI := hide (start_inv w 0 N s)
  go_enter Tryz.func154, Tryz.ntmps154
  go_wp2
  go_ret
  exact ⟨_, rfl, hI.out.2.2.2.2, start_below w _ _⟩

set_option maxRecDepth 100000 in
set_option maxHeartbeats 1600000 in
theorem each_1 (N : Int) (s : ByteArray) (w : World) (hl : Laid w) (h0 : -999999999 ≤ N) (h1 : N ≤ 999999999) :
    Calls Tryz.prog 154 #[.agg #[.int .i64 1, .int .i64 N, .string s]] w fun e w' => ∃ r, e = .returned (.map (some r)) ∧ w'.heap[r]? = some (mp (tv 1 N ⟨#[]⟩) (tv 2 0 ⟨(Lib.itoa N).toArray⟩) (tv 3 (oneV (N != 0)) ⟨#[]⟩)) ∧ Below w.heap.size w w' := by
  have hmm := @run_makeMap Tryz.prog
  obtain ⟨u1, u2, u3⟩ := lay w (.cells #[.int .i64 1, .int .i64 N, .string s] 49)
  have hI := hide (start_inv w 1 N s)
  have hi := fun W hW => itoa_any N W (by omega) (by omega) (hl.below hW)
  generalize Lib.itoa N = D at *
  have q0 := hide (start_below w (.cells #[.int .i64 1, .int .i64 N, .string s] 49) (.cells #[.map (some (w.heap.size + 1))] 180))
  clear hl
  go_enter Tryz.func154, Tryz.ntmps154
  go_wp2_with fail
  refine (putInt_any N _ w.heap.size _ _ _ 1 N s zv zv zv hI.out (by omega)).mono ?_
  rintro e w1 ⟨rfl, i1, b1⟩
  have q1 : Below w.heap.size w w1 := q0.out.trans b1
  have c1 := i1.2.1
  clear u1 u2 u3 hmm hI q0
  go_wp2_with fail
  refine (hi _ q1).mono ?_
  rintro e w2 ⟨rfl, b2⟩
  have i2 := i1.below b2
  have q2 : Below w.heap.size w w2 := q1.trans (b2.mono q1.size)
  clear i1 b1 b2 q1 c1
  go_wp2_with fail
  refine (putText_any ⟨D.toArray⟩ _ w.heap.size _ _ _ 1 N s _ _ _ i2 (by omega)).mono ?_
  rintro e w3 ⟨rfl, i3, b3⟩
  have q3 : Below w.heap.size w w3 := q2.trans b3
  have c3 := i3.2.1
  clear i2 b3 q2
  go_wp2_with fail
  refine (putBool_any (N != 0) _ w.heap.size _ _ _ 1 N s _ _ _ i3 (by omega)).mono ?_
  rintro e w4 ⟨rfl, i4, b4⟩
  have q4 : Below w.heap.size w w4 := q3.trans b4
  have c4 := i4.2.2.2.1
  clear i3 b4 q3 c3
  go_wp2
  go_ret
  exact ⟨_, rfl, i4.2.2.2.2, q4⟩

set_option maxRecDepth 100000 in
set_option maxHeartbeats 1600000 in
theorem each_3 (N : Int) (s : ByteArray) (w : World) :
    Calls Tryz.prog 154 #[.agg #[.int .i64 3, .int .i64 N, .string s]] w fun e w' => ∃ r, e = .returned (.map (some r)) ∧ w'.heap[r]? = some (mp (tv 1 N ⟨#[]⟩) (tv 2 0 ⟨(Lib.formatBool (N == 1)).toArray⟩) (tv 3 (oneV (N == 1)) ⟨#[]⟩)) ∧ Below w.heap.size w w' := by
  have hmm := @run_makeMap Tryz.prog
  obtain ⟨u1, u2, u3⟩ := lay w (.cells #[.int .i64 3, .int .i64 N, .string s] 49)
  have hI := hide (start_inv w 3 N s)
  have hi := fun W => Tryz.strconv_FormatBool (N == 1) W
  generalize Lib.formatBool (N == 1) = D at *
  have q0 := hide (start_below w (.cells #[.int .i64 3, .int .i64 N, .string s] 49) (.cells #[.map (some (w.heap.size + 1))] 180))
  go_enter Tryz.func154, Tryz.ntmps154
  go_wp2_with fail
  refine (putInt_any N _ w.heap.size _ _ _ 3 N s zv zv zv hI.out (by omega)).mono ?_
  rintro e w1 ⟨rfl, i1, b1⟩
  have q1 : Below w.heap.size w w1 := q0.out.trans b1
  have c1 := i1.2.1
  clear u1 u2 u3 hmm hI q0
  go_wp2_with fail
  refine (hi _).mono ?_
  rintro e w2 ⟨rfl, hw2⟩
  obtain rfl := hw2.symm
  clear hw2
  go_wp2_with fail
  refine (putText_any ⟨D.toArray⟩ _ w.heap.size _ _ _ 3 N s _ _ _ i1 (by omega)).mono ?_
  rintro e w3 ⟨rfl, i3, b3⟩
  have q3 : Below w.heap.size w w3 := q1.trans b3
  have c3 := i3.2.1
  clear i1 b1 b3 q1 c1
  go_wp2_with fail
  refine (putBool_any (N == 1) _ w.heap.size _ _ _ 3 N s _ _ _ i3 (by omega)).mono ?_
  rintro e w4 ⟨rfl, i4, b4⟩
  have q4 : Below w.heap.size w w4 := q3.trans b4
  have c4 := i4.2.2.2.1
  clear i3 b4 q3 c3
  go_wp2
  go_ret
  exact ⟨_, rfl, i4.2.2.2.2, q4⟩

/-- true, false -/
def tru : List UInt8 := [116, 114, 117, 101]
def fal : List UInt8 := [102, 97, 108, 115, 101]

set_option maxRecDepth 100000 in
set_option maxHeartbeats 1600000 in
theorem each_2yt (N : Int) (s : ByteArray) (w : World) (n : Int) (hi : ∀ W : World, Below w.heap.size w W → Calls Tryz.prog 173 #[.string s] W fun e w' => e = .returned (.tuple #[.int .i64 n, .bool true]) ∧ Below W.heap.size W w') (ht : (s.toList == [116, 114, 117, 101]) = true) :
    Calls Tryz.prog 154 #[.agg #[.int .i64 2, .int .i64 N, .string s]] w fun e w' => ∃ r, e = .returned (.map (some r)) ∧ w'.heap[r]? = some (mp (tv 1 n ⟨#[]⟩) (tv 2 0 s) (tv 3 (oneV true) ⟨#[]⟩)) ∧ Below w.heap.size w w' := by
  have hmm := @run_makeMap Tryz.prog
  obtain ⟨u1, u2, u3⟩ := lay w (.cells #[.int .i64 2, .int .i64 N, .string s] 49)
  have hI := hide (start_inv w 2 N s)
  have q0 := hide (start_below w (.cells #[.int .i64 2, .int .i64 N, .string s] 49) (.cells #[.map (some (w.heap.size + 1))] 180))
  go_enter Tryz.func154, Tryz.ntmps154
  go_wp2_with fail
  refine (putText_any s _ w.heap.size _ _ _ 2 N s zv zv zv hI.out (by omega)).mono ?_
  rintro e w1 ⟨rfl, i1, b1⟩
  have q1 : Below w.heap.size w w1 := q0.out.trans b1
  have c1 := i1.2.2.1
  clear u1 u2 u3 hmm hI q0
  go_wp2_with fail
  refine (hi _ q1).mono ?_
  rintro e w2 ⟨rfl, b2⟩
  have i2 := i1.below b2
  have q2 : Below w.heap.size w w2 := q1.trans (b2.mono q1.size)
  clear i1 b1 b2 q1 c1
  have c2 := i2.2.2.1
  have d2 := i2.2.2.2.1
  go_wp2_with fail
  refine (putInt_any n _ w.heap.size _ _ _ 2 N s _ _ _ i2 (by omega)).mono ?_
  rintro e w3 ⟨rfl, i3, b3⟩
  have q3 : Below w.heap.size w w3 := q2.trans b3
  clear i2 b3 q2 c2 d2
  have c3 := i3.2.2.1
  have d3 := i3.2.2.2.1
  go_wp2_with fail
  refine (putBool_any true _ w.heap.size _ _ _ 2 N s _ _ _ i3 (by omega)).mono ?_
  rintro e w4 ⟨rfl, i4, b4⟩
  have q4 : Below w.heap.size w w4 := q3.trans b4
  have d4 := i4.2.2.2.1
  go_wp2
  go_ret
  exact ⟨_, rfl, i4.2.2.2.2, q4⟩

set_option maxRecDepth 100000 in
set_option maxHeartbeats 1600000 in
theorem each_2yf (N : Int) (s : ByteArray) (w : World) (n : Int) (hi : ∀ W : World, Below w.heap.size w W → Calls Tryz.prog 173 #[.string s] W fun e w' => e = .returned (.tuple #[.int .i64 n, .bool true]) ∧ Below W.heap.size W w') (ht : (s.toList == [116, 114, 117, 101]) = false) (hf : (s.toList == [102, 97, 108, 115, 101]) = true) :
    Calls Tryz.prog 154 #[.agg #[.int .i64 2, .int .i64 N, .string s]] w fun e w' => ∃ r, e = .returned (.map (some r)) ∧ w'.heap[r]? = some (mp (tv 1 n ⟨#[]⟩) (tv 2 0 s) (tv 3 (oneV false) ⟨#[]⟩)) ∧ Below w.heap.size w w' := by
  have hmm := @run_makeMap Tryz.prog
  obtain ⟨u1, u2, u3⟩ := lay w (.cells #[.int .i64 2, .int .i64 N, .string s] 49)
  have hI := hide (start_inv w 2 N s)
  have q0 := hide (start_below w (.cells #[.int .i64 2, .int .i64 N, .string s] 49) (.cells #[.map (some (w.heap.size + 1))] 180))
  go_enter Tryz.func154, Tryz.ntmps154
  go_wp2_with fail
  refine (putText_any s _ w.heap.size _ _ _ 2 N s zv zv zv hI.out (by omega)).mono ?_
  rintro e w1 ⟨rfl, i1, b1⟩
  have q1 : Below w.heap.size w w1 := q0.out.trans b1
  have c1 := i1.2.2.1
  clear u1 u2 u3 hmm hI q0
  go_wp2_with fail
  refine (hi _ q1).mono ?_
  rintro e w2 ⟨rfl, b2⟩
  have i2 := i1.below b2
  have q2 : Below w.heap.size w w2 := q1.trans (b2.mono q1.size)
  clear i1 b1 b2 q1 c1
  have c2 := i2.2.2.1
  have d2 := i2.2.2.2.1
  go_wp2_with fail
  refine (putInt_any n _ w.heap.size _ _ _ 2 N s _ _ _ i2 (by omega)).mono ?_
  rintro e w3 ⟨rfl, i3, b3⟩
  have q3 : Below w.heap.size w w3 := q2.trans b3
  clear i2 b3 q2 c2 d2
  have c3 := i3.2.2.1
  have d3 := i3.2.2.2.1
  go_wp2_with fail
  refine (putBool_any false _ w.heap.size _ _ _ 2 N s _ _ _ i3 (by omega)).mono ?_
  rintro e w4 ⟨rfl, i4, b4⟩
  have q4 : Below w.heap.size w w4 := q3.trans b4
  have d4 := i4.2.2.2.1
  go_wp2
  go_ret
  exact ⟨_, rfl, i4.2.2.2.2, q4⟩

set_option maxRecDepth 100000 in
set_option maxHeartbeats 1600000 in
theorem each_2yo (N : Int) (s : ByteArray) (w : World) (n : Int) (hi : ∀ W : World, Below w.heap.size w W → Calls Tryz.prog 173 #[.string s] W fun e w' => e = .returned (.tuple #[.int .i64 n, .bool true]) ∧ Below W.heap.size W w') (ht : (s.toList == [116, 114, 117, 101]) = false) (hf : (s.toList == [102, 97, 108, 115, 101]) = false) :
    Calls Tryz.prog 154 #[.agg #[.int .i64 2, .int .i64 N, .string s]] w fun e w' => ∃ r, e = .returned (.map (some r)) ∧ w'.heap[r]? = some (mp (tv 1 n ⟨#[]⟩) (tv 2 0 s) (zv)) ∧ Below w.heap.size w w' := by
  have hmm := @run_makeMap Tryz.prog
  obtain ⟨u1, u2, u3⟩ := lay w (.cells #[.int .i64 2, .int .i64 N, .string s] 49)
  have hI := hide (start_inv w 2 N s)
  have q0 := hide (start_below w (.cells #[.int .i64 2, .int .i64 N, .string s] 49) (.cells #[.map (some (w.heap.size + 1))] 180))
  go_enter Tryz.func154, Tryz.ntmps154
  go_wp2_with fail
  refine (putText_any s _ w.heap.size _ _ _ 2 N s zv zv zv hI.out (by omega)).mono ?_
  rintro e w1 ⟨rfl, i1, b1⟩
  have q1 : Below w.heap.size w w1 := q0.out.trans b1
  have c1 := i1.2.2.1
  clear u1 u2 u3 hmm hI q0
  go_wp2_with fail
  refine (hi _ q1).mono ?_
  rintro e w2 ⟨rfl, b2⟩
  have i2 := i1.below b2
  have q2 : Below w.heap.size w w2 := q1.trans (b2.mono q1.size)
  clear i1 b1 b2 q1 c1
  have c2 := i2.2.2.1
  have d2 := i2.2.2.2.1
  go_wp2_with fail
  refine (putInt_any n _ w.heap.size _ _ _ 2 N s _ _ _ i2 (by omega)).mono ?_
  rintro e w3 ⟨rfl, i3, b3⟩
  have q3 : Below w.heap.size w w3 := q2.trans b3
  clear i2 b3 q2 c2 d2
  have c3 := i3.2.2.1
  have d3 := i3.2.2.2.1
  go_wp2
  go_ret
  exact ⟨_, rfl, i3.2.2.2.2, q3⟩

set_option maxRecDepth 100000 in
set_option maxHeartbeats 1600000 in
theorem each_2nt (N : Int) (s : ByteArray) (w : World) (hi : ∀ W : World, Below w.heap.size w W → Calls Tryz.prog 173 #[.string s] W fun e w' => e = .returned (.tuple #[.int .i64 0, .bool false]) ∧ Below W.heap.size W w') (ht : (s.toList == [116, 114, 117, 101]) = true) :
    Calls Tryz.prog 154 #[.agg #[.int .i64 2, .int .i64 N, .string s]] w fun e w' => ∃ r, e = .returned (.map (some r)) ∧ w'.heap[r]? = some (mp (zv) (tv 2 0 s) (tv 3 (oneV true) ⟨#[]⟩)) ∧ Below w.heap.size w w' := by
  have hmm := @run_makeMap Tryz.prog
  obtain ⟨u1, u2, u3⟩ := lay w (.cells #[.int .i64 2, .int .i64 N, .string s] 49)
  have hI := hide (start_inv w 2 N s)
  have q0 := hide (start_below w (.cells #[.int .i64 2, .int .i64 N, .string s] 49) (.cells #[.map (some (w.heap.size + 1))] 180))
  go_enter Tryz.func154, Tryz.ntmps154
  go_wp2_with fail
  refine (putText_any s _ w.heap.size _ _ _ 2 N s zv zv zv hI.out (by omega)).mono ?_
  rintro e w1 ⟨rfl, i1, b1⟩
  have q1 : Below w.heap.size w w1 := q0.out.trans b1
  have c1 := i1.2.2.1
  clear u1 u2 u3 hmm hI q0
  go_wp2_with fail
  refine (hi _ q1).mono ?_
  rintro e w2 ⟨rfl, b2⟩
  have i2 := i1.below b2
  have q2 : Below w.heap.size w w2 := q1.trans (b2.mono q1.size)
  clear i1 b1 b2 q1 c1
  have c2 := i2.2.2.1
  have d2 := i2.2.2.2.1
  have i3 := i2
  have q3 := q2
  go_wp2_with fail
  refine (putBool_any true _ w.heap.size _ _ _ 2 N s _ _ _ i3 (by omega)).mono ?_
  rintro e w4 ⟨rfl, i4, b4⟩
  have q4 : Below w.heap.size w w4 := q3.trans b4
  have d4 := i4.2.2.2.1
  go_wp2
  go_ret
  exact ⟨_, rfl, i4.2.2.2.2, q4⟩

set_option maxRecDepth 100000 in
set_option maxHeartbeats 1600000 in
theorem each_2nf (N : Int) (s : ByteArray) (w : World) (hi : ∀ W : World, Below w.heap.size w W → Calls Tryz.prog 173 #[.string s] W fun e w' => e = .returned (.tuple #[.int .i64 0, .bool false]) ∧ Below W.heap.size W w') (ht : (s.toList == [116, 114, 117, 101]) = false) (hf : (s.toList == [102, 97, 108, 115, 101]) = true) :
    Calls Tryz.prog 154 #[.agg #[.int .i64 2, .int .i64 N, .string s]] w fun e w' => ∃ r, e = .returned (.map (some r)) ∧ w'.heap[r]? = some (mp (zv) (tv 2 0 s) (tv 3 (oneV false) ⟨#[]⟩)) ∧ Below w.heap.size w w' := by
  have hmm := @run_makeMap Tryz.prog
  obtain ⟨u1, u2, u3⟩ := lay w (.cells #[.int .i64 2, .int .i64 N, .string s] 49)
  have hI := hide (start_inv w 2 N s)
  have q0 := hide (start_below w (.cells #[.int .i64 2, .int .i64 N, .string s] 49) (.cells #[.map (some (w.heap.size + 1))] 180))
  go_enter Tryz.func154, Tryz.ntmps154
  go_wp2_with fail
  refine (putText_any s _ w.heap.size _ _ _ 2 N s zv zv zv hI.out (by omega)).mono ?_
  rintro e w1 ⟨rfl, i1, b1⟩
  have q1 : Below w.heap.size w w1 := q0.out.trans b1
  have c1 := i1.2.2.1
  clear u1 u2 u3 hmm hI q0
  go_wp2_with fail
  refine (hi _ q1).mono ?_
  rintro e w2 ⟨rfl, b2⟩
  have i2 := i1.below b2
  have q2 : Below w.heap.size w w2 := q1.trans (b2.mono q1.size)
  clear i1 b1 b2 q1 c1
  have c2 := i2.2.2.1
  have d2 := i2.2.2.2.1
  have i3 := i2
  have q3 := q2
  go_wp2_with fail
  refine (putBool_any false _ w.heap.size _ _ _ 2 N s _ _ _ i3 (by omega)).mono ?_
  rintro e w4 ⟨rfl, i4, b4⟩
  have q4 : Below w.heap.size w w4 := q3.trans b4
  have d4 := i4.2.2.2.1
  go_wp2
  go_ret
  exact ⟨_, rfl, i4.2.2.2.2, q4⟩

set_option maxRecDepth 100000 in
set_option maxHeartbeats 1600000 in
theorem each_2no (N : Int) (s : ByteArray) (w : World) (hi : ∀ W : World, Below w.heap.size w W → Calls Tryz.prog 173 #[.string s] W fun e w' => e = .returned (.tuple #[.int .i64 0, .bool false]) ∧ Below W.heap.size W w') (ht : (s.toList == [116, 114, 117, 101]) = false) (hf : (s.toList == [102, 97, 108, 115, 101]) = false) :
    Calls Tryz.prog 154 #[.agg #[.int .i64 2, .int .i64 N, .string s]] w fun e w' => ∃ r, e = .returned (.map (some r)) ∧ w'.heap[r]? = some (mp (zv) (tv 2 0 s) (zv)) ∧ Below w.heap.size w w' := by
  have hmm := @run_makeMap Tryz.prog
  obtain ⟨u1, u2, u3⟩ := lay w (.cells #[.int .i64 2, .int .i64 N, .string s] 49)
  have hI := hide (start_inv w 2 N s)
  have q0 := hide (start_below w (.cells #[.int .i64 2, .int .i64 N, .string s] 49) (.cells #[.map (some (w.heap.size + 1))] 180))
  go_enter Tryz.func154, Tryz.ntmps154
  go_wp2_with fail
  refine (putText_any s _ w.heap.size _ _ _ 2 N s zv zv zv hI.out (by omega)).mono ?_
  rintro e w1 ⟨rfl, i1, b1⟩
  have q1 : Below w.heap.size w w1 := q0.out.trans b1
  have c1 := i1.2.2.1
  clear u1 u2 u3 hmm hI q0
  go_wp2_with fail
  refine (hi _ q1).mono ?_
  rintro e w2 ⟨rfl, b2⟩
  have i2 := i1.below b2
  have q2 : Below w.heap.size w w2 := q1.trans (b2.mono q1.size)
  clear i1 b1 b2 q1 c1
  have c2 := i2.2.2.1
  have d2 := i2.2.2.2.1
  have i3 := i2
  have q3 := q2
  go_wp2
  go_ret
  exact ⟨_, rfl, i3.2.2.2.2, q3⟩

end Go.Proofs.YtcnnjladaoaeiaaGreatDoor
