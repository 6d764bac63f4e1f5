/-
  'ofEachKind' of package value.
  'Cast' of package value.
  Values in memory; 'Fault' of package fit.
  The words of kinds of columns (package words), and which kinds there are.
  Names: what package words says of them.
  Keys stand in order just as values do: on lists of bytes alone.
  How rows change, without memory: what Check and Apply of package delta answer.
-/
import Derived.Test.YtcnnjladaoaeiaaGreatDoorGa
import Derived.Test.YtcnnjladaoaeiaaGreatDoorGb

set_option maxRecDepth 100000
set_option maxHeartbeats 25600000
namespace Go.Proofs.YtcnnjladaoaeiaaGreatDoor
open Go.RowKit
def zv : Value := .agg #[.int .i64 0, .int .i64 0, .string ⟨#[]⟩]
theorem lay (w : World) (A : Obj) :
    (Instr.mapUpdate 180 (.map (some (w.heap.size + 1))) (.int .i64 1) (.agg #[.int .i64 0, .int .i64 0, .string ⟨#[]⟩])).run Tryz.prog ((w.alloc A).alloc (.map #[] 0)) = .ok () ((w.alloc A).alloc (.map #[⟨.int .i64 1, zv, 0⟩] 1)) ∧
    (Instr.mapUpdate 180 (.map (some (w.heap.size + 1))) (.int .i64 2) (.agg #[.int .i64 0, .int .i64 0, .string ⟨#[]⟩])).run Tryz.prog ((w.alloc A).alloc (.map #[⟨.int .i64 1, zv, 0⟩] 1)) = .ok () ((w.alloc A).alloc (.map #[⟨.int .i64 1, zv, 0⟩, ⟨.int .i64 2, zv, 1⟩] 2)) ∧
    (Instr.mapUpdate 180 (.map (some (w.heap.size + 1))) (.int .i64 3) (.agg #[.int .i64 0, .int .i64 0, .string ⟨#[]⟩])).run Tryz.prog ((w.alloc A).alloc (.map #[⟨.int .i64 1, zv, 0⟩, ⟨.int .i64 2, zv, 1⟩] 2)) = .ok () ((w.alloc A).alloc (mp zv zv zv)) := by
  have hs : (w.alloc A).heap.size = w.heap.size + 1 := by simp
  have h1 := ins1 (w.alloc A) zv
  have h2 := ins2 (w.alloc A) zv zv
  have h3 := ins3 (w.alloc A) zv zv zv
  rw [hs] at h1 h2 h3
  exact ⟨h1, h2, h3⟩
theorem start_inv (w : World) (K N : Int) (s : ByteArray) :
    Inv (((w.alloc (.cells #[.int .i64 K, .int .i64 N, .string s] 49)).alloc (mp zv zv zv)).alloc (.cells #[.map (some (w.heap.size + 1))] 180)) w.heap.size (w.heap.size + 1 + 1) (w.heap.size + 1) K N s zv zv zv := by
  have s1 : (w.alloc (.cells #[.int .i64 K, .int .i64 N, .string s] 49)).heap.size = w.heap.size + 1 := by simp
  have s2 : ((w.alloc (.cells #[.int .i64 K, .int .i64 N, .string s] 49)).alloc (mp zv zv zv)).heap.size = w.heap.size + 1 + 1 := by simp
  have h0 : (((w.alloc (.cells #[.int .i64 K, .int .i64 N, .string s] 49)).alloc (mp zv zv zv)).alloc (.cells #[.map (some (w.heap.size + 1))] 180)).heap[w.heap.size]? = some (.cells #[.int .i64 K, .int .i64 N, .string s] 49) := by
    rw [Lib.alloc_old _ _ _ (by omega), Lib.alloc_old _ _ _ (by omega)]; exact heap_alloc_new _ _
  have h1 : (((w.alloc (.cells #[.int .i64 K, .int .i64 N, .string s] 49)).alloc (mp zv zv zv)).alloc (.cells #[.map (some (w.heap.size + 1))] 180)).heap[w.heap.size + 1]? = some (mp zv zv zv) := by
    rw [Lib.alloc_old _ _ _ (by omega), ← s1]; exact heap_alloc_new _ _
  have h2 : (((w.alloc (.cells #[.int .i64 K, .int .i64 N, .string s] 49)).alloc (mp zv zv zv)).alloc (.cells #[.map (some (w.heap.size + 1))] 180)).heap[w.heap.size + 1 + 1]? = some (.cells #[.map (some (w.heap.size + 1))] 180) := by
    rw [← s2]; exact heap_alloc_new _ _
  refine ⟨?_, ?_, ?_, ?_, h1⟩
  · rw [Lib.cell_of_heap h0]; rfl
  · rw [Lib.cell_of_heap h0]; rfl
  · rw [Lib.cell_of_heap h0]; rfl
  · rw [Lib.cell_of_heap h2]; rfl
theorem start_below (w : World) (A C : Obj) : Below w.heap.size w (((w.alloc A).alloc (mp zv zv zv)).alloc C) :=
  (((Below.refl _ _).alloc (Nat.le_refl _) _).alloc (by simp) _).alloc (by simp; omega) _
theorem each_0 (N : Int) (s : ByteArray) (w : World) :
    Calls Tryz.prog 154 #[.agg #[.int .i64 0, .int .i64 N, .string s]] w fun e w' => ∃ r, e = .returned (.map (some r)) ∧ w'.heap[r]? = some (mp zv zv zv) ∧ Below w.heap.size w w' := by
  have hmm := @run_makeMap Tryz.prog
  obtain ⟨u1, u2, u3⟩ := lay w (.cells #[.int .i64 0, .int .i64 N, .string s] 49)
  have hI := hide (start_inv w 0 N s)
  go_enter Tryz.func154, Tryz.ntmps154
  go_wp2
  go_ret
  exact ⟨_, rfl, hI.out.2.2.2.2, start_below w _ _⟩
theorem each_1 (N : Int) (s : ByteArray) (w : World) (hl : Laid w) (h0 : -999999999 ≤ N) (h1 : N ≤ 999999999) :
    Calls Tryz.prog 154 #[.agg #[.int .i64 1, .int .i64 N, .string s]] w fun e w' => ∃ r, e = .returned (.map (some r)) ∧ w'.heap[r]? = some (mp (tv 1 N ⟨#[]⟩) (tv 2 0 ⟨(Lib.itoa N).toArray⟩) (tv 3 (oneV (N != 0)) ⟨#[]⟩)) ∧ Below w.heap.size w w' := by
  have hmm := @run_makeMap Tryz.prog
  obtain ⟨u1, u2, u3⟩ := lay w (.cells #[.int .i64 1, .int .i64 N, .string s] 49)
  have hI := hide (start_inv w 1 N s)
  have hi := fun W hW => itoa_any N W (by omega) (by omega) (hl.below hW)
  generalize Lib.itoa N = D at *
  have q0 := hide (start_below w (.cells #[.int .i64 1, .int .i64 N, .string s] 49) (.cells #[.map (some (w.heap.size + 1))] 180))
  clear hl
  go_enter Tryz.func154, Tryz.ntmps154
  go_wp2_with fail
  refine (putInt_any N _ w.heap.size _ _ _ 1 N s zv zv zv hI.out (by omega)).mono ?_
  rintro e w1 ⟨rfl, i1, b1⟩
  have q1 : Below w.heap.size w w1 := q0.out.trans b1
  have c1 := i1.2.1
  clear u1 u2 u3 hmm hI q0
  go_wp2_with fail
  refine (hi _ q1).mono ?_
  rintro e w2 ⟨rfl, b2⟩
  have i2 := i1.below b2
  have q2 : Below w.heap.size w w2 := q1.trans (b2.mono q1.size)
  clear i1 b1 b2 q1 c1
  go_wp2_with fail
  refine (putText_any ⟨D.toArray⟩ _ w.heap.size _ _ _ 1 N s _ _ _ i2 (by omega)).mono ?_
  rintro e w3 ⟨rfl, i3, b3⟩
  have q3 : Below w.heap.size w w3 := q2.trans b3
  have c3 := i3.2.1
  clear i2 b3 q2
  go_wp2_with fail
  refine (putBool_any (N != 0) _ w.heap.size _ _ _ 1 N s _ _ _ i3 (by omega)).mono ?_
  rintro e w4 ⟨rfl, i4, b4⟩
  have q4 : Below w.heap.size w w4 := q3.trans b4
  have c4 := i4.2.2.2.1
  clear i3 b4 q3 c3
  go_wp2
  go_ret
  exact ⟨_, rfl, i4.2.2.2.2, q4⟩
theorem each_3 (N : Int) (s : ByteArray) (w : World) :
    Calls Tryz.prog 154 #[.agg #[.int .i64 3, .int .i64 N, .string s]] w fun e w' => ∃ r, e = .returned (.map (some r)) ∧ w'.heap[r]? = some (mp (tv 1 N ⟨#[]⟩) (tv 2 0 ⟨(Lib.formatBool (N == 1)).toArray⟩) (tv 3 (oneV (N == 1)) ⟨#[]⟩)) ∧ Below w.heap.size w w' := by
  have hmm := @run_makeMap Tryz.prog
  obtain ⟨u1, u2, u3⟩ := lay w (.cells #[.int .i64 3, .int .i64 N, .string s] 49)
  have hI := hide (start_inv w 3 N s)
  have hi := fun W => Tryz.strconv_FormatBool (N == 1) W
  generalize Lib.formatBool (N == 1) = D at *
  have q0 := hide (start_below w (.cells #[.int .i64 3, .int .i64 N, .string s] 49) (.cells #[.map (some (w.heap.size + 1))] 180))
  go_enter Tryz.func154, Tryz.ntmps154
  go_wp2_with fail
  refine (putInt_any N _ w.heap.size _ _ _ 3 N s zv zv zv hI.out (by omega)).mono ?_
  rintro e w1 ⟨rfl, i1, b1⟩
  have q1 : Below w.heap.size w w1 := q0.out.trans b1
  have c1 := i1.2.1
  clear u1 u2 u3 hmm hI q0
  go_wp2_with fail
  refine (hi _).mono ?_
  rintro e w2 ⟨rfl, hw2⟩
  obtain rfl := hw2.symm
  clear hw2
  go_wp2_with fail
  refine (putText_any ⟨D.toArray⟩ _ w.heap.size _ _ _ 3 N s _ _ _ i1 (by omega)).mono ?_
  rintro e w3 ⟨rfl, i3, b3⟩
  have q3 : Below w.heap.size w w3 := q1.trans b3
  have c3 := i3.2.1
  clear i1 b1 b3 q1 c1
  go_wp2_with fail
  refine (putBool_any (N == 1) _ w.heap.size _ _ _ 3 N s _ _ _ i3 (by omega)).mono ?_
  rintro e w4 ⟨rfl, i4, b4⟩
  have q4 : Below w.heap.size w w4 := q3.trans b4
  have c4 := i4.2.2.2.1
  clear i3 b4 q3 c3
  go_wp2
  go_ret
  exact ⟨_, rfl, i4.2.2.2.2, q4⟩
def tru : List UInt8 := [116, 114, 117, 101]
def fal : List UInt8 := [102, 97, 108, 115, 101]
theorem each_2yt (N : Int) (s : ByteArray) (w : World) (n : Int) (hi : ∀ W : World, Below w.heap.size w W → Calls Tryz.prog 173 #[.string s] W fun e w' => e = .returned (.tuple #[.int .i64 n, .bool true]) ∧ Below W.heap.size W w') (ht : (s.toList == [116, 114, 117, 101]) = true) :
    Calls Tryz.prog 154 #[.agg #[.int .i64 2, .int .i64 N, .string s]] w fun e w' => ∃ r, e = .returned (.map (some r)) ∧ w'.heap[r]? = some (mp (tv 1 n ⟨#[]⟩) (tv 2 0 s) (tv 3 (oneV true) ⟨#[]⟩)) ∧ Below w.heap.size w w' := by
  have hmm := @run_makeMap Tryz.prog
  obtain ⟨u1, u2, u3⟩ := lay w (.cells #[.int .i64 2, .int .i64 N, .string s] 49)
  have hI := hide (start_inv w 2 N s)
  have q0 := hide (start_below w (.cells #[.int .i64 2, .int .i64 N, .string s] 49) (.cells #[.map (some (w.heap.size + 1))] 180))
  go_enter Tryz.func154, Tryz.ntmps154
  go_wp2_with fail
  refine (putText_any s _ w.heap.size _ _ _ 2 N s zv zv zv hI.out (by omega)).mono ?_
  rintro e w1 ⟨rfl, i1, b1⟩
  have q1 : Below w.heap.size w w1 := q0.out.trans b1
  have c1 := i1.2.2.1
  clear u1 u2 u3 hmm hI q0
  go_wp2_with fail
  refine (hi _ q1).mono ?_
  rintro e w2 ⟨rfl, b2⟩
  have i2 := i1.below b2
  have q2 : Below w.heap.size w w2 := q1.trans (b2.mono q1.size)
  clear i1 b1 b2 q1 c1
  have c2 := i2.2.2.1
  have d2 := i2.2.2.2.1
  go_wp2_with fail
  refine (putInt_any n _ w.heap.size _ _ _ 2 N s _ _ _ i2 (by omega)).mono ?_
  rintro e w3 ⟨rfl, i3, b3⟩
  have q3 : Below w.heap.size w w3 := q2.trans b3
  clear i2 b3 q2 c2 d2
  have c3 := i3.2.2.1
  have d3 := i3.2.2.2.1
  go_wp2_with fail
  refine (putBool_any true _ w.heap.size _ _ _ 2 N s _ _ _ i3 (by omega)).mono ?_
  rintro e w4 ⟨rfl, i4, b4⟩
  have q4 : Below w.heap.size w w4 := q3.trans b4
  have d4 := i4.2.2.2.1
  go_wp2
  go_ret
  exact ⟨_, rfl, i4.2.2.2.2, q4⟩
theorem each_2yf (N : Int) (s : ByteArray) (w : World) (n : Int) (hi : ∀ W : World, Below w.heap.size w W → Calls Tryz.prog 173 #[.string s] W fun e w' => e = .returned (.tuple #[.int .i64 n, .bool true]) ∧ Below W.heap.size W w') (ht : (s.toList == [116, 114, 117, 101]) = false) (hf : (s.toList == [102, 97, 108, 115, 101]) = true) :
    Calls Tryz.prog 154 #[.agg #[.int .i64 2, .int .i64 N, .string s]] w fun e w' => ∃ r, e = .returned (.map (some r)) ∧ w'.heap[r]? = some (mp (tv 1 n ⟨#[]⟩) (tv 2 0 s) (tv 3 (oneV false) ⟨#[]⟩)) ∧ Below w.heap.size w w' := by
  have hmm := @run_makeMap Tryz.prog
  obtain ⟨u1, u2, u3⟩ := lay w (.cells #[.int .i64 2, .int .i64 N, .string s] 49)
  have hI := hide (start_inv w 2 N s)
  have q0 := hide (start_below w (.cells #[.int .i64 2, .int .i64 N, .string s] 49) (.cells #[.map (some (w.heap.size + 1))] 180))
  go_enter Tryz.func154, Tryz.ntmps154
  go_wp2_with fail
  refine (putText_any s _ w.heap.size _ _ _ 2 N s zv zv zv hI.out (by omega)).mono ?_
  rintro e w1 ⟨rfl, i1, b1⟩
  have q1 : Below w.heap.size w w1 := q0.out.trans b1
  have c1 := i1.2.2.1
  clear u1 u2 u3 hmm hI q0
  go_wp2_with fail
  refine (hi _ q1).mono ?_
  rintro e w2 ⟨rfl, b2⟩
  have i2 := i1.below b2
  have q2 : Below w.heap.size w w2 := q1.trans (b2.mono q1.size)
  clear i1 b1 b2 q1 c1
  have c2 := i2.2.2.1
  have d2 := i2.2.2.2.1
  go_wp2_with fail
  refine (putInt_any n _ w.heap.size _ _ _ 2 N s _ _ _ i2 (by omega)).mono ?_
  rintro e w3 ⟨rfl, i3, b3⟩
  have q3 : Below w.heap.size w w3 := q2.trans b3
  clear i2 b3 q2 c2 d2
  have c3 := i3.2.2.1
  have d3 := i3.2.2.2.1
  go_wp2_with fail
  refine (putBool_any false _ w.heap.size _ _ _ 2 N s _ _ _ i3 (by omega)).mono ?_
  rintro e w4 ⟨rfl, i4, b4⟩
  have q4 : Below w.heap.size w w4 := q3.trans b4
  have d4 := i4.2.2.2.1
  go_wp2
  go_ret
  exact ⟨_, rfl, i4.2.2.2.2, q4⟩
theorem each_2yo (N : Int) (s : ByteArray) (w : World) (n : Int) (hi : ∀ W : World, Below w.heap.size w W → Calls Tryz.prog 173 #[.string s] W fun e w' => e = .returned (.tuple #[.int .i64 n, .bool true]) ∧ Below W.heap.size W w') (ht : (s.toList == [116, 114, 117, 101]) = false) (hf : (s.toList == [102, 97, 108, 115, 101]) = false) :
    Calls Tryz.prog 154 #[.agg #[.int .i64 2, .int .i64 N, .string s]] w fun e w' => ∃ r, e = .returned (.map (some r)) ∧ w'.heap[r]? = some (mp (tv 1 n ⟨#[]⟩) (tv 2 0 s) (zv)) ∧ Below w.heap.size w w' := by
  have hmm := @run_makeMap Tryz.prog
  obtain ⟨u1, u2, u3⟩ := lay w (.cells #[.int .i64 2, .int .i64 N, .string s] 49)
  have hI := hide (start_inv w 2 N s)
  have q0 := hide (start_below w (.cells #[.int .i64 2, .int .i64 N, .string s] 49) (.cells #[.map (some (w.heap.size + 1))] 180))
  go_enter Tryz.func154, Tryz.ntmps154
  go_wp2_with fail
  refine (putText_any s _ w.heap.size _ _ _ 2 N s zv zv zv hI.out (by omega)).mono ?_
  rintro e w1 ⟨rfl, i1, b1⟩
  have q1 : Below w.heap.size w w1 := q0.out.trans b1
  have c1 := i1.2.2.1
  clear u1 u2 u3 hmm hI q0
  go_wp2_with fail
  refine (hi _ q1).mono ?_
  rintro e w2 ⟨rfl, b2⟩
  have i2 := i1.below b2
  have q2 : Below w.heap.size w w2 := q1.trans (b2.mono q1.size)
  clear i1 b1 b2 q1 c1
  have c2 := i2.2.2.1
  have d2 := i2.2.2.2.1
  go_wp2_with fail
  refine (putInt_any n _ w.heap.size _ _ _ 2 N s _ _ _ i2 (by omega)).mono ?_
  rintro e w3 ⟨rfl, i3, b3⟩
  have q3 : Below w.heap.size w w3 := q2.trans b3
  clear i2 b3 q2 c2 d2
  have c3 := i3.2.2.1
  have d3 := i3.2.2.2.1
  go_wp2
  go_ret
  exact ⟨_, rfl, i3.2.2.2.2, q3⟩
theorem each_2nt (N : Int) (s : ByteArray) (w : World) (hi : ∀ W : World, Below w.heap.size w W → Calls Tryz.prog 173 #[.string s] W fun e w' => e = .returned (.tuple #[.int .i64 0, .bool false]) ∧ Below W.heap.size W w') (ht : (s.toList == [116, 114, 117, 101]) = true) :
    Calls Tryz.prog 154 #[.agg #[.int .i64 2, .int .i64 N, .string s]] w fun e w' => ∃ r, e = .returned (.map (some r)) ∧ w'.heap[r]? = some (mp (zv) (tv 2 0 s) (tv 3 (oneV true) ⟨#[]⟩)) ∧ Below w.heap.size w w' := by
  have hmm := @run_makeMap Tryz.prog
  obtain ⟨u1, u2, u3⟩ := lay w (.cells #[.int .i64 2, .int .i64 N, .string s] 49)
  have hI := hide (start_inv w 2 N s)
  have q0 := hide (start_below w (.cells #[.int .i64 2, .int .i64 N, .string s] 49) (.cells #[.map (some (w.heap.size + 1))] 180))
  go_enter Tryz.func154, Tryz.ntmps154
  go_wp2_with fail
  refine (putText_any s _ w.heap.size _ _ _ 2 N s zv zv zv hI.out (by omega)).mono ?_
  rintro e w1 ⟨rfl, i1, b1⟩
  have q1 : Below w.heap.size w w1 := q0.out.trans b1
  have c1 := i1.2.2.1
  clear u1 u2 u3 hmm hI q0
  go_wp2_with fail
  refine (hi _ q1).mono ?_
  rintro e w2 ⟨rfl, b2⟩
  have i2 := i1.below b2
  have q2 : Below w.heap.size w w2 := q1.trans (b2.mono q1.size)
  clear i1 b1 b2 q1 c1
  have c2 := i2.2.2.1
  have d2 := i2.2.2.2.1
  have i3 := i2
  have q3 := q2
  go_wp2_with fail
  refine (putBool_any true _ w.heap.size _ _ _ 2 N s _ _ _ i3 (by omega)).mono ?_
  rintro e w4 ⟨rfl, i4, b4⟩
  have q4 : Below w.heap.size w w4 := q3.trans b4
  have d4 := i4.2.2.2.1
  go_wp2
  go_ret
  exact ⟨_, rfl, i4.2.2.2.2, q4⟩
theorem each_2nf (N : Int) (s : ByteArray) (w : World) (hi : ∀ W : World, Below w.heap.size w W → Calls Tryz.prog 173 #[.string s] W fun e w' => e = .returned (.tuple #[.int .i64 0, .bool false]) ∧ Below W.heap.size W w') (ht : (s.toList == [116, 114, 117, 101]) = false) (hf : (s.toList == [102, 97, 108, 115, 101]) = true) :
    Calls Tryz.prog 154 #[.agg #[.int .i64 2, .int .i64 N, .string s]] w fun e w' => ∃ r, e = .returned (.map (some r)) ∧ w'.heap[r]? = some (mp (zv) (tv 2 0 s) (tv 3 (oneV false) ⟨#[]⟩)) ∧ Below w.heap.size w w' := by
  have hmm := @run_makeMap Tryz.prog
  obtain ⟨u1, u2, u3⟩ := lay w (.cells #[.int .i64 2, .int .i64 N, .string s] 49)
  have hI := hide (start_inv w 2 N s)
  have q0 := hide (start_below w (.cells #[.int .i64 2, .int .i64 N, .string s] 49) (.cells #[.map (some (w.heap.size + 1))] 180))
  go_enter Tryz.func154, Tryz.ntmps154
  go_wp2_with fail
  refine (putText_any s _ w.heap.size _ _ _ 2 N s zv zv zv hI.out (by omega)).mono ?_
  rintro e w1 ⟨rfl, i1, b1⟩
  have q1 : Below w.heap.size w w1 := q0.out.trans b1
  have c1 := i1.2.2.1
  clear u1 u2 u3 hmm hI q0
  go_wp2_with fail
  refine (hi _ q1).mono ?_
  rintro e w2 ⟨rfl, b2⟩
  have i2 := i1.below b2
  have q2 : Below w.heap.size w w2 := q1.trans (b2.mono q1.size)
  clear i1 b1 b2 q1 c1
  have c2 := i2.2.2.1
  have d2 := i2.2.2.2.1
  have i3 := i2
  have q3 := q2
  go_wp2_with fail
  refine (putBool_any false _ w.heap.size _ _ _ 2 N s _ _ _ i3 (by omega)).mono ?_
  rintro e w4 ⟨rfl, i4, b4⟩
  have q4 : Below w.heap.size w w4 := q3.trans b4
  have d4 := i4.2.2.2.1
  go_wp2
  go_ret
  exact ⟨_, rfl, i4.2.2.2.2, q4⟩
theorem each_2no (N : Int) (s : ByteArray) (w : World) (hi : ∀ W : World, Below w.heap.size w W → Calls Tryz.prog 173 #[.string s] W fun e w' => e = .returned (.tuple #[.int .i64 0, .bool false]) ∧ Below W.heap.size W w') (ht : (s.toList == [116, 114, 117, 101]) = false) (hf : (s.toList == [102, 97, 108, 115, 101]) = false) :
    Calls Tryz.prog 154 #[.agg #[.int .i64 2, .int .i64 N, .string s]] w fun e w' => ∃ r, e = .returned (.map (some r)) ∧ w'.heap[r]? = some (mp (zv) (tv 2 0 s) (zv)) ∧ Below w.heap.size w w' := by
  have hmm := @run_makeMap Tryz.prog
  obtain ⟨u1, u2, u3⟩ := lay w (.cells #[.int .i64 2, .int .i64 N, .string s] 49)
  have hI := hide (start_inv w 2 N s)
  have q0 := hide (start_below w (.cells #[.int .i64 2, .int .i64 N, .string s] 49) (.cells #[.map (some (w.heap.size + 1))] 180))
  go_enter Tryz.func154, Tryz.ntmps154
  go_wp2_with fail
  refine (putText_any s _ w.heap.size _ _ _ 2 N s zv zv zv hI.out (by omega)).mono ?_
  rintro e w1 ⟨rfl, i1, b1⟩
  have q1 : Below w.heap.size w w1 := q0.out.trans b1
  have c1 := i1.2.2.1
  clear u1 u2 u3 hmm hI q0
  go_wp2_with fail
  refine (hi _ q1).mono ?_
  rintro e w2 ⟨rfl, b2⟩
  have i2 := i1.below b2
  have q2 : Below w.heap.size w w2 := q1.trans (b2.mono q1.size)
  clear i1 b1 b2 q1 c1
  have c2 := i2.2.2.1
  have d2 := i2.2.2.2.1
  have i3 := i2
  have q3 := q2
  go_wp2
  go_ret
  exact ⟨_, rfl, i3.2.2.2.2, q3⟩
def castV (K N : Int) (S : List UInt8) (tt : Int) : Int × Int × List UInt8 :=
  if tt = 1 then (if K = 1 then (1, N, []) else if K = 2 then (match intV S with | some n => (1, n, []) | none => (0, 0, [])) else if K = 3 then (1, N, []) else (0, 0, []))
  else if tt = 2 then (if K = 1 then (2, 0, Lib.itoa N) else if K = 2 then (2, 0, S) else if K = 3 then (2, 0, Lib.formatBool (N == 1)) else (0, 0, []))
  else (if K = 1 then (3, oneV (N != 0), []) else if K = 2 then (if S = tru then (3, 1, []) else if S = fal then (3, 0, []) else (0, 0, [])) else if K = 3 then (3, oneV (N == 1), []) else (0, 0, []))
def tvl (x : Int × Int × List UInt8) : Value := .agg #[.int .i64 x.1, .int .i64 x.2.1, .string ⟨x.2.2.toArray⟩]
theorem each_any (K N : Int) (s : ByteArray) (w : World) (hs : s.size ≤ 140737488355328) (hl : Laid w) (h : chkV K N s.data.toList = 0) :
    Calls Tryz.prog 154 #[.agg #[.int .i64 K, .int .i64 N, .string s]] w fun e w' => ∃ r, e = .returned (.map (some r)) ∧
      w'.heap[r]? = some (mp (tvl (castV K N s.data.toList 1)) (tvl (castV K N s.data.toList 2)) (tvl (castV K N s.data.toList 3))) ∧ Below w.heap.size w w' := by
  rcases chk_zero h with ⟨rfl, _⟩ | ⟨rfl, ⟨h1, h2⟩, _⟩ | ⟨rfl, _⟩ | ⟨rfl, h1, _⟩
  · exact each_0 N s w
  · exact each_1 N s w hl h1 h2
  · have hi := fun W (hW : Below w.heap.size w W) => intOf_any s W hs (hl.below hW)
    have e2 : tvl (castV 2 N s.data.toList 2) = tv 2 0 s := rfl
    rw [e2]
    have ht : (s.toList == [116, 114, 117, 101]) = decide (s.data.toList = tru) := by rw [Lib.toList_data, Bool.eq_iff_iff, beq_iff_eq, decide_eq_true_iff]; rfl
    have hf : (s.toList == [102, 97, 108, 115, 101]) = decide (s.data.toList = fal) := by rw [Lib.toList_data, Bool.eq_iff_iff, beq_iff_eq, decide_eq_true_iff]; rfl
    cases hv : intV s.data.toList with
    | some n =>
      rw [show castV 2 N s.data.toList 1 = (1, n, []) by simp [castV, hv]]
      rw [hv] at hi
      by_cases t : s.data.toList = tru
      · rw [show castV 2 N s.data.toList 3 = (3, 1, []) by simp [castV, t]]
        exact each_2yt N s w n hi (by rw [ht]; simp [t])
      · by_cases f : s.data.toList = fal
        · rw [show castV 2 N s.data.toList 3 = (3, 0, []) by simp only [castV, f]; simp [tru, fal]]
          exact each_2yf N s w n hi (by rw [ht]; simp [t]) (by rw [hf]; simp [f])
        · rw [show castV 2 N s.data.toList 3 = (0, 0, []) by simp [castV, t, f]]
          exact each_2yo N s w n hi (by rw [ht]; simp [t]) (by rw [hf]; simp [f])
    | none =>
      rw [show castV 2 N s.data.toList 1 = (0, 0, []) by simp [castV, hv]]
      rw [hv] at hi
      by_cases t : s.data.toList = tru
      · rw [show castV 2 N s.data.toList 3 = (3, 1, []) by simp [castV, t]]
        exact each_2nt N s w hi (by rw [ht]; simp [t])
      · by_cases f : s.data.toList = fal
        · rw [show castV 2 N s.data.toList 3 = (3, 0, []) by simp only [castV, f]; simp [tru, fal]]
          exact each_2nf N s w hi (by rw [ht]; simp [t]) (by rw [hf]; simp [f])
        · rw [show castV 2 N s.data.toList 3 = (0, 0, []) by simp [castV, t, f]]
          exact each_2no N s w hi (by rw [ht]; simp [t]) (by rw [hf]; simp [f])
  · exact each_3 N s w
theorem look_some {W : World} {r : Nat} {es : Array MapEntry} {clock : Nat} (k : Int) (i : Nat) (x : Value) (hb : W.heap[r]? = some (.map es clock)) (h : Instr.findNow (.int .i64) (.int .i64 k) es.toList 0 = some (some (i, x))) :
    (Instr.lookup 180 (.map (some r)) (.int .i64 k) true).run Tryz.prog W = .ok (.tuple #[x, .bool true]) W := by
  unfold Instr.lookup
  simp only [Sem.run_bind, run_underlying Tryz.underlying180, Result.andThen, get_map hb, Sem.run_pure, check_key, find_key W k es.toList _ h, if_true]
theorem look_none {W : World} {r : Nat} {es : Array MapEntry} {clock : Nat} (k : Int) (hb : W.heap[r]? = some (.map es clock)) (h : Instr.findNow (.int .i64) (.int .i64 k) es.toList 0 = some none) :
    (Instr.lookup 180 (.map (some r)) (.int .i64 k) true).run Tryz.prog W = .ok (.tuple #[.agg #[.int .i64 0, .int .i64 0, .string ⟨#[]⟩], .bool false]) W := by
  unfold Instr.lookup
  simp only [Sem.run_bind, run_underlying Tryz.underlying180, Result.andThen, get_map hb, Sem.run_pure, check_key, find_key W k es.toList _ h, if_true, Tryz.zeroValue49]
theorem look_mp {W : World} {r : Nat} {x y z : Value} (hb : W.heap[r]? = some (mp x y z)) (tt : Int) :
    (Instr.lookup 180 (.map (some r)) (.int .i64 tt) true).run Tryz.prog W = .ok (if tt = 1 then .tuple #[x, .bool true] else if tt = 2 then .tuple #[y, .bool true] else if tt = 3 then .tuple #[z, .bool true] else .tuple #[.agg #[.int .i64 0, .int .i64 0, .string ⟨#[]⟩], .bool false]) W := by
  by_cases h1 : tt = 1
  · subst h1; rw [if_pos rfl]; exact look_some 1 0 x hb rfl
  by_cases h2 : tt = 2
  · subst h2; rw [if_neg (by decide), if_pos rfl]; exact look_some 2 1 y hb rfl
  by_cases h3 : tt = 3
  · subst h3; rw [if_neg (by decide), if_neg (by decide), if_pos rfl]; exact look_some 3 2 z hb rfl
  rw [if_neg h1, if_neg h2, if_neg h3]
  have e1 : (tt == 1) = false := by simpa using h1
  have e2 : (tt == 2) = false := by simpa using h2
  have e3 : (tt == 3) = false := by simpa using h3
  exact look_none tt hb (by simp [Instr.findNow, Instr.sameNow, e1, e2, e3])
theorem three {W : World} {b : Nat} {x y z : Value} {t : TypeId} (h : W.heap[b]? = some (.cells #[x, y, z] t)) :
    (W.cell? ⟨b, 0, none⟩ = some x ∧ W.cell? ⟨b, 1, none⟩ = some y ∧ W.cell? ⟨b, 2, none⟩ = some z) ∧ (W.frozen? ⟨b, 0, none⟩ = false ∧ W.frozen? ⟨b, 1, none⟩ = false ∧ W.frozen? ⟨b, 2, none⟩ = false) := by
  refine ⟨⟨?_, ?_, ?_⟩, Lib.frozen_of_heap h 0, Lib.frozen_of_heap h 1, Lib.frozen_of_heap h 2⟩
  · rw [Lib.cell_of_heap h]; rfl
  · rw [Lib.cell_of_heap h]; rfl
  · rw [Lib.cell_of_heap h]; rfl
theorem three_put {W : World} {b : Nat} {x y z : Value} {t : TypeId} (h : W.heap[b]? = some (.cells #[x, y, z] t)) (x' y' z' : Value) :
    (((W.setCell ⟨b, 0, none⟩ x').setCell ⟨b, 1, none⟩ y').setCell ⟨b, 2, none⟩ z').heap[b]? = some (.cells #[x', y', z'] t) :=
  heap_setCell_same _ b 2 _ t z' (heap_setCell_same _ b 1 _ t y' (heap_setCell_same W b 0 _ t x' h))
theorem cast_bad (K N tt : Int) (s : ByteArray) (w : World) (E : Nat) (hE : ((E : Int) != 0) = true)
    (hc : ∀ W : World, Calls Tryz.prog 124 #[.agg #[.int .i64 K, .int .i64 N, .string s]] W fun e w' => e = .returned (.int .i64 (E : Nat)) ∧ Below W.heap.size W w') :
    Calls Tryz.prog 126 #[.agg #[.int .i64 K, .int .i64 N, .string s], .int .i64 tt] w fun e w' => e = .returned (.tuple #[tvl (0, 0, []), .int .i64 (E : Nat)]) ∧ Below w.heap.size w w' := by
  go_enter Tryz.func126, Tryz.ntmps126
  go_wp2_with fail
  refine (hc _).mono ?_
  rintro e w1 ⟨rfl, hb1⟩
  have hz : (w.alloc (.cells #[.int .i64 K, .int .i64 N, .string s] 49)).heap.size = w.heap.size + 1 := by simp
  have c : w1.heap[w.heap.size + 1]? = some (.cells #[.int .i64 0, .int .i64 0, .string ⟨#[]⟩] 49) := (hb1.block _ (by simp)).trans (by rw [← hz]; exact heap_alloc_new _ _)
  obtain ⟨⟨c0, c1, c2⟩, f0, f1, f2⟩ := three c
  obtain ⟨⟨d0, d1, d2⟩, -⟩ := three (three_put c (.int .i64 0) (.int .i64 0) (.string ⟨#[]⟩))
  have q1 : Below w.heap.size w w1 := (((Below.refl _ _).alloc (Nat.le_refl _) _).alloc (by simp) _).trans (hb1.mono (by simp; omega))
  clear hc hb1 c hz
  go_wp2_with fail
  have q2 : Below w.heap.size w (((w1.setCell ⟨w.heap.size + 1, 0, none⟩ (.int .i64 0)).setCell ⟨w.heap.size + 1, 1, none⟩ (.int .i64 0)).setCell ⟨w.heap.size + 1, 2, none⟩ (.string ⟨#[]⟩)) := ((q1.setCell (by simp) _).setCell (by simp) _).setCell (by simp) _
  generalize ((w1.setCell ⟨w.heap.size + 1, 0, none⟩ (.int .i64 0)).setCell ⟨w.heap.size + 1, 1, none⟩ (.int .i64 0)).setCell ⟨w.heap.size + 1, 2, none⟩ (.string ⟨#[]⟩) = w2 at *
  refine bodyPost_ret (v := .tuple #[tvl (0, 0, []), .int .i64 (E : Nat)]) ?_ rfl ⟨rfl, q2⟩
  simp [results, Tryz.results126, go_sem, tvl, d0, d1, d2]
theorem cast_no (K N tt : Int) (s : ByteArray) (w : World) (X Y Z : Value)
    (hc : ∀ W : World, Calls Tryz.prog 124 #[.agg #[.int .i64 K, .int .i64 N, .string s]] W fun e w' => e = .returned (.int .i64 0) ∧ Below W.heap.size W w')
    (he : ∀ W : World, Below w.heap.size w W → Calls Tryz.prog 154 #[.agg #[.int .i64 K, .int .i64 N, .string s]] W fun e w' => ∃ r, e = .returned (.map (some r)) ∧ w'.heap[r]? = some (mp X Y Z) ∧ Below W.heap.size W w')
    (h1 : tt ≠ 1) (h2 : tt ≠ 2) (h3 : tt ≠ 3) :
    Calls Tryz.prog 126 #[.agg #[.int .i64 K, .int .i64 N, .string s], .int .i64 tt] w fun e w' => e = .returned (.tuple #[tvl (0, 0, []), .int .i64 7]) ∧ Below w.heap.size w w' := by
  go_enter Tryz.func126, Tryz.ntmps126
  go_wp2_with fail
  refine (hc _).mono ?_
  rintro e w1 ⟨rfl, hb1⟩
  have hz : (w.alloc (.cells #[.int .i64 K, .int .i64 N, .string s] 49)).heap.size = w.heap.size + 1 := by simp
  have c : w1.heap[w.heap.size + 1]? = some (.cells #[.int .i64 0, .int .i64 0, .string ⟨#[]⟩] 49) := (hb1.block _ (by simp)).trans (by rw [← hz]; exact heap_alloc_new _ _)
  have a0 : w1.cell? ⟨w.heap.size, 0, none⟩ = some (.int .i64 K) := (hb1.cell (by simp; omega)).trans (by simp)
  have a1 : w1.cell? ⟨w.heap.size, 1, none⟩ = some (.int .i64 N) := (hb1.cell (by simp; omega)).trans (by simp)
  have a2 : w1.cell? ⟨w.heap.size, 2, none⟩ = some (.string s) := (hb1.cell (by simp; omega)).trans (by simp)
  have q1 : Below w.heap.size w w1 := (((Below.refl _ _).alloc (Nat.le_refl _) _).alloc (by simp) _).trans (hb1.mono (by simp; omega))
  have z1 : w.heap.size + 2 ≤ w1.heap.size := by have := hb1.size; simp at this; omega
  clear hc hb1 hz
  go_wp2_with fail
  refine (he _ q1).mono ?_
  rintro e w2 ⟨r, rfl, hr, b2⟩
  have L := look_mp hr tt
  rw [if_neg h1, if_neg h2, if_neg h3] at L
  have q2 : Below w.heap.size w w2 := q1.trans (b2.mono q1.size)
  have z2 : w.heap.size + 2 ≤ w2.heap.size := Nat.le_trans z1 b2.size
  have c' : w2.heap[w.heap.size + 1]? = some (.cells #[.int .i64 0, .int .i64 0, .string ⟨#[]⟩] 49) := (b2.block _ (by omega)).trans c
  obtain ⟨⟨c0, c1, c2⟩, f0, f1, f2⟩ := three c'
  obtain ⟨⟨d0, d1, d2⟩, -⟩ := three (three_put c' (.int .i64 0) (.int .i64 0) (.string ⟨#[]⟩))
  have z3 : w.heap.size + 1 < w2.heap.size := by omega
  have q3 : Below w.heap.size w (((w2.setCell ⟨w.heap.size + 1, 0, none⟩ (.int .i64 0)).setCell ⟨w.heap.size + 1, 1, none⟩ (.int .i64 0)).setCell ⟨w.heap.size + 1, 2, none⟩ (.string ⟨#[]⟩)) := ((q2.setCell (by simp) _).setCell (by simp) _).setCell (by simp) _
  clear a0 a1 a2 c c' q1 b2 z1
  go_wp2_with fail
  have z4 : w.heap.size + 1 < (((w2.setCell ⟨w.heap.size + 1, 0, none⟩ (.int .i64 0)).setCell ⟨w.heap.size + 1, 1, none⟩ (.int .i64 0)).setCell ⟨w.heap.size + 1, 2, none⟩ (.string ⟨#[]⟩)).heap.size := by simpa using z3
  generalize ((w2.setCell ⟨w.heap.size + 1, 0, none⟩ (.int .i64 0)).setCell ⟨w.heap.size + 1, 1, none⟩ (.int .i64 0)).setCell ⟨w.heap.size + 1, 2, none⟩ (.string ⟨#[]⟩) = w3 at *
  refine bodyPost_ret (v := .tuple #[tvl (0, 0, []), .int .i64 7]) ?_ rfl ⟨rfl, q3.alloc (by omega) _⟩
  simp [results, Tryz.results126, go_sem, tvl, d0, d1, d2, z4]
theorem cast_yes (K N tt : Int) (s : ByteArray) (w : World) (X Y Z : Value) (k n : Int) (u : ByteArray)
    (hc : ∀ W : World, Calls Tryz.prog 124 #[.agg #[.int .i64 K, .int .i64 N, .string s]] W fun e w' => e = .returned (.int .i64 0) ∧ Below W.heap.size W w')
    (he : ∀ W : World, Below w.heap.size w W → Calls Tryz.prog 154 #[.agg #[.int .i64 K, .int .i64 N, .string s]] W fun e w' => ∃ r, e = .returned (.map (some r)) ∧ w'.heap[r]? = some (mp X Y Z) ∧ Below W.heap.size W w')
    (hL : ∀ (W : World) (r : Nat), W.heap[r]? = some (mp X Y Z) → (Instr.lookup 180 (.map (some r)) (.int .i64 tt) true).run Tryz.prog W = .ok (.tuple #[.agg #[.int .i64 k, .int .i64 n, .string u], .bool true]) W) :
    Calls Tryz.prog 126 #[.agg #[.int .i64 K, .int .i64 N, .string s], .int .i64 tt] w fun e w' => e = .returned (.tuple #[tv k n u, .int .i64 0]) ∧ Below w.heap.size w w' := by
  go_enter Tryz.func126, Tryz.ntmps126
  go_wp2_with fail
  refine (hc _).mono ?_
  rintro e w1 ⟨rfl, hb1⟩
  have hz : (w.alloc (.cells #[.int .i64 K, .int .i64 N, .string s] 49)).heap.size = w.heap.size + 1 := by simp
  have c : w1.heap[w.heap.size + 1]? = some (.cells #[.int .i64 0, .int .i64 0, .string ⟨#[]⟩] 49) := (hb1.block _ (by simp)).trans (by rw [← hz]; exact heap_alloc_new _ _)
  have a0 : w1.cell? ⟨w.heap.size, 0, none⟩ = some (.int .i64 K) := (hb1.cell (by simp; omega)).trans (by simp)
  have a1 : w1.cell? ⟨w.heap.size, 1, none⟩ = some (.int .i64 N) := (hb1.cell (by simp; omega)).trans (by simp)
  have a2 : w1.cell? ⟨w.heap.size, 2, none⟩ = some (.string s) := (hb1.cell (by simp; omega)).trans (by simp)
  have q1 : Below w.heap.size w w1 := (((Below.refl _ _).alloc (Nat.le_refl _) _).alloc (by simp) _).trans (hb1.mono (by simp; omega))
  have z1 : w.heap.size + 2 ≤ w1.heap.size := by have := hb1.size; simp at this; omega
  clear hc hb1 hz
  go_wp2_with fail
  refine (he _ q1).mono ?_
  rintro e w2 ⟨r, rfl, hr, b2⟩
  have L := hL w2 r hr
  clear hL
  have q2 : Below w.heap.size w w2 := q1.trans (b2.mono q1.size)
  have z2 : w.heap.size + 2 ≤ w2.heap.size := Nat.le_trans z1 b2.size
  have c' : w2.heap[w.heap.size + 1]? = some (.cells #[.int .i64 0, .int .i64 0, .string ⟨#[]⟩] 49) := (b2.block _ (by omega)).trans c
  obtain ⟨⟨c0, c1, c2⟩, f0, f1, f2⟩ := three c'
  obtain ⟨⟨d0, d1, d2⟩, -⟩ := three (three_put c' (.int .i64 k) (.int .i64 n) (.string u))
  have z3 : w.heap.size + 1 < w2.heap.size := by omega
  have q3 : Below w.heap.size w (((w2.setCell ⟨w.heap.size + 1, 0, none⟩ (.int .i64 k)).setCell ⟨w.heap.size + 1, 1, none⟩ (.int .i64 n)).setCell ⟨w.heap.size + 1, 2, none⟩ (.string u)) := ((q2.setCell (by simp) _).setCell (by simp) _).setCell (by simp) _
  clear a0 a1 a2 c c' q1 b2 z1
  go_wp2_with fail
  have z4 : w.heap.size + 1 < (((w2.setCell ⟨w.heap.size + 1, 0, none⟩ (.int .i64 k)).setCell ⟨w.heap.size + 1, 1, none⟩ (.int .i64 n)).setCell ⟨w.heap.size + 1, 2, none⟩ (.string u)).heap.size := by simpa using z3
  generalize ((w2.setCell ⟨w.heap.size + 1, 0, none⟩ (.int .i64 k)).setCell ⟨w.heap.size + 1, 1, none⟩ (.int .i64 n)).setCell ⟨w.heap.size + 1, 2, none⟩ (.string u) = w3 at *
  refine bodyPost_ret (v := .tuple #[tv k n u, .int .i64 0]) ?_ rfl ⟨rfl, q3.alloc (by omega) _⟩
  simp [results, Tryz.results126, go_sem, tv, d0, d1, d2, z4]
def castE (K N : Int) (S : List UInt8) (tt : Int) : Nat := if chkV K N S ≠ 0 then chkV K N S else if tt = 1 ∨ tt = 2 ∨ tt = 3 then 0 else 7
def castR (K N : Int) (S : List UInt8) (tt : Int) : Int × Int × List UInt8 := if castE K N S tt = 0 then castV K N S tt else (0, 0, [])
theorem cast_any (K N tt : Int) (s : ByteArray) (w : World) (hs : s.size ≤ 140737488355328) (hl : Laid w) :
    Calls Tryz.prog 126 #[.agg #[.int .i64 K, .int .i64 N, .string s], .int .i64 tt] w fun e w' =>
      e = .returned (.tuple #[tvl (castR K N s.data.toList tt), .int .i64 (castE K N s.data.toList tt : Nat)]) ∧ Below w.heap.size w w' := by
  have hc := fun W => check_any K N s W hs
  by_cases h : chkV K N s.data.toList = 0
  · have he := fun W (hW : Below w.heap.size w W) => each_any K N s W hs (hl.below hW) h
    rw [h] at hc
    have look : ∀ X Y Z : Value, ∀ (W : World) (r : Nat), W.heap[r]? = some (mp X Y Z) → _ := fun X Y Z W r hr => look_mp hr tt
    by_cases h1 : tt = 1
    · have e1 : castE K N s.data.toList tt = 0 := by simp [castE, h, h1]
      have e2 : castR K N s.data.toList tt = castV K N s.data.toList 1 := by rw [castR, if_pos e1, h1]
      rw [e1, e2]
      refine cast_yes K N tt s w _ _ _ _ _ _ hc he fun W r hr => (look _ _ _ W r hr).trans ?_
      rw [if_pos h1]; rfl
    by_cases h2 : tt = 2
    · have e1 : castE K N s.data.toList tt = 0 := by simp [castE, h, h2]
      have e2 : castR K N s.data.toList tt = castV K N s.data.toList 2 := by rw [castR, if_pos e1, h2]
      rw [e1, e2]
      refine cast_yes K N tt s w _ _ _ _ _ _ hc he fun W r hr => (look _ _ _ W r hr).trans ?_
      rw [if_neg h1, if_pos h2]; rfl
    by_cases h3 : tt = 3
    · have e1 : castE K N s.data.toList tt = 0 := by simp [castE, h, h3]
      have e2 : castR K N s.data.toList tt = castV K N s.data.toList 3 := by rw [castR, if_pos e1, h3]
      rw [e1, e2]
      refine cast_yes K N tt s w _ _ _ _ _ _ hc he fun W r hr => (look _ _ _ W r hr).trans ?_
      rw [if_neg h1, if_neg h2, if_pos h3]; rfl
    have e1 : castE K N s.data.toList tt = 7 := by simp [castE, h, h1, h2, h3]
    have e2 : castR K N s.data.toList tt = (0, 0, []) := by rw [castR, if_neg (by omega)]
    rw [e1, e2]
    exact cast_no K N tt s w _ _ _ hc he h1 h2 h3
  · have e1 : castE K N s.data.toList tt = chkV K N s.data.toList := by simp [castE, h]
    have e2 : castR K N s.data.toList tt = (0, 0, []) := by rw [castR, if_neg (by omega)]
    rw [e1, e2]
    exact cast_bad K N tt s w _ (by simp; omega) hc
structure Vl where
  k : Int
  n : Int
  s : List UInt8
deriving DecidableEq
def vl0 : Vl := ⟨0, 0, []⟩
def vlC (x : Vl) : List Value := [.int .i64 x.k, .int .i64 x.n, .string ⟨x.s.toArray⟩]
def vlV (x : Vl) : Value := .agg #[.int .i64 x.k, .int .i64 x.n, .string ⟨x.s.toArray⟩]
def badL : List Vl → Nat
  | [] => 0
  | x :: r => if chkV x.k x.n x.s = 0 then badL r else chkV x.k x.n x.s
def chkL (l : List Vl) : Nat := if 5 < l.length then 2 else badL l
theorem badL_zero (l : List Vl) : badL l = 0 ↔ ∀ x ∈ l, chkV x.k x.n x.s = 0 := by
  induction l with
  | nil => simp [badL]
  | cons x r ih =>
    simp only [badL]
    by_cases h : chkV x.k x.n x.s = 0
    · rw [if_pos h, ih]; simp [h]
    · rw [if_neg h]; simp [h]
def VsAt (w : World) (u : Value) (L : List Vl) : Prop :=
  ∃ ao cap, u = .slice ao L.length cap ∧ L.length * 32 ≤ 140737488355328 ∧ (∀ x ∈ L, x.s.length ≤ 140737488355328) ∧
    (L ≠ [] → ∃ g o, ao = some ⟨g, o, none⟩ ∧ g < w.heap.size ∧ ∀ i x, L[i]? = some x → w.cell? ⟨g, o + i * 3, none⟩ = some (.int .i64 x.k) ∧ w.cell? ⟨g, o + i * 3 + 1, none⟩ = some (.int .i64 x.n) ∧ w.cell? ⟨g, o + i * 3 + 2, none⟩ = some (.string ⟨x.s.toArray⟩))
theorem VsAt.below {w w' : World} {u : Value} {L : List Vl} (h : VsAt w u L) (hb : Below w.heap.size w w') : VsAt w' u L := by
  obtain ⟨ao, cap, h1, h2, h3, h4⟩ := h
  refine ⟨ao, cap, h1, h2, h3, fun hn => ?_⟩
  obtain ⟨g, o, e, hg, hc⟩ := h4 hn
  refine ⟨g, o, e, Nat.lt_of_lt_of_le hg hb.size, fun i x hx => ?_⟩
  obtain ⟨a, b, c⟩ := hc i x hx
  exact ⟨(hb.cell (p := ⟨g, _, none⟩) hg).trans a, (hb.cell (p := ⟨g, _, none⟩) hg).trans b, (hb.cell (p := ⟨g, _, none⟩) hg).trans c⟩
theorem badL_skip (L : List Vl) (i : Nat) (h : ∀ j x, j < i → L[j]? = some x → chkV x.k x.n x.s = 0) : badL L = badL (L.drop i) := by
  induction L generalizing i with
  | nil => simp
  | cons y r ih =>
    cases i with
    | zero => rfl
    | succ i =>
      have h0 := h 0 y (by omega) rfl
      rw [badL, if_pos h0, List.drop_succ_cons]
      exact ih i fun j x hj hx => h (j + 1) x (by omega) (by simpa using hx)
theorem badL_at (L : List Vl) (i : Nat) (x : Vl) (hx : L[i]? = some x) (h : ∀ j x, j < i → L[j]? = some x → chkV x.k x.n x.s = 0) (hb : chkV x.k x.n x.s ≠ 0) : badL L = chkV x.k x.n x.s := by
  rw [badL_skip L i h]
  obtain ⟨hi, rfl⟩ := List.getElem?_eq_some_iff.1 hx
  rw [List.drop_eq_getElem_cons hi, badL, if_neg hb]
theorem fault1_any (x : Vl) (w : World) (hs : x.s.length ≤ 140737488355328) : Calls Tryz.prog 123 #[.agg #[.int .i64 x.k, .int .i64 x.n, .string ⟨x.s.toArray⟩]] w fun e w' => e = .returned (.bool (decide (chkV x.k x.n x.s ≠ 0))) ∧ Below w.heap.size w w' := by
  have h := check_any x.k x.n ⟨x.s.toArray⟩ (w.alloc (.cells #[.int .i64 x.k, .int .i64 x.n, .string ⟨x.s.toArray⟩] 49)) (by rw [size_mk]; exact hs)
  have e0 : (⟨x.s.toArray⟩ : ByteArray).data.toList = x.s := by simp
  rw [e0] at h
  generalize chkV x.k x.n x.s = c at h ⊢
  go_enter Tryz.func123, Tryz.ntmps123
  go_wp2_with (go_at_call 124; refine h.mono ?_; rintro e w1 ⟨rfl, b1⟩)
  go_ret
  refine ⟨ret_bool ?_, ((Below.refl _ _).alloc (Nat.le_refl _) _).trans (b1.mono (by simp))⟩
  rw [Bool.eq_iff_iff]; simp
def IdxPost (w : World) (L : List Vl) (e : Ending) (w' : World) : Prop :=
  (badL L = 0 ∧ e = .returned (.int .i64 (-1)) ∧ Below w.heap.size w w') ∨ ∃ (i : Nat) (x : Vl), L[i]? = some x ∧ badL L = chkV x.k x.n x.s ∧ e = .returned (.int .i64 (i : Int)) ∧ Below w.heap.size w w'
theorem idx_any (L : List Vl) (u : Value) (w : World) (h : VsAt w u L) : Calls Tryz.prog 122 #[u, .func (.func 123) #[] #[]] w fun e w' => IdxPost w L e w' := by
  obtain ⟨ao, cap, rfl, h1, h2, h3⟩ := h
  obtain ⟨n, hn⟩ : ∃ n, L.length = n := ⟨_, rfl⟩
  rw [hn] at h1 ⊢
  go_enter Tryz.func122, Tryz.ntmps122
  go_wp2
  go_loopw [8] (fun i wl => ∃ k : Nat, k ≤ n ∧ i = .int .i64 k ∧ Below w.heap.size w wl ∧ Hid (∀ j x, j < k → L[j]? = some x → chkV x.k x.n x.s = 0)) (fun i _ => n - (intOf i).toNat)
  case atStart => exact ⟨0, Nat.zero_le _, rfl, Below.refl _ _, fun j _ hj => absurd hj (Nat.not_lt_zero _)⟩
  case round =>
    obtain ⟨k, hk, rfl, hnx, HA⟩ := hrel
    by_cases hlt : k < n
    · obtain ⟨x, hx⟩ : ∃ x, L[k]? = some x := ⟨L[k], List.getElem?_eq_getElem (by omega)⟩
      obtain ⟨g, o, rfl, hg, hc⟩ := h3 (by intro e; rw [e] at hx; cases hx)
      obtain ⟨a0, a1, a2⟩ := hc k x hx
      have c0 := (hnx.cell (p := ⟨g, o + k * 3, none⟩) hg).trans a0
      have c1 := (hnx.cell (p := ⟨g, o + k * 3 + 1, none⟩) hg).trans a1
      have c2 := (hnx.cell (p := ⟨g, o + k * 3 + 2, none⟩) hg).trans a2
      have hlt' : (k : Int) < (n : Int) := by omega
      have hsz := hnx.size
      have hf := fault1_any x wr (h2 x (List.mem_of_getElem? hx))
      have HX : Hid (L[k]? = some x) := hx
      clear hc h3 h2 a0 a1 a2 hx
      by_cases hB : chkV x.k x.n x.s = 0
      · have HB : Hid (chkV x.k x.n x.s = 0) := hB
        rw [hB] at hf
        clear hB
        go_wp2_with (go_at_call 123; refine hf.mono ?_; rintro e w2 ⟨rfl, b2⟩)
        go_roundw
        case rel =>
          refine ⟨k + 1, by omega, by go_num, hnx.trans (b2.mono hsz), fun j y hj hy => ?_⟩
          rcases Nat.lt_or_ge j k with h | h
          · exact HA.out j y h hy
          · rw [show j = k by omega, HX.out] at hy; cases hy; exact HB.out
        case measure => simp [intOf]; omega
      · rw [decide_eq_true hB] at hf
        have HB := hide hB
        clear hB
        go_wp2_with (go_at_call 123; refine hf.mono ?_; rintro e w2 ⟨rfl, b2⟩)
        go_ret
        exact Or.inr ⟨k, x, HX.out, badL_at L k x HX.out HA.out HB.out, rfl, hnx.trans (b2.mono hsz)⟩
    · clear h2 h3
      go_wp2
      go_ret
      refine Or.inl ⟨?_, rfl, hnx⟩
      rw [badL_skip L L.length (fun j x hj hx => HA.out j x (by omega) hx), List.drop_length]; rfl
theorem fitFault_any (L : List Vl) (u : Value) (w : World) (h : VsAt w u L) : Calls Tryz.prog 75 #[u] w fun e w' => e = .returned (.int .i64 (badL L : Nat)) ∧ Below w.heap.size w w' := by
  have hi := idx_any L u w h
  have hq := h
  obtain ⟨ao, cap, rfl, h1, h2, h3⟩ := h
  obtain ⟨n, hn⟩ : ∃ n, L.length = n := ⟨_, rfl⟩
  rw [hn] at hi h1 ⊢
  go_enter Tryz.func75, Tryz.ntmps75
  go_wp2_with fail
  refine hi.mono ?_
  rintro e w1 (⟨hb, rfl, b1⟩ | ⟨i, x, hx, hb, rfl, b1⟩)
  · have HB := hide hb
    clear hi h2 h3 hq hb
    go_wp2
    go_ret
    exact ⟨by rw [HB.out]; rfl, b1⟩
  · have HB := hide hb
    obtain ⟨g, o, rfl, hg, hc⟩ := h3 (by intro e; rw [e] at hx; cases hx)
    obtain ⟨a0, a1, a2⟩ := hc i x hx
    have c0 := (b1.cell (p := ⟨g, o + i * 3, none⟩) hg).trans a0
    have c1 := (b1.cell (p := ⟨g, o + i * 3 + 1, none⟩) hg).trans a1
    have c2 := (b1.cell (p := ⟨g, o + i * 3 + 2, none⟩) hg).trans a2
    have hil : (i : Int) < (n : Int) := by have := (List.getElem?_eq_some_iff.1 hx).1; omega
    have hck := check_any x.k x.n ⟨x.s.toArray⟩ w1 (by rw [size_mk]; exact h2 x (List.mem_of_getElem? hx))
    have e0 : (⟨x.s.toArray⟩ : ByteArray).data.toList = x.s := by simp
    rw [e0] at hck
    clear hi h2 h3 hc hq hx a0 a1 a2 hb
    generalize chkV x.k x.n x.s = c at hck HB
    go_wp2_with (go_at_call 124; refine hck.mono ?_; rintro e w2 ⟨rfl, b2⟩)
    go_ret
    exact ⟨by rw [HB.out]; rfl, b1.trans (b2.mono b1.size)⟩
abbrev w_int : List UInt8 := [105, 110, 116]
abbrev w_text : List UInt8 := [116, 101, 120, 116]
abbrev w_bool : List UInt8 := [98, 111, 111, 108]
def typesL : List (List UInt8) := [[], w_int, w_text, w_bool]
def atL (l : List (List UInt8)) (k : Int) : List UInt8 := if k < 0 then [] else l.getD k.toNat []
def StrAt (w : World) (b : Nat) (ws : List (List UInt8)) : Prop := ∀ k s, ws[k]? = some s → w.cell? ⟨b, k, none⟩ = some (.string ⟨s.toArray⟩)
theorem beq_bytes (s : ByteArray) (l : List UInt8) : (s.toList == l) = decide (s.data.toList = l) := by
  rw [Lib.toList_data, Bool.eq_iff_iff, beq_iff_eq, decide_eq_true_iff]
theorem atL_nil (ws : List (List UInt8)) (k : Int) (h : k < 0 ∨ (ws.length : Int) ≤ k) : atL ws k = [] := by
  unfold atL
  split
  · rfl
  · rw [List.getD_eq_getElem?_getD, List.getElem?_eq_none (by omega)]; rfl
theorem at_any (k : Int) (w : World) (b cap : Nat) (ws : List (List UInt8)) (hc : StrAt w b ws) :
    Calls Tryz.prog 134 #[.slice (some ⟨b, 0, none⟩) ws.length cap, .int .i64 k] w fun e w' => e = .returned (.string ⟨(atL ws k).toArray⟩) ∧ w' = w := by
  obtain ⟨n, hl⟩ : ∃ n, ws.length = n := ⟨_, rfl⟩
  rw [hl]
  by_cases h0 : k < 0
  · rw [atL_nil ws k (.inl h0)]
    clear hc
    go_enter Tryz.func134, Tryz.ntmps134
    go_wp2
    go_ret
    exact ⟨rfl, rfl⟩
  by_cases h1 : (n : Int) ≤ k
  · rw [atL_nil ws k (.inr (by omega))]
    have hd : decide (k < 0) = false := by simpa using h0
    clear hc h0
    go_enter Tryz.func134, Tryz.ntmps134
    go_wp2
    go_ret
    exact ⟨rfl, rfl⟩
  · obtain ⟨j, rfl⟩ : ∃ j : Nat, k = (j : Int) := ⟨k.toNat, by omega⟩
    obtain ⟨u, hu⟩ : ∃ u, ws[j]? = some u := ⟨ws[j], List.getElem?_eq_getElem (by omega)⟩
    have a0 := hc j u hu
    have e : atL ws (j : Int) = u := by
      unfold atL
      rw [if_neg h0, List.getD_eq_getElem?_getD, Int.toNat_natCast, hu]; rfl
    rw [e]
    have hd : decide ((j : Int) < 0) = false := by simp
    have hd2 : decide ((n : Int) ≤ (j : Int)) = false := by simpa using h1
    have hlt' : (j : Int) < (n : Int) := by omega
    clear hc h0 h1 e hu
    go_enter Tryz.func134, Tryz.ntmps134
    go_wp2
    go_ret
    exact ⟨rfl, rfl⟩
def strsOf (ws : List (List UInt8)) : Array Value := (ws.map fun s => Value.string ⟨s.toArray⟩).toArray
theorem strAt_new (w : World) (ws : List (List UInt8)) : StrAt (w.alloc (.cells (strsOf ws) 9)) w.heap.size ws := by
  intro k s hk
  have h : (w.alloc (.cells (strsOf ws) 9)).heap[w.heap.size]? = some (.cells (strsOf ws) 9) := heap_alloc_new _ _
  rw [Lib.cell_of_heap h]
  simp [strsOf, hk]
theorem types_any (w : World) : Calls Tryz.prog 135 #[] w fun e w' => e = .returned (.slice (some ⟨w.heap.size, 0, none⟩) 4 4) ∧ w' = w.alloc (.cells (strsOf typesL) 9) := by
  go_enter Tryz.func135, Tryz.ntmps135
  go_wp2
  go_ret
  exact ⟨rfl, rfl⟩
theorem ofType_any (k : Int) (w : World) : Calls Tryz.prog 86 #[.int .i64 k] w fun e w' => e = .returned (.string ⟨(atL typesL k).toArray⟩) ∧ Below w.heap.size w w' := by
  have h2 := at_any k _ w.heap.size 4 typesL (strAt_new w typesL)
  go_enter Tryz.func86, Tryz.ntmps86
  go_wp2_with (first | (go_at_call 135; refine (types_any _).mono ?_; rintro e w1 ⟨rfl, rfl⟩) | (go_at_call 134; refine h2.mono ?_; rintro e w2 ⟨rfl, rfl⟩))
  go_ret
  exact ⟨rfl, (Below.refl _ _).alloc (Nat.le_refl _) _⟩
theorem isType_iff (k : Int) : atL typesL k = [] ↔ ¬ (1 ≤ k ∧ k ≤ 3) := by
  by_cases h0 : k < 0
  · simp [atL, h0]; omega
  by_cases h4 : 4 ≤ k
  · rw [atL_nil typesL k (.inr (by simpa [typesL] using h4))]; simp; omega
  have hc : k = 0 ∨ k = 1 ∨ k = 2 ∨ k = 3 := by omega
  rcases hc with rfl | rfl | rfl | rfl <;> decide
theorem ne_empty (l : List UInt8) : ((⟨l.toArray⟩ : ByteArray).toList == []) = decide (l = []) := by
  rw [beq_bytes]
abbrev w_create : List UInt8 := [99, 114, 101, 97, 116, 101]
abbrev w_table : List UInt8 := [116, 97, 98, 108, 101]
abbrev w_drop : List UInt8 := [100, 114, 111, 112]
abbrev w_alter : List UInt8 := [97, 108, 116, 101, 114]
abbrev w_add : List UInt8 := [97, 100, 100]
abbrev w_default : List UInt8 := [100, 101, 102, 97, 117, 108, 116]
abbrev w_rename : List UInt8 := [114, 101, 110, 97, 109, 101]
abbrev w_to : List UInt8 := [116, 111]
abbrev w_retype : List UInt8 := [114, 101, 116, 121, 112, 101]
abbrev w_index : List UInt8 := [105, 110, 100, 101, 120]
abbrev w_on : List UInt8 := [111, 110]
abbrev w_insert : List UInt8 := [105, 110, 115, 101, 114, 116]
abbrev w_into : List UInt8 := [105, 110, 116, 111]
abbrev w_values : List UInt8 := [118, 97, 108, 117, 101, 115]
abbrev w_delete : List UInt8 := [100, 101, 108, 101, 116, 101]
abbrev w_from : List UInt8 := [102, 114, 111, 109]
abbrev w_where : List UInt8 := [119, 104, 101, 114, 101]
abbrev w_update : List UInt8 := [117, 112, 100, 97, 116, 101]
abbrev w_set : List UInt8 := [115, 101, 116]
abbrev w_select : List UInt8 := [115, 101, 108, 101, 99, 116]
abbrev w_order : List UInt8 := [111, 114, 100, 101, 114]
abbrev w_by : List UInt8 := [98, 121]
abbrev w_limit : List UInt8 := [108, 105, 109, 105, 116]
abbrev w_begin : List UInt8 := [98, 101, 103, 105, 110]
abbrev w_commit : List UInt8 := [99, 111, 109, 109, 105, 116]
abbrev w_rollback : List UInt8 := [114, 111, 108, 108, 98, 97, 99, 107]
abbrev w_true : List UInt8 := [116, 114, 117, 101]
abbrev w_false : List UInt8 := [102, 97, 108, 115, 101]
abbrev w_null : List UInt8 := [110, 117, 108, 108]
abbrev w_not : List UInt8 := [110, 111, 116]
abbrev w_is : List UInt8 := [105, 115]
abbrev w_and : List UInt8 := [97, 110, 100]
abbrev w_or : List UInt8 := [111, 114]
def takenL : List (List UInt8) := [w_create, w_table, w_drop, w_alter, w_add, w_default, w_rename, w_to, w_retype, w_index, w_on, w_insert, w_into, w_values, w_delete, w_from, w_where, w_update, w_set, w_select, w_order, w_by, w_limit, w_begin, w_commit, w_rollback, w_int, w_text, w_bool, w_true, w_false, w_null, w_not, w_is, w_and, w_or]
def nameW (s : List UInt8) : Bool := aloneB 1 s && !takenL.contains s
def Ml (w : World) : Prop := (∃ m, w.cell? ⟨0, 0, none⟩ = some (.int .i64 m)) ∧ 0 < w.heap.size
theorem Ml.below {w w' : World} (h : Ml w) (hb : Below w.heap.size w w') : Ml w' := by
  obtain ⟨⟨m, hm⟩, hs⟩ := h
  exact ⟨⟨m, (hb.cell (p := ⟨0, 0, none⟩) hs).trans hm⟩, Nat.lt_of_lt_of_le hs hb.size⟩
theorem contains_cons (b : UInt8) (l sub : List UInt8) : Lib.contains (b :: l) sub = (sub.isPrefixOf (b :: l) || Lib.contains l sub) := by
  have h := Lib.index_ge l sub
  unfold Lib.contains
  rw [Lib.index]
  split
  · rename_i h1; simp [h1]
  · rename_i h1
    split
    · rename_i h2
      have h2' : Lib.index l sub = -1 := by simpa using h2
      simp [h1, h2']
    · rename_i h2
      have h2' : Lib.index l sub ≠ -1 := by simpa using h2
      have e1 : (0 ≤ Lib.index l sub + 1) := by omega
      have e2 : (0 ≤ Lib.index l sub) := by omega
      simp [h1, e1, e2]
theorem pre_word (rest : List UInt8) : ∀ (s w : List UInt8), (32 : UInt8) ∉ s → (32 : UInt8) ∉ w → (s ++ [32]).isPrefixOf (w ++ 32 :: rest) = (s == w) := by
  intro s
  induction s with
  | nil =>
    intro w _ hw
    cases w with
    | nil => simp
    | cons c r =>
      simp only [List.mem_cons, not_or] at hw
      rw [List.nil_append, List.cons_append, List.isPrefixOf_cons_cons, beq_eq_false_iff_ne.2 hw.1]
      rfl
  | cons c r ih =>
    intro w hs hw
    cases w with
    | nil =>
      simp only [List.mem_cons, not_or] at hs
      rw [List.nil_append, List.cons_append, List.isPrefixOf_cons_cons, beq_eq_false_iff_ne.2 (Ne.symm hs.1)]
      rfl
    | cons d q =>
      simp only [List.mem_cons, not_or] at hs hw
      have := ih q hs.2 hw.2
      simp only [List.cons_append, List.isPrefixOf_cons_cons, this]
      rfl
theorem skip_word (sub rest : List UInt8) : ∀ w : List UInt8, (32 : UInt8) ∉ w → Lib.contains (w ++ 32 :: rest) (32 :: sub) = Lib.contains (32 :: rest) (32 :: sub) := by
  intro w
  induction w with
  | nil => intro _; rfl
  | cons c r ih =>
    intro h
    simp only [List.mem_cons, not_or] at h
    rw [List.cons_append, contains_cons, ih h.2, List.isPrefixOf_cons_cons]
    have : ((32 : UInt8) == c) = false := by rw [beq_eq_false_iff_ne]; exact h.1
    rw [this]; rfl
def encW : List (List UInt8) → List UInt8
  | [] => []
  | w :: ws => w ++ 32 :: encW ws
theorem contains_words (s : List UInt8) (hs : (32 : UInt8) ∉ s) : ∀ ws : List (List UInt8), (∀ w ∈ ws, (32 : UInt8) ∉ w) → Lib.contains (32 :: encW ws) (32 :: (s ++ [32])) = ws.contains s := by
  intro ws
  induction ws with
  | nil =>
    intro _
    rw [contains_cons]
    have h1 : (32 :: (s ++ [32])).isPrefixOf (32 :: encW []) = false := by cases s <;> simp [encW]
    have h2 : Lib.contains (encW []) (32 :: (s ++ [32])) = false := by simp [encW, Lib.contains, Lib.index]
    rw [h1, h2]; rfl
  | cons w ws ih =>
    intro h
    have hw := h w (List.mem_cons_self ..)
    rw [contains_cons, encW, List.isPrefixOf_cons_cons, pre_word _ s w hs hw, skip_word _ _ _ hw, ih fun x hx => h x (List.mem_cons_of_mem _ hx)]
    rw [List.contains_cons]; rfl
theorem runL_all (p : UInt8 → Bool) (l : List UInt8) (h : runL p l = l.length) : ∀ c ∈ l, p c = true := by
  induction l with
  | nil => intro c hc; cases hc
  | cons a r ih =>
    rw [runL_cons] at h
    by_cases ha : p a = true
    · rw [if_pos ha] at h
      intro c hc
      rcases List.mem_cons.1 hc with rfl | hc
      · exact ha
      · exact ih (by simpa using h) c hc
    · rw [if_neg ha] at h; simp at h
theorem name_parts {s : List UInt8} (h : aloneB 1 s = true) : ∃ c r, s = c :: r ∧ isL c = true ∧ (∀ x ∈ r, isW x = true) ∧ s.length ≤ 12 := by
  rw [isTok_iff] at h
  unfold isTokB at h
  simp only [decide_eq_true_eq] at h
  obtain ⟨h0, -, h1, h2, h3⟩ := h
  obtain ⟨c, r, rfl⟩ := List.exists_cons_of_ne_nil h0
  have hk : (tokL (c :: r)).1 = 1 := by omega
  rw [hk] at h3
  have hl : ¬ 12 < (c :: r).length := by
    intro hgt
    rw [wrongL, if_neg (by decide), if_pos (.inl ⟨rfl, hgt⟩)] at h3
    cases h3
  rw [tokL] at hk h2
  by_cases hc : isL c = true
  · rw [if_pos hc] at h2
    exact ⟨c, r, rfl, hc, runL_all isW r (by simpa using h2), by omega⟩
  · rw [if_neg hc] at hk
    split at hk
    · cases hk
    · split at hk
      · split at hk <;> cases hk
      · split at hk
        · cases hk
        · split at hk <;> cases hk
theorem isW_not32 {c : UInt8} (h : isW c = true) : c ≠ 32 := by
  intro e; subst e; revert h; decide
theorem isL_isW {c : UInt8} (h : isL c = true) : isW c = true := by simp [isW, h]
theorem names_no_blank {s : List UInt8} (h : aloneB 1 s = true) : (32 : UInt8) ∉ s := by
  obtain ⟨c, r, rfl, hc, hr, -⟩ := name_parts h
  intro hm
  rcases List.mem_cons.1 hm with e | hm
  · exact isW_not32 (isL_isW hc) e.symm
  · exact isW_not32 (hr _ hm) rfl
theorem taken_no_blank : ∀ w ∈ takenL, (32 : UInt8) ∉ w := by decide +kernel
theorem contains_taken {s : List UInt8} (h : aloneB 1 s = true) : Lib.contains (32 :: encW takenL) (32 :: (s ++ [32])) = takenL.contains s :=
  contains_words s (names_no_blank h) takenL taken_no_blank
theorem blanked (s : ByteArray) : ((⟨#[32]⟩ : ByteArray) ++ s ++ ⟨#[32]⟩) = ⟨(32 :: (s.data.toList ++ [32])).toArray⟩ := by
  obtain ⟨⟨l⟩⟩ := s
  have := mk_append ([32] ++ l) [32]
  rw [← mk_append] at this
  simpa using this
theorem name_row (s : ByteArray) (w : World) : TokRow (w.alloc (.cells #[.int .i64 1, .int .i64 0, .string s] 160)) w.heap.size 0 1 [⟨1, 0, s.data.toList⟩] := by
  refine ⟨rfl, ?_⟩
  intro i x hx
  match i, hx with
  | 0, hx =>
    simp at hx; subst hx
    simp
  | i + 1, hx => simp at hx
theorem name_joinS (s : List UInt8) : (joinS [⟨1, 0, s⟩]).2 = if aloneB 1 s = true then 0 else 1 := by
  unfold joinS
  by_cases h : aloneB 1 s = true
  · obtain ⟨_, _, _, _, _, hl⟩ := name_parts h
    rw [if_pos (by simpa using h), if_pos h, if_neg]
    show ¬ 2000 < s.length
    omega
  · rw [if_neg (by simpa using h), if_neg h]
theorem name_call (s : ByteArray) (w : World) (hs : s.size ≤ 140737488355328) :
    Calls Tryz.prog 132 #[.slice (some ⟨w.heap.size, 0, none⟩) 1 1] (w.alloc (.cells #[.int .i64 1, .int .i64 0, .string s] 160)) fun e w' =>
      (∃ S : List UInt8, e = .returned (.tuple #[.string ⟨S.toArray⟩, .int .i64 ((if aloneB 1 s.data.toList = true then 0 else 1 : Nat) : Int)])) ∧ Below w.heap.size w w' := by
  have hsz : s.data.toList.length = s.size := by simp
  refine (join_some w.heap.size 0 1 1 [⟨1, 0, s.data.toList⟩] _ (by decide) (by decide) (by simp) (name_row s w) (by intro x hx; simp at hx; subst hx; simp; omega)).mono ?_
  rintro e w' ⟨rfl, hb⟩
  rw [← name_joinS]
  exact ⟨⟨_, rfl⟩, ((Below.refl _ _).alloc (Nat.le_refl _) _).trans (hb.mono (by simp))⟩
theorem isName_no (s : ByteArray) (w : World) (hs : s.size ≤ 140737488355328) (h : aloneB 1 s.data.toList = false) :
    Calls Tryz.prog 85 #[.string s] w fun e w' => e = .returned (.bool false) ∧ Below w.heap.size w w' := by
  have hj := name_call s w hs
  simp only [h, Bool.false_eq_true, if_false] at hj
  go_enter Tryz.func85, Tryz.ntmps85
  go_wp2_with (go_at_call 132; refine hj.mono ?_; rintro e w1 ⟨⟨S, rfl⟩, hb1⟩)
  go_ret
  exact ⟨rfl, hb1⟩
theorem isName_yes (s : ByteArray) (w : World) (hs : s.size ≤ 140737488355328) (hl : Ml w) (h : aloneB 1 s.data.toList = true) :
    Calls Tryz.prog 85 #[.string s] w fun e w' => e = .returned (.bool (!takenL.contains s.data.toList)) ∧ Below w.heap.size w w' := by
  have hj := name_call s w hs
  simp only [h, if_true] at hj
  have hc : ∀ W : World, Ml W → Calls Tryz.prog 133 #[.string ⟨(32 :: encW takenL).toArray⟩, .string ((⟨#[32]⟩ : ByteArray) ++ s ++ ⟨#[32]⟩)] W fun e w' => e = .returned (.bool (takenL.contains s.data.toList)) ∧ w' = W := by
    intro W hW
    obtain ⟨m, hm⟩ := hW.1
    have := Tryz.strings_Contains ⟨(32 :: encW takenL).toArray⟩ ((⟨#[32]⟩ : ByteArray) ++ s ++ ⟨#[32]⟩) m W (by decide +kernel) hm
    rw [blanked] at this ⊢
    simpa only [contains_taken h] using this
  generalize takenL.contains s.data.toList = B at hc ⊢
  go_enter Tryz.func85, Tryz.ntmps85
  go_wp2_with (go_at_call 132; refine hj.mono ?_; rintro e w1 ⟨⟨S, rfl⟩, hb1⟩)
  refine (hc _ (hl.below hb1)).mono ?_
  rintro e w2 ⟨rfl, rfl⟩
  go_wp2
  go_ret
  exact ⟨rfl, hb1⟩
theorem isName_any (s : ByteArray) (w : World) (hs : s.size ≤ 140737488355328) (hl : Ml w) :
    Calls Tryz.prog 85 #[.string s] w fun e w' => e = .returned (.bool (nameW s.data.toList)) ∧ Below w.heap.size w w' := by
  unfold nameW
  cases h : aloneB 1 s.data.toList
  · exact isName_no s w hs h
  · exact isName_yes s w hs hl h
theorem cmp_less : ∀ a b : List UInt8, Op.bytesLess a b = decide (Lib.compareBytes a b < 0)
  | [], [] => by simp [Op.bytesLess, Lib.compareBytes]
  | [], _ :: _ => by simp [Op.bytesLess, Lib.compareBytes]
  | _ :: _, [] => by simp [Op.bytesLess, Lib.compareBytes]
  | x :: a, y :: b => by
    have ih := cmp_less a b
    unfold Op.bytesLess Lib.compareBytes
    by_cases h1 : x < y
    · simp [h1]
    · by_cases h2 : y < x
      · have : x ≠ y := fun e => by subst e; exact h1 h2
        simp [h1, h2, this]
      · have : x = y := UInt8.le_antisymm (UInt8.not_lt.1 h2) (UInt8.not_lt.1 h1)
        subst this
        simp [h1, ih]
theorem cmp_same : ∀ a b : List UInt8, a = b ↔ Lib.compareBytes a b = 0
  | [], [] => by simp [Lib.compareBytes]
  | [], _ :: _ => by simp [Lib.compareBytes]
  | _ :: _, [] => by simp [Lib.compareBytes]
  | x :: a, y :: b => by
    have ih := cmp_same a b
    unfold Lib.compareBytes
    by_cases h1 : x < y
    · have : x ≠ y := fun e => by subst e; exact UInt8.lt_irrefl _ h1
      simp [h1, this]
    · by_cases h2 : y < x
      · have : x ≠ y := fun e => by subst e; exact h1 h2
        simp [h1, h2, this]
      · have : x = y := UInt8.le_antisymm (UInt8.not_lt.1 h2) (UInt8.not_lt.1 h1)
        subst this
        simp [h1, ih]
theorem digit_lt (a b : Nat) (ha : a < 10) (hb : b < 10) : (UInt8.ofNat (48 + a) < UInt8.ofNat (48 + b)) ↔ a < b := by
  rw [UInt8.lt_iff_toNat_lt, UInt8.toNat_ofNat', UInt8.toNat_ofNat', Nat.mod_eq_of_lt (by omega), Nat.mod_eq_of_lt (by omega)]
  omega
theorem parse_digits : ∀ (u : Nat) (r : List UInt8), u < 1000000000000000000 → Lib.parseUint10 0 (Lib.decDigits u ++ r) = Lib.parseUint10 u r := by
  intro u
  induction u using Nat.strongRecOn with
  | _ u ih =>
    intro r hu
    rw [Lib.decDigits]
    have dg : ∀ d, d < 10 → (UInt8.ofNat (48 + d)).toNat = 48 + d := fun d hd => by rw [UInt8.toNat_ofNat', Nat.mod_eq_of_lt (by omega)]
    by_cases h : u < 10
    · rw [dif_pos h, List.singleton_append, Lib.parseUint10, dg u h, if_pos (by omega), if_neg (by omega), if_neg (by omega), show 0 * 10 + (48 + u - 48) = u by omega]
    · rw [dif_neg h, List.append_assoc, ih (u / 10) (by omega) _ (by omega), List.singleton_append, Lib.parseUint10, dg _ (Nat.mod_lt _ (by decide)), if_pos (by omega), if_neg (by omega), if_neg (by omega), show u / 10 * 10 + (48 + u % 10 - 48) = u by omega]
theorem digits_all : ∀ u : Nat, ∀ c ∈ Lib.decDigits u, 48 ≤ c.toNat ∧ c.toNat ≤ 57 := by
  intro u
  induction u using Nat.strongRecOn with
  | _ u ih =>
    have dg : ∀ d, d < 10 → (UInt8.ofNat (48 + d)).toNat = 48 + d := fun d hd => by rw [UInt8.toNat_ofNat', Nat.mod_eq_of_lt (by omega)]
    rw [Lib.decDigits]
    by_cases h : u < 10
    · rw [dif_pos h]
      intro c hc
      rw [List.mem_singleton] at hc
      rw [hc, dg u h]; omega
    · rw [dif_neg h]
      intro c hc
      rcases List.mem_append.1 hc with hc | hc
      · exact ih _ (by omega) c hc
      · rw [List.mem_singleton] at hc
        rw [hc, dg _ (Nat.mod_lt _ (by decide))]; omega
theorem atoi_itoa (N : Int) (h0 : -999999999 ≤ N) (h1 : N ≤ 999999999) : Lib.atoiAll (Lib.itoa N) = .ok N := by
  have ps : ∀ u : Nat, u < 1000000000000000000 → Lib.parseMag (Lib.decDigits u) = .ok u := by
    intro u hu
    have h := parse_digits u [] hu
    rw [List.append_nil] at h
    have hne : Lib.decDigits u ≠ [] := by
      intro e
      have := decDigits_len 17 u hu
      rw [e] at this
      simp at this
    rw [Lib.parseMag, if_neg hne, h]
    rfl
  unfold Lib.itoa
  by_cases h : N < 0
  · rw [if_pos h, Lib.atoiAll]
    have := ps N.natAbs (by omega)
    simp only [show (45 : UInt8).toNat = 45 from rfl, or_true, if_true, this, not_true, false_and, if_false, true_and]
    rw [if_neg (by omega)]
    congr 1
    omega
  · rw [if_neg h]
    have := ps N.toNat (by omega)
    have hl := decDigits_len 17 N.toNat (by omega)
    have ha := digits_all N.toNat
    cases e : Lib.decDigits N.toNat with
    | nil => rw [e] at hl; simp at hl
    | cons c r =>
      rw [e] at this ha
      have hc := ha c (by simp)
      rw [Lib.atoiAll]
      have n1 : ¬ c.toNat = 43 := by omega
      have n2 : ¬ c.toNat = 45 := by omega
      simp only [n1, n2, or_false, if_false, this, not_false_iff, true_and, false_and]
      rw [if_neg (by omega)]
      congr 1
      omega
theorem itoa_quot (N : Int) (h0 : -999999999 ≤ N) (h1 : N ≤ 999999999) : chkV 2 0 (Lib.itoa N) = 0 := by
  have hq : ∀ u : Nat, (Lib.decDigits u).all isQ = true := by
    intro u
    rw [List.all_eq_true]
    intro c hc
    have := digits_all u c hc
    simp only [isQ, Bool.and_eq_true, decide_eq_true_eq, bne_iff_ne]
    omega
  have : quotB (Lib.itoa N) = true := by
    unfold quotB Lib.itoa
    by_cases h : N < 0
    · have hl := decDigits_len 17 N.natAbs (by omega)
      rw [if_pos h]
      simp only [List.length_cons, List.all_cons, hq, Bool.and_true, Bool.and_eq_true, decide_eq_true_eq]
      exact ⟨by omega, by decide⟩
    · have hl := decDigits_len 17 N.toNat (by omega)
      rw [if_neg h]
      simp only [hq, Bool.and_true, decide_eq_true_eq]
      omega
  simp [chkV, this]
structure Dl where
  k : Int
  a : Int
  ty : Int
  v : Vl
def formF (d : Dl) : Nat :=
  if d.k = 1 then (if d.a ≠ 0 ∨ d.ty ≠ 0 then 1 else chkV d.v.k d.v.n d.v.s)
  else if d.k = 2 then (if d.ty ≠ 0 ∨ d.v ≠ vl0 then 1 else 0)
  else if d.k = 3 then (if d.v ≠ vl0 then 1 else 0)
  else 7
def widB (w : Int) (d : Dl) : Int × Nat :=
  if formF d ≠ 0 then (0, formF d)
  else if d.k = 1 then (if w = 5 then (0, 2) else (w + 1, 0))
  else if d.a < 0 ∨ w ≤ d.a then (0, 5)
  else if d.k = 2 then (w - 1, 0)
  else if 1 ≤ d.ty ∧ d.ty ≤ 3 then (w, 0) else (0, 7)
def ckD : Int → List Dl → Int × Nat
  | w, [] => (w, 0)
  | w, d :: r => if (widB w d).2 = 0 then ckD (widB w d).1 r else (0, (widB w d).2)
def checkD (w : Int) (L : List Dl) : Int × Nat := if w < 0 ∨ 5 < w then (0, 3) else ckD w L
def castX (x : Vl) (t : Int) : Vl := ⟨(castV x.k x.n x.s t).1, (castV x.k x.n x.s t).2.1, (castV x.k x.n x.s t).2.2⟩
def rowB (r : List Vl) (d : Dl) : List Vl :=
  if d.k = 1 then r ++ [d.v] else if d.k = 2 then r.eraseIdx d.a.toNat else r.set d.a.toNat (castX (r.getD d.a.toNat vl0) d.ty)
def applyE (r : List Vl) (L : List Dl) : Nat := if 5 < r.length then 2 else if (checkD r.length L).2 ≠ 0 then (checkD r.length L).2 else badL r
def applyL (r : List Vl) (L : List Dl) : List Vl := if applyE r L = 0 then L.foldl rowB r else []
theorem widB_err (w : Int) (d : Dl) (h : (widB w d).2 ≠ 0) : (widB w d).1 = 0 := by
  unfold widB at h ⊢
  repeat' split
  all_goals first | rfl | (simp_all; done) | (exfalso; simp_all)
theorem widB_ok {w : Int} {d : Dl} (h : (widB w d).2 = 0) : (d.k = 1 ∧ w ≠ 5 ∧ (widB w d).1 = w + 1 ∧ chkV d.v.k d.v.n d.v.s = 0) ∨ (d.k = 2 ∧ 0 ≤ d.a ∧ d.a < w ∧ (widB w d).1 = w - 1) ∨ (d.k = 3 ∧ 0 ≤ d.a ∧ d.a < w ∧ 1 ≤ d.ty ∧ d.ty ≤ 3 ∧ (widB w d).1 = w) := by
  unfold widB at h ⊢
  by_cases hf : formF d ≠ 0
  · rw [if_pos hf] at h; exact absurd h hf
  rw [if_neg hf] at h ⊢
  have hf : formF d = 0 := Classical.not_not.1 hf
  by_cases h1 : d.k = 1
  · rw [if_pos h1] at h ⊢
    by_cases h5 : w = 5
    · rw [if_pos h5] at h; cases h
    · rw [if_neg h5]
      refine Or.inl ⟨h1, h5, rfl, ?_⟩
      unfold formF at hf
      rw [if_pos h1] at hf
      by_cases hx : d.a ≠ 0 ∨ d.ty ≠ 0
      · rw [if_pos hx] at hf; cases hf
      · rw [if_neg hx] at hf; exact hf
  rw [if_neg h1] at h ⊢
  by_cases ha : d.a < 0 ∨ w ≤ d.a
  · rw [if_pos ha] at h; cases h
  rw [if_neg ha] at h ⊢
  by_cases h2 : d.k = 2
  · rw [if_pos h2]; exact Or.inr (Or.inl ⟨h2, by omega, by omega, rfl⟩)
  rw [if_neg h2] at h ⊢
  have h3 : d.k = 3 := by
    unfold formF at hf
    rw [if_neg h1, if_neg h2] at hf
    by_cases h3 : d.k = 3
    · exact h3
    · rw [if_neg h3] at hf; cases hf
  by_cases ht : 1 ≤ d.ty ∧ d.ty ≤ 3
  · rw [if_pos ht]; exact Or.inr (Or.inr ⟨h3, by omega, by omega, ht.1, ht.2, rfl⟩)
  · rw [if_neg ht] at h; cases h
theorem widB_fit {w : Int} {d : Dl} (h : (widB w d).2 = 0) (h0 : 0 ≤ w) (h5 : w ≤ 5) : 0 ≤ (widB w d).1 ∧ (widB w d).1 ≤ 5 := by
  rcases widB_ok h with ⟨_, a, b, _⟩ | ⟨_, a, b, c⟩ | ⟨_, a, b, _, _, c⟩ <;> omega
theorem ckD_append (A B : List Dl) : ∀ w, ckD w (A ++ B) = if (ckD w A).2 = 0 then ckD (ckD w A).1 B else (0, (ckD w A).2) := by
  induction A with
  | nil => intro w; rfl
  | cons d r ih =>
    intro w
    rw [List.cons_append, ckD, ckD]
    by_cases h : (widB w d).2 = 0
    · rw [if_pos h, if_pos h, ih]
    · rw [if_neg h, if_neg h]; simp only; rw [if_neg h]
theorem ckD_err (L : List Dl) : ∀ w, (ckD w L).2 ≠ 0 → (ckD w L).1 = 0 := by
  induction L with
  | nil => intro w h; exact absurd rfl h
  | cons d r ih =>
    intro w h
    rw [ckD] at h ⊢
    by_cases h1 : (widB w d).2 = 0
    · rw [if_pos h1] at h ⊢; exact ih _ h
    · rw [if_neg h1]
theorem rowB_len {r : List Vl} {d : Dl} (h : (widB (r.length : Nat) d).2 = 0) : ((rowB r d).length : Int) = (widB (r.length : Nat) d).1 := by
  rcases widB_ok h with ⟨k, a, b, _⟩ | ⟨k, a, b, c⟩ | ⟨k, a, b, _, _, c⟩
  · rw [b, rowB, if_pos k]; simp
  · rw [c, rowB, if_neg (by omega), if_pos k, List.length_eraseIdx]
    rw [if_pos (by omega)]; omega
  · rw [c, rowB, if_neg (by omega), if_neg (by omega)]; simp
theorem apply_len (L : List Dl) : ∀ r : List Vl, (ckD (r.length : Nat) L).2 = 0 → ((L.foldl rowB r).length : Int) = (ckD (r.length : Nat) L).1 := by
  induction L with
  | nil => intro r _; rfl
  | cons d l ih =>
    intro r h
    rw [ckD] at h ⊢
    by_cases h1 : (widB (r.length : Nat) d).2 = 0
    · rw [if_pos h1] at h ⊢
      rw [← rowB_len h1] at h ⊢
      exact ih _ h
    · rw [if_neg h1] at h; exact absurd h h1
theorem castV_ok (K N : Int) (S : List UInt8) (t : Int) (h : chkV K N S = 0) (ht : 1 ≤ t ∧ t ≤ 3) : chkV (castV K N S t).1 (castV K N S t).2.1 (castV K N S t).2.2 = 0 := by
  have h0 : chkV 0 0 [] = 0 := by decide
  have hI : ∀ n : Int, -999999999 ≤ n → n ≤ 999999999 → chkV 1 n [] = 0 := by
    intro n a b
    simp [chkV, isInt, a, b]
  have hB : ∀ b : Bool, chkV 3 (oneV b) [] = 0 := by intro b; cases b <;> decide
  have ht : t = 1 ∨ t = 2 ∨ t = 3 := by omega
  rcases chk_zero h with ⟨rfl, rfl, rfl⟩ | ⟨rfl, ⟨a, b⟩, rfl⟩ | ⟨rfl, rfl, c⟩ | ⟨rfl, d, rfl⟩
  · rcases ht with rfl | rfl | rfl <;> exact h0
  · rcases ht with rfl | rfl | rfl
    · exact hI N a b
    · exact itoa_quot N a b
    · exact hB _
  · rcases ht with rfl | rfl | rfl
    · simp only [castV]
      cases hv : intV S with
      | none => simpa using h0
      | some n =>
        have : isInt n = true := by
          unfold intV at hv
          split at hv
          · split at hv
            · rename_i hc; cases hv; exact hc.1
            · cases hv
          · cases hv
        simp only [isInt, Bool.and_eq_true, decide_eq_true_eq] at this
        simpa using hI n this.1 this.2
    · exact h
    · simp only [castV]
      by_cases e1 : S = tru
      · rw [if_pos e1]; exact hB true
      · by_cases e2 : S = fal
        · rw [if_neg e1, if_pos e2]; exact hB false
        · rw [if_neg e1, if_neg e2]; simpa using h0
  · rcases ht with rfl | rfl | rfl
    · exact hI N (by omega) (by omega)
    · rcases d with rfl | rfl <;> decide
    · exact hB _
theorem rowB_ok {r : List Vl} {d : Dl} (h : (widB (r.length : Nat) d).2 = 0) (hb : badL r = 0) : badL (rowB r d) = 0 := by
  rw [badL_zero] at hb ⊢
  rcases widB_ok h with ⟨k, a, b, hv⟩ | ⟨k, a, b, c⟩ | ⟨k, a, b, t0, t1, c⟩
  · rw [rowB, if_pos k]
    intro x hx
    rcases List.mem_append.1 hx with hx | hx
    · exact hb x hx
    · rw [List.mem_singleton] at hx; subst hx; exact hv
  · rw [rowB, if_neg (by omega), if_pos k]
    intro x hx
    exact hb x (List.mem_of_mem_eraseIdx hx)
  · rw [rowB, if_neg (by omega), if_neg (by omega)]
    intro x hx
    rcases List.mem_or_eq_of_mem_set hx with hx | hx
    · exact hb x hx
    · subst hx
      have hm : r.getD d.a.toNat vl0 ∈ r := by
        have hl : d.a.toNat < r.length := by omega
        rw [List.getD_eq_getElem?_getD, List.getElem?_eq_getElem hl]
        exact List.getElem_mem _
      exact castV_ok _ _ _ _ (hb _ hm) ⟨t0, t1⟩
theorem apply_ok (L : List Dl) : ∀ r : List Vl, (ckD (r.length : Nat) L).2 = 0 → badL r = 0 → badL (L.foldl rowB r) = 0 := by
  induction L with
  | nil => intro r _ h; exact h
  | cons d l ih =>
    intro r h hb
    rw [ckD] at h
    by_cases h1 : (widB (r.length : Nat) d).2 = 0
    · rw [if_pos h1] at h
      rw [← rowB_len h1] at h
      exact ih _ h (rowB_ok h1 hb)
    · rw [if_neg h1] at h; exact absurd h h1
theorem ckD_take (L : List Dl) (n : Nat) (w : Int) (h : (ckD w L).2 = 0) : (ckD w (L.take n)).2 = 0 ∧ ckD (ckD w (L.take n)).1 (L.drop n) = ckD w L := by
  have e := ckD_append (L.take n) (L.drop n) w
  rw [List.take_append_drop] at e
  by_cases h1 : (ckD w (L.take n)).2 = 0
  · rw [if_pos h1] at e; exact ⟨h1, e.symm⟩
  · rw [if_neg h1] at e; rw [e] at h; exact absurd h h1
theorem apply_parts (r : List Vl) (L : List Dl) (n : Nat) (h : applyE r L = 0) :
    applyE r (L.take n) = 0 ∧ applyE (applyL r (L.take n)) (L.drop n) = 0 ∧ applyL (applyL r (L.take n)) (L.drop n) = applyL r L ∧ checkD (r.length : Nat) L = (((applyL r L).length : Int), 0) := by
  have hh := h
  unfold applyE at h
  by_cases h5 : 5 < r.length
  · rw [if_pos h5] at h; cases h
  rw [if_neg h5] at h
  by_cases hc : (checkD (r.length : Nat) L).2 ≠ 0
  · rw [if_pos hc] at h; exact absurd h hc
  rw [if_neg hc] at h
  have hc : (checkD (r.length : Nat) L).2 = 0 := Classical.not_not.1 hc
  have hw : ¬ ((r.length : Int) < 0 ∨ 5 < (r.length : Int)) := by omega
  unfold checkD at hc
  rw [if_neg hw] at hc
  obtain ⟨t1, t2⟩ := ckD_take L n _ hc
  have e1 : applyE r (L.take n) = 0 := by
    unfold applyE checkD
    rw [if_neg h5, if_neg hw, if_neg (by rw [t1]; exact fun h => h rfl)]; exact h
  have l1 : applyL r (L.take n) = (L.take n).foldl rowB r := by rw [applyL, if_pos e1]
  have len1 := apply_len _ r t1
  have ok1 := apply_ok _ r t1 h
  have f1 : 0 ≤ (ckD (r.length : Nat) (L.take n)).1 ∧ (ckD (r.length : Nat) (L.take n)).1 ≤ 5 := by
    have go : ∀ (A : List Dl) (w : Int), 0 ≤ w → w ≤ 5 → (ckD w A).2 = 0 → 0 ≤ (ckD w A).1 ∧ (ckD w A).1 ≤ 5 := by
      intro A
      induction A with
      | nil => intro w a b _; exact ⟨a, b⟩
      | cons d A ih =>
        intro w a b hA
        rw [ckD] at hA ⊢
        by_cases h1 : (widB w d).2 = 0
        · rw [if_pos h1] at hA ⊢
          obtain ⟨p, q⟩ := widB_fit h1 a b
          exact ih _ p q hA
        · rw [if_neg h1] at hA; exact absurd hA h1
    exact go _ _ (by omega) (by omega) t1
  have hw2 : ¬ ((((L.take n).foldl rowB r).length : Int) < 0 ∨ 5 < (((L.take n).foldl rowB r).length : Int)) := by omega
  have e2 : applyE ((L.take n).foldl rowB r) (L.drop n) = 0 := by
    unfold applyE checkD
    rw [if_neg (by omega), if_neg hw2, len1, t2, if_neg (by rw [hc]; exact fun h => h rfl)]; exact ok1
  refine ⟨e1, by rw [l1]; exact e2, ?_, ?_⟩
  · rw [l1, applyL, if_pos e2, applyL, if_pos hh, ← List.foldl_append, List.take_append_drop]
  · rw [applyL, if_pos hh, checkD, if_neg hw, apply_len L r hc]
    exact Prod.ext rfl hc
end Go.Proofs.YtcnnjladaoaeiaaGreatDoor
