/-
  The law 'ValueKeys'.
-/
import Derived.Test.YtpigdmnpnceohaaDoorKeysP
namespace Go.Proofs.YtpigdmnpnceohaaDoor
open Go.RowKit

/-- two boxed values, held below -/
def Two (w : World) (K N : Int) (s : ByteArray) (K' N' : Int) (s' : ByteArray) (W : World) : Prop :=
  W.heap[w.heap.size]? = some (.cells #[.int .i64 K, .int .i64 N, .string s] 23) ∧ W.heap[w.heap.size + 1]? = some (.cells #[.int .i64 K', .int .i64 N', .string s'] 23) ∧ Below w.heap.size w W ∧ w.heap.size + 2 ≤ W.heap.size

theorem Two.start (w : World) (K N : Int) (s : ByteArray) (K' N' : Int) (s' : ByteArray) :
    Two w K N s K' N' s' ((w.alloc (.cells #[.int .i64 K, .int .i64 N, .string s] 23)).alloc (.cells #[.int .i64 K', .int .i64 N', .string s'] 23)) := by
  have hz : (w.alloc (.cells #[.int .i64 K, .int .i64 N, .string s] 23)).heap.size = w.heap.size + 1 := by simp
  refine ⟨?_, ?_, ((Below.refl _ _).alloc (Nat.le_refl _) _).alloc (by simp) _, by simp⟩
  · exact (Below.heap_alloc _ _ _ (by omega)).trans (heap_alloc_new _ _)
  · rw [← hz]; exact heap_alloc_new _ _

theorem Two.below {w : World} {K N : Int} {s : ByteArray} {K' N' : Int} {s' : ByteArray} {W W' : World} (h : Two w K N s K' N' s' W) (hb : Below W.heap.size W W') : Two w K N s K' N' s' W' := by
  obtain ⟨h1, h2, h3, h4⟩ := h
  exact ⟨(hb.block _ (by omega)).trans h1, (hb.block _ (by omega)).trans h2, h3.trans (hb.mono h3.size), Nat.le_trans h4 hb.size⟩

theorem Two.alloc {w : World} {K N : Int} {s : ByteArray} {K' N' : Int} {s' : ByteArray} {W : World} (h : Two w K N s K' N' s' W) (o : Obj) : Two w K N s K' N' s' (W.alloc o) :=
  h.below ((Below.refl _ _).alloc (Nat.le_refl _) o)

set_option maxRecDepth 100000 in
set_option maxHeartbeats 800000 in
theorem keys_err (K N K' N' : Int) (s s' : ByteArray) (w : World) (hl : Laid w) (E : Nat) (hE : ((E : Int) != 0) = true)
    (ho : ∀ W : World, Calls Tryd.prog 5 #[.agg #[.int .i64 K, .int .i64 N, .string s], .agg #[.int .i64 K', .int .i64 N', .string s']] W fun e w' => e = .returned (.tuple #[.int .i64 0, .int .i64 (E : Nat)]) ∧ Below W.heap.size W w') :
    Calls Tryd.prog 4 #[.agg #[.int .i64 K, .int .i64 N, .string s], .agg #[.int .i64 K', .int .i64 N', .string s']] w fun e w' => e = .returned (.bool true) ∧ Below w.heap.size w w' := by
  have t0 := hide (Two.start w K N s K' N' s')
  have hbg := fun W (hW : Below w.heap.size w W) => begun_any W (hl.below hW)
  clear hl
  go_enter Tryd.func4, Tryd.ntmps4
  go_wp2_with fail
  refine (ho _).mono ?_
  rintro e w1 ⟨rfl, b1⟩
  have t1 := t0.out.below b1
  clear t0 b1 ho
  go_wp2_with fail
  refine (hbg _ t1.2.2.1).mono ?_
  rintro e w2 ⟨rfl, b2⟩
  have t2 := hide (t1.below b2)
  clear t1 b2 hbg
  go_wp2
  go_ret
  exact ⟨rfl, t2.out.2.2.1⟩

set_option maxRecDepth 100000 in
set_option maxHeartbeats 1600000 in
theorem keys_02 (K N K' N' : Int) (s s' : ByteArray) (w : World) (hl : Laid w) (n : Int) (k l : ByteArray) (hK : K = 0 ∨ K = 2)
    (hL : Op.bytesLess k.toList l.toList = decide (n < 0)) (hQ : (k.toList == l.toList) = (n == 0))
    (ho : ∀ W : World, Calls Tryd.prog 5 #[.agg #[.int .i64 K, .int .i64 N, .string s], .agg #[.int .i64 K', .int .i64 N', .string s']] W fun e w' => e = .returned (.tuple #[.int .i64 n, .int .i64 0]) ∧ Below W.heap.size W w')
    (hk : ∀ W : World, Below w.heap.size w W → Calls Tryd.prog 7 #[.agg #[.int .i64 K, .int .i64 N, .string s]] W fun e w' => e = .returned (.tuple #[.string k, .int .i64 0]) ∧ Below W.heap.size W w')
    (hk' : ∀ W : World, Below w.heap.size w W → Calls Tryd.prog 7 #[.agg #[.int .i64 K', .int .i64 N', .string s']] W fun e w' => e = .returned (.tuple #[.string l, .int .i64 0]) ∧ Below W.heap.size W w') :
    Calls Tryd.prog 4 #[.agg #[.int .i64 K, .int .i64 N, .string s], .agg #[.int .i64 K', .int .i64 N', .string s']] w fun e w' => e = .returned (.bool true) ∧ Below w.heap.size w w' := by
  have t0 := hide (Two.start w K N s K' N' s')
  have hbg := fun W (hW : Below w.heap.size w W) => begun_any W (hl.below hW)
  clear hl
  go_enter Tryd.func4, Tryd.ntmps4
  go_wp2_with fail
  refine (ho _).mono ?_
  rintro e w1 ⟨rfl, b1⟩
  have t1 := t0.out.below b1
  clear t0 b1 ho
  go_wp2_with fail
  refine (hbg _ t1.2.2.1).mono ?_
  rintro e w2 ⟨rfl, b2⟩
  have t2 := t1.below b2
  clear t1 b2 hbg
  obtain ⟨⟨c0, c1, c2⟩, -⟩ := three t2.1
  go_wp2_with fail
  refine (hk _ t2.2.2.1).mono ?_
  rintro e w3 ⟨rfl, b3⟩
  have t3 := t2.below b3
  clear t2 b3 hk c0 c1 c2
  obtain ⟨⟨c0, c1, c2⟩, -⟩ := three t3.2.1
  go_wp2_with fail
  refine (hk' _ t3.2.2.1).mono ?_
  rintro e w4 ⟨rfl, b4⟩
  have t4 := t3.below b4
  clear t3 b4 hk' c0 c1 c2
  obtain ⟨⟨c0, c1, c2⟩, -⟩ := three t4.1
  have q4 := hide t4.2.2.1
  clear t4
  rcases hK with rfl | rfl
  · go_wp2
    go_ret
    exact ⟨rfl, q4.out⟩
  · go_wp2
    go_ret
    exact ⟨rfl, q4.out⟩

set_option maxRecDepth 100000 in
set_option maxHeartbeats 1600000 in
theorem keys_13 (K N K' N' : Int) (s s' : ByteArray) (w : World) (hl : Laid w) (n : Int) (k l : ByteArray) (h0 : (K == 0) = false) (h2 : (K == 2) = false) (x y : Int) (u : ByteArray)
    (hL : Op.bytesLess k.toList l.toList = decide (n < 0)) (hQ : (k.toList == l.toList) = (n == 0))
    (ho : ∀ W : World, Calls Tryd.prog 5 #[.agg #[.int .i64 K, .int .i64 N, .string s], .agg #[.int .i64 K', .int .i64 N', .string s']] W fun e w' => e = .returned (.tuple #[.int .i64 n, .int .i64 0]) ∧ Below W.heap.size W w')
    (hk : ∀ W : World, Below w.heap.size w W → Calls Tryd.prog 7 #[.agg #[.int .i64 K, .int .i64 N, .string s]] W fun e w' => e = .returned (.tuple #[.string k, .int .i64 0]) ∧ Below W.heap.size W w')
    (hk' : ∀ W : World, Below w.heap.size w W → Calls Tryd.prog 7 #[.agg #[.int .i64 K', .int .i64 N', .string s']] W fun e w' => e = .returned (.tuple #[.string l, .int .i64 0]) ∧ Below W.heap.size W w')
    (hc : ∀ W : World, Below w.heap.size w W → Calls Tryd.prog 6 #[.agg #[.int .i64 K, .int .i64 N, .string s], .int .i64 2] W fun e w' => e = .returned (.tuple #[.agg #[.int .i64 x, .int .i64 y, .string u], .int .i64 0]) ∧ Below W.heap.size W w')
    (hc' : ∀ W : World, Below w.heap.size w W → Calls Tryd.prog 6 #[.agg #[.int .i64 x, .int .i64 y, .string u], .int .i64 K] W fun e w' => e = .returned (.tuple #[.agg #[.int .i64 K, .int .i64 N, .string s], .int .i64 0]) ∧ Below W.heap.size W w') :
    Calls Tryd.prog 4 #[.agg #[.int .i64 K, .int .i64 N, .string s], .agg #[.int .i64 K', .int .i64 N', .string s']] w fun e w' => e = .returned (.bool true) ∧ Below w.heap.size w w' := by
  have t0 := hide (Two.start w K N s K' N' s')
  have hbg := fun W (hW : Below w.heap.size w W) => begun_any W (hl.below hW)
  clear hl
  go_enter Tryd.func4, Tryd.ntmps4
  go_wp2_with fail
  refine (ho _).mono ?_
  rintro e w1 ⟨rfl, b1⟩
  have t1 := t0.out.below b1
  clear t0 b1 ho
  go_wp2_with fail
  refine (hbg _ t1.2.2.1).mono ?_
  rintro e w2 ⟨rfl, b2⟩
  have t2 := t1.below b2
  clear t1 b2 hbg
  obtain ⟨⟨c0, c1, c2⟩, -⟩ := three t2.1
  go_wp2_with fail
  refine (hk _ t2.2.2.1).mono ?_
  rintro e w3 ⟨rfl, b3⟩
  have t3 := t2.below b3
  clear t2 b3 hk c0 c1 c2
  obtain ⟨⟨c0, c1, c2⟩, -⟩ := three t3.2.1
  go_wp2_with fail
  refine (hk' _ t3.2.2.1).mono ?_
  rintro e w4 ⟨rfl, b4⟩
  have t4 := t3.below b4
  clear t3 b4 hk' c0 c1 c2
  obtain ⟨⟨c0, c1, c2⟩, -⟩ := three t4.1
  go_wp2_with fail
  refine (hc _ t4.2.2.1).mono ?_
  rintro e w5 ⟨rfl, b5⟩
  have t5 := t4.below b5
  clear t4 b5 hc c0 c1 c2
  obtain ⟨⟨c0, c1, c2⟩, -⟩ := three t5.1
  have z5 : w.heap.size < w5.heap.size := by have := t5.2.2.2; omega
  have t5' := t5.alloc (.cells #[.int .i64 x, .int .i64 y, .string u] 23)
  go_wp2_with fail
  refine (hc' _ t5'.2.2.1).mono ?_
  rintro e w6 ⟨rfl, b6⟩
  have t6 := t5'.below b6
  clear t5 t5' b6 hc' c0 c1 c2 z5
  obtain ⟨⟨c0, c1, c2⟩, -⟩ := three t6.1
  have z6 : w.heap.size < w6.heap.size := by have := t6.2.2.2; omega
  have q6 := hide (t6.alloc (.cells #[.int .i64 K, .int .i64 N, .string s] 23)).2.2.1
  clear t6
  have hq := eql23
  have hst : sameTk K N s K N s = true := by simp [sameTk]
  go_wp2
  go_ret
  exact ⟨rfl, q6.out⟩

theorem keys_any (K N K' N' : Int) (s s' : ByteArray) (w : World) (hs : s.size ≤ 140737488355328) (hs' : s'.size ≤ 140737488355328) (hl : Laid w) :
    Calls Tryd.prog 4 #[.agg #[.int .i64 K, .int .i64 N, .string s], .agg #[.int .i64 K', .int .i64 N', .string s']] w fun e w' => e = .returned (.bool true) ∧ Below w.heap.size w w' := by
  have ho := fun W => order_any K N K' N' s s' W hs hs'
  by_cases hE : ordE K N s.data.toList K' N' s'.data.toList = 0
  · have h1 : chkV K N s.data.toList = 0 := by
      unfold ordE at hE
      by_cases h : chkV K N s.data.toList = 0
      · exact h
      · rw [if_pos h] at hE; exact hE
    have h2 : chkV K' N' s'.data.toList = 0 := by
      unfold ordE at hE
      rw [if_neg (by omega)] at hE; exact hE
    have hN : ordN K N s.data.toList K' N' s'.data.toList = ordV K N s.data.toList K' N' s'.data.toList := by rw [ordN, if_pos hE]
    rw [hN, hE] at ho
    obtain ⟨hL, hQ⟩ := keys_stand K N K' N' s.data.toList s'.data.toList h1 h2
    have hk := fun W (hW : Below w.heap.size w W) => key_any K N s W hs (hl.below hW)
    have hk' := fun W (hW : Below w.heap.size w W) => key_any K' N' s' W hs' (hl.below hW)
    rw [if_pos h1, h1] at hk
    rw [if_pos h2, h2] at hk'
    have hL' : Op.bytesLess (⟨(keyV K N s.data.toList).toArray⟩ : ByteArray).toList (⟨(keyV K' N' s'.data.toList).toArray⟩ : ByteArray).toList = decide (ordV K N s.data.toList K' N' s'.data.toList < 0) := by
      rw [Lib.toList_data, Lib.toList_data]; exact hL
    have hQ' : ((⟨(keyV K N s.data.toList).toArray⟩ : ByteArray).toList == (⟨(keyV K' N' s'.data.toList).toArray⟩ : ByteArray).toList) = (ordV K N s.data.toList K' N' s'.data.toList == 0) := by
      rw [Lib.toList_data, Lib.toList_data, Bool.eq_iff_iff, beq_iff_eq, beq_iff_eq]; exact hQ
    by_cases hK : K = 0 ∨ K = 2
    · exact keys_02 K N K' N' s s' w hl _ _ _ hK hL' hQ' ho hk hk'
    · have k0 : K ≠ 0 := fun e => hK (Or.inl e)
      have k2 : K ≠ 2 := fun e => hK (Or.inr e)
      obtain ⟨e1, e2, e3⟩ := cast_back K N s.data.toList h1 k0 k2
      have hc := fun W (hW : Below w.heap.size w W) => cast_any K N 2 s W hs (hl.below hW)
      have hsz : (⟨(castR K N s.data.toList 2).2.2.toArray⟩ : ByteArray).size ≤ 140737488355328 := by
        have : chkV (castR K N s.data.toList 2).1 (castR K N s.data.toList 2).2.1 (castR K N s.data.toList 2).2.2 = 0 := by
          unfold castE at e2
          by_cases h : chkV (castR K N s.data.toList 2).1 (castR K N s.data.toList 2).2.1 (castR K N s.data.toList 2).2.2 = 0
          · exact h
          · rw [if_pos h] at e2; exact absurd e2 h
        have hlen : (castR K N s.data.toList 2).2.2.length ≤ 20 := by
          rcases chk_zero this with ⟨-, -, e⟩ | ⟨-, -, e⟩ | ⟨-, -, e, -⟩ | ⟨-, -, e⟩
          · rw [e]; decide
          · rw [e]; decide
          · exact e
          · rw [e]; decide
        show (castR K N s.data.toList 2).2.2.toArray.size ≤ _
        rw [List.size_toArray]
        omega
      have hc' := fun W (hW : Below w.heap.size w W) => cast_any (castR K N s.data.toList 2).1 (castR K N s.data.toList 2).2.1 K ⟨(castR K N s.data.toList 2).2.2.toArray⟩ W hsz (hl.below hW)
      have hd : (⟨(castR K N s.data.toList 2).2.2.toArray⟩ : ByteArray).data.toList = (castR K N s.data.toList 2).2.2 := by simp
      rw [e1] at hc
      rw [hd, e2, e3] at hc'
      exact keys_13 K N K' N' s s' w hl _ _ _ (by simpa using k0) (by simpa using k2) _ _ _ hL' hQ' ho hk hk' hc hc'
  · have hN : ordN K N s.data.toList K' N' s'.data.toList = 0 := by rw [ordN, if_neg hE]
    rw [hN] at ho
    exact keys_err K N K' N' s s' w hl _ (by simp; omega) ho

end Go.Proofs.YtpigdmnpnceohaaDoor
