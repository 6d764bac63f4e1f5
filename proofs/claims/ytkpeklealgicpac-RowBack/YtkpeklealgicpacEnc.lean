/-
  'appendNumber', 'appendValue' of package row.
-/
import Derived.Test.YtkpeklealgicpacRdl
namespace Go.Proofs.Ytkpeklealgicpac
open Go.RowKit

def u8V (c : UInt8) : Value := .int .u8 (c.toNat : Int)
theorem Try.info_u8 : (Try.prog.info? 5).map (fun i => (i.zero, i.size, i.bytes)) = some (some (.int .u8 0), 1, 1) := by kernel_rfl

/-- bytes of one's own -/
def Bs (w : World) (B : Nat) (v : Value) (l : List UInt8) : Prop := w.ownsRow B 5 1 v l.length (l.map u8V)

theorem grown_own {w0 w w3 : World} {B : Nat} {v : Value} {n : Nat} {xs : List Value} {e : TypeId} {size : Nat} (hown : w.ownsRow B e size v n xs) (hg : Below B w0 w) (hgrow : w.grownBy w3 v.ownBlock) (hB : B ≤ w.heap.size) : Below B w0 w3 :=
  hg.grown hgrow hB fun j hj => (hown.lt j hj).1

/-- all that is of another type stays -/
def Oth (w w' : World) : Prop := ∀ (k : Nat) c t fz, t ≠ 5 → w.heap[k]? = some (.cells c t fz) → w'.heap[k]? = some (.cells c t fz)
theorem Oth.refl (w : World) : Oth w w := fun _ _ _ _ _ h => h
theorem Oth.trans {a b c : World} (h : Oth a b) (k : Oth b c) : Oth a c := fun i x t f ht hx => k i x t f ht (h i x t f ht hx)
theorem Oth.alloc {a b : World} (h : Oth a b) (o : Obj) : Oth a (b.alloc o) := fun i x t f ht hx => by
  have := h i x t f ht hx
  exact (((Below.refl b.heap.size b).alloc (Nat.le_refl _) o).block i (Array.getElem?_eq_some_iff.1 this).1).trans this
theorem oth_grown {w w3 : World} {B : Nat} {v : Value} {n : Nat} {xs : List Value} (hown : w.ownsRow B 5 1 v n xs) (hg : w.grownBy w3 v.ownBlock) : Oth w w3 := fun k c t fz ht hk => by
  refine (hg.block k (Array.getElem?_eq_some_iff.1 hk).1 fun e => ?_).trans hk
  obtain ⟨c', fz', h'⟩ := ownsRow_kind hown k e.symm
  rw [hk] at h'
  simp only [Option.some.injEq, Obj.cells.injEq] at h'
  exact ht h'.2.1

theorem u8_b8 (n : Int) : (Value.int .u8 (n % 256)) = u8V (b8 n) := by
  rw [u8V, b8_toNat]

/-- what is left behind bytes that were put there -/
def BsPost (B : Nat) (w : World) (l : List UInt8) (e : Ending) (w' : World) : Prop := ∃ v', e = .returned v' ∧ Bs w' B v' l ∧ Below B w w' ∧ Oth w w'

set_option maxRecDepth 100000 in
set_option maxHeartbeats 1600000 in
theorem number_app (B : Nat) (v : Value) (cur : List UInt8) (n : Int) (many : Nat) (w : World) (hv : Bs w B v cur) (hB : B ≤ w.heap.size) (hn0 : -9223372036854775808 ≤ n) (hn1 : n ≤ 9223372036854775807) (hm : many ≤ 4) (hc : cur.length ≤ 1000000) :
    Calls Try.prog 13 #[v, .int .i64 n, .int .i64 (many : Int)] w fun e w' => BsPost B w (cur ++ leB many n) e w' := by
  obtain ⟨i0, hi, hz0, hz1, hz2⟩ := info_parts Try.info_u8
  unfold Bs at hv
  go_enter Try.func13, Try.ntmps13
  go_wp2_with fail
  go_loopw [0, 1, 8] (fun v' k i wl => ∃ (j : Nat) (n' : Int) (acc : List UInt8), j ≤ many ∧ i = .int .i64 (j : Int) ∧ k = .int .i64 n' ∧ wl.ownsRow B 5 1 v' acc.length (acc.map u8V) ∧ Below B w wl ∧ Oth w wl ∧ B ≤ wl.heap.size ∧ -9223372036854775808 ≤ n' ∧ n' ≤ 9223372036854775807 ∧ acc.length ≤ 1000000 + j ∧ Hid (acc ++ leB (many - j) n' = cur ++ leB many n)) (fun _ _ i _ => many - (intOf i).toNat)
  case atStart => exact ⟨0, n, cur, Nat.zero_le _, rfl, rfl, hv, Below.refl _ _, Oth.refl _, hB, hn0, hn1, hc, rfl⟩
  case round =>
    obtain ⟨j, n', acc, hj, rfl, rfl, hown, hnx, hox, hBw, h0, h1, hal, HE⟩ := hrel
    by_cases hlt : j < many
    · have hlt' : (j : Int) < (many : Int) := by omega
      have HE2 : Hid ((acc ++ [b8 n']) ++ leB (many - (j + 1)) (n' / 256) = cur ++ leB many n) := by
        show _ = _
        rw [← HE.out, show many - j = (many - (j + 1)) + 1 by omega, leB]
        simp
      clear HE
      have hown2 := hown.alloc (.cells #[.int .u8 (n' % 256)] 5)
      go_wp2_with (at_builtin; refine wpList_append_own _ rfl _ _ 33 rfl B 5 i0 (.int .u8 0) 1 1 Try.underlying33 hi hz0 hz1 hz2 rfl (by decide) _ _ _ rfl hown2 ⟨wr.heap.size, 0, none⟩ 1 1 [.int .u8 (n' % 256)] rfl rfl ?c1 ?c2 ?c3 ?c4 ?c5 ?_)
      case c1 =>
        intro j u hj
        match j, hj with
          | 0, hj => simp at hj; subst hj; simp [Addr.add]
      case c2 => intro u hu; simp at hu; subst hu; rfl
      case c3 => unfold maxLen; omega
      case c4 => omega
      case c5 => simp; omega
      intro v' w3 hown' hgrow _
      have hs3 := hgrow.size
      have hB3 : Below B w w3 := grown_own hown2 (hnx.alloc hBw _) hgrow (by simp; omega)
      have hO3 : Oth w w3 := (hox.alloc _).trans (oth_grown hown2 hgrow)
      have R3 : w3.ownsRow B 5 1 v' (acc ++ [b8 n']).length ((acc ++ [b8 n']).map u8V) := by
        rw [List.length_append, List.map_append]
        have e1 : [b8 n'].map u8V = [.int .u8 (n' % 256)] := by rw [List.map_singleton, ← u8_b8]
        rw [e1]; exact hown'
      clear hown' hgrow hown2 hown
      go_wp2_with fail
      exact ⟨⟨j + 1, n' / 256, acc ++ [b8 n'], hlt, by go_num, rfl, R3, hB3, hO3, by simp at hs3; omega, by omega, by omega, by simp; omega, HE2⟩, by simp [intOf]; omega⟩
    · obtain rfl : j = many := by omega
      have HE2 : Hid (acc = cur ++ leB j n) := by
        show _ = _
        rw [← HE.out, Nat.sub_self, leB, List.append_nil]
      obtain ⟨ao, cap, hv⟩ := owns_slice hown
      subst hv
      have Hown := hide hown
      clear hown HE
      go_wp2
      go_ret
      exact ⟨_, rfl, by rw [← HE2.out]; exact Hown.out, hnx, hox⟩

theorem Bs.len {w : World} {B : Nat} {v : Value} {l : List UInt8} (h : Bs w B v l) : ∃ ao n cap, v = .slice ao n cap := by
  obtain ⟨ao, cap, e⟩ := owns_slice h
  exact ⟨ao, _, cap, e⟩
theorem Bs.alloc {w : World} {B : Nat} {v : Value} {l : List UInt8} (h : Bs w B v l) (o : Obj) : Bs (w.alloc o) B v l := World.ownsRow.alloc h o

theorem str_cells (l : List UInt8) : Lib.strCells ⟨l.toArray⟩ = l.map u8V := by
  unfold Lib.strCells u8V
  simp

theorem three_cells {w : World} {b : Nat} {k n : Int} {s : ByteArray} (h : w.heap[b]? = some (.cells #[.int .i64 k, .int .i64 n, .string s] 36)) :
    w.cell? ⟨b, 0, none⟩ = some (.int .i64 k) ∧ w.cell? ⟨b, 1, none⟩ = some (.int .i64 n) ∧ w.cell? ⟨b, 2, none⟩ = some (.string s) := (three h).1

set_option maxRecDepth 100000 in
set_option maxHeartbeats 1600000 in
theorem value_app_0 (B : Nat) (v : Value) (cur : List UInt8) (n : Int) (s : List UInt8) (w : World) (hv : Bs w B v cur) (hB : B ≤ w.heap.size) (hc : cur.length ≤ 900000) :
    Calls Try.prog 14 #[v, .agg #[.int .i64 0, .int .i64 n, .string ⟨s.toArray⟩]] w fun e w' => BsPost B w (cur ++ [b8 0]) e w' := by
  have n1 := number_app B v cur 0 1 _ (hv.alloc (.cells #[.int .i64 0, .int .i64 n, .string ⟨s.toArray⟩] 36)) (by simp; omega) (by decide) (by decide) (by decide) (by omega)
  have b0 := (Below.refl B w).alloc hB (.cells #[.int .i64 0, .int .i64 n, .string ⟨s.toArray⟩] 36)
  have o0 := (Oth.refl w).alloc (.cells #[.int .i64 0, .int .i64 n, .string ⟨s.toArray⟩] 36)
  have k0 : (w.alloc (.cells #[.int .i64 0, .int .i64 n, .string ⟨s.toArray⟩] 36)).heap[w.heap.size]? = some (.cells #[.int .i64 0, .int .i64 n, .string ⟨s.toArray⟩] 36) := heap_alloc_new _ _
  have e0 : cur ++ leB 1 0 = cur ++ [b8 0] := rfl
  rw [e0] at n1
  go_enter Try.func14, Try.ntmps14
  go_wp2_with fail
  refine n1.mono ?_
  rintro e w1 ⟨v1, rfl, h1, b1, o1⟩
  have k1 := o1 _ _ _ _ (by decide) k0
  obtain ⟨c0, c1, c2⟩ := three_cells k1
  have b1 := b0.trans b1
  have o1 := o0.trans o1
  have z1 : B ≤ w1.heap.size := Nat.le_trans hB b1.size
  clear n1 b0 o0 k0 hv e0
  have hl1 : (cur ++ [b8 0]).length ≤ 900001 := by rw [List.length_append]; simp; omega
  obtain ⟨ao, m1, cap, e1⟩ := h1.len
  subst e1
  go_wp2
  go_ret
  exact ⟨_, rfl, h1, b1, o1⟩

set_option maxRecDepth 100000 in
set_option maxHeartbeats 1600000 in
theorem value_app_1 (B : Nat) (v : Value) (cur : List UInt8) (n : Int) (s : List UInt8) (w : World) (hv : Bs w B v cur) (hB : B ≤ w.heap.size) (hn0 : -999999999 ≤ n) (hn1 : n ≤ 999999999) (hc : cur.length ≤ 900000) :
    Calls Try.prog 14 #[v, .agg #[.int .i64 1, .int .i64 n, .string ⟨s.toArray⟩]] w fun e w' => BsPost B w (cur ++ (b8 1 :: leB 4 (n + 999999999))) e w' := by
  have n1 := number_app B v cur 1 1 _ (hv.alloc (.cells #[.int .i64 1, .int .i64 n, .string ⟨s.toArray⟩] 36)) (by simp; omega) (by decide) (by decide) (by decide) (by omega)
  have b0 := (Below.refl B w).alloc hB (.cells #[.int .i64 1, .int .i64 n, .string ⟨s.toArray⟩] 36)
  have o0 := (Oth.refl w).alloc (.cells #[.int .i64 1, .int .i64 n, .string ⟨s.toArray⟩] 36)
  have k0 : (w.alloc (.cells #[.int .i64 1, .int .i64 n, .string ⟨s.toArray⟩] 36)).heap[w.heap.size]? = some (.cells #[.int .i64 1, .int .i64 n, .string ⟨s.toArray⟩] 36) := heap_alloc_new _ _
  have e0 : cur ++ leB 1 1 = cur ++ [b8 1] := rfl
  rw [e0] at n1
  go_enter Try.func14, Try.ntmps14
  go_wp2_with fail
  refine n1.mono ?_
  rintro e w1 ⟨v1, rfl, h1, b1, o1⟩
  have k1 := o1 _ _ _ _ (by decide) k0
  obtain ⟨c0, c1, c2⟩ := three_cells k1
  have b1 := b0.trans b1
  have o1 := o0.trans o1
  have z1 : B ≤ w1.heap.size := Nat.le_trans hB b1.size
  clear n1 b0 o0 k0 hv e0
  have hl1 : (cur ++ [b8 1]).length ≤ 900001 := by rw [List.length_append]; simp; omega
  have n2 := number_app B _ _ (n + 999999999) 4 _ h1 z1 (by omega) (by omega) (by decide) (by omega)
  obtain ⟨ao, m1, cap, e1⟩ := h1.len
  subst e1
  have H1 := hide h1
  clear h1
  go_wp2_with fail
  refine n2.mono ?_
  rintro e w2 ⟨v2, rfl, h2, b2, o2⟩
  have e2 : (cur ++ [b8 1]) ++ leB 4 (n + 999999999) = cur ++ (b8 1 :: leB 4 (n + 999999999)) := by simp [leB]
  rw [e2] at h2
  obtain ⟨ao2, m2, cap2, e3⟩ := h2.len
  subst e3
  have H2 := hide h2
  clear h2 e2
  go_wp2
  go_ret
  exact ⟨_, rfl, H2.out, b1.trans b2, o1.trans o2⟩

set_option maxRecDepth 100000 in
set_option maxHeartbeats 1600000 in
theorem value_app_2 (B : Nat) (v : Value) (cur : List UInt8) (n : Int) (s : List UInt8) (w : World) (hv : Bs w B v cur) (hB : B ≤ w.heap.size) (hs : s.length ≤ 20) (hc : cur.length ≤ 900000) :
    Calls Try.prog 14 #[v, .agg #[.int .i64 2, .int .i64 n, .string ⟨s.toArray⟩]] w fun e w' => BsPost B w (cur ++ (b8 2 :: b8 (s.length : Nat) :: s)) e w' := by
  have n1 := number_app B v cur 2 1 _ (hv.alloc (.cells #[.int .i64 2, .int .i64 n, .string ⟨s.toArray⟩] 36)) (by simp; omega) (by decide) (by decide) (by decide) (by omega)
  have b0 := (Below.refl B w).alloc hB (.cells #[.int .i64 2, .int .i64 n, .string ⟨s.toArray⟩] 36)
  have o0 := (Oth.refl w).alloc (.cells #[.int .i64 2, .int .i64 n, .string ⟨s.toArray⟩] 36)
  have k0 : (w.alloc (.cells #[.int .i64 2, .int .i64 n, .string ⟨s.toArray⟩] 36)).heap[w.heap.size]? = some (.cells #[.int .i64 2, .int .i64 n, .string ⟨s.toArray⟩] 36) := heap_alloc_new _ _
  have e0 : cur ++ leB 1 2 = cur ++ [b8 2] := rfl
  rw [e0] at n1
  go_enter Try.func14, Try.ntmps14
  go_wp2_with fail
  refine n1.mono ?_
  rintro e w1 ⟨v1, rfl, h1, b1, o1⟩
  have k1 := o1 _ _ _ _ (by decide) k0
  obtain ⟨c0, c1, c2⟩ := three_cells k1
  have b1 := b0.trans b1
  have o1 := o0.trans o1
  have z1 : B ≤ w1.heap.size := Nat.le_trans hB b1.size
  clear n1 b0 o0 k0 hv e0
  have hl1 : (cur ++ [b8 2]).length ≤ 900001 := by rw [List.length_append]; simp; omega
  have n2 := number_app B _ _ (s.length : Nat) 1 _ h1 z1 (by omega) (by omega) (by decide) (by omega)
  obtain ⟨ao, m1, cap, e1⟩ := h1.len
  subst e1
  have H1 := hide h1
  clear h1
  go_wp2_with fail
  refine n2.mono ?_
  rintro e w2 ⟨v2, rfl, h2, b2, o2⟩
  have k2 := o2 _ _ _ _ (by decide) k1
  obtain ⟨d0, d1, d2⟩ := three_cells k2
  have b2 := b1.trans b2
  have o2 := o1.trans o2
  have z2 : B ≤ w2.heap.size := Nat.le_trans hB b2.size
  obtain ⟨i0, hi, hz0, hz1, hz2⟩ := info_parts Try.info_u8
  have hl2 : ((cur ++ [b8 2]) ++ leB 1 (s.length : Nat)).length ≤ 900002 := by rw [List.length_append, leB_length]; omega
  have hss := size_mk s
  clear k1 k2 c0 c1 c2 b1 o1 n2
  unfold Bs at h2
  go_wp2_with (at_builtin; refine Lib.wpList_append_own_string _ rfl _ _ 33 9 rfl B 5 i0 Try.underlying33 Try.underlying9 hi hz0 hz1 hz2 _ _ _ rfl h2 ⟨s.toArray⟩ rfl ?c3 ?c4 ?c5 ?_)
  case c3 => unfold maxLen; omega
  case c4 => omega
  case c5 => omega
  intro v3 w3 hown3 hgrow _
  have b3 : Below B w w3 := grown_own h2 b2 hgrow z2
  have o3 : Oth w w3 := o2.trans (oth_grown h2 hgrow)
  have h3 : Bs w3 B v3 (cur ++ (b8 2 :: b8 (s.length : Nat) :: s)) := by
    unfold Bs
    rw [str_cells] at hown3
    have e4 : (cur ++ (b8 2 :: b8 (s.length : Nat) :: s)).length = cur.length + ((leB 1 (s.length : Nat)).length + 1) + s.length := by simp [leB]; omega
    have e5 : (cur ++ (b8 2 :: b8 (s.length : Nat) :: s)).map u8V = cur.map u8V ++ u8V (b8 2) :: ((leB 1 (s.length : Nat)).map u8V ++ s.map u8V) := by simp [leB]
    rw [e4, e5]; exact hown3
  obtain ⟨ao3, m3, cap3, e3⟩ := h3.len
  subst e3
  have H3 := hide h3
  clear h3 h2 hown3 hgrow b2 o2
  go_wp2
  go_ret
  exact ⟨_, rfl, H3.out, b3, o3⟩

set_option maxRecDepth 100000 in
set_option maxHeartbeats 1600000 in
theorem value_app_3 (B : Nat) (v : Value) (cur : List UInt8) (n : Int) (s : List UInt8) (w : World) (hv : Bs w B v cur) (hB : B ≤ w.heap.size) (hn0 : 0 ≤ n) (hn1 : n ≤ 1) (hc : cur.length ≤ 900000) :
    Calls Try.prog 14 #[v, .agg #[.int .i64 3, .int .i64 n, .string ⟨s.toArray⟩]] w fun e w' => BsPost B w (cur ++ (b8 3 :: [b8 n])) e w' := by
  have n1 := number_app B v cur 3 1 _ (hv.alloc (.cells #[.int .i64 3, .int .i64 n, .string ⟨s.toArray⟩] 36)) (by simp; omega) (by decide) (by decide) (by decide) (by omega)
  have b0 := (Below.refl B w).alloc hB (.cells #[.int .i64 3, .int .i64 n, .string ⟨s.toArray⟩] 36)
  have o0 := (Oth.refl w).alloc (.cells #[.int .i64 3, .int .i64 n, .string ⟨s.toArray⟩] 36)
  have k0 : (w.alloc (.cells #[.int .i64 3, .int .i64 n, .string ⟨s.toArray⟩] 36)).heap[w.heap.size]? = some (.cells #[.int .i64 3, .int .i64 n, .string ⟨s.toArray⟩] 36) := heap_alloc_new _ _
  have e0 : cur ++ leB 1 3 = cur ++ [b8 3] := rfl
  rw [e0] at n1
  go_enter Try.func14, Try.ntmps14
  go_wp2_with fail
  refine n1.mono ?_
  rintro e w1 ⟨v1, rfl, h1, b1, o1⟩
  have k1 := o1 _ _ _ _ (by decide) k0
  obtain ⟨c0, c1, c2⟩ := three_cells k1
  have b1 := b0.trans b1
  have o1 := o0.trans o1
  have z1 : B ≤ w1.heap.size := Nat.le_trans hB b1.size
  clear n1 b0 o0 k0 hv e0
  have hl1 : (cur ++ [b8 3]).length ≤ 900001 := by rw [List.length_append]; simp; omega
  have n2 := number_app B _ _ n 1 _ h1 z1 (by omega) (by omega) (by decide) (by omega)
  obtain ⟨ao, m1, cap, e1⟩ := h1.len
  subst e1
  have H1 := hide h1
  clear h1
  go_wp2_with fail
  refine n2.mono ?_
  rintro e w2 ⟨v2, rfl, h2, b2, o2⟩
  have e2 : (cur ++ [b8 3]) ++ leB 1 n = cur ++ (b8 3 :: [b8 n]) := by simp [leB]
  rw [e2] at h2
  obtain ⟨ao2, m2, cap2, e3⟩ := h2.len
  subst e3
  have H2 := hide h2
  clear h2 e2
  go_wp2
  go_ret
  exact ⟨_, rfl, H2.out, b1.trans b2, o1.trans o2⟩

theorem value_app (B : Nat) (v : Value) (cur : List UInt8) (x : Vl) (w : World) (hv : Bs w B v cur) (hB : B ≤ w.heap.size) (hx : chkV x.k x.n x.s = 0) (hc : cur.length ≤ 900000) :
    Calls Try.prog 14 #[v, vlV x] w fun e w' => BsPost B w (cur ++ encV x) e w' := by
  obtain ⟨k, n, s⟩ := x
  rcases chkV_zero hx with ⟨q1, q2, q3⟩ | ⟨q1, q2, q3, q4⟩ | ⟨q1, q2, q3⟩ | ⟨q1, q2, q3⟩
  · simp only at q1; subst q1; exact value_app_0 B v cur n s w hv hB hc
  · simp only at q1; subst q1; exact value_app_1 B v cur n s w hv hB q2 q3 hc
  · simp only at q1; subst q1; exact value_app_2 B v cur n s w hv hB q3 hc
  · simp only at q1 q2; subst q1; exact value_app_3 B v cur n s w hv hB (by omega) (by omega) hc

end Go.Proofs.Ytkpeklealgicpac
