/-
  'appendNumber', 'appendValue' of package row.
  'fault' of package row; values in memory.
  'Encode' of package row.
  'Decode' of package row.
  Tables without memory, as far as Check reads them, and tables in memory.
  Package table: frameFault, nextFault, hasColumn.
  Package table: firstWidth, deltasFault, now.
  'EncodeOf' of package overhaulref.
  What RestRows needs besides: values that are spoilt in memory of their own; rows and deltas that are copied.
  Package table: now.
  Out of my texts Dpw: what is wanted here.
  Package table: rowsFault.
  'OrderOf' of package overhaulref.
  'KeyOf' and 'ValueText' of package overhaulref.
-/
import Derived.Laws.IdiomStrings
import Derived.Deep.RegionHeld3
import Derived.Lib.QuoteBits
import Derived.Lib.ConvBytes
import Derived.BigQuiet
import Derived.Test.YtcnnjladaoaeiaaGreatDoorGa
import Derived.Test.YtcnnjladaoaeiaaGreatDoorGd
import Derived.Test.YtcnnjladaoaeiaaGreatDoorGe

set_option maxRecDepth 100000
set_option maxHeartbeats 25600000
namespace Go.Proofs.YtcnnjladaoaeiaaGreatDoor
open Go.RowKit
def u8V (c : UInt8) : Value := .int .u8 (c.toNat : Int)
theorem Tryz.info_u8 : (Tryz.prog.info? 5).map (fun i => (i.zero, i.size, i.bytes)) = some (some (.int .u8 0), 1, 1) := by kernel_rfl
def Bs (w : World) (B : Nat) (v : Value) (l : List UInt8) : Prop := w.ownsRow B 5 1 v l.length (l.map u8V)
theorem grown_own {w0 w w3 : World} {B : Nat} {v : Value} {n : Nat} {xs : List Value} {e : TypeId} {size : Nat} (hown : w.ownsRow B e size v n xs) (hg : Below B w0 w) (hgrow : w.grownBy w3 v.ownBlock) (hB : B ≤ w.heap.size) : Below B w0 w3 :=
  hg.grown hgrow hB fun j hj => (hown.lt j hj).1
def Oth (w w' : World) : Prop := ∀ (k : Nat) c t fz, t ≠ 5 → w.heap[k]? = some (.cells c t fz) → w'.heap[k]? = some (.cells c t fz)
theorem Oth.refl (w : World) : Oth w w := fun _ _ _ _ _ h => h
theorem Oth.trans {a b c : World} (h : Oth a b) (k : Oth b c) : Oth a c := fun i x t f ht hx => k i x t f ht (h i x t f ht hx)
theorem Oth.alloc {a b : World} (h : Oth a b) (o : Obj) : Oth a (b.alloc o) := fun i x t f ht hx => by
  have := h i x t f ht hx
  exact (((Below.refl b.heap.size b).alloc (Nat.le_refl _) o).block i (ltS this)).trans this
theorem oth_grown {w w3 : World} {B : Nat} {v : Value} {n : Nat} {xs : List Value} (hown : w.ownsRow B 5 1 v n xs) (hg : w.grownBy w3 v.ownBlock) : Oth w w3 := fun k c t fz ht hk => by
  refine (hg.block k (ltS hk) fun e => ?_).trans hk
  obtain ⟨c', fz', h'⟩ := ownsRow_kind hown k e.symm
  rw [hk] at h'
  simp only [Option.some.injEq, Obj.cells.injEq] at h'
  exact ht h'.2.1
theorem u8_b8 (n : Int) : (Value.int .u8 (n % 256)) = u8V (b8 n) := by
  rw [u8V, b8_toNat]
def BsPost (B : Nat) (w : World) (l : List UInt8) (e : Ending) (w' : World) : Prop := ∃ v', e = .returned v' ∧ Bs w' B v' l ∧ Below B w w' ∧ Oth w w'
theorem number_app (B : Nat) (v : Value) (cur : List UInt8) (n : Int) (many : Nat) (w : World) (hv : Bs w B v cur) (hB : B ≤ w.heap.size) (hn0 : -9223372036854775808 ≤ n) (hn1 : n ≤ 9223372036854775807) (hm : many ≤ 4) (hc : cur.length ≤ 1000000) :
    Calls Tryz.prog 117 #[v, .int .i64 n, .int .i64 (many : Int)] w fun e w' => BsPost B w (cur ++ leB many n) e w' := by
  obtain ⟨i0, hi, hz0, hz1, hz2⟩ := info_parts Tryz.info_u8
  unfold Bs at hv
  go_enter Tryz.func117, Tryz.ntmps117
  go_wp2_with fail
  go_loopw [0, 1, 8] (fun v' k i wl => ∃ (j : Nat) (n' : Int) (acc : List UInt8), j ≤ many ∧ i = .int .i64 (j : Int) ∧ k = .int .i64 n' ∧ wl.ownsRow B 5 1 v' acc.length (acc.map u8V) ∧ Below B w wl ∧ Oth w wl ∧ B ≤ wl.heap.size ∧ -9223372036854775808 ≤ n' ∧ n' ≤ 9223372036854775807 ∧ acc.length ≤ 1000000 + j ∧ Hid (acc ++ leB (many - j) n' = cur ++ leB many n)) (fun _ _ i _ => many - (intOf i).toNat)
  case atStart => exact ⟨0, n, cur, Nat.zero_le _, rfl, rfl, hv, Below.refl _ _, Oth.refl _, hB, hn0, hn1, hc, rfl⟩
  case round =>
    obtain ⟨j, n', acc, hj, rfl, rfl, hown, hnx, hox, hBw, h0, h1, hal, HE⟩ := hrel
    by_cases hlt : j < many
    · have hlt' : (j : Int) < (many : Int) := by omega
      have HE2 : Hid ((acc ++ [b8 n']) ++ leB (many - (j + 1)) (n' / 256) = cur ++ leB many n) := by
        show _ = _
        rw [← HE.out, show many - j = (many - (j + 1)) + 1 by omega, leB]
        simp
      clear HE
      have hown2 := hown.alloc (.cells #[.int .u8 (n' % 256)] 5)
      go_wp2_with (at_builtin; refine wpList_append_own _ rfl _ _ 134 rfl B 5 i0 (.int .u8 0) 1 1 Tryz.underlying134 hi hz0 hz1 hz2 rfl (by decide) _ _ _ rfl hown2 ⟨wr.heap.size, 0, none⟩ 1 1 [.int .u8 (n' % 256)] rfl rfl ?c1 ?c2 ?c3 ?c4 ?c5 ?_)
      case c1 =>
        intro j u hj
        match j, hj with
          | 0, hj => simp at hj; subst hj; simp [Addr.add]
      case c2 => intro u hu; simp at hu; subst hu; rfl
      case c3 => unfold maxLen; omega
      case c4 => omega
      case c5 => simp; omega
      intro v' w3 hown' hgrow _
      have hs3 := hgrow.size
      have hB3 : Below B w w3 := grown_own hown2 (hnx.alloc hBw _) hgrow (by simp; omega)
      have hO3 : Oth w w3 := (hox.alloc _).trans (oth_grown hown2 hgrow)
      have R3 : w3.ownsRow B 5 1 v' (acc ++ [b8 n']).length ((acc ++ [b8 n']).map u8V) := by
        rw [List.length_append, List.map_append]
        have e1 : [b8 n'].map u8V = [.int .u8 (n' % 256)] := by rw [List.map_singleton, ← u8_b8]
        rw [e1]; exact hown'
      clear hown' hgrow hown2 hown
      go_wp2_with fail
      exact ⟨⟨j + 1, n' / 256, acc ++ [b8 n'], hlt, by go_num, rfl, R3, hB3, hO3, by simp at hs3; omega, by omega, by omega, by simp; omega, HE2⟩, by simp [intOf]; omega⟩
    · obtain rfl : j = many := by omega
      have HE2 : Hid (acc = cur ++ leB j n) := by
        show _ = _
        rw [← HE.out, Nat.sub_self, leB, List.append_nil]
      obtain ⟨ao, cap, hv⟩ := owns_slice hown
      subst hv
      have Hown := hide hown
      clear hown HE
      go_wp2
      go_ret
      exact ⟨_, rfl, by rw [← HE2.out]; exact Hown.out, hnx, hox⟩
theorem Bs.len {w : World} {B : Nat} {v : Value} {l : List UInt8} (h : Bs w B v l) : ∃ ao n cap, v = .slice ao n cap := by
  obtain ⟨ao, cap, e⟩ := owns_slice h
  exact ⟨ao, _, cap, e⟩
theorem Bs.alloc {w : World} {B : Nat} {v : Value} {l : List UInt8} (h : Bs w B v l) (o : Obj) : Bs (w.alloc o) B v l := World.ownsRow.alloc h o
theorem str_cells (l : List UInt8) : Lib.strCells ⟨l.toArray⟩ = l.map u8V := by
  unfold Lib.strCells u8V
  simp
theorem three_cells {w : World} {b : Nat} {k n : Int} {s : ByteArray} (h : w.heap[b]? = some (.cells #[.int .i64 k, .int .i64 n, .string s] 49)) :
    w.cell? ⟨b, 0, none⟩ = some (.int .i64 k) ∧ w.cell? ⟨b, 1, none⟩ = some (.int .i64 n) ∧ w.cell? ⟨b, 2, none⟩ = some (.string s) := (three h).1
theorem value_app_0 (B : Nat) (v : Value) (cur : List UInt8) (n : Int) (s : List UInt8) (w : World) (hv : Bs w B v cur) (hB : B ≤ w.heap.size) (hc : cur.length ≤ 900000) :
    Calls Tryz.prog 118 #[v, .agg #[.int .i64 0, .int .i64 n, .string ⟨s.toArray⟩]] w fun e w' => BsPost B w (cur ++ [b8 0]) e w' := by
  have n1 := number_app B v cur 0 1 _ (hv.alloc (.cells #[.int .i64 0, .int .i64 n, .string ⟨s.toArray⟩] 49)) (by simp; omega) (by decide) (by decide) (by decide) (by omega)
  have b0 := (Below.refl B w).alloc hB (.cells #[.int .i64 0, .int .i64 n, .string ⟨s.toArray⟩] 49)
  have o0 := (Oth.refl w).alloc (.cells #[.int .i64 0, .int .i64 n, .string ⟨s.toArray⟩] 49)
  have k0 : (w.alloc (.cells #[.int .i64 0, .int .i64 n, .string ⟨s.toArray⟩] 49)).heap[w.heap.size]? = some (.cells #[.int .i64 0, .int .i64 n, .string ⟨s.toArray⟩] 49) := heap_alloc_new _ _
  have e0 : cur ++ leB 1 0 = cur ++ [b8 0] := rfl
  rw [e0] at n1
  go_enter Tryz.func118, Tryz.ntmps118
  go_wp2_with fail
  refine n1.mono ?_
  rintro e w1 ⟨v1, rfl, h1, b1, o1⟩
  have k1 := o1 _ _ _ _ (by decide) k0
  obtain ⟨c0, c1, c2⟩ := three_cells k1
  have b1 := b0.trans b1
  have o1 := o0.trans o1
  have z1 : B ≤ w1.heap.size := Nat.le_trans hB b1.size
  clear n1 b0 o0 k0 hv e0
  have hl1 : (cur ++ [b8 0]).length ≤ 900001 := by rw [List.length_append]; simp; omega
  obtain ⟨ao, m1, cap, e1⟩ := h1.len
  subst e1
  go_wp2
  go_ret
  exact ⟨_, rfl, h1, b1, o1⟩
theorem value_app_1 (B : Nat) (v : Value) (cur : List UInt8) (n : Int) (s : List UInt8) (w : World) (hv : Bs w B v cur) (hB : B ≤ w.heap.size) (hn0 : -999999999 ≤ n) (hn1 : n ≤ 999999999) (hc : cur.length ≤ 900000) :
    Calls Tryz.prog 118 #[v, .agg #[.int .i64 1, .int .i64 n, .string ⟨s.toArray⟩]] w fun e w' => BsPost B w (cur ++ (b8 1 :: leB 4 (n + 999999999))) e w' := by
  have n1 := number_app B v cur 1 1 _ (hv.alloc (.cells #[.int .i64 1, .int .i64 n, .string ⟨s.toArray⟩] 49)) (by simp; omega) (by decide) (by decide) (by decide) (by omega)
  have b0 := (Below.refl B w).alloc hB (.cells #[.int .i64 1, .int .i64 n, .string ⟨s.toArray⟩] 49)
  have o0 := (Oth.refl w).alloc (.cells #[.int .i64 1, .int .i64 n, .string ⟨s.toArray⟩] 49)
  have k0 : (w.alloc (.cells #[.int .i64 1, .int .i64 n, .string ⟨s.toArray⟩] 49)).heap[w.heap.size]? = some (.cells #[.int .i64 1, .int .i64 n, .string ⟨s.toArray⟩] 49) := heap_alloc_new _ _
  have e0 : cur ++ leB 1 1 = cur ++ [b8 1] := rfl
  rw [e0] at n1
  go_enter Tryz.func118, Tryz.ntmps118
  go_wp2_with fail
  refine n1.mono ?_
  rintro e w1 ⟨v1, rfl, h1, b1, o1⟩
  have k1 := o1 _ _ _ _ (by decide) k0
  obtain ⟨c0, c1, c2⟩ := three_cells k1
  have b1 := b0.trans b1
  have o1 := o0.trans o1
  have z1 : B ≤ w1.heap.size := Nat.le_trans hB b1.size
  clear n1 b0 o0 k0 hv e0
  have hl1 : (cur ++ [b8 1]).length ≤ 900001 := by rw [List.length_append]; simp; omega
  have n2 := number_app B _ _ (n + 999999999) 4 _ h1 z1 (by omega) (by omega) (by decide) (by omega)
  obtain ⟨ao, m1, cap, e1⟩ := h1.len
  subst e1
  have H1 := hide h1
  clear h1
  go_wp2_with fail
  refine n2.mono ?_
  rintro e w2 ⟨v2, rfl, h2, b2, o2⟩
  have e2 : (cur ++ [b8 1]) ++ leB 4 (n + 999999999) = cur ++ (b8 1 :: leB 4 (n + 999999999)) := by simp [leB]
  rw [e2] at h2
  obtain ⟨ao2, m2, cap2, e3⟩ := h2.len
  subst e3
  have H2 := hide h2
  clear h2 e2
  go_wp2
  go_ret
  exact ⟨_, rfl, H2.out, b1.trans b2, o1.trans o2⟩
theorem value_app_2 (B : Nat) (v : Value) (cur : List UInt8) (n : Int) (s : List UInt8) (w : World) (hv : Bs w B v cur) (hB : B ≤ w.heap.size) (hs : s.length ≤ 20) (hc : cur.length ≤ 900000) :
    Calls Tryz.prog 118 #[v, .agg #[.int .i64 2, .int .i64 n, .string ⟨s.toArray⟩]] w fun e w' => BsPost B w (cur ++ (b8 2 :: b8 (s.length : Nat) :: s)) e w' := by
  have n1 := number_app B v cur 2 1 _ (hv.alloc (.cells #[.int .i64 2, .int .i64 n, .string ⟨s.toArray⟩] 49)) (by simp; omega) (by decide) (by decide) (by decide) (by omega)
  have b0 := (Below.refl B w).alloc hB (.cells #[.int .i64 2, .int .i64 n, .string ⟨s.toArray⟩] 49)
  have o0 := (Oth.refl w).alloc (.cells #[.int .i64 2, .int .i64 n, .string ⟨s.toArray⟩] 49)
  have k0 : (w.alloc (.cells #[.int .i64 2, .int .i64 n, .string ⟨s.toArray⟩] 49)).heap[w.heap.size]? = some (.cells #[.int .i64 2, .int .i64 n, .string ⟨s.toArray⟩] 49) := heap_alloc_new _ _
  have e0 : cur ++ leB 1 2 = cur ++ [b8 2] := rfl
  rw [e0] at n1
  go_enter Tryz.func118, Tryz.ntmps118
  go_wp2_with fail
  refine n1.mono ?_
  rintro e w1 ⟨v1, rfl, h1, b1, o1⟩
  have k1 := o1 _ _ _ _ (by decide) k0
  obtain ⟨c0, c1, c2⟩ := three_cells k1
  have b1 := b0.trans b1
  have o1 := o0.trans o1
  have z1 : B ≤ w1.heap.size := Nat.le_trans hB b1.size
  clear n1 b0 o0 k0 hv e0
  have hl1 : (cur ++ [b8 2]).length ≤ 900001 := by rw [List.length_append]; simp; omega
  have n2 := number_app B _ _ (s.length : Nat) 1 _ h1 z1 (by omega) (by omega) (by decide) (by omega)
  obtain ⟨ao, m1, cap, e1⟩ := h1.len
  subst e1
  have H1 := hide h1
  clear h1
  go_wp2_with fail
  refine n2.mono ?_
  rintro e w2 ⟨v2, rfl, h2, b2, o2⟩
  have k2 := o2 _ _ _ _ (by decide) k1
  obtain ⟨d0, d1, d2⟩ := three_cells k2
  have b2 := b1.trans b2
  have o2 := o1.trans o2
  have z2 : B ≤ w2.heap.size := Nat.le_trans hB b2.size
  obtain ⟨i0, hi, hz0, hz1, hz2⟩ := info_parts Tryz.info_u8
  have hl2 : ((cur ++ [b8 2]) ++ leB 1 (s.length : Nat)).length ≤ 900002 := by rw [List.length_append, leB_length]; omega
  have hss := size_mk s
  clear k1 k2 c0 c1 c2 b1 o1 n2
  unfold Bs at h2
  go_wp2_with (at_builtin; refine Lib.wpList_append_own_string _ rfl _ _ 134 9 rfl B 5 i0 Tryz.underlying134 Tryz.underlying9 hi hz0 hz1 hz2 _ _ _ rfl h2 ⟨s.toArray⟩ rfl ?c3 ?c4 ?c5 ?_)
  case c3 => unfold maxLen; omega
  case c4 => omega
  case c5 => omega
  intro v3 w3 hown3 hgrow _
  have b3 : Below B w w3 := grown_own h2 b2 hgrow z2
  have o3 : Oth w w3 := o2.trans (oth_grown h2 hgrow)
  have h3 : Bs w3 B v3 (cur ++ (b8 2 :: b8 (s.length : Nat) :: s)) := by
    unfold Bs
    rw [str_cells] at hown3
    have e4 : (cur ++ (b8 2 :: b8 (s.length : Nat) :: s)).length = cur.length + ((leB 1 (s.length : Nat)).length + 1) + s.length := by simp [leB]; omega
    have e5 : (cur ++ (b8 2 :: b8 (s.length : Nat) :: s)).map u8V = cur.map u8V ++ u8V (b8 2) :: ((leB 1 (s.length : Nat)).map u8V ++ s.map u8V) := by simp [leB]
    rw [e4, e5]; exact hown3
  obtain ⟨ao3, m3, cap3, e3⟩ := h3.len
  subst e3
  have H3 := hide h3
  clear h3 h2 hown3 hgrow b2 o2
  go_wp2
  go_ret
  exact ⟨_, rfl, H3.out, b3, o3⟩
theorem value_app_3 (B : Nat) (v : Value) (cur : List UInt8) (n : Int) (s : List UInt8) (w : World) (hv : Bs w B v cur) (hB : B ≤ w.heap.size) (hn0 : 0 ≤ n) (hn1 : n ≤ 1) (hc : cur.length ≤ 900000) :
    Calls Tryz.prog 118 #[v, .agg #[.int .i64 3, .int .i64 n, .string ⟨s.toArray⟩]] w fun e w' => BsPost B w (cur ++ (b8 3 :: [b8 n])) e w' := by
  have n1 := number_app B v cur 3 1 _ (hv.alloc (.cells #[.int .i64 3, .int .i64 n, .string ⟨s.toArray⟩] 49)) (by simp; omega) (by decide) (by decide) (by decide) (by omega)
  have b0 := (Below.refl B w).alloc hB (.cells #[.int .i64 3, .int .i64 n, .string ⟨s.toArray⟩] 49)
  have o0 := (Oth.refl w).alloc (.cells #[.int .i64 3, .int .i64 n, .string ⟨s.toArray⟩] 49)
  have k0 : (w.alloc (.cells #[.int .i64 3, .int .i64 n, .string ⟨s.toArray⟩] 49)).heap[w.heap.size]? = some (.cells #[.int .i64 3, .int .i64 n, .string ⟨s.toArray⟩] 49) := heap_alloc_new _ _
  have e0 : cur ++ leB 1 3 = cur ++ [b8 3] := rfl
  rw [e0] at n1
  go_enter Tryz.func118, Tryz.ntmps118
  go_wp2_with fail
  refine n1.mono ?_
  rintro e w1 ⟨v1, rfl, h1, b1, o1⟩
  have k1 := o1 _ _ _ _ (by decide) k0
  obtain ⟨c0, c1, c2⟩ := three_cells k1
  have b1 := b0.trans b1
  have o1 := o0.trans o1
  have z1 : B ≤ w1.heap.size := Nat.le_trans hB b1.size
  clear n1 b0 o0 k0 hv e0
  have hl1 : (cur ++ [b8 3]).length ≤ 900001 := by rw [List.length_append]; simp; omega
  have n2 := number_app B _ _ n 1 _ h1 z1 (by omega) (by omega) (by decide) (by omega)
  obtain ⟨ao, m1, cap, e1⟩ := h1.len
  subst e1
  have H1 := hide h1
  clear h1
  go_wp2_with fail
  refine n2.mono ?_
  rintro e w2 ⟨v2, rfl, h2, b2, o2⟩
  have e2 : (cur ++ [b8 3]) ++ leB 1 n = cur ++ (b8 3 :: [b8 n]) := by simp [leB]
  rw [e2] at h2
  obtain ⟨ao2, m2, cap2, e3⟩ := h2.len
  subst e3
  have H2 := hide h2
  clear h2 e2
  go_wp2
  go_ret
  exact ⟨_, rfl, H2.out, b1.trans b2, o1.trans o2⟩
theorem value_app (B : Nat) (v : Value) (cur : List UInt8) (x : Vl) (w : World) (hv : Bs w B v cur) (hB : B ≤ w.heap.size) (hx : chkV x.k x.n x.s = 0) (hc : cur.length ≤ 900000) :
    Calls Tryz.prog 118 #[v, vlV x] w fun e w' => BsPost B w (cur ++ encV x) e w' := by
  obtain ⟨k, n, s⟩ := x
  rcases chkV_zero hx with ⟨q1, q2, q3⟩ | ⟨q1, q2, q3, q4⟩ | ⟨q1, q2, q3⟩ | ⟨q1, q2, q3⟩
  · simp only at q1; subst q1; exact value_app_0 B v cur n s w hv hB hc
  · simp only at q1; subst q1; exact value_app_1 B v cur n s w hv hB q2 q3 hc
  · simp only at q1; subst q1; exact value_app_2 B v cur n s w hv hB q3 hc
  · simp only at q1 q2; subst q1; exact value_app_3 B v cur n s w hv hB (by omega) (by omega) hc
theorem fault_any' (L : List Vl) (u : Value) (w : World) (h : VsAt w u L) : Calls Tryz.prog 79 #[u] w fun e w' => e = .returned (.int .i64 (chkL L : Nat)) ∧ Below w.heap.size w w' := by
  have hi := fitFault_any L u w h
  obtain ⟨ao, cap, rfl, h1, h2, h3⟩ := h
  unfold chkL
  by_cases h5 : 5 < L.length
  · rw [if_pos h5]
    have h5' : (L.length : Int) > 5 := by omega
    clear hi h2 h3
    go_enter Tryz.func79, Tryz.ntmps79
    go_wp2
    go_ret
    exact ⟨rfl, Below.refl _ _⟩
  · rw [if_neg h5]
    have h5' : ¬ (L.length : Int) > 5 := by omega
    generalize badL L = c at hi ⊢
    clear h2 h3
    go_enter Tryz.func79, Tryz.ntmps79
    go_wp2_with (go_at_call 75; refine hi.mono ?_; rintro e w1 ⟨rfl, b1⟩)
    go_ret
    exact ⟨rfl, b1⟩
theorem encV_len (x : Vl) (h : chkV x.k x.n x.s = 0) : (encV x).length ≤ 22 := by
  unfold encV
  rcases chkV_zero h with ⟨q1, q2, q3⟩ | ⟨q1, q2, q3, q4⟩ | ⟨q1, q2, q3⟩ | ⟨q1, q2, q3⟩
  all_goals simp [q1, leB_length]
  omega
theorem bs_text {w : World} {B : Nat} {ao : Option Addr} {m cap : Nat} {l : List UInt8} (h : Bs w B (.slice ao m cap) l) (hl : l ≠ []) :
    (convert 134 9 (.slice ao m cap)).run Tryz.prog w = .ok (.string ⟨l.toArray⟩) w := by
  obtain ⟨g, cap', e, -, -⟩ := owns_some h (by intro e; exact hl (List.eq_nil_of_length_eq_zero e))
  rw [e] at h ⊢
  refine run_convert_bytes_back w 134 9 5 ⟨g, 0, none⟩ cap' l Tryz.underlying134 Tryz.underlying5 Tryz.underlying9 ?_
  intro j hj
  have h' : w.ownsRow B 5 1 (.slice (some ⟨g, 0, none⟩) l.length cap') l.length (l.map u8V) := h
  have := (h'.cellAt j (by rw [← h'.1, List.length_map]; exact hj)).trans (show (l.map u8V)[j]? = some (u8V l[j]) by rw [List.getElem?_map, List.getElem?_eq_getElem hj]; rfl)
  rw [Go.WideShapes.add_plain, Nat.zero_add]
  exact this
def encR (L : List Vl) : List UInt8 := if chkL L = 0 then encL L else []
theorem flat_len (L : List Vl) (h : ∀ x ∈ L, chkV x.k x.n x.s = 0) : (L.flatMap encV).length ≤ 22 * L.length := by
  induction L with
  | nil => simp
  | cons x r ih =>
    have h1 := encV_len x (h x (by simp))
    have h2 := ih fun y hy => h y (by simp [hy])
    rw [List.flatMap_cons, List.length_append, List.length_cons]; omega
theorem encode_no (L : List Vl) (u : Value) (w : World) (h : VsAt w u L) (E : Nat) (hE : chkL L = E) (h0 : ((E : Int) != 0) = true) :
    Calls Tryz.prog 72 #[u] w fun e w' => e = .returned (.tuple #[.string ⟨#[]⟩, .int .i64 (E : Nat)]) ∧ Below w.heap.size w w' := by
  have hf := fault_any' L u w h
  rw [hE] at hf
  obtain ⟨ao, cap, rfl, -, -, -⟩ := h
  clear hE
  go_enter Tryz.func72, Tryz.ntmps72
  go_wp2_with (go_at_call 79; refine hf.mono ?_; rintro e w1 ⟨rfl, b1⟩)
  go_ret2
  exact ⟨rfl, b1⟩
theorem encode_yes (L : List Vl) (u : Value) (w : World) (h : VsAt w u L) (hE : chkL L = 0) :
    Calls Tryz.prog 72 #[u] w fun e w' => e = .returned (.tuple #[.string ⟨(encL L).toArray⟩, .int .i64 0]) ∧ Below w.heap.size w w' := by
  have hf := fault_any' L u w h
  have hE' := hE
  rw [hE] at hf
  unfold chkL at hE'
  have hl5 : ¬ 5 < L.length := by intro h5; rw [if_pos h5] at hE'; cases hE'
  rw [if_neg hl5] at hE'
  have hall := (badL_zero L).1 hE'
  obtain ⟨ao, cap, rfl, h1, h2, h3⟩ := h
  obtain ⟨n, hn⟩ : ∃ n, L.length = n := ⟨_, rfl⟩
  have HEnc : Hid (encL L = leB 1 (n : Int) ++ L.flatMap encV) := by show _ = _; rw [encL, hn]; rfl
  rw [hn] at hf hl5 h1 ⊢
  clear hE hE'
  go_enter Tryz.func72, Tryz.ntmps72
  go_wp2_with (go_at_call 79; refine hf.mono ?_; rintro e w1 ⟨rfl, b1⟩)
  have z1 := b1.size
  refine (number_app w.heap.size (.slice none 0 0) [] (n : Int) 1 w1 (World.ownsRow_nil _ _ _ _) z1 (by omega) (by omega) (by decide) (by decide)).mono ?_
  rintro e w2 ⟨v2, rfl, hv2, b2, -⟩
  obtain ⟨a2, m2, c2, rfl⟩ := hv2.len
  have b2 := b1.trans b2
  clear hf b1 z1
  go_wp2_with fail
  go_loopw [5, 18] (fun v i wl => ∃ (k : Nat), k ≤ n ∧ i = .int .i64 k ∧ Bs wl w.heap.size v (leB 1 (n : Int) ++ (L.take k).flatMap encV) ∧ Below w.heap.size w wl) (fun _ i _ => n - (intOf i).toNat)
  case atStart => exact ⟨0, Nat.zero_le _, rfl, by simpa using hv2, b2⟩
  case round =>
    obtain ⟨k, hk, rfl, hbs, hnx⟩ := hrel
    clear hv2 b2
    have hsz := hnx.size
    have hlen : (leB 1 (n : Int) ++ (L.take k).flatMap encV).length ≤ 200 := by
      have := flat_len (L.take k) fun x hx => hall x (List.mem_of_mem_take hx)
      rw [List.length_append, leB_length]
      rw [List.length_take] at this
      omega
    by_cases hlt : k < n
    · obtain ⟨x, hx⟩ : ∃ x, L[k]? = some x := ⟨L[k], List.getElem?_eq_getElem (by omega)⟩
      obtain ⟨g, o, rfl, hg, hc⟩ := h3 (by intro e; rw [e] at hx; cases hx)
      obtain ⟨a0, a1, a2⟩ := hc k x hx
      have c0 := (hnx.cell (p := ⟨g, o + k * 3, none⟩) hg).trans a0
      have c1 := (hnx.cell (p := ⟨g, o + k * 3 + 1, none⟩) hg).trans a1
      have c2 := (hnx.cell (p := ⟨g, o + k * 3 + 2, none⟩) hg).trans a2
      have hlt' : (k : Int) < (n : Int) := by omega
      have ha := value_app w.heap.size _ _ x _ (hbs.alloc (.cells #[.int .i64 x.k, .int .i64 x.n, .string ⟨x.s.toArray⟩] 49)) (by simp; omega) (hall x (List.mem_of_getElem? hx)) (by omega)
      have HT : Hid ((leB 1 (n : Int) ++ (L.take k).flatMap encV) ++ encV x = leB 1 (n : Int) ++ (L.take (k + 1)).flatMap encV) := by
        show _ = _
        obtain ⟨hkl, rfl⟩ := List.getElem?_eq_some_iff.1 hx
        rw [List.take_succ_eq_append_getElem hkl, List.flatMap_append]
        simp
      have hnx2 := hnx.alloc hsz (.cells #[.int .i64 x.k, .int .i64 x.n, .string ⟨x.s.toArray⟩] 49)
      rw [vlV] at ha
      obtain ⟨a5, m5, q5, e5⟩ := hbs.len
      subst e5
      clear hc a0 a1 a2 hx hbs
      go_wp2_with fail
      refine ha.mono ?_
      rintro e w3 ⟨v3, rfl, hv3, b3, -⟩
      rw [HT.out] at hv3
      have b3 := hnx2.trans b3
      clear ha
      go_wp2
      go_roundw
      case rel => exact ⟨k + 1, by omega, by go_num, hv3, b3⟩
      case measure => simp [intOf]; omega
    · obtain rfl : k = n := by omega
      have hconv := hbs
      obtain ⟨a5, m5, q5, e5⟩ := hbs.len
      subst e5
      have ht := bs_text hconv (by simp [leB])
      have HQ : Hid (leB 1 (k : Int) ++ (L.take k).flatMap encV = encL L) := by show _ = _; rw [HEnc.out, List.take_of_length_le (by omega)]
      generalize leB 1 (k : Int) ++ (L.take k).flatMap encV = q at ht HQ
      clear h2 h3 hall hconv hbs HEnc hlen
      go_wp2
      go_ret2
      exact ⟨by rw [← HQ.out]; rfl, hnx⟩
theorem encode_any (L : List Vl) (u : Value) (w : World) (h : VsAt w u L) :
    Calls Tryz.prog 72 #[u] w fun e w' => e = .returned (.tuple #[.string ⟨(encR L).toArray⟩, .int .i64 (chkL L : Nat)]) ∧ Below w.heap.size w w' := by
  unfold encR
  by_cases h0 : chkL L = 0
  · rw [h0, if_pos rfl]; exact encode_yes L u w h h0
  · rw [if_neg h0]; exact encode_no L u w h _ rfl (by simpa using h0)
theorem own_mono {w : World} {B B' : Nat} {e : TypeId} {size n : Nat} {v : Value} {xs : List Value} (h : w.ownsRow B e size v n xs) (hB : B' ≤ B) : w.ownsRow B' e size v n xs := by
  obtain ⟨h1, h2⟩ := h
  refine ⟨h1, ?_⟩
  rcases h2 with h2 | ⟨g, cap, cur, e1, e2, e3⟩
  · exact .inl h2
  · exact .inr ⟨g, cap, cur, e1, Nat.le_trans hB e2, e3⟩
theorem decP_vals (s : List UInt8) : decP s = match valsOf s with | some (xs, []) => some xs | _ => none := by
  cases s <;> rfl
theorem valP_size (l : List UInt8) (x : Vl) (r : List UInt8) (h : valP l = some (x, r)) : x.s.length ≤ 255 := by
  cases l with
  | nil => cases h
  | cons c t =>
    simp only [valP] at h
    by_cases h0 : c = 0
    · rw [if_pos h0] at h; cases h; simp
    rw [if_neg h0] at h
    by_cases h1 : c = 1
    · rw [if_pos h1] at h
      by_cases h4 : t.length < 4
      · rw [if_pos h4] at h; cases h
      · rw [if_neg h4] at h; cases h; simp
    rw [if_neg h1] at h
    by_cases h2 : c = 2
    · rw [if_pos h2] at h
      cases t with
      | nil => cases h
      | cons m t =>
        simp only at h
        by_cases h4 : t.length < m.toNat
        · rw [if_pos h4] at h; cases h
        · rw [if_neg h4] at h; cases h
          have := m.toNat_lt
          simp only [List.length_take]; omega
    rw [if_neg h2] at h
    by_cases h3 : c = 3
    · rw [if_pos h3] at h
      cases t with
      | nil => cases h
      | cons m t => cases h; simp
    rw [if_neg h3] at h
    cases h
theorem valsP_size (k : Nat) : ∀ (l : List UInt8) (xs : List Vl) (r : List UInt8), valsP k l = some (xs, r) → ∀ x ∈ xs, x.s.length ≤ 255 := by
  induction k with
  | zero => intro l xs r h x hx; simp only [valsP] at h; cases h; cases hx
  | succ k ih =>
    intro l xs r h x hx
    simp only [valsP] at h
    cases hv : valP l with
    | none => rw [hv] at h; cases h
    | some p =>
      obtain ⟨y, t⟩ := p
      rw [hv] at h
      simp only [Option.bind_some] at h
      cases hw : valsP k t with
      | none => rw [hw] at h; cases h
      | some q =>
        obtain ⟨ys, u⟩ := q
        rw [hw] at h
        simp only [Option.map_some] at h
        cases h
        cases hx with
        | head => exact valP_size l x t hv
        | tail _ hx => exact ih t ys _ hw x hx
theorem valsOf_size (l : List UInt8) (xs : List Vl) (r : List UInt8) (h : valsOf l = some (xs, r)) : ∀ x ∈ xs, x.s.length ≤ 255 := by
  cases l with
  | nil => cases h
  | cons c t => exact valsP_size _ _ _ _ h
theorem grown_to_below {w w' : World} {b : Nat} (hg : w.grownBy w' (some b)) {B : Nat} (hB : B ≤ b) (hB2 : B ≤ w.heap.size) : Below B w w' :=
  ⟨hg.os, hg.tape, hg.output, hg.size, fun k hk => hg.block k (by omega) (by simp; omega)⟩
def DecPost (w : World) (s : List UInt8) (e : Ending) (w' : World) : Prop :=
  ∃ v, e = .returned (.tuple #[v, .int .i64 (decE s : Nat)]) ∧ w'.ownsRow w.heap.size 49 3 v (decR s).length ((decR s).flatMap vlC) ∧ Below w.heap.size w w' ∧ (decR s).length ≤ 255 ∧ ∀ x ∈ decR s, x.s.length ≤ 255
theorem decode_any (s : List UInt8) (w : World) : Calls Tryz.prog 28 #[.string ⟨s.toArray⟩] w fun e w' => DecPost w s e w' := by
  have r0 : RdAt (w.alloc (.cells #[.string ⟨s.toArray⟩, .bool false] 107)) w.heap.size s false := heap_alloc_new _ _
  have hv := values_any w.heap.size s _ r0
  have b0 := (Below.refl w.heap.size w).alloc (Nat.le_refl _) (.cells #[.string ⟨s.toArray⟩, .bool false] 107)
  clear r0
  go_enter Tryz.func28, Tryz.ntmps28
  go_wp2_with fail
  refine hv.mono ?_
  rintro e w1 ⟨v, xs, L', wr, rfl, hown, r1, g1, hlen, hval⟩
  have b1 : Below w.heap.size w w1 := b0.trans (grown_to_below g1 (Nat.le_refl _) (by simp))
  obtain ⟨⟨c0, c1⟩, -⟩ := two r1
  have hown := own_mono hown (B' := w.heap.size) (by simp)
  have hdp := decP_vals s
  clear hv b0 g1 r1
  cases wr with
  | true =>
    have e1 : decE s = 1 := by
      rw [hval] at hdp
      simp only [if_true] at hdp
      unfold decE; rw [hdp]
    have e2 : decR s = [] := decR_none s (by rw [e1]; decide)
    have E1 := hide e1
    have E2 := hide e2
    obtain ⟨ao, cap, ev⟩ := owns_slice hown
    subst ev
    clear hdp hval e1 e2 hown
    go_wp2
    go_ret2
    exact ⟨.slice none 0 0, by rw [E1.out]; rfl, by rw [E2.out]; exact World.ownsRow_nil _ _ _ _, b1, by rw [E2.out]; decide, by rw [E2.out]; intro x hx; cases hx⟩
  | false =>
    simp only [Bool.false_eq_true, if_false] at hval
    rw [hval] at hdp
    by_cases hL : L' = []
    · subst hL
      have hsz := valsOf_size s xs [] hval
      simp only at hdp
      have e1 : decE s = chkL xs := by unfold decE; rw [hdp]
      have e2 : decR s = if chkL xs = 0 then xs else [] := by unfold decR; rw [e1, hdp]; rfl
      have E1 := hide e1
      have E2 := hide e2
      have hf := fault_any' xs v w1 (vs_of_own hown (by omega) fun x hx => by have := hsz x hx; omega)
      have Hown := hide hown
      have Hsz := hide hsz
      obtain ⟨ao, cap, ev⟩ := owns_slice hown
      subst ev
      clear hdp hval e1 e2 hown hsz
      by_cases h0 : chkL xs = 0
      · have H0 := hide h0
        rw [h0] at hf
        clear h0
        go_wp2_with (go_at_call 79; refine hf.mono ?_; rintro e w2 ⟨rfl, b2⟩)
        go_ret2
        refine ⟨.slice ao xs.length cap, by rw [E1.out, H0.out]; rfl, ?_, b1.trans (b2.mono b1.size), ?_, ?_⟩
        · rw [E2.out, if_pos H0.out]; exact owns_below Hown.out b2
        · rw [E2.out, if_pos H0.out]; exact hlen
        · rw [E2.out, if_pos H0.out]; exact Hsz.out
      · have h0' : (((chkL xs : Nat) : Int) != 0) = true := by simpa using h0
        have H0 := hide h0
        clear h0
        generalize chkL xs = c at hf h0' E1 E2 H0
        go_wp2_with (go_at_call 79; refine hf.mono ?_; rintro e w2 ⟨rfl, b2⟩)
        go_ret2
        refine ⟨.slice none 0 0, by rw [E1.out]; rfl, ?_, b1.trans (b2.mono b1.size), ?_, ?_⟩
        · rw [E2.out, if_neg H0.out]; exact World.ownsRow_nil _ _ _ _
        · rw [E2.out, if_neg H0.out]; decide
        · rw [E2.out, if_neg H0.out]; intro x hx; cases hx
    · have hdp2 : decP s = none := by
        rw [hdp]
        cases L' with
        | nil => exact absurd rfl hL
        | cons a b => rfl
      have e1 : decE s = 1 := by unfold decE; rw [hdp2]
      have e2 : decR s = [] := decR_none s (by rw [e1]; decide)
      have hq : ((⟨L'.toArray⟩ : ByteArray).toList == []) = false := by
        rw [Lib.toList_data]; simpa using hL
      have E1 := hide e1
      have E2 := hide e2
      obtain ⟨ao, cap, ev⟩ := owns_slice hown
      subst ev
      have hL2 : L'.isEmpty = false := by simpa using hL
      clear hdp hdp2 hval e1 e2 hown hL
      go_wp2
      go_ret2
      exact ⟨.slice none 0 0, by rw [E1.out]; rfl, by rw [E2.out]; exact World.ownsRow_nil _ _ _ _, b1, by rw [E2.out]; decide, by rw [E2.out]; intro x hx; cases hx⟩
structure Ix where
  name : List UInt8
  a : Int
  b : Int
  es : List Cl
structure Tb where
  name : List UInt8
  cols : List Cl
  ds : List Dl
  rows : List Vl
  next : Int
  ixs : List Ix
def IsAt (w : World) (u : Value) (L : List Ix) : Prop :=
  ∃ ao cap, u = .slice ao L.length cap ∧ L.length ≤ cap ∧ L.length * 56 ≤ 140737488355328 ∧ (∀ x ∈ L, x.name.length ≤ 140737488355328) ∧
    (L ≠ [] → ∃ g o, ao = some ⟨g, o, none⟩ ∧ g < w.heap.size ∧ ∀ i x, L[i]? = some x → ∃ ev, w.cell? ⟨g, o + i * 4, none⟩ = some (.string ⟨x.name.toArray⟩) ∧ w.cell? ⟨g, o + i * 4 + 1, none⟩ = some (.int .i64 x.a) ∧ w.cell? ⟨g, o + i * 4 + 2, none⟩ = some (.int .i64 x.b) ∧ w.cell? ⟨g, o + i * 4 + 3, none⟩ = some ev ∧ CsAt w ev x.es ∧ ∀ y ∈ x.es, y.name.length ≤ 140737488355328)
theorem IsAt.below {w w' : World} {u : Value} {L : List Ix} (h : IsAt w u L) (hb : Below w.heap.size w w') : IsAt w' u L := by
  obtain ⟨ao, cap, h1, h2, h3, h4, h5⟩ := h
  refine ⟨ao, cap, h1, h2, h3, h4, fun hne => ?_⟩
  obtain ⟨g, o, e, hg, hc⟩ := h5 hne
  refine ⟨g, o, e, Nat.lt_of_lt_of_le hg hb.size, fun i x hx => ?_⟩
  obtain ⟨ev, c0, c1, c2, c3, c4, c5⟩ := hc i x hx
  exact ⟨ev, (hb.cell (p := ⟨g, o + i * 4, none⟩) hg).trans c0, (hb.cell (p := ⟨g, o + i * 4 + 1, none⟩) hg).trans c1, (hb.cell (p := ⟨g, o + i * 4 + 2, none⟩) hg).trans c2, (hb.cell (p := ⟨g, o + i * 4 + 3, none⟩) hg).trans c3, c4.below hb, c5⟩
def tbV (nm : List UInt8) (cu du ru : Value) (nx : Int) (iu : Value) : Value := .agg #[.string ⟨nm.toArray⟩, cu, du, ru, .int .i64 nx, iu]
structure TbAt (w : World) (cu du ru iu : Value) (t : Tb) : Prop where
  nm : t.name.length ≤ 140737488355328
  cs : CsAt w cu t.cols
  cc : ∃ ao n cap, cu = .slice ao n cap ∧ n ≤ cap
  cn : ∀ x ∈ t.cols, x.name.length ≤ 140737488355328
  ds : DsAt w du t.ds
  rs : VsAt w ru t.rows
  is : IsAt w iu t.ixs
theorem TbAt.below {w w' : World} {cu du ru iu : Value} {t : Tb} (h : TbAt w cu du ru iu t) (hb : Below w.heap.size w w') : TbAt w' cu du ru iu t :=
  ⟨h.nm, h.cs.below hb, h.cc, h.cn, h.ds.below hb, h.rs.below hb, h.is.below hb⟩
theorem six_cells {w W : World} {a b c d e f : Value} {t : TypeId} (hW : Below (w.heap.size + 1) (w.alloc (.cells #[a, b, c, d, e, f] t)) W) :
    W.cell? ⟨w.heap.size, 0, none⟩ = some a ∧ W.cell? ⟨w.heap.size, 1, none⟩ = some b ∧ W.cell? ⟨w.heap.size, 2, none⟩ = some c ∧ W.cell? ⟨w.heap.size, 3, none⟩ = some d ∧ W.cell? ⟨w.heap.size, 4, none⟩ = some e ∧ W.cell? ⟨w.heap.size, 5, none⟩ = some f :=
  ⟨(hW.cell (p := ⟨w.heap.size, 0, none⟩) (by simp)).trans (by simp), (hW.cell (p := ⟨w.heap.size, 1, none⟩) (by simp)).trans (by simp), (hW.cell (p := ⟨w.heap.size, 2, none⟩) (by simp)).trans (by simp), (hW.cell (p := ⟨w.heap.size, 3, none⟩) (by simp)).trans (by simp), (hW.cell (p := ⟨w.heap.size, 4, none⟩) (by simp)).trans (by simp), (hW.cell (p := ⟨w.heap.size, 5, none⟩) (by simp)).trans (by simp)⟩
def frameN (b : Bool) (cn dn rn xn : Nat) : Nat := if b = false ∨ cn = 0 then 1 else if 5 < cn ∨ 6 < dn ∨ 30 < rn ∨ 4 < xn then 2 else 0
def colsF (ahead : List Cl) : List Cl → Nat
  | [] => 0
  | c :: r => if nameW c.name = false then 1 else if ¬ (1 ≤ c.ty ∧ c.ty ≤ 3) then 7 else if (placeC ahead c.name).isSome = true then 6 else colsF (ahead ++ [c]) r
def nextF (n : Int) : Nat := if n < 1 ∨ 1000000 < n then 3 else 0
def widthF (n : Int) (L : List Dl) : Int := L.foldl (fun a d => if d.k = 1 then a - 1 else if d.k = 2 then a + 1 else a) n
def deltasF (n : Nat) (L : List Dl) : Nat := if widthF n L < 0 ∨ 5 < widthF n L then 4 else (checkD (widthF n L) L).2
def nowL (L : List Dl) (r : Vl) : List Vl := if decE r.s ≠ 0 then [] else applyL (decR r.s) (L.drop r.n.toNat)
def nowE (L : List Dl) (r : Vl) : Nat := if decE r.s ≠ 0 then decE r.s else applyE (decR r.s) (L.drop r.n.toNat)
def rowsF (cs : List Cl) (ds : List Dl) (next : Int) (ahead : Int) : List Vl → Nat
  | [] => 0
  | r :: l => if r.k ≤ ahead ∨ next ≤ r.k then 4 else if r.n < 0 ∨ (ds.length : Int) < r.n then 3 else if nowE ds r ≠ 0 then nowE ds r else if ¬ ((nowL ds r).length = cs.length ∧ kindsR cs (nowL ds r) = true) then 4 else rowsF cs ds next r.k l
theorem frame_any (nm : List UInt8) (ca da ra ia : Option Addr) (cn dn rn xn cc dc rc xc : Nat) (nx : Int) (w : World) (hs : nm.length ≤ 140737488355328) (hl : Ml w) :
    Calls Tryz.prog 42 #[tbV nm (.slice ca cn cc) (.slice da dn dc) (.slice ra rn rc) nx (.slice ia xn xc)] w fun e w' => e = .returned (.int .i64 (frameN (nameW nm) cn dn rn xn : Nat)) ∧ Below w.heap.size w w' := by
  have b0 := (Below.refl w.heap.size w).alloc (Nat.le_refl _) (.cells #[.string ⟨nm.toArray⟩, .slice ca cn cc, .slice da dn dc, .slice ra rn rc, .int .i64 nx, .slice ia xn xc] 27)
  have h85 := fun (W : World) (hW : Below w.heap.size w W) => isName_any ⟨nm.toArray⟩ W (by simpa [ByteArray.size] using hs) (hl.below hW)
  simp only [] at h85
  obtain ⟨PP, hPP⟩ : ∃ PP : Ending → World → Prop, PP = fun e w' => e = .returned (.int .i64 (frameN (nameW nm) cn dn rn xn : Nat)) ∧ Below w.heap.size w w' := ⟨_, rfl⟩
  refine Calls.mono (R := PP) ?_ (by rw [hPP]; exact fun _ _ h => h)
  have HP : Hid (∀ (E : Nat) (w' : World), frameN (nameW nm) cn dn rn xn = E → Below w.heap.size w w' → PP (.returned (.int .i64 (E : Int))) w') := by
    intro E w' h1 h2
    rw [hPP]
    exact ⟨by rw [h1], h2⟩
  clear hPP
  have HF : Hid (frameN (nameW nm) cn dn rn xn = frameN (nameW nm) cn dn rn xn) := rfl
  generalize hB : nameW nm = B at h85 HP
  clear hB HF
  unfold tbV
  go_enter Tryz.func42, Tryz.ntmps42
  go_wp2_with fail
  refine (h85 _ b0).mono ?_
  rintro e w1 ⟨rfl, b1⟩
  have q1 : Below w.heap.size w w1 := b0.trans (b1.mono b0.size)
  obtain ⟨d0, d1, d2, d3, d4, d5⟩ := six_cells (by simpa using b1)
  clear b0 b1 h85
  cases B with
  | false =>
    go_wp2
    skip
    exact HP.out 1 _ (by simp [frameN]) q1
  | true =>
    by_cases h1 : cn = 0
    · subst h1
      go_wp2
      skip
      exact HP.out 1 _ (by simp [frameN]) q1
    · have h1' : ¬ (cn : Int) = 0 := by omega
      by_cases h2 : 5 < cn
      · have h2' : (cn : Int) > 5 := by omega
        go_wp2
        skip
        exact HP.out 2 _ (by simp [frameN, h1, h2]) q1
      have h2' : ¬ (cn : Int) > 5 := by omega
      by_cases h3 : 6 < dn
      · have h3' : (dn : Int) > 6 := by omega
        go_wp2
        skip
        exact HP.out 2 _ (by simp [frameN, h1, h3]) q1
      have h3' : ¬ (dn : Int) > 6 := by omega
      by_cases h4 : 30 < rn
      · have h4' : (rn : Int) > 30 := by omega
        go_wp2
        skip
        exact HP.out 2 _ (by simp [frameN, h1, h4]) q1
      have h4' : ¬ (rn : Int) > 30 := by omega
      by_cases h5 : 4 < xn
      · have h5' : (xn : Int) > 4 := by omega
        go_wp2
        skip
        exact HP.out 2 _ (by simp [frameN, h1, h5]) q1
      have h5' : ¬ (xn : Int) > 4 := by omega
      go_wp2
      skip
      exact HP.out 0 _ (by simp [frameN, h1, h2, h3, h4, h5]) q1
theorem tnext_any (nm : List UInt8) (cu du ru iu : Value) (nx : Int) (w : World) :
    Calls Tryz.prog 44 #[tbV nm cu du ru nx iu] w fun e w' => e = .returned (.int .i64 (nextF nx : Nat)) ∧ Below w.heap.size w w' := by
  have b0 := (Below.refl w.heap.size w).alloc (Nat.le_refl _) (.cells #[.string ⟨nm.toArray⟩, cu, du, ru, .int .i64 nx, iu] 27)
  unfold tbV nextF
  by_cases h1 : nx < 1
  · rw [if_pos (Or.inl h1)]
    go_enter Tryz.func44, Tryz.ntmps44
    go_wp2
    go_ret
    exact ⟨rfl, b0⟩
  by_cases h2 : 1000000 < nx
  · rw [if_pos (Or.inr h2)]
    have h2' : nx > 1000000 := h2
    go_enter Tryz.func44, Tryz.ntmps44
    go_wp2
    go_ret
    exact ⟨rfl, b0⟩
  rw [if_neg (by omega)]
  have h2' : ¬ nx > 1000000 := h2
  go_enter Tryz.func44, Tryz.ntmps44
  go_wp2
  go_ret
  exact ⟨rfl, b0⟩
theorem hasColumn_any (L : List Cl) (u : Value) (nm : List UInt8) (w : World) (h : CsAt w u L) :
    Calls Tryz.prog 87 #[u, .string ⟨nm.toArray⟩] w fun e w' => e = .returned (.int .i64 (placeI L nm)) ∧ Below w.heap.size w w' := by
  have b0 := (Below.refl w.heap.size w).alloc (Nat.le_refl _) (.cells #[.string ⟨nm.toArray⟩] 9)
  have hx := cix_any L u nm w (w.alloc (.cells #[.string ⟨nm.toArray⟩] 9)) h b0 w.heap.size (by simp) (by simp)
  generalize placeI L nm = K at hx ⊢
  have HB := hide b0
  clear b0 h
  go_enter Tryz.func87, Tryz.ntmps87
  go_wp2_with fail
  refine hx.mono ?_
  rintro e w1 ⟨rfl, b1⟩
  have q1 := HB.out.trans (b1.mono HB.out.size)
  go_wp2
  go_ret
  exact ⟨rfl, q1⟩
theorem placeI_ge (L : List Cl) (nm : List UInt8) : decide (placeI L nm ≥ 0) = (placeC L nm).isSome := by
  unfold placeI
  cases h : placeC L nm with
  | none => simp
  | some k => simp
def stepW (a : Int) (d : Dl) : Int := if d.k = 1 then a - 1 else if d.k = 2 then a + 1 else a
theorem widthF_eq (n : Int) (L : List Dl) : widthF n L = L.foldl stepW n := rfl
theorem width_take (n : Int) (L : List Dl) (k : Nat) (x : Dl) (hx : L[k]? = some x) : widthF n (L.take (k + 1)) = stepW (widthF n (L.take k)) x := by
  rw [widthF_eq, widthF_eq, List.take_add_one, hx, List.foldl_append]; rfl
theorem width_near (L : List Dl) : ∀ n : Int, n - L.length ≤ widthF n L ∧ widthF n L ≤ n + L.length := by
  induction L with
  | nil => intro n; simp [widthF]
  | cons x r ih =>
    intro n
    have h := ih (stepW n x)
    have e : widthF n (x :: r) = widthF (stepW n x) r := rfl
    rw [e]
    have hs : n - 1 ≤ stepW n x ∧ stepW n x ≤ n + 1 := by
      unfold stepW; split
      · omega
      · split <;> omega
    simp only [List.length_cons]
    omega
theorem width_any (L : List Dl) (du : Value) (ca : Option Addr) (cn cc : Nat) (nm : List UInt8) (ru iu : Value) (nx : Int) (w : World) (h : DsAt w du L) (hc5 : cn ≤ 5) (hl6 : L.length ≤ 6) :
    Calls Tryz.prog 88 #[tbV nm (.slice ca cn cc) du ru nx iu] w fun e w' => e = .returned (.int .i64 (widthF cn L)) ∧ Below w.heap.size w w' := by
  obtain ⟨ao, cap, rfl, -, -, hl, hs, hcc⟩ := h
  have b0 := (Below.refl w.heap.size w).alloc (Nat.le_refl _) (.cells #[.string ⟨nm.toArray⟩, .slice ca cn cc, .slice ao L.length cap, ru, .int .i64 nx, iu] 27)
  have hz0 : (w.alloc (.cells #[.string ⟨nm.toArray⟩, .slice ca cn cc, .slice ao L.length cap, ru, .int .i64 nx, iu] 27)).heap.size = w.heap.size + 1 := by simp
  obtain ⟨n, hn⟩ : ∃ n, L.length = n := ⟨_, rfl⟩
  have HC : Hid (L ≠ [] → ∃ g o, ao = some ⟨g, o, none⟩ ∧ g < w.heap.size ∧ ∀ i x, L[i]? = some x → Dc w g (o + i * 6) x) := hcc
  have HN := fun k => width_near (L.take k) (cn : Int)
  have HW : Hid (widthF cn L = widthF cn (L.take n)) := by rw [Hid, ← hn, List.take_length]
  rw [hn] at hl6 b0 hz0 ⊢
  clear hcc hs hl
  unfold tbV
  go_enter Tryz.func88, Tryz.ntmps88
  go_wp2_with fail
  go_loopw [3, 12] (fun a i wl => ∃ (k : Nat) (A : Int), k ≤ n ∧ i = .int .i64 k ∧ a = .int .i64 A ∧ Hid (A = widthF cn (L.take k)) ∧ Below w.heap.size w wl) (fun _ i _ => n - (intOf i).toNat)
  case atStart => exact ⟨0, _, Nat.zero_le _, rfl, rfl, by rw [Hid, List.take_zero]; rfl, b0⟩
  case round =>
    obtain ⟨k, A, hk, rfl, rfl, HA, q0⟩ := hrel
    by_cases hlt : k < n
    · obtain ⟨x, hx⟩ : ∃ x, L[k]? = some x := ⟨L[k], List.getElem?_eq_getElem (by omega)⟩
      obtain ⟨g, o, rfl, hg, hc⟩ := HC.out (by intro e; rw [e] at hx; cases hx)
      have hd := hc k x hx
      have c0 := (q0.cell (p := ⟨g, o + k * 6, none⟩) hg).trans hd.c0
      have c1 := (q0.cell (p := ⟨g, o + k * 6 + 1, none⟩) hg).trans hd.c1
      have c2 := (q0.cell (p := ⟨g, o + k * 6 + 2, none⟩) hg).trans hd.c2
      have c3 := (q0.cell (p := ⟨g, o + k * 6 + 3, none⟩) hg).trans hd.c3
      have c4 := (q0.cell (p := ⟨g, o + k * 6 + 4, none⟩) hg).trans hd.c4
      have c5 := (q0.cell (p := ⟨g, o + k * 6 + 5, none⟩) hg).trans hd.c5
      have hlt' : (k : Int) < (n : Int) := by omega
      have hA : -20 ≤ A ∧ A ≤ 20 := by
        have h1 := HN k
        have h2 : (L.take k).length ≤ 6 := by rw [List.length_take]; omega
        have h3 := HA.out
        omega
      obtain ⟨hA1, hA2⟩ := hA
      have HS : Hid (widthF cn (L.take (k + 1)) = stepW A x) := by rw [Hid, width_take _ _ _ _ hx, HA.out]
      have q1 := q0.alloc q0.size (.cells #[.int .i64 x.k, .int .i64 x.a, .int .i64 x.ty, .int .i64 x.v.k, .int .i64 x.v.n, .string ⟨x.v.s.toArray⟩] 51)
      clear hc hd hx HN q0 hg
      by_cases h1 : x.k = 1
      · have HX : Hid (widthF cn (L.take (k + 1)) = A - 1) := by rw [Hid, HS.out, stepW, if_pos h1]
        rw [h1] at c0 q1
        go_wp2
        go_roundw
        case rel => exact ⟨k + 1, A - 1, by omega, by go_num, by go_num, HX.out.symm, q1⟩
        case measure => simp [intOf]; omega
      · by_cases h2 : x.k = 2
        · have HX : Hid (widthF cn (L.take (k + 1)) = A + 1) := by rw [Hid, HS.out, stepW, if_neg h1, if_pos h2]
          rw [h2] at c0 q1
          go_wp2
          go_roundw
          case rel => exact ⟨k + 1, A + 1, by omega, by go_num, by go_num, HX.out.symm, q1⟩
          case measure => simp [intOf]; omega
        · have HX : Hid (widthF cn (L.take (k + 1)) = A) := by rw [Hid, HS.out, stepW, if_neg h1, if_neg h2]
          go_wp2
          go_roundw
          case rel => exact ⟨k + 1, A, by omega, by go_num, rfl, HX.out.symm, q1⟩
          case measure => simp [intOf]; omega
    · have hkn : k = n := by omega
      go_wp2
      go_ret
      exact ⟨by rw [HW.out, ← hkn, ← HA.out]; rfl, q0⟩
theorem checkD_at (L : List Dl) (du : Value) (A : Int) (w : World) (h : DsAt w du L) :
    ∀ W : World, Below w.heap.size w W → Calls Tryz.prog 73 #[.int .i64 A, du] W fun e w' => e = .returned (.tuple #[.int .i64 (checkD A L).1, .int .i64 ((checkD A L).2 : Nat)]) ∧ Below W.heap.size W w' :=
  fun W hW => checkD_any L du A W (h.below hW)
theorem deltasF_any (L : List Dl) (du : Value) (ca : Option Addr) (cn cc : Nat) (nm : List UInt8) (ru iu : Value) (nx : Int) (w : World) (h : DsAt w du L) (hc5 : cn ≤ 5) (hl6 : L.length ≤ 6) :
    Calls Tryz.prog 45 #[tbV nm (.slice ca cn cc) du ru nx iu] w fun e w' => e = .returned (.int .i64 (deltasF cn L : Nat)) ∧ Below w.heap.size w w' := by
  have h88 := fun (W : World) (hW : Below w.heap.size w W) => width_any L du ca cn cc nm ru iu nx W (h.below hW) hc5 hl6
  have h73 := checkD_at L du (widthF cn L) w h
  have hA : -20 ≤ widthF cn L ∧ widthF cn L ≤ 20 := by have := width_near L (cn : Int); omega
  have b0 := (Below.refl w.heap.size w).alloc (Nat.le_refl _) (.cells #[.string ⟨nm.toArray⟩, .slice ca cn cc, du, ru, .int .i64 nx, iu] 27)
  obtain ⟨ao, cap, rfl, -, -, -, -, -⟩ := h
  unfold deltasF
  generalize widthF cn L = A at *
  obtain ⟨hA1, hA2⟩ := hA
  obtain ⟨n, hn⟩ : ∃ n, L.length = n := ⟨_, rfl⟩
  rw [hn] at h88 h73 b0 ⊢
  obtain ⟨C, hC⟩ : ∃ C, (checkD A L).1 = C := ⟨_, rfl⟩
  obtain ⟨E, hE⟩ : ∃ E, (checkD A L).2 = E := ⟨_, rfl⟩
  rw [hC, hE] at h73
  rw [hE]
  clear hC hE
  unfold tbV at *
  by_cases h1 : A < 0
  · rw [if_pos (Or.inl h1)]
    go_enter Tryz.func45, Tryz.ntmps45
    go_wp2_with fail
    refine (h88 _ b0).mono ?_
    rintro e w1 ⟨rfl, b1⟩
    have q1 : Below w.heap.size w w1 := b0.trans (b1.mono b0.size)
    clear h88 b1 b0 h73
    go_wp2
    go_ret
    exact ⟨rfl, q1⟩
  by_cases h2 : 5 < A
  · rw [if_pos (Or.inr h2)]
    have h2' : A > 5 := h2
    go_enter Tryz.func45, Tryz.ntmps45
    go_wp2_with fail
    refine (h88 _ b0).mono ?_
    rintro e w1 ⟨rfl, b1⟩
    have q1 : Below w.heap.size w w1 := b0.trans (b1.mono b0.size)
    clear h88 b1 b0 h73
    go_wp2
    go_ret
    exact ⟨rfl, q1⟩
  rw [if_neg (by omega)]
  have h2' : ¬ A > 5 := h2
  go_enter Tryz.func45, Tryz.ntmps45
  go_wp2_with fail
  refine (h88 _ b0).mono ?_
  rintro e w1 ⟨rfl, b1⟩
  have q1 : Below w.heap.size w w1 := b0.trans (b1.mono b0.size)
  obtain ⟨d0, d1, d2, d3, d4, d5⟩ := six_cells (by simpa using b1)
  clear h88 b1 b0
  go_wp2_with fail
  refine (h73 _ q1).mono ?_
  rintro e w2 ⟨rfl, b2⟩
  have q2 : Below w.heap.size w w2 := q1.trans (b2.mono q1.size)
  clear h73 b2 q1 d0 d1 d2 d3 d4 d5
  go_wp2
  go_ret
  exact ⟨rfl, q2⟩
theorem conv_b (n : Int) (w : World) :
    (convert 134 9 (.slice (some ⟨w.heap.size, 0, none⟩) 1 1)).run Tryz.prog (w.alloc (.cells #[.int .u8 (n % 256)] 5)) = .ok (.string ⟨#[b8 n]⟩) (w.alloc (.cells #[.int .u8 (n % 256)] 5)) := by
  have h := run_convert_bytes_back (P := Tryz.prog) (w.alloc (.cells #[.int .u8 (n % 256)] 5)) 134 9 5 ⟨w.heap.size, 0, none⟩ 1 [b8 n] Tryz.underlying134 Tryz.underlying5 Tryz.underlying9 (by
    intro j hj
    have : j = 0 := by simpa using hj
    subst this
    have e := b8_toNat n
    simp [Addr.add, e])
  exact h
theorem conv_g (n : Int) (w : World) (g : Nat) (hg : g = w.heap.size) :
    (convert 134 9 (.slice (some ⟨g, 0, none⟩) 1 1)).run Tryz.prog (w.alloc (.cells #[.int .u8 (n % 256)] 5)) = .ok (.string ⟨#[b8 n]⟩) (w.alloc (.cells #[.int .u8 (n % 256)] 5)) := by
  subst hg; exact conv_b n w
theorem conv_k (n : Int) (hn : 0 ≤ n) (hn' : n < 256) (w : World) (g : Nat) (hg : g = w.heap.size) :
    (convert 134 9 (.slice (some ⟨g, 0, none⟩) 1 1)).run Tryz.prog (w.alloc (.cells #[.int .u8 n] 5)) = .ok (.string ⟨#[b8 n]⟩) (w.alloc (.cells #[.int .u8 n] 5)) := by
  subst hg
  have h := conv_b n w
  rw [show n % 256 = n by omega] at h
  exact h
def TxPost (w : World) (l : List UInt8) (e : Ending) (w' : World) : Prop := e = .returned (.string ⟨l.toArray⟩) ∧ Below w.heap.size w w'
theorem encodeOf_any (L : List Vl) (u : Value) (w : World) (h : VsAt w u L) (hE : chkL L = 0) : Calls Tryz.prog 59 #[u] w fun e w' => TxPost w (encL L) e w' := by
  unfold chkL at hE
  have hl5 : ¬ 5 < L.length := by intro h5; rw [if_pos h5] at hE; cases hE
  rw [if_neg hl5] at hE
  have hall := (badL_zero L).1 hE
  obtain ⟨ao, cap, rfl, h1, h2, h3⟩ := h
  obtain ⟨n, hn⟩ : ∃ n, L.length = n := ⟨_, rfl⟩
  have HEnc : Hid (encL L = b8 (n : Int) :: L.flatMap encV) := by show _ = _; rw [encL, hn]
  rw [hn] at hl5 h1 ⊢
  clear hE
  have hc0 := conv_k (n : Int) (by omega) (by omega)
  go_enter Tryz.func59, Tryz.ntmps59
  go_wp2_with fail
  have b0 := (Below.refl w.heap.size w).alloc (Nat.le_refl _) (.cells #[.int .u8 (n : Int)] 5)
  clear hc0
  go_loopw [3, 4] (fun v i wl => ∃ (k : Nat) (acc : List UInt8), k ≤ n ∧ i = .int .i64 k ∧ v = .string ⟨acc.toArray⟩ ∧ Below w.heap.size w wl ∧ Hid (acc = b8 (n : Int) :: (L.take k).flatMap encV)) (fun _ i _ => n - (intOf i).toNat)
  case atStart => exact ⟨0, [b8 (n : Int)], Nat.zero_le _, rfl, rfl, b0, rfl⟩
  case round =>
    obtain ⟨k, acc, hk, rfl, rfl, hnx, HA⟩ := hrel
    clear b0
    have hsz := hnx.size
    have hlen : acc.length ≤ 200 := by
      have := flat_len (L.take k) fun x hx => hall x (List.mem_of_mem_take hx)
      rw [HA.out, List.length_cons]
      rw [List.length_take] at this
      omega
    have hsa := size_mk acc
    by_cases hlt : k < n
    · obtain ⟨x, hx⟩ : ∃ x, L[k]? = some x := ⟨L[k], List.getElem?_eq_getElem (by omega)⟩
      obtain ⟨g, o, rfl, hg, hc⟩ := h3 (by intro e; rw [e] at hx; cases hx)
      obtain ⟨a0, a1, a2⟩ := hc k x hx
      have c0 := (hnx.cell (p := ⟨g, o + k * 3, none⟩) hg).trans a0
      have c1 := (hnx.cell (p := ⟨g, o + k * 3 + 1, none⟩) hg).trans a1
      have c2 := (hnx.cell (p := ⟨g, o + k * 3 + 2, none⟩) hg).trans a2
      have hlt' : (k : Int) < (n : Int) := by omega
      have HT : Hid (b8 (n : Int) :: (L.take (k + 1)).flatMap encV = acc ++ encV x) := by
        show _ = _
        obtain ⟨hkl, rfl⟩ := List.getElem?_eq_some_iff.1 hx
        rw [List.take_succ_eq_append_getElem hkl, List.flatMap_append, HA.out]
        simp
      have hck := hall x (List.mem_of_getElem? hx)
      clear hc a0 a1 a2 hx HA h2 h3 hall HEnc
      obtain ⟨K, M, S⟩ := x
      rcases chkV_zero hck with ⟨q1, q2, q3⟩ | ⟨q1, q2, q3, q4⟩ | ⟨q1, q2, q3⟩ | ⟨q1, q2, q3⟩
      · simp only at q1; subst q1
        have hk0 := conv_k 0 (by decide) (by decide)
        go_wp2
        go_roundw
        case rel => exact ⟨k + 1, acc ++ [b8 0], by omega, by go_num, by rw [← mk_append], (hnx.alloc hsz _).alloc (by simp; omega) _, HT.out.symm⟩
        case measure => simp [intOf]; omega
      · simp only at q1 q2 q3; subst q1
        have hk0 := conv_k 1 (by decide) (by decide)
        go_wp2_with fail
        clear hk0
        go_loopw [3, 6, 7] (fun v m i wl => ∃ (j : Nat) (acc' : List UInt8) (n' : Int), j ≤ 4 ∧ i = .int .i64 j ∧ v = .string ⟨acc'.toArray⟩ ∧ m = .int .i64 n' ∧ 0 ≤ n' ∧ n' ≤ 1999999998 ∧ Below w.heap.size w wl ∧ acc'.length ≤ 201 + j ∧ Hid (acc' ++ leB (4 - j) n' = acc ++ (b8 1 :: leB 4 (M + 999999999)))) (fun _ _ i _ => 4 - (intOf i).toNat)
        case atStart => exact ⟨0, acc ++ [b8 1], M + 999999999, by decide, rfl, by rw [← mk_append], rfl, by omega, by omega, (hnx.alloc hsz _).alloc (by simp; omega) _, by simp; omega, by show _ = _; simp⟩
        case round =>
          obtain ⟨j, acc', n', hj, rfl, rfl, rfl, hn0, hn1, hnx2, hal, HB⟩ := hrel
          have hs2 := hnx2.size
          have hsa2 := size_mk acc'
          by_cases hj4 : j < 4
          · have hj4' : (j : Int) < 4 := by omega
            have hcv := conv_g n'
            have HB2 : Hid ((acc' ++ [b8 n']) ++ leB (4 - (j + 1)) (n' / 256) = acc ++ (b8 1 :: leB 4 (M + 999999999))) := by
              show _ = _
              rw [← HB.out, show 4 - j = (4 - (j + 1)) + 1 by omega, leB]
              simp
            clear HB
            go_wp2
            go_roundw
            case rel => exact ⟨j + 1, acc' ++ [b8 n'], n' / 256, by omega, by go_num, by rw [← mk_append], rfl, by omega, by omega, hnx2.alloc hs2 _, by simp; omega, HB2⟩
            case measure => simp [intOf]; omega
          · obtain rfl : j = 4 := by omega
            have HB2 : Hid (acc' = acc ++ encV ⟨1, M, S⟩) := by
              show _ = _
              have := HB.out
              rw [show 4 - 4 = 0 from rfl, leB, List.append_nil] at this
              exact this
            clear HB
            go_wp2
            go_roundw
            case rel => exact ⟨k + 1, acc', by omega, by go_num, rfl, hnx2, by show _ = _; rw [HT.out, HB2.out]⟩
            case measure => simp [intOf]; omega
      · simp only at q1; subst q1
        have hk0 := conv_k 2 (by decide) (by decide)
        have hk1 := conv_k (S.length : Int) (by omega) (by simp only at q3; omega)
        have hss := size_mk S
        simp only at q3
        go_wp2
        go_roundw
        case rel =>
          refine ⟨k + 1, acc ++ encV ⟨2, M, S⟩, by omega, by go_num, ?_, ((hnx.alloc hsz _).alloc (by simp; omega) _).alloc (by simp; omega) _, HT.out.symm⟩
          have e : encV ⟨2, M, S⟩ = [b8 2] ++ ([b8 (S.length : Nat)] ++ S) := rfl
          rw [e, ← List.append_assoc, ← mk_append, ← mk_append, ← mk_append]
        case measure => simp [intOf]; omega
      · simp only at q1 q2; subst q1
        have hk0 := conv_k 3 (by decide) (by decide)
        have hk1 := conv_k M (by omega) (by omega)
        have hm0 : 0 ≤ M := by omega
        have hm1 : M ≤ 1 := by omega
        go_wp2
        go_roundw
        case rel =>
          refine ⟨k + 1, acc ++ encV ⟨3, M, S⟩, by omega, by go_num, ?_, ((hnx.alloc hsz _).alloc (by simp; omega) _).alloc (by simp; omega) _, HT.out.symm⟩
          have e : encV ⟨3, M, S⟩ = [b8 3] ++ [b8 M] := rfl
          rw [e, ← List.append_assoc, ← mk_append, ← mk_append]
        case measure => simp [intOf]; omega
    · obtain rfl : k = n := by omega
      have HQ : Hid (encL L = acc) := by show _ = _; rw [HEnc.out, HA.out, List.take_of_length_le (by omega)]
      clear h2 h3 hall HEnc HA
      go_wp2
      go_ret
      exact ⟨by rw [HQ.out]; rfl, hnx⟩
theorem own_none {w : World} {B n : Nat} {e : TypeId} {m : Nat} {v : Value} {xs : List Value} (h : w.ownsRow B e m v n xs) : ∀ ao cap, v = .slice ao 0 cap → ao = none → cap = 0 := by
  intro ao cap hv ha
  rcases h.2 with ⟨rfl, h0⟩ | ⟨g, c, cur, rfl, hB, hg, r⟩
  · cases hv; rfl
  · cases hv; cases ha
theorem ds_of_own {w : World} {B : Nat} {v : Value} {xs : List Dl} (h : w.ownsRow B 51 6 v xs.length (xs.flatMap dlC)) (hn : xs.length * 56 ≤ 140737488355328) (hs : ∀ x ∈ xs, x.v.s.length ≤ 140737488355328) : DsAt w v xs := by
  rcases h.2 with ⟨e, h0⟩ | ⟨g, cap, cur, e, hB, hg, h1, h2, h3, h4⟩
  · obtain rfl := List.eq_nil_of_length_eq_zero h0
    exact ⟨none, 0, e, by simp, by simp, by simp, by simp, by simp⟩
  · have hm : maxLen = 9223372036854775807 := by rfl
    refine ⟨_, cap, e, h1, by omega, hn, hs, fun hne => ⟨g, 0, rfl, (ltS hg), fun i x hx => ?_⟩⟩
    rw [e] at h
    have hlen := h.1
    have at' : ∀ q, q < 6 → w.cell? ⟨g, i * 6 + q, none⟩ = (dlC x)[q]? := by
      intro q hq
      have hi := (List.getElem?_eq_some_iff.1 hx).1
      have := h.cellAt (i * 6 + q) (by omega)
      rw [flat_get dlC 6 (fun _ => rfl) xs i x hx q hq] at this
      exact this
    rw [Nat.zero_add]
    exact ⟨at' 0 (by decide), at' 1 (by decide), at' 2 (by decide), at' 3 (by decide), at' 4 (by decide), at' 5 (by decide)⟩
theorem flatD_len (L : List Dl) : (L.flatMap dlC).length = L.length * 6 := by
  induction L with
  | nil => rfl
  | cons x r ih => rw [List.flatMap_cons, List.length_append, ih]; simp [dlC]; omega
theorem flatD_one (L : List Dl) : ∀ u ∈ L.flatMap dlC, u.oneCell' = true := by
  intro u hu
  obtain ⟨x, -, hx⟩ := List.mem_flatMap.1 hu
  simp only [dlC, List.mem_cons, List.not_mem_nil, or_false] at hx
  rcases hx with rfl | rfl | rfl | rfl | rfl | rfl <;> rfl
theorem Tryz.info_dl : (Tryz.prog.info? 51).map (fun i => (i.zero, i.size, i.bytes)) = some (some (.agg #[.int .i64 0, .int .i64 0, .int .i64 0, .int .i64 0, .int .i64 0, .string ⟨#[]⟩]), 6, 56) := by kernel_rfl
theorem DsAt.cells {w : World} {L : List Dl} {g o : Nat} (hc : ∀ i x, L[i]? = some x → Dc w g (o + i * 6) x) (j : Nat) (u : Value) (hj : (L.flatMap dlC)[j]? = some u) : w.cell? ⟨g, o + j, none⟩ = some u := by
  induction L generalizing o j with
  | nil => simp at hj
  | cons x r ih =>
    rw [List.flatMap_cons] at hj
    have h0 := hc 0 x rfl
    rw [Nat.zero_mul, Nat.add_zero] at h0
    by_cases h6 : j < 6
    · rw [List.getElem?_append_left (by simpa [dlC] using h6)] at hj
      match j, h6, hj with
      | 0, _, hj => simp [dlC] at hj; subst hj; exact h0.c0
      | 1, _, hj => simp [dlC] at hj; subst hj; exact h0.c1
      | 2, _, hj => simp [dlC] at hj; subst hj; exact h0.c2
      | 3, _, hj => simp [dlC] at hj; subst hj; exact h0.c3
      | 4, _, hj => simp [dlC] at hj; subst hj; exact h0.c4
      | 5, _, hj => simp [dlC] at hj; subst hj; exact h0.c5
    · rw [List.getElem?_append_right (by simp [dlC]; omega)] at hj
      have := ih (o := o + 6) (fun i y hy => by
        have := hc (i + 1) y (by simpa using hy)
        rw [show o + 6 + i * 6 = o + (i + 1) * 6 by omega]; exact this) (j - 6) (by simpa [dlC] using hj)
      rw [show o + 6 + (j - 6) = o + j by omega] at this
      exact this
theorem DsAt.drop {w : World} {ao : Option Addr} {n cap : Nat} {L : List Dl} (h : DsAt w (.slice ao n cap) L) (k : Nat) (hk : k ≤ L.length) :
    DsAt w (.slice (if cap = k then ao else ao.map fun a => a.add (k * 6)) (n - k) (cap - k)) (L.drop k) := by
  obtain ⟨ao', cap', e, h1, h2, h3, h4, h5⟩ := h
  cases e
  refine ⟨_, _, by rw [List.length_drop], by rw [List.length_drop]; omega, by omega, by rw [List.length_drop]; omega, fun x hx => h4 x (List.mem_of_mem_drop hx), fun hne => ?_⟩
  have hlt : k < L.length := by
    rcases Nat.lt_or_ge k L.length with h | h
    · exact h
    · rw [List.drop_eq_nil_of_le h] at hne; exact absurd rfl hne
  obtain ⟨g, o, e, hg, hc⟩ := h5 (by intro e; subst e; simp at hlt)
  subst e
  rw [if_neg (by omega)]
  refine ⟨g, o + k * 6, by rw [Option.map_some, Go.WideShapes.add_plain], hg, fun i x hx => ?_⟩
  rw [List.getElem?_drop] at hx
  have := hc (k + i) x hx
  rwa [show o + (k + i) * 6 = o + k * 6 + i * 6 by omega] at this
theorem six_in {W : World} {B : Nat} {a b c d e f : Value} {t : TypeId} (h : W.heap[B]? = some (.cells #[a, b, c, d, e, f] t)) :
    W.cell? ⟨B, 0, none⟩ = some a ∧ W.cell? ⟨B, 1, none⟩ = some b ∧ W.cell? ⟨B, 2, none⟩ = some c ∧ W.cell? ⟨B, 3, none⟩ = some d ∧ W.cell? ⟨B, 4, none⟩ = some e ∧ W.cell? ⟨B, 5, none⟩ = some f := by
  refine ⟨?_, ?_, ?_, ?_, ?_, ?_⟩ <;> (rw [Lib.cell_of_heap h]; rfl)
theorem own_base {w : World} {B B' : Nat} {u : Value} {L : List Vl} (h : Own w B' u L) (hB : B ≤ B') : Own w B u L := Own.mono h hB
theorem valsP_len (k : Nat) : ∀ (l : List UInt8) (xs : List Vl) (r : List UInt8), valsP k l = some (xs, r) → xs.length = k := by
  induction k with
  | zero => intro l xs r h; simp [valsP] at h; rw [h.1]; rfl
  | succ k ih =>
    intro l xs r h
    rw [valsP] at h
    cases hv : valP l with
    | none => rw [hv] at h; simp at h
    | some q =>
      rw [hv] at h
      simp only [Option.bind_some] at h
      cases hw : valsP k q.2 with
      | none => rw [hw] at h; simp at h
      | some p =>
        rw [hw] at h
        simp at h
        rw [← h.1, List.length_cons, ih _ _ _ hw]
theorem vals_few {s : List UInt8} {xs : List Vl} {r : List UInt8} (h : valsOf s = some (xs, r)) : xs.length ≤ 255 := by
  cases s with
  | nil => cases h
  | cons c q =>
    rw [valsP_len _ _ _ _ h]
    have := c.toNat_lt
    omega
theorem dec_short (s : List UInt8) : (decR s).length ≤ 255 ∧ ∀ x ∈ decR s, x.s.length ≤ 255 := by
  unfold decR
  split
  · rename_i h0
    cases hd : decP s with
    | none => simp
    | some xs =>
      simp only [Option.getD_some]
      rw [decP_vals] at hd
      split at hd
      · rename_i ys hv
        cases hd
        exact ⟨vals_few hv, valsOf_size _ _ _ hv⟩
      · cases hd
  · simp
theorem now_bad (s : List UInt8) (K V : Int) (du : Value) (nm : List UInt8) (cu ru iu : Value) (nx : Int) (w : World) (E : Nat) (hE : ((E : Int) != 0) = true)
    (h28 : ∀ W : World, Calls Tryz.prog 28 #[.string ⟨s.toArray⟩] W fun e w' => ∃ x, e = .returned (.tuple #[x, .int .i64 (E : Nat)]) ∧ Below W.heap.size W w') :
    Calls Tryz.prog 57 #[tbV nm cu du ru nx iu, .agg #[.int .i64 K, .int .i64 V, .string ⟨s.toArray⟩]] w fun e w' => e = .returned (.tuple #[.slice none 0 0, .int .i64 (E : Nat)]) ∧ Below w.heap.size w w' := by
  have b0 := ((Below.refl w.heap.size w).alloc (Nat.le_refl _) (.cells #[.string ⟨nm.toArray⟩, cu, du, ru, .int .i64 nx, iu] 27)).alloc (by simp) (.cells #[.int .i64 K, .int .i64 V, .string ⟨s.toArray⟩] 39)
  unfold tbV
  go_enter Tryz.func57, Tryz.ntmps57
  go_wp2_with fail
  refine (h28 _).mono ?_
  rintro e w1 ⟨x, rfl, b1⟩
  have q1 : Below w.heap.size w w1 := b0.trans (b1.mono b0.size)
  clear h28 b1 b0
  go_wp2
  go_ret2
  exact ⟨rfl, q1⟩
theorem now_ok (s : List UInt8) (K : Int) (v dn dc : Nat) (da : Option Addr) (nm : List UInt8) (cu ru iu : Value) (nx : Int) (w : World) (E : Nat) (R X : List Vl) (hv : v ≤ dn) (hd : dn ≤ dc) (hm : dc ≤ 9223372036854775807)
    (h28 : ∀ W : World, Calls Tryz.prog 28 #[.string ⟨s.toArray⟩] W fun e w' => ∃ x, e = .returned (.tuple #[x, .int .i64 0]) ∧ Own w' W.heap.size x R ∧ Below W.heap.size W w')
    (h27 : ∀ (W : World) (x : Value), Below w.heap.size w W → (∃ B, Own W B x R) → Calls Tryz.prog 27 #[x, .slice (if dc = v then da else da.map fun a => a.add (v * 6)) (dn - v) (dc - v)] W fun e w' => ∃ z, e = .returned (.tuple #[z, .int .i64 (E : Nat)]) ∧ Own w' W.heap.size z X ∧ Below W.heap.size W w') :
    Calls Tryz.prog 57 #[tbV nm cu (.slice da dn dc) ru nx iu, .agg #[.int .i64 K, .int .i64 v, .string ⟨s.toArray⟩]] w fun e w' => ∃ z, e = .returned (.tuple #[z, .int .i64 (E : Nat)]) ∧ Own w' w.heap.size z X ∧ Below w.heap.size w w' := by
  have b0 := ((Below.refl w.heap.size w).alloc (Nat.le_refl _) (.cells #[.string ⟨nm.toArray⟩, cu, .slice da dn dc, ru, .int .i64 nx, iu] 27)).alloc (by simp) (.cells #[.int .i64 K, .int .i64 v, .string ⟨s.toArray⟩] 39)
  have hD : ∀ W : World, Below ((w.alloc (.cells #[.string ⟨nm.toArray⟩, cu, .slice da dn dc, ru, .int .i64 nx, iu] 27)).alloc (.cells #[.int .i64 K, .int .i64 v, .string ⟨s.toArray⟩] 39)).heap.size ((w.alloc (.cells #[.string ⟨nm.toArray⟩, cu, .slice da dn dc, ru, .int .i64 nx, iu] 27)).alloc (.cells #[.int .i64 K, .int .i64 v, .string ⟨s.toArray⟩] 39)) W → W.cell? ⟨w.heap.size, 2, none⟩ = some (.slice da dn dc) ∧ W.cell? ⟨w.heap.size + 1, 1, none⟩ = some (.int .i64 v) := fun W hW =>
    ⟨(hW.cell (p := ⟨w.heap.size, 2, none⟩) (by simp; omega)).trans (by simp), (hW.cell (p := ⟨w.heap.size + 1, 1, none⟩) (by simp)).trans (by simp)⟩
  have HD := hide hD
  have hv' : (v : Int) ≤ (dn : Int) := by omega
  clear hD
  unfold tbV
  go_enter Tryz.func57, Tryz.ntmps57
  go_wp2_with fail
  refine (h28 _).mono ?_
  rintro e w1 ⟨x, rfl, ox, b1⟩
  have q1 : Below w.heap.size w w1 := b0.trans (b1.mono b0.size)
  obtain ⟨d0, d1⟩ := HD.out w1 b1
  have OX := hide (⟨_, ox⟩ : ∃ B, Own w1 B x R)
  clear h28 b1 b0 HD ox
  by_cases hdc : dc = v
  · rw [if_pos hdc] at h27
    obtain rfl : dn = dc := by omega
    subst hdc
    rw [Nat.sub_self] at h27
    go_wp2_with fail
    try rw [Nat.sub_self]
    refine (h27 _ _ q1 OX.out).mono ?_
    rintro e w2 ⟨z, rfl, oz, b2⟩
    have q2 : Below w.heap.size w w2 := q1.trans (b2.mono q1.size)
    have OZ := hide (own_base oz q1.size)
    clear h27 b2 q1 oz OX d0 d1
    go_wp2
    go_ret2
    exact ⟨_, rfl, OZ.out, q2⟩
  · rw [if_neg hdc] at h27
    have hdc' : ¬ (v = dc) := fun e => hdc e.symm
    go_wp2_with fail
    refine (h27 _ _ q1 OX.out).mono ?_
    rintro e w2 ⟨z, rfl, oz, b2⟩
    have q2 : Below w.heap.size w w2 := q1.trans (b2.mono q1.size)
    have OZ := hide (own_base oz q1.size)
    clear h27 b2 q1 oz OX d0 d1
    go_wp2
    go_ret2
    exact ⟨_, rfl, OZ.out, q2⟩
theorem own_nil (w : World) (B : Nat) : Own w B (.slice none 0 0) [] := ⟨rfl, .inl ⟨rfl, rfl⟩⟩
theorem now_any (L : List Dl) (r : Vl) (du : Value) (nm : List UInt8) (cu ru iu : Value) (nx : Int) (w : World) (h : DsAt w du L) (laid : Laid w) (h0 : 0 ≤ r.n) (h1 : r.n ≤ L.length) :
    Calls Tryz.prog 57 #[tbV nm cu du ru nx iu, .agg #[.int .i64 r.k, .int .i64 r.n, .string ⟨r.s.toArray⟩]] w fun e w' => ∃ z, e = .returned (.tuple #[z, .int .i64 (nowE L r : Nat)]) ∧ Own w' w.heap.size z (nowL L r) ∧ Below w.heap.size w w' := by
  by_cases hD : decE r.s = 0
  · have hE : nowE L r = applyE (decR r.s) (L.drop r.n.toNat) := by rw [nowE, if_neg (by simpa using hD)]
    have hL : nowL L r = applyL (decR r.s) (L.drop r.n.toNat) := by rw [nowL, if_neg (by simpa using hD)]
    rw [hE, hL]
    obtain ⟨k, n, s⟩ := r
    simp only at hD h0 h1 ⊢
    obtain ⟨v, rfl⟩ : ∃ v : Nat, n = (v : Int) := ⟨n.toNat, by omega⟩
    have hv : v ≤ L.length := by omega
    have hdr := fun (W : World) (hW : Below w.heap.size w W) => h.below hW
    obtain ⟨ao, cap, rfl, hc, hm, -⟩ := h
    rw [Int.toNat_natCast]
    refine now_ok s k v L.length cap ao nm cu ru iu nx w _ (decR s) _ hv hc hm (fun W => (decode_any s W).mono ?_) ?_
    · rintro e w' ⟨x, rfl, ox, bx, -, -⟩
      exact ⟨x, by rw [hD]; rfl, ox, bx⟩
    · intro W x hW ⟨B, ox⟩
      obtain ⟨hl, hs⟩ := dec_short s
      exact apply_any (decR s) (L.drop v) x _ W (vs_of_own ox (by omega) (fun y hy => by have := hs y hy; omega)) (own_none ox) ((hdr W hW).drop v hv) (laid.below hW)
  · have hE : nowE L r = decE r.s := by rw [nowE, if_pos hD]
    have hL : nowL L r = [] := by rw [nowL, if_pos hD]
    rw [hE, hL]
    refine (now_bad r.s r.k r.n du nm cu ru iu nx w _ (by simpa using hD) (fun W => (decode_any r.s W).mono ?_)).mono ?_
    · rintro e w' ⟨x, rfl, -, bx, -, -⟩
      exact ⟨x, rfl, bx⟩
    · rintro e w' ⟨rfl, bx⟩
      exact ⟨_, rfl, own_nil _ _, bx⟩
theorem applied_ok {r : List Vl} {L : List Dl} (h : applyE r L = 0) : (applyL r L).length ≤ 5 ∧ badL (applyL r L) = 0 := by
  obtain ⟨h1, h2, h3, h4⟩ := apply_parts r L L.length h
  rw [List.take_length, List.drop_length] at h2
  unfold applyE at h2
  by_cases h5 : 5 < (applyL r L).length
  · rw [if_pos h5] at h2; cases h2
  rw [if_neg h5] at h2
  refine ⟨by omega, ?_⟩
  by_cases hq : (checkD ((applyL r L).length : Nat) []).2 ≠ 0
  · rw [if_pos hq] at h2; exact absurd h2 hq
  · rw [if_neg hq] at h2; exact h2
theorem Own.vs {w : World} {B : Nat} {x : Value} {r : List Vl} {L : List Dl} (h : Own w B x (applyL r L)) (hE : applyE r L = 0) : VsAt w x (applyL r L) := by
  obtain ⟨h5, hb⟩ := applied_ok hE
  exact vs_of_own h (by omega) fun y hy => by have := short_of ((badL_zero _).1 hb y hy); omega
def fitB (cs : List Cl) (l : List Vl) : Bool := decide (l.length = cs.length) && kindsR cs l
theorem fitRow_ne (ao bo : Option Addr) (n m ca cb : Nat) (W : World) (h : ¬ n = m) :
    Calls Tryz.prog 89 #[.slice ao n ca, .slice bo m cb] W fun e w' => e = .returned (.bool false) ∧ Below W.heap.size W w' := by
  have h' : ¬ (n : Int) = (m : Int) := by omega
  have hc : ∀ W : World, Calls Tryz.prog 138 #[.slice ao n ca, .slice bo m cb, .func (.func 139) #[] #[]] W fun e w' => e = .returned (.bool false) ∧ w' = W := by
    intro W
    go_enter Tryz.func138, Tryz.ntmps138
    go_wp2
    go_ret
    exact ⟨rfl, rfl⟩
  go_enter Tryz.func89, Tryz.ntmps89
  go_wp2_with fail
  refine (hc _).mono ?_
  rintro e w1 ⟨rfl, rfl⟩
  go_wp2
  go_ret
  exact ⟨rfl, Below.refl _ _⟩
theorem fitRow_all (L : List Cl) (R : List Vl) (cu ru : Value) (W : World) (hC : CsAt W cu L) (hR : VsAt W ru R) :
    Calls Tryz.prog 89 #[cu, ru] W fun e w' => e = .returned (.bool (fitB L R)) ∧ Below W.heap.size W w' := by
  unfold fitB
  by_cases h : R.length = L.length
  · rw [decide_eq_true h, Bool.true_and]
    exact fitRow_any L R cu ru W hC hR h
  · rw [decide_eq_false h, Bool.false_and]
    obtain ⟨ao, ca, rfl, -⟩ := hC
    obtain ⟨bo, cb, rfl, -⟩ := hR
    exact fitRow_ne ao bo _ _ ca cb W (fun e => h e.symm)
theorem rowsF_cons (cs : List Cl) (ds : List Dl) (next ahead : Int) (r : Vl) (l : List Vl) :
    rowsF cs ds next ahead (r :: l) = if r.k ≤ ahead ∨ next ≤ r.k then 4 else if r.n < 0 ∨ (ds.length : Int) < r.n then 3 else if nowE ds r ≠ 0 then nowE ds r else if fitB cs (nowL ds r) = false then 4 else rowsF cs ds next r.k l := by
  rw [rowsF]
  have e : (¬ ((nowL ds r).length = cs.length ∧ kindsR cs (nowL ds r) = true)) ↔ fitB cs (nowL ds r) = false := by
    unfold fitB
    cases kindsR cs (nowL ds r) <;> simp
  simp only [e]
theorem now_vs {w : World} {B : Nat} {L : List Dl} {r : Vl} {z : Value} (h : Own w B z (nowL L r)) (hE : nowE L r = 0) : VsAt w z (nowL L r) := by
  unfold nowE at hE
  by_cases hD : decE r.s = 0
  · rw [if_neg (by simpa using hD)] at hE
    rw [nowL, if_neg (by simpa using hD)] at h ⊢
    exact h.vs hE
  · rw [if_pos hD] at hE; exact absurd hE hD
theorem rows_raw (cs : List Cl) (ds : List Dl) (rows : List Vl) (next : Int) (ca da ra : Option Addr) (cn dn rn cc dc rc : Nat) (nm : List UInt8) (iu : Value) (w : World) (hdn : ds.length = dn) (hrn : rows.length = rn) (hr : VsAt w (.slice ra rn rc) rows)
    (h57 : ∀ (W : World) (r : Vl), Below w.heap.size w W → 0 ≤ r.n → r.n ≤ dn → Calls Tryz.prog 57 #[tbV nm (.slice ca cn cc) (.slice da dn dc) (.slice ra rn rc) next iu, .agg #[.int .i64 r.k, .int .i64 r.n, .string ⟨r.s.toArray⟩]] W fun e w' => ∃ z, e = .returned (.tuple #[z, .int .i64 (nowE ds r : Nat)]) ∧ Own w' W.heap.size z (nowL ds r) ∧ Below W.heap.size W w')
    (h89 : ∀ (W : World) (z : Value) (R : List Vl), Below w.heap.size w W → VsAt W z R → Calls Tryz.prog 89 #[.slice ca cn cc, z] W fun e w' => e = .returned (.bool (fitB cs R)) ∧ Below W.heap.size W w') :
    Calls Tryz.prog 46 #[tbV nm (.slice ca cn cc) (.slice da dn dc) (.slice ra rn rc) next iu] w fun e w' => e = .returned (.int .i64 (rowsF cs ds next 0 rows : Nat)) ∧ Below w.heap.size w w' := by
  have b0 := (Below.refl w.heap.size w).alloc (Nat.le_refl _) (.cells #[.string ⟨nm.toArray⟩, .slice ca cn cc, .slice da dn dc, .slice ra rn rc, .int .i64 next, iu] 27)
  have hz0 : (w.alloc (.cells #[.string ⟨nm.toArray⟩, .slice ca cn cc, .slice da dn dc, .slice ra rn rc, .int .i64 next, iu] 27)).heap.size = w.heap.size + 1 := by simp
  obtain ⟨ao', cap', he, hsz, hss, hcc⟩ := hr
  cases he
  obtain ⟨PP, hPP⟩ : ∃ PP : Ending → World → Prop, PP = fun e w' => e = .returned (.int .i64 (rowsF cs ds next 0 rows : Nat)) ∧ Below w.heap.size w w' := ⟨_, rfl⟩
  refine Calls.mono (R := PP) ?_ (by rw [hPP]; exact fun _ _ h => h)
  have HP : Hid (∀ (E : Nat) (w' : World), rowsF cs ds next 0 rows = E → Below w.heap.size w w' → PP (.returned (.int .i64 (E : Int))) w') := by
    intro E w' h1 h2
    rw [hPP]
    exact ⟨by rw [h1], h2⟩
  clear hPP hss
  obtain ⟨n, hn⟩ : ∃ n, rows.length = n := ⟨_, rfl⟩
  have hRN := hide hn
  have hC : Hid (rows ≠ [] → ∃ g o, ra = some ⟨g, o, none⟩ ∧ g < w.heap.size ∧ ∀ i x, rows[i]? = some x → w.cell? ⟨g, o + i * 3, none⟩ = some (.int .i64 x.k) ∧ w.cell? ⟨g, o + i * 3 + 1, none⟩ = some (.int .i64 x.n) ∧ w.cell? ⟨g, o + i * 3 + 2, none⟩ = some (.string ⟨x.s.toArray⟩)) := hcc
  have H0 : Hid (rowsF cs ds next 0 rows = rowsF cs ds next 0 (rows.drop 0)) := by rw [List.drop_zero]; exact rfl
  rw [hn] at hsz h57 hz0 b0 ⊢
  clear hcc hn
  unfold tbV at *
  go_enter Tryz.func46, Tryz.ntmps46
  go_wp2_with fail
  go_loopw [3, 11] (fun a i wl => ∃ (k : Nat) (A : Int), k ≤ n ∧ i = .int .i64 k ∧ a = .int .i64 A ∧ Below (w.heap.size + 1) (w.alloc (.cells #[.string ⟨nm.toArray⟩, .slice ca cn cc, .slice da dn dc, .slice ra n rc, .int .i64 next, iu] 27)) wl ∧ Hid (rowsF cs ds next 0 rows = rowsF cs ds next A (rows.drop k))) (fun _ i _ => n - (intOf i).toNat)
  case atStart => exact ⟨0, 0, Nat.zero_le _, rfl, rfl, Below.refl _ _, H0⟩
  case round =>
    obtain ⟨k, A, hk, rfl, rfl, hnx, HR⟩ := hrel
    have q0 : Below w.heap.size w wr := b0.trans (hnx.mono (by omega))
    by_cases hlt : k < n
    · obtain ⟨x, hx⟩ : ∃ x, rows[k]? = some x := ⟨rows[k]'(by rw [hRN.out]; exact hlt), List.getElem?_eq_getElem _⟩
      obtain ⟨g, o, rfl, hg, hc⟩ := hC.out (by intro e; rw [e] at hx; cases hx)
      obtain ⟨c0, c1, c2⟩ := hc k x hx
      replace c0 := (q0.cell (p := ⟨g, o + k * 3, none⟩) hg).trans c0
      replace c1 := (q0.cell (p := ⟨g, o + k * 3 + 1, none⟩) hg).trans c1
      replace c2 := (q0.cell (p := ⟨g, o + k * 3 + 2, none⟩) hg).trans c2
      have hlt' : (k : Int) < (n : Int) := by omega
      have hd : rows.drop k = x :: rows.drop (k + 1) := by
        obtain ⟨hh, e⟩ := List.getElem?_eq_some_iff.1 hx
        rw [List.drop_eq_getElem_cons hh, e]
      have HX : Hid (rowsF cs ds next 0 rows = if x.k ≤ A ∨ next ≤ x.k then 4 else if x.n < 0 ∨ (dn : Int) < x.n then 3 else if nowE ds x ≠ 0 then nowE ds x else if fitB cs (nowL ds x) = false then 4 else rowsF cs ds next x.k (rows.drop (k + 1))) := by
        rw [Hid, HR.out, hd, rowsF_cons, hdn]
      have q1 := q0.alloc q0.size (.cells #[.int .i64 x.k, .int .i64 x.n, .string ⟨x.s.toArray⟩] 39)
      have p1 : Below (w.heap.size + 1) (w.alloc (.cells #[.string ⟨nm.toArray⟩, .slice ca cn cc, .slice da dn dc, .slice (some ⟨g, o, none⟩) n rc, .int .i64 next, iu] 27)) (wr.alloc (.cells #[.int .i64 x.k, .int .i64 x.n, .string ⟨x.s.toArray⟩] 39)) := hnx.alloc (by have := hnx.size; omega) _
      have sl : w.heap.size < wr.heap.size := by have := hnx.size; omega
      obtain ⟨d0, d1, d2, d3, d4, d5⟩ := six_cells hnx
      clear hC hc hx hd HR H0
      by_cases h1 : x.k ≤ A
      · go_wp2
        exact HP.out 4 _ (by rw [HX.out, if_pos (Or.inl h1)]) q1
      by_cases h2 : next ≤ x.k
      · have h2' : x.k ≥ next := h2
        go_wp2
        exact HP.out 4 _ (by rw [HX.out, if_pos (Or.inr h2)]) q1
      have h2' : ¬ x.k ≥ next := h2
      by_cases h3 : x.n < 0
      · go_wp2
        exact HP.out 3 _ (by rw [HX.out, if_neg (by omega), if_pos (Or.inl h3)]) q1
      by_cases h4 : (dn : Int) < x.n
      · have h4' : x.n > (dn : Int) := h4
        go_wp2
        exact HP.out 3 _ (by rw [HX.out, if_neg (by omega), if_pos (Or.inr h4)]) q1
      have h4' : ¬ x.n > (dn : Int) := h4
      have hX2 : rowsF cs ds next 0 rows = if nowE ds x ≠ 0 then nowE ds x else if fitB cs (nowL ds x) = false then 4 else rowsF cs ds next x.k (rows.drop (k + 1)) := by
        rw [HX.out, if_neg (by omega), if_neg (by omega)]
      have HX2 := hide hX2
      have h57' := h57 _ x q1 (by omega) (by omega)
      have hvs := fun (W : World) (B : Nat) (z : Value) (h : Own W B z (nowL ds x)) (hE : nowE ds x = 0) => now_vs h hE
      have z1 : (wr.alloc (.cells #[.int .i64 x.k, .int .i64 x.n, .string ⟨x.s.toArray⟩] 39)).heap.size = wr.heap.size + 1 := by simp
      have HV := hide hvs
      clear hX2 HX h57 hvs
      go_wp2_with fail
      refine h57'.mono ?_
      rintro e w1 ⟨z, rfl, oz, b1⟩
      rw [z1] at b1
      have q2 : Below w.heap.size w w1 := q1.trans (b1.mono (by have := q1.size; omega))
      have p2 : Below (w.heap.size + 1) (w.alloc (.cells #[.string ⟨nm.toArray⟩, .slice ca cn cc, .slice da dn dc, .slice (some ⟨g, o, none⟩) n rc, .int .i64 next, iu] 27)) w1 := p1.trans (b1.mono (by omega))
      obtain ⟨e0, e1, e2, e3, e4, e5⟩ := six_cells p2
      have OZ := hide oz
      clear h57' b1 q1 p1 oz d0 d1 d2 d3 d4 d5 c0 c1 c2
      obtain ⟨E, hE⟩ : ∃ E, nowE ds x = E := ⟨_, rfl⟩
      rw [hE] at HX2 HV ⊢
      by_cases hE0 : E = 0
      · have hv := HV.out _ _ _ OZ.out hE0
        have h89' := h89 w1 z (nowL ds x) q2 hv
        obtain ⟨F, hF⟩ : ∃ F, fitB cs (nowL ds x) = F := ⟨_, rfl⟩
        rw [hF] at HX2 h89'
        subst hE0
        have HE := hide hE
        clear hE HV hv OZ hF h89
        go_wp2_with fail
        refine h89'.mono ?_
        rintro e w2 ⟨rfl, b2⟩
        have q3 : Below w.heap.size w w2 := q2.trans (b2.mono q2.size)
        have p3 := p2.trans (b2.mono (by have := p2.size; omega))
        clear h89' b2 e0 e1 e2 e3 e4 e5
        cases F with
        | false =>
          go_wp2
          exact HP.out 4 _ (by rw [HX2.out]; simp) q3
        | true =>
          have hk9 : k < 140737488355328 := by have := hsz; omega
          go_wp2
          go_roundw
          case rel => exact ⟨k + 1, x.k, by omega, by go_num, rfl, p3, by rw [Hid, HX2.out]; simp⟩
          case measure => simp [intOf]; omega
      · have hE1 : ¬ (E : Int) = 0 := by omega
        have HE := hide hE
        clear hE HV OZ h89
        go_wp2
        exact HP.out E _ (by rw [HX2.out, if_pos hE0]) q2
    · have hkn : k = n := by omega
      go_wp2
      exact HP.out 0 _ (by rw [HR.out, hkn, ← hRN.out, List.drop_length]; rfl) q0
theorem drop_end (s : ByteArray) (n : Nat) (h : s.size ≤ n) : s.data.toList.drop n = [] := by
  have : s.data.toList.length = s.size := Array.length_toList
  exact List.drop_eq_nil_of_le (by omega)
theorem itoa_len (N : Int) (h0 : -999999999999999999 ≤ N) (h1 : N ≤ 999999999999999999) : (Lib.itoa N).length ≤ 19 := by
  unfold Lib.itoa
  by_cases h : N < 0
  · rw [if_pos h]
    have := decDigits_len 17 N.natAbs (by omega)
    simp; omega
  · rw [if_neg h]
    have := decDigits_len 17 N.toNat (by omega)
    omega
theorem text_3 (N : Int) (s : ByteArray) (w : World) :
    Calls Tryz.prog 114 #[.agg #[.int .i64 3, .int .i64 N, .string s]] w fun e w' => e = .returned (.string ⟨(Lib.formatBool (N == 1)).toArray⟩) ∧ Below w.heap.size w w' := by
  cases h : (N == 1)
  · go_enter Tryz.func114, Tryz.ntmps114
    go_wp2
    go_ret
    exact ⟨rfl, (Below.refl _ _).alloc (Nat.le_refl _) _⟩
  · go_enter Tryz.func114, Tryz.ntmps114
    go_wp2
    go_ret
    exact ⟨rfl, (Below.refl _ _).alloc (Nat.le_refl _) _⟩
end Go.Proofs.YtcnnjladaoaeiaaGreatDoor
