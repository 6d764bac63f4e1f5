/-
  Disks: Write.
-/
import Derived.Test.YtppgkhcmdajolaaDsg
namespace Go.Proofs.Ytppgkhcmdajolaa
open Go.RowKit

def writeN (d : Dk) (x : Wr) : Nat := if checkD d = 0 then (if faultN d.ks.length x = 0 then (if d.ws.length = 400 then 2 else 0) else faultN d.ks.length x) else checkD d
def writeD (d : Dk) (x : Wr) : Dk := if writeN d x = 0 then ⟨d.ks, d.ws ++ [x]⟩ else ⟨[], []⟩

theorem new_cell (w : World) (cs : Array Value) (t : TypeId) (i : Nat) : (w.alloc (.cells cs t)).cell? ⟨w.heap.size, i, none⟩ = cs[i]? := Lib.cell_of_heap (heap_alloc_new w (.cells cs t)) i
theorem old_cell (w : World) (o : Obj) (p : Addr) (h : p.block < w.heap.size) : (w.alloc o).cell? p = w.cell? p := ((Below.refl w.heap.size w).alloc (Nat.le_refl _) o).cell (p := p) h
theorem same_cell (w : World) (p : Addr) : w.drew.cell? p = w.cell? p := rfl

def wrX (x : Wr) : Obj := .cells #[.int .i64 x.n, .string x.s] 56
def wrY (wa : Option Addr) (m wc t : Nat) : Obj := .cells #[.slice wa m wc, .slice (some ⟨t, 0, none⟩) 1 1] 23

theorem con2 (L : List Wr) (x : Wr) (wa : Option Addr) (m wc t : Nat) (W : World) (h : WrAt W (.slice wa m wc) L) (hm : m ≤ 400) (h0 : W.cell? ⟨t, 0, none⟩ = some (.int .i64 x.n)) (h1 : W.cell? ⟨t, 1, none⟩ = some (.string x.s)) (ht : t < W.heap.size) :
    Calls Try.prog 30 #[.slice (some ⟨W.heap.size, 0, none⟩) 2 2] (W.alloc (wrY wa m wc t)) fun e w' => ∃ v, e = .returned v ∧ w'.ownsRow W.heap.size 56 2 v (L.length + 1) ((L ++ [x]).flatMap wrC) ∧ Below W.heap.size W w' := by
  have b := (Below.refl W.heap.size W).alloc (Nat.le_refl _) (wrY wa m wc t)
  have hz : W.heap.size < (W.alloc (wrY wa m wc t)).heap.size := by simp
  refine (concat_any L x wa m wc W.heap.size t _ (h.below b) hm (new_cell W _ _ 0) (new_cell W _ _ 1) ((old_cell W _ _ ht).trans h0) ((old_cell W _ _ ht).trans h1) hz (by omega)).mono ?_
  rintro e w' ⟨v, rfl, o, b'⟩
  exact ⟨v, rfl, own_lower o (Nat.le_of_lt hz), b.trans (b'.mono (Nat.le_of_lt hz))⟩

theorem con1 (L : List Wr) (x : Wr) (wa : Option Addr) (m wc : Nat) (W : World) (h : WrAt W (.slice wa m wc) L) (hm : m ≤ 400) :
    Calls Try.prog 30 #[.slice (some ⟨W.heap.size + 1, 0, none⟩) 2 2] ((W.alloc (wrX x)).alloc (wrY wa m wc W.heap.size)) fun e w' => ∃ v, e = .returned v ∧ w'.ownsRow W.heap.size 56 2 v (L.length + 1) ((L ++ [x]).flatMap wrC) ∧ Below W.heap.size W w' := by
  have b := (Below.refl W.heap.size W).alloc (Nat.le_refl _) (wrX x)
  have hz : (W.alloc (wrX x)).heap.size = W.heap.size + 1 := by simp
  have := con2 L x wa m wc W.heap.size (W.alloc (wrX x)) (h.below b) hm (new_cell W _ _ 0) (new_cell W _ _ 1) (by omega)
  rw [hz] at this
  refine this.mono ?_
  rintro e w' ⟨v, rfl, o, b'⟩
  exact ⟨v, rfl, own_lower o (Nat.le_succ _), b.trans (b'.mono (Nat.le_succ _))⟩

def WF (w : World) (K : List ByteArray) (L : List Wr) (x : Wr) (n m : Nat) (u v : Value) (wL : World) : Prop :=
  Below w.heap.size w wL ∧ wL.heap[w.heap.size + 1]? = some (.cells #[.slice none 0 0, .slice none 0 0] 25) ∧ wL.ownsRow (w.heap.size + 2) 9 1 u n (K.map Value.string) ∧ wL.ownsRow (w.heap.size + 2) 56 2 v (m + 1) ((L ++ [x]).flatMap wrC)

theorem wf_end {w : World} {K : List ByteArray} {L : List Wr} {x : Wr} {n m : Nat} {u v : Value} {wL : World} (h : WF w K L x n m u v wL) (hn : K.length = n) (hm : L.length = m) :
    ((wL.setCell ⟨w.heap.size + 1, 0, none⟩ u).setCell ⟨w.heap.size + 1, 1, none⟩ v).cell? ⟨w.heap.size + 1, 0, none⟩ = some u ∧ ((wL.setCell ⟨w.heap.size + 1, 0, none⟩ u).setCell ⟨w.heap.size + 1, 1, none⟩ v).cell? ⟨w.heap.size + 1, 1, none⟩ = some v ∧
      DkOwn ((wL.setCell ⟨w.heap.size + 1, 0, none⟩ u).setCell ⟨w.heap.size + 1, 1, none⟩ v) w.heap.size u v ⟨K, L ++ [x]⟩ ∧ Below w.heap.size w ((wL.setCell ⟨w.heap.size + 1, 0, none⟩ u).setCell ⟨w.heap.size + 1, 1, none⟩ v) := by
  obtain ⟨h1, h2, h3, h4⟩ := h
  have e1 := heap_setCell_same wL (w.heap.size + 1) 0 _ 25 u h2
  have e2 := heap_setCell_same _ (w.heap.size + 1) 1 _ 25 v e1
  obtain ⟨s0, s1⟩ := two_in (a0 := u) (a1 := v) (t := 25) (by simpa using e2)
  subst hn hm
  refine ⟨s0, s1, ⟨?_, ?_⟩, (h1.setCell (p := ⟨w.heap.size + 1, 0, none⟩) (Nat.le_succ _) u).setCell (p := ⟨w.heap.size + 1, 1, none⟩) (Nat.le_succ _) v⟩
  · exact own_lower (owns_put0 (owns_put0 h3 (Nat.lt_succ_self _) 0 u) (Nat.lt_succ_self _) 1 v) (Nat.le_add_right _ _)
  · have hl : (L ++ [x]).length = L.length + 1 := by simp
    show World.ownsRow _ _ 56 2 v (L ++ [x]).length _
    rw [hl]
    exact own_lower (owns_put0 (owns_put0 h4 (Nat.lt_succ_self _) 0 u) (Nat.lt_succ_self _) 1 v) (Nat.le_add_right _ _)

set_option maxRecDepth 100000 in
set_option maxHeartbeats 6400000 in
theorem write_ok (d : Dk) (x : Wr) (ku wu : Value) (w : World) (h : DkAt w ku wu d) (hE : writeN d x = 0) :
    Calls Try.prog 8 #[.agg #[ku, wu], .int .i64 x.n, .string x.s] w fun e w' => ∃ kv wv, e = .returned (.tuple #[.agg #[kv, wv], .int .i64 0]) ∧ DkOwn w' w.heap.size kv wv ⟨d.ks, d.ws ++ [x]⟩ ∧ Below w.heap.size w w' := by
  have hc := fun W (hb : Below w.heap.size w W) => check_any d ku wu W (h.1.below hb) (h.2.below hb)
  have hkk := fun W (hb : Below w.heap.size w W) => clone_any d.ks ku W (h.1.below hb)
  have hWr := fun W (hb : Below w.heap.size w W) => h.2.below hb
  have hq : checkD d = 0 ∧ faultN d.ks.length x = 0 ∧ d.ws.length ≠ 400 := by
    unfold writeN at hE
    by_cases h1 : checkD d = 0
    · rw [if_pos h1] at hE
      by_cases h2 : faultN d.ks.length x = 0
      · rw [if_pos h2] at hE
        by_cases h3 : d.ws.length = 400
        · rw [if_pos h3] at hE; cases hE
        · exact ⟨h1, h2, h3⟩
      · rw [if_neg h2] at hE; exact absurd hE h2
    · rw [if_neg h1] at hE; exact absurd hE h1
  obtain ⟨e1, e2, e3⟩ := hq
  have hmx := (checkD_zero e1).2.2.2.1
  rw [e1] at hc
  obtain ⟨ka, kc, rfl⟩ := h.1.form
  obtain ⟨wa, wc, rfl⟩ := h.2.form
  have hft := fun W => fault_any x ka wa d.ks.length d.ws.length kc wc W
  rw [e2] at hft
  obtain ⟨K, L⟩ := d
  obtain ⟨xn, xs⟩ := x
  obtain ⟨n, hn⟩ : ∃ n, K.length = n := ⟨_, rfl⟩
  obtain ⟨m, hm⟩ : ∃ m, L.length = m := ⟨_, rfl⟩
  simp only [] at *
  have HN := hide hn
  have HM := hide hm
  rw [hn] at hc hkk hft
  rw [hm] at hc hWr hft hmx e3
  have hme : ((m : Int) == 400) = false := by simp; omega
  rw [hn, hm]
  clear hE e1 e2 hn hm h
  have b0 := ((Below.refl w.heap.size w).alloc (Nat.le_refl _) (.cells #[.slice ka n kc, .slice wa m wc] 25)).alloc (by simp) (.cells #[.slice none 0 0, .slice none 0 0] 25)
  have hz1 : (w.alloc (.cells #[.slice ka n kc, .slice wa m wc] 25)).heap.size = w.heap.size + 1 := by simp
  have k1 : ((w.alloc (.cells #[.slice ka n kc, .slice wa m wc] 25)).alloc (.cells #[.slice none 0 0, .slice none 0 0] 25)).heap[w.heap.size + 1]? = some (.cells #[.slice none 0 0, .slice none 0 0] 25) := by
    rw [← hz1]; exact heap_alloc_new _ _
  have k0 : ((w.alloc (.cells #[.slice ka n kc, .slice wa m wc] 25)).alloc (.cells #[.slice none 0 0, .slice none 0 0] 25)).heap[w.heap.size]? = some (.cells #[.slice ka n kc, .slice wa m wc] 25) := (Below.heap_alloc (w.alloc (.cells #[.slice ka n kc, .slice wa m wc] 25)) _ _ (by omega)).trans (heap_alloc_new w _)
  have hz0 : ((w.alloc (.cells #[.slice ka n kc, .slice wa m wc] 25)).alloc (.cells #[.slice none 0 0, .slice none 0 0] 25)).heap.size = w.heap.size + 2 := by simp
  clear hz1
  go_enter Try.func8, Try.ntmps8
  go_wp2_with fail
  generalize ((w.alloc (.cells #[.slice ka n kc, .slice wa m wc] 25)).alloc (.cells #[.slice none 0 0, .slice none 0 0] 25)) = w0 at *
  refine (hc _ b0).mono ?_
  rintro e w1 ⟨rfl, b1⟩
  have q1 : Below w.heap.size w w1 := b0.trans (b1.mono b0.size)
  have l1 := (b1.block (w.heap.size + 1) (by omega)).trans k1
  have l0 := (b1.block w.heap.size (by omega)).trans k0
  have z1 : w.heap.size + 2 ≤ w1.heap.size := by have := b1.size; omega
  clear hc b1 b0 k1 k0 hz0
  have q2 := q1.alloc q1.size (.cells #[.int .i64 xn, .string xs] 56)
  have n2 := heap_alloc_new w1 (.cells #[.int .i64 xn, .string xs] 56)
  have m1 := (Below.heap_alloc w1 (.cells #[.int .i64 xn, .string xs] 56) _ (show w.heap.size + 1 < w1.heap.size by omega)).trans l1
  have m0 := (Below.heap_alloc w1 (.cells #[.int .i64 xn, .string xs] 56) _ (show w.heap.size < w1.heap.size by omega)).trans l0
  have z2 : w.heap.size + 2 ≤ (w1.alloc (.cells #[.int .i64 xn, .string xs] 56)).heap.size := by simp; omega
  have z3 : w1.heap.size < (w1.alloc (.cells #[.int .i64 xn, .string xs] 56)).heap.size := by simp
  obtain ⟨x0, x1⟩ := two_in m0
  obtain ⟨y0, y1⟩ := two_in n2
  go_wp2_with fail
  generalize (w1.alloc (.cells #[.int .i64 xn, .string xs] 56)) = w2 at *
  refine (hft _).mono ?_
  rintro e w3 ⟨rfl, b3⟩
  have q3 : Below w.heap.size w w3 := q2.trans (b3.mono q2.size)
  have n3 := (b3.block w1.heap.size (by omega)).trans n2
  have r1 := (b3.block (w.heap.size + 1) (by omega)).trans m1
  have r0 := (b3.block w.heap.size (by omega)).trans m0
  have z4 : w1.heap.size < w3.heap.size := by have := b3.size; omega
  clear hft b3 n2 m1 m0 x0 x1 y0 y1 q2 q1 l1 l0 z2 z3
  obtain ⟨x0, x1⟩ := two_in r0
  obtain ⟨y0, y1⟩ := two_in n3
  go_wp2_with fail
  have GA : Below w3.heap.size w3 w3.drew := (Below.refl w3.heap.size w3).drew
  have GB : Below w3.heap.size w3 (w3.drew.alloc (wrX ⟨xn, xs⟩)) := GA.alloc (Nat.le_refl _) _
  have GC : Below w3.heap.size w3 ((w3.drew.alloc (wrX ⟨xn, xs⟩)).alloc (wrY wa m wc w3.heap.size)) := GB.alloc (by simp) _
  have sA : w3.drew.heap.size = w3.heap.size := rfl
  have sB : (w3.drew.alloc (wrX ⟨xn, xs⟩)).heap.size = w3.heap.size + 1 := by simp
  have sC : ((w3.drew.alloc (wrX ⟨xn, xs⟩)).alloc (wrY wa m wc w3.heap.size)).heap.size = w3.heap.size + 2 := by simp
  have clA := hkk _ (q3.trans (GA.mono q3.size))
  have clB := hkk _ (q3.trans (GB.mono q3.size))
  have clC := hkk _ (q3.trans (GC.mono q3.size))
  have conC := con1 L ⟨xn, xs⟩ wa m wc w3.drew (hWr _ (q3.trans (GA.mono q3.size))) hmx
  have tB0 : (w3.drew.alloc (wrX ⟨xn, xs⟩)).cell? ⟨w3.heap.size, 0, none⟩ = some (.int .i64 xn) := new_cell w3.drew _ _ 0
  have tB1 : (w3.drew.alloc (wrX ⟨xn, xs⟩)).cell? ⟨w3.heap.size, 1, none⟩ = some (.string xs) := new_cell w3.drew _ _ 1
  have tC0 := (old_cell (w3.drew.alloc (wrX ⟨xn, xs⟩)) (wrY wa m wc w3.heap.size) ⟨w3.heap.size, 0, none⟩ (by rw [sB]; exact Nat.lt_succ_self _)).trans tB0
  have tC1 := (old_cell (w3.drew.alloc (wrX ⟨xn, xs⟩)) (wrY wa m wc w3.heap.size) ⟨w3.heap.size, 1, none⟩ (by rw [sB]; exact Nat.lt_succ_self _)).trans tB1
  have sC0 : ((w3.drew.alloc (wrX ⟨xn, xs⟩)).alloc (wrY wa m wc w3.heap.size)).cell? ⟨w3.heap.size + 1, 0, none⟩ = some (.slice wa m wc) := by
    have := new_cell (w3.drew.alloc (wrX ⟨xn, xs⟩)) #[.slice wa m wc, .slice (some ⟨w3.heap.size, 0, none⟩) 1 1] 23 0
    rw [sB] at this; exact this
  have sC1 : ((w3.drew.alloc (wrX ⟨xn, xs⟩)).alloc (wrY wa m wc w3.heap.size)).cell? ⟨w3.heap.size + 1, 1, none⟩ = some (.slice (some ⟨w3.heap.size, 0, none⟩) 1 1) := by
    have := new_cell (w3.drew.alloc (wrX ⟨xn, xs⟩)) #[.slice wa m wc, .slice (some ⟨w3.heap.size, 0, none⟩) 1 1] 23 1
    rw [sB] at this; exact this
  have HF : Hid (∀ (w5 : World) (v5 : Value), Below w3.heap.size w3 w5 → w5.ownsRow w3.heap.size 9 1 v5 n (K.map Value.string) → ∀ (w7 : World) (v7 : Value), Below w5.heap.size w5 w7 → w7.ownsRow w5.heap.size 56 2 v7 (L.length + 1) ((L ++ [(⟨xn, xs⟩ : Wr)]).flatMap wrC) → Hid (WF w K L ⟨xn, xs⟩ n m v5 v7 w7)) := by
    intro w5 v5 b5 o5 w7 v7 b7 o7
    have s5 := b5.size
    have G7 := b5.trans (b7.mono s5)
    rw [HM.out] at o7
    exact ⟨q3.trans (G7.mono q3.size), (G7.block (w.heap.size + 1) (by omega)).trans r1, own_lower (owns_keep o5 b7) (by omega), own_lower o7 (by omega)⟩
  have HF2 : Hid (∀ (w5 : World) (v5 : Value), Below w3.heap.size w3 w5 → w5.ownsRow w3.heap.size 56 2 v5 (L.length + 1) ((L ++ [(⟨xn, xs⟩ : Wr)]).flatMap wrC) → ∀ (w7 : World) (v7 : Value), Below w5.heap.size w5 w7 → w7.ownsRow w5.heap.size 9 1 v7 n (K.map Value.string) → Hid (WF w K L ⟨xn, xs⟩ n m v7 v5 w7)) := by
    intro w5 v5 b5 o5 w7 v7 b7 o7
    have s5 := b5.size
    have G7 := b5.trans (b7.mono s5)
    rw [HM.out] at o5
    exact ⟨q3.trans (G7.mono q3.size), (G7.block (w.heap.size + 1) (by omega)).trans r1, own_lower o7 (by omega), own_lower (owns_keep o5 b7) (by omega)⟩
  have HKK : Hid (∀ W : World, Below w3.heap.size w3 W → Calls Try.prog 29 #[.slice ka n kc] W fun e w' => ∃ v, e = .returned v ∧ w'.ownsRow W.heap.size 9 1 v n (K.map Value.string) ∧ Below W.heap.size W w') := fun W hb => hkk W (q3.trans (hb.mono q3.size))
  have HWR : Hid (∀ W : World, Below w3.heap.size w3 W → WrAt W (.slice wa m wc) L) := fun W hb => hWr W (q3.trans (hb.mono q3.size))
  have HLL : Hid (∀ (v : Value) (w' : World), w'.ownsRow w3.heap.size 56 2 v (L.length + 1) ((L ++ [(⟨xn, xs⟩ : Wr)]).flatMap wrC) → ∃ a c, v = .slice a (m + 1) c) := fun v w' h => by obtain ⟨a, c, e⟩ := owns_slice h; exact ⟨a, c, by rw [e, HM.out]⟩
  have HX : Hid (∀ W : World, Below w3.heap.size w3 W → W.cell? ⟨w.heap.size, 0, none⟩ = some (.slice ka n kc) ∧ W.cell? ⟨w.heap.size, 1, none⟩ = some (.slice wa m wc) ∧ W.cell? ⟨w1.heap.size, 0, none⟩ = some (.int .i64 xn) ∧ W.cell? ⟨w1.heap.size, 1, none⟩ = some (.string xs)) := fun W hb =>
    ⟨(hb.cell (p := ⟨w.heap.size, 0, none⟩) (by show w.heap.size < _; omega)).trans x0, (hb.cell (p := ⟨w.heap.size, 1, none⟩) (by show w.heap.size < _; omega)).trans x1, (hb.cell (p := ⟨w1.heap.size, 0, none⟩) z4).trans y0, (hb.cell (p := ⟨w1.heap.size, 1, none⟩) z4).trans y1⟩
  unfold wrX wrY at *
  obtain ⟨AX0, AX1, AY0, AY1⟩ := HX.out _ GA
  obtain ⟨BX0, BX1, BY0, BY1⟩ := HX.out _ GB
  obtain ⟨CX0, CX1, CY0, CY1⟩ := HX.out _ GC
  obtain ⟨DX0, DX1, DY0, DY1⟩ := HX.out _ ((Below.refl w3.heap.size w3).alloc (Nat.le_refl _) (.cells #[.int .i64 xn, .string xs] 56))
  obtain ⟨EX0, EX1, EY0, EY1⟩ := HX.out _ (((Below.refl w3.heap.size w3).alloc (Nat.le_refl _) (.cells #[.int .i64 xn, .string xs] 56)).alloc (by simp) (.cells #[.slice wa m wc, .slice (some ⟨w3.heap.size, 0, none⟩) 1 1] 23))
  have HZ : Hid (∀ (W : World), W.heap[w.heap.size + 1]? = some (.cells #[.slice none 0 0, .slice none 0 0] 25) → (W.cell? ⟨w.heap.size + 1, 0, none⟩ = some (.slice none 0 0) ∧ W.cell? ⟨w.heap.size + 1, 1, none⟩ = some (.slice none 0 0)) ∧ W.frozen? ⟨w.heap.size + 1, 0, none⟩ = false ∧ W.frozen? ⟨w.heap.size + 1, 1, none⟩ = false) := fun W h => ⟨two_in h, Lib.frozen_of_heap h 0, Lib.frozen_of_heap h 1⟩
  go_region_law (first
    | (go_simp; refine clA.mono ?_; rintro e w5 ⟨v5, rfl, o5, b5⟩; obtain ⟨a5, c5, rfl⟩ := owns_slice o5; have G5 := GA.trans b5; have O5 := hide o5; have S5 := G5.size; obtain ⟨X0, X1, Y0, Y1⟩ := HX.out _ G5; have con := con1 L ⟨xn, xs⟩ wa m wc w5 (HWR.out _ G5) hmx; unfold wrX wrY at con; obtain ⟨XX0, XX1, XY0, XY1⟩ := HX.out _ (G5.alloc S5 (.cells #[.int .i64 xn, .string xs] 56)); obtain ⟨YX0, YX1, YY0, YY1⟩ := HX.out _ ((G5.alloc S5 (.cells #[.int .i64 xn, .string xs] 56)).alloc (by simp; omega) (.cells #[.slice wa m wc, .slice (some ⟨w5.heap.size, 0, none⟩) 1 1] 23)); clear o5 b5)
    | (go_simp; refine con.mono ?_; rintro e w7 ⟨v7, rfl, o7, b7⟩; have HFF := HF.out _ _ G5 O5.out _ _ b7 o7; obtain ⟨a7, c7, rfl⟩ := HLL.out _ _ (own_lower o7 S5); obtain ⟨⟨Z0, Z1⟩, FZ0, FZ1⟩ := HZ.out _ HFF.out.2.1; clear o7 b7)
    | (go_simp; refine clB.mono ?_; rintro e w5 ⟨v5, rfl, o5, b5⟩; obtain ⟨a5, c5, rfl⟩ := owns_slice o5; have G5 := GB.trans (b5.mono GB.size); have O5 := hide (own_lower o5 GB.size); have S5 := G5.size; obtain ⟨X0, X1, Y0, Y1⟩ := HX.out _ G5; have con := con2 L ⟨xn, xs⟩ wa m wc w3.heap.size w5 (HWR.out _ G5) hmx ((b5.cell (p := ⟨w3.heap.size, 0, none⟩) (by rw [sB]; exact Nat.lt_succ_self _)).trans tB0) ((b5.cell (p := ⟨w3.heap.size, 1, none⟩) (by rw [sB]; exact Nat.lt_succ_self _)).trans tB1) (by have := b5.size; rw [sB] at this; omega); unfold wrY at con; obtain ⟨YX0, YX1, YY0, YY1⟩ := HX.out _ (G5.alloc S5 (.cells #[.slice wa m wc, .slice (some ⟨w3.heap.size, 0, none⟩) 1 1] 23)); clear o5 b5)
    | (go_simp; refine clC.mono ?_; rintro e w5 ⟨v5, rfl, o5, b5⟩; obtain ⟨a5, c5, rfl⟩ := owns_slice o5; have G5 := GC.trans (b5.mono GC.size); have O5 := hide (own_lower o5 GC.size); have S5 := G5.size; obtain ⟨X0, X1, Y0, Y1⟩ := HX.out _ G5; have con := concat_any L ⟨xn, xs⟩ wa m wc (w3.heap.size + 1) w3.heap.size w5 (HWR.out _ G5) hmx ((b5.cell (p := ⟨w3.heap.size + 1, 0, none⟩) (by rw [sC]; exact Nat.lt_succ_self _)).trans sC0) ((b5.cell (p := ⟨w3.heap.size + 1, 1, none⟩) (by rw [sC]; exact Nat.lt_succ_self _)).trans sC1) ((b5.cell (p := ⟨w3.heap.size, 0, none⟩) (by rw [sC]; exact Nat.lt_add_of_pos_right (by decide))).trans tC0) ((b5.cell (p := ⟨w3.heap.size, 1, none⟩) (by rw [sC]; exact Nat.lt_add_of_pos_right (by decide))).trans tC1) (by have := b5.size; rw [sC] at this; omega) (by have := b5.size; rw [sC] at this; omega); clear o5 b5)
    | (go_simp; refine conC.mono ?_; rintro e w5 ⟨v5, rfl, o5, b5⟩; have G5 := GA.trans b5; have O5 := hide (own_lower o5 GA.size); have S5 := G5.size; obtain ⟨a5, c5, rfl⟩ := HLL.out _ _ O5.out; obtain ⟨X0, X1, Y0, Y1⟩ := HX.out _ G5; have cld := HKK.out _ G5; clear o5 b5)
    | (go_simp; refine cld.mono ?_; rintro e w7 ⟨v7, rfl, o7, b7⟩; have HFF := HF2.out _ _ G5 O5.out _ _ b7 o7; obtain ⟨a7, c7, rfl⟩ := owns_slice o7; obtain ⟨⟨Z0, Z1⟩, FZ0, FZ1⟩ := HZ.out _ HFF.out.2.1; clear o7 b7))
  all_goals
    obtain ⟨t0, t1, t2, t3⟩ := wf_end HFF.out HN.out HM.out
    go_wp2
    refine bodyPost_ret (v := .tuple #[.agg #[_, _], .int .i64 0]) ?_ rfl ⟨_, _, rfl, t2, t3⟩
    simp [results, Try.results8, go_sem, t0, t1]

end Go.Proofs.Ytppgkhcmdajolaa
