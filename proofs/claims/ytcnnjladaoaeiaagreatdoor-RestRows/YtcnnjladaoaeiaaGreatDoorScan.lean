/-
  'Scan' of package token.
-/
import Derived.Test.YtcnnjladaoaeiaaGreatDoorPure
namespace Go.Proofs.YtcnnjladaoaeiaaGreatDoor
open Go.RowKit

theorem Tryz.info34 : (Tryz.prog.info? 160).map (fun i => (i.zero, i.size, i.bytes)) = some (some (.agg #[.int .i64 0, .int .i64 0, .string ⟨#[]⟩]), 3, 32) := by kernel_rfl

theorem bcell {B : Nat} {W w1 : World} (hb : Below B W w1) : (∀ b o, b < B → w1.cell? ⟨b, o, none⟩ = W.cell? ⟨b, o, none⟩) ∧ (∀ b o, b < B → w1.frozen? ⟨b, o, none⟩ = W.frozen? ⟨b, o, none⟩) :=
  ⟨fun b o h => hb.cell (p := ⟨b, o, none⟩) h, fun b o h => hb.frozen (p := ⟨b, o, none⟩) h⟩

set_option maxRecDepth 100000 in
set_option maxHeartbeats 400000 in
theorem scan_long (s : ByteArray) (w : World) (hs : 2000 < s.size) (hm : s.size ≤ 9223372036854775000) :
    Calls Tryz.prog 175 #[.string s] w fun e w' => e = .returned (.tuple #[.slice none 0 0, .int .i64 0, .int .i64 2]) ∧ w' = w := by
  go_enter Tryz.func175, Tryz.ntmps175
  go_wp2
  go_ret3
  exact ⟨rfl, rfl⟩

theorem scan_here (s : ByteArray) (k : Nat) (acc : List Tk) (K N : Nat) (h : k < s.size) (hp : tokL (s.data.toList.drop k) = (K, N)) (hB : isB s[k] = false) :
    (wrongL K ((s.data.toList.drop k).take N) = 0 → scanL k (s.data.toList.drop k) acc = scanL (k + N) (s.data.toList.drop (k + N)) (acc ++ [⟨(K : Nat), (k : Nat), (s.data.toList.drop k).take N⟩])) ∧
    (wrongL K ((s.data.toList.drop k).take N) ≠ 0 → scanL k (s.data.toList.drop k) acc = ([], k, wrongL K ((s.data.toList.drop k).take N))) := by
  have hd := drop_at s k h
  rw [hd] at hp ⊢
  constructor
  · intro hw
    have := scanL_tok k s[k] (s.data.toList.drop (k + 1)) acc hB (by rw [hp]; exact hw)
    rw [this, hp, ← hd, List.drop_drop]
  · intro hw
    have := scanL_bad k s[k] (s.data.toList.drop (k + 1)) acc hB (by rw [hp]; exact hw)
    rw [this, hp]

theorem scan_skip (s : ByteArray) (k : Nat) (acc : List Tk) : scanL k (s.data.toList.drop k) acc = scanL (spanE isB s k) (s.data.toList.drop (spanE isB s k)) acc := by
  rw [scanL_blanks, List.drop_drop]; rfl

theorem span_stops (p : UInt8 → Bool) (s : ByteArray) (k : Nat) (h : spanE p s k < s.size) : p s[spanE p s k] = false := by
  have hh : ∀ (l : List UInt8) (x : UInt8), l[runL p l]? = some x → p x = false := by
    intro l
    induction l with
    | nil => intro x h; simp at h
    | cons c r ih =>
      intro x h
      rw [runL_cons] at h
      by_cases hc : p c = true
      · rw [if_pos hc] at h; exact ih x (by simpa using h)
      · rw [if_neg hc] at h; simp at h; subst h; simpa using hc
  apply hh (s.data.toList.drop k)
  rw [List.getElem?_drop, List.getElem?_eq_getElem (by simpa [spanE] using h)]; rfl

theorem owns_below {w w' : World} {base : Nat} {e : TypeId} {size : Nat} {v : Value} {n : Nat} {xs : List Value} (h : w.ownsRow base e size v n xs) (hb : Below w.heap.size w w') : w'.ownsRow base e size v n xs :=
  h.kept (row := none) ⟨hb.os, hb.tape, hb.output, hb.size, fun k hk _ => hb.block k hk⟩ (by cases hv : v.ownBlock <;> simp)

theorem span_parts_at (s : ByteArray) (a : Nat) (i : Int) (w : World) (hi : i = (a : Int)) (hs : s.size ≤ 9223372036854775000) (ha : a ≤ s.size) :
    Calls Tryz.prog 192 #[.string s, .int .i64 i, .func (.func 193) #[] #[]] w fun e w' => e = .returned (.int .i64 (spanE isB s a : Nat)) ∧ w' = w := by
  subst hi; exact span_parts s a w hs ha

/-- what is there behind an append to a row of one's own: a block that is not that row -/
theorem cell_grown {w w' : World} {row : Option Nat} (hg : w.grownBy w' row) {b o : Nat} (hb : b < w.heap.size) (hr : some b ≠ row) : w'.cell? ⟨b, o, none⟩ = w.cell? ⟨b, o, none⟩ :=
  World.cell?_of_block (w := w) (hg.block b hb hr)

theorem cell_old {w : World} (o : Obj) {b i : Nat} (h : b < w.heap.size) : (w.alloc o).cell? ⟨b, i, none⟩ = w.cell? ⟨b, i, none⟩ :=
  ((Below.refl w.heap.size w).alloc (Nat.le_refl _) o).cell (p := ⟨b, i, none⟩) h

set_option maxRecDepth 100000 in
set_option maxHeartbeats 800000 in
theorem scan_short (s : ByteArray) (w : World) (hs : s.size ≤ 2000) :
    Calls Tryz.prog 175 #[.string s] w fun e w' => ∃ v, e = .returned (.tuple #[v, .int .i64 ((scanL 0 s.data.toList []).2.1 : Nat), .int .i64 ((scanL 0 s.data.toList []).2.2 : Nat)]) ∧
      w'.ownsRow w.heap.size 160 3 v (scanL 0 s.data.toList []).1.length (cellsT (scanL 0 s.data.toList []).1) ∧ Below w.heap.size w w' := by
  obtain ⟨i0, hi, hz0, hz1, hz2⟩ := info_parts Tryz.info34
  have hbs : decide ((2000 : Int) < (s.size : Int)) = false := by simp; omega
  have hb0 := spanE_le isB s 0 (by omega)
  have hst := scan_skip s 0 []
  simp only [List.drop_zero] at hst
  have HS : Hid (scanL 0 s.data.toList [] = scanL (spanE isB s 0) (List.drop (spanE isB s 0) s.data.toList) []) := hst
  clear hst
  have HT : Hid (∀ h : spanE isB s 0 < s.size, isB s[spanE isB s 0] = false) := span_stops isB s 0
  go_enter Tryz.func175, Tryz.ntmps175
  go_wp2_with (go_at_call 192; refine (span_parts s 0 _ (by omega) (by omega)).mono ?_; rintro e w' ⟨rfl, hw'⟩; obtain rfl := hw'.symm; clear hw')
  go_loopw [5, 6] (fun v i wr => ∃ (k : Nat) (acc : List Tk), k ≤ s.size ∧ i = .int .i64 k ∧ wr.ownsRow w.heap.size 160 3 v acc.length (cellsT acc) ∧ Below w.heap.size w wr ∧ acc.length ≤ k ∧
      Hid (scanL k (s.data.toList.drop k) acc = scanL 0 s.data.toList []) ∧ Hid ((h : k < s.size) → isB s[k] = false)) (fun _ i _ => s.size - (intOf i).toNat)
  case atStart =>
    exact ⟨_, [], hb0, rfl, World.ownsRow_nil _ _ _ _, Below.refl _ _, Nat.zero_le _, HS.out.symm, HT⟩
  case round =>
    obtain ⟨k, acc, hk, rfl, hown, hnx, hacc, HE, HB⟩ := hrel
    clear HS HT hb0
    by_cases hlt : k < s.size
    · have hsz := hnx.size
      obtain ⟨K, N, hp⟩ : ∃ K N, tokL (s.data.toList.drop k) = (K, N) := ⟨_, _, rfl⟩
      have hk4 := (tokL_kind (s.data.toList.drop k)).1
      have hk5 := (tokL_kind (s.data.toList.drop k)).2
      have hnl := tokL_le (s.data.toList.drop k)
      have hn := next_any s k wr hs hlt
      obtain ⟨g0, g1⟩ := scan_here s k acc K N hlt hp (HB.out hlt)
      rw [HE.out] at g0 g1
      have hpos : K ≠ 0 → 1 ≤ N := by
        have := tokL_pos s[k] (s.data.toList.drop (k + 1))
        rw [← drop_at s k hlt, hp] at this; exact this
      rw [nextV, hp] at hn
      rw [hp] at hk4 hk5 hnl
      simp only [List.length_drop] at hnl hk4 hk5
      have hnl' : N ≤ s.size - k := by simpa using hnl
      clear hnl hp HB HE
      by_cases hK : K = 0
      · subst hK
        simp only [if_true] at hn
        have G := g1 (by simp [wrongL])
        have HG : Hid (scanL 0 s.data.toList [] = ([], k, 1)) := G.trans (by simp [wrongL])
        clear G g0 g1 hk5 hpos hk4 hnl'
        go_wp2_with (first | (go_at_call 194; refine hn.mono ?_; rintro e w1 ⟨rfl, hb1⟩) | (go_at_call 195; refine (fault_0 _ _ _).mono ?_; rintro e w2 ⟨rfl, hb2⟩))
        go_ret3
        refine ⟨.slice none 0 0, by rw [HG.out]; rfl, by rw [HG.out]; exact World.ownsRow_nil _ _ _ _, ?_⟩
        exact hnx.trans ((((hb1.mono hsz).alloc (by have := hb1.size; omega) _).trans (hb2.mono (by have := hb1.size; simp; omega))))
      · simp only [hK, if_false] at hn
        obtain ⟨T, hT⟩ : ∃ T, T = s.extract k (k + N) := ⟨_, rfl⟩
        have hTs : T.size = N := by rw [hT]; simp; omega
        have hTl : T.data.toList = (s.data.toList.drop k).take N := by rw [hT, Lib.extract_data]; congr 1; omega
        rw [← hT] at hn
        rw [← hTl] at g0 g1
        have hf := fun (A : Int) (W : World) => fault_any K A T W (by omega) hk4 (by omega)
        obtain ⟨E, hE⟩ : ∃ E, wrongL K T.data.toList = E := ⟨_, rfl⟩
        rw [hE] at g0 g1 hf
        have hN1 := hpos hK
        clear hE hT hTl hpos hk5 hK
        have HT : Hid (T.size = N) := hTs
        have hTs2 : T.size ≤ s.size - k := by omega
        have hTs1 : 1 ≤ T.size := by omega
        clear hTs
        by_cases hE0 : E = 0
        · subst hE0
          have g0' : Hid (scanL 0 s.data.toList [] = scanL (k + N) (s.data.toList.drop (k + N)) (acc ++ [⟨(K : Nat), (k : Nat), T.data.toList⟩])) := g0 rfl
          clear g0 g1
          go_wp2_with (first | (go_at_call 194; refine hn.mono ?_; rintro e w1 ⟨rfl, hb1⟩) | (go_at_call 195; refine (hf _ _).mono ?_; rintro e w2 ⟨rfl, hb2⟩; have c0 : w2.cell? ⟨w1.heap.size, 0, none⟩ = some (.int .i64 (K : Nat)) := (hb2.cell (by simp)).trans (by simp); have c1 : w2.cell? ⟨w1.heap.size, 1, none⟩ = some (.int .i64 (k : Nat)) := (hb2.cell (by simp)).trans (by simp); have c2 : w2.cell? ⟨w1.heap.size, 2, none⟩ = some (.string T) := (hb2.cell (by simp)).trans (by simp)) | (at_builtin; refine wpList_append_own _ rfl _ _ 161 rfl w.heap.size 160 i0 (.agg #[.int .i64 0, .int .i64 0, .string ⟨#[]⟩]) 3 32 Tryz.underlying161 hi hz0 hz1 hz2 rfl (by decide) _ _ _ rfl ((owns_below ((owns_below hown hb1).alloc _) hb2).alloc _) ⟨w2.heap.size, 0, none⟩ 1 1 [.int .i64 (K : Nat), .int .i64 (k : Nat), .string T] rfl rfl ?c1 ?c2 ?c3 ?c4 ?c5 ?_))
          case c1 =>
            intro j u hj
            match j, hj with
            | 0, hj => simp at hj; subst hj; simp [Addr.add]
            | 1, hj => simp at hj; subst hj; simp [Addr.add]
            | 2, hj => simp at hj; subst hj; simp [Addr.add]
          case c2 => intro u hu; simp at hu; rcases hu with rfl | rfl | rfl <;> rfl
          case c3 => unfold maxLen; omega
          case c4 => omega
          case c5 => have := hb1.size; have := hb2.size; simp at this ⊢; omega
          intro v' w3 hown' hgrow _
          have s1 := hb1.size
          have s2 : w1.heap.size + 1 ≤ w2.heap.size := by have := hb2.size; simpa using this
          have hlt5 := hown.lt
          have hc3 : w3.cell? ⟨w1.heap.size, 2, none⟩ = some (.string T) := (cell_grown hgrow (by simp; omega) (by intro e; have := (hlt5 _ e.symm).2; omega)).trans ((cell_old _ (by omega)).trans c2)
          have hB3 : Below w.heap.size w w3 := (((hnx.trans (((hb1.mono hsz).alloc (by omega) _).trans (hb2.mono (by simp; omega)))).alloc (by omega) _).grown hgrow (by simp; omega) (fun j hj => (hlt5 j hj).1))
          have hle := spanE_le isB s (k + N) (by omega)
          have hge := spanE_ge isB s (k + N)
          have R1 : Hid (scanL (spanE isB s (k + N)) (s.data.toList.drop (spanE isB s (k + N))) (acc ++ [⟨(K : Nat), (k : Nat), T.data.toList⟩]) = scanL 0 s.data.toList []) := ((g0'.out).trans (scan_skip s (k + N) _)).symm
          have R2 : Hid (∀ h : spanE isB s (k + N) < s.size, isB s[spanE isB s (k + N)] = false) := span_stops isB s (k + N)
          have R3 : w3.ownsRow w.heap.size 160 3 v' (acc ++ [(⟨(K : Nat), (k : Nat), T.data.toList⟩ : Tk)]).length (cellsT (acc ++ [⟨(K : Nat), (k : Nat), T.data.toList⟩])) := by
            rw [cellsT_snoc, List.length_append]; exact hown'
          clear hown' hgrow hown g0' c0 c1 c2 hb1 hb2 hn hf hlt5
          go_wp2_with (go_at_call 192; refine (span_parts_at s (k + N) _ _ (by have := HT.out; omega) (by omega) (by omega)).mono ?_; rintro e w' ⟨rfl, hw'⟩; obtain rfl := hw'.symm; clear hw')
          go_roundw
          case rel => exact ⟨spanE isB s (k + N), _, hle, rfl, R3, hB3, by simp; omega, R1, R2⟩
          case measure => simp [intOf]; omega
        · have hEb : ((E : Int) != 0) = true := by simp; omega
          have HG : Hid (scanL 0 s.data.toList [] = ([], k, E)) := g1 hE0
          clear g0 g1 hE0
          go_wp2_with (first | (go_at_call 194; refine hn.mono ?_; rintro e w1 ⟨rfl, hb1⟩) | (go_at_call 195; refine (hf _ _).mono ?_; rintro e w2 ⟨rfl, hb2⟩))
          go_ret3
          refine ⟨.slice none 0 0, by rw [HG.out]; rfl, by rw [HG.out]; exact World.ownsRow_nil _ _ _ _, ?_⟩
          exact hnx.trans ((((hb1.mono hsz).alloc (by have := hb1.size; omega) _).trans (hb2.mono (by have := hb1.size; simp; omega))))
    · have hks : k = s.size := by omega
      have hd : s.data.toList.drop k = [] := List.drop_eq_nil_of_le (by simp; omega)
      have HG : Hid (scanL 0 s.data.toList [] = (acc, 0, 0)) := by rw [← HE.out, hd]; rfl
      clear hd hks HE HB
      go_wp2
      go_ret3
      exact ⟨_, by rw [HG.out]; rfl, by rw [HG.out]; exact hown, hnx⟩

end Go.Proofs.YtcnnjladaoaeiaaGreatDoor
