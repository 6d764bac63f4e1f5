/-
  Are two disks the same? As the document asks it.
-/
import Derived.Test.YtppgkhcmdajolaaDsf
namespace Go.Proofs.Ytppgkhcmdajolaa
open Go.RowKit

theorem Try.fields56 : (Try.prog.fieldsOf 56).toList.map (fun f => (f.name, f.type, f.offset)) = [("Sector", 3, 0), ("Bytes", 9, 1)] := by kernel_rfl
theorem Try.under56 : Try.prog.underlying 56 = some (.struct (Try.prog.fieldsOf 56)) := by kernel_rfl
theorem Try.stood56 : Try.prog.stoodInHeld 56 = false := by kernel_rfl

theorem fields_two {l : List Field} {a b : String} {i j k m : Nat} (h : l.map (fun f => (f.name, f.type, f.offset)) = [(a, i, j), (b, k, m)]) :
    ∃ f0 f1 : Field, l = [f0, f1] ∧ f0.name = a ∧ f0.type = i ∧ f0.offset = j ∧ f1.name = b ∧ f1.type = k ∧ f1.offset = m := by
  obtain ⟨f0, l1, rfl, h0, h1⟩ := List.map_eq_cons_iff.1 h
  obtain ⟨f1, l2, rfl, h2, h3⟩ := List.map_eq_cons_iff.1 h1
  have h6 := List.map_eq_nil_iff.1 h3
  subst h6
  simp only [Prod.mk.injEq] at h0 h2
  exact ⟨f0, f1, rfl, h0.1, h0.2.1, h0.2.2, h2.1, h2.2.1, h2.2.2⟩

def sameWr (x y : Wr) : Bool := (x.n == y.n) && (x.s.toList == y.s.toList)

theorem bytes_iff (a b : ByteArray) : a.toList = b.toList ↔ a = b := by
  rw [ByteArray.toList_eq, ByteArray.toList_eq]
  obtain ⟨⟨x⟩⟩ := a
  obtain ⟨⟨y⟩⟩ := b
  simp

theorem sameWr_iff (x y : Wr) : sameWr x y = true ↔ x = y := by
  unfold sameWr
  obtain ⟨a, b⟩ := x
  obtain ⟨c, d⟩ := y
  simp only [Bool.and_eq_true, beq_iff_eq, bytes_iff, Wr.mk.injEq]

theorem neq56 (x y : Wr) (w : World) :
    (binOp .neq 56 (.agg #[.int .i64 x.n, .string x.s]) (.agg #[.int .i64 y.n, .string y.s])).run Try.prog w = .ok (.bool (!sameWr x y)) w := by
  rw [run_neq_struct, run_equalIn_struct w 9999 56 _ _ Try.under56 Try.stood56]
  obtain ⟨f0, f1, hf, n0, t0, o0, n1, t1, o1⟩ := fields_two Try.fields56
  rw [hf]
  simp [Op.eqFields, n0, t0, o0, n1, t1, o1, go_sem]
  unfold sameWr
  by_cases h1 : x.n = y.n <;> by_cases h2 : x.s.toList = y.s.toList <;> simp [h1, h2]

theorem ks_ne {K M : List ByteArray} {L N : List Wr} (h : K ≠ M) : (⟨K, L⟩ : Dk) ≠ ⟨M, N⟩ := fun e => h (by cases e; rfl)
theorem ws_ne {K M : List ByteArray} {L N : List Wr} (h : L ≠ N) : (⟨K, L⟩ : Dk) ≠ ⟨M, N⟩ := fun e => h (by cases e; rfl)

set_option maxRecDepth 100000 in
set_option maxHeartbeats 6400000 in
theorem sameDisk_same (K M : List ByteArray) (L N : List Wr) (ka kb wa wb : Option Addr) (n m kc kd wc wd : Nat) (w : World) (hK : K.length = n) (hM : M.length = n) (hL : L.length = m) (hN : N.length = m)
    (h1 : StAt w (.slice ka n kc) K) (h2 : StAt w (.slice kb n kd) M) (h3 : WrAt w (.slice wa m wc) L) (h4 : WrAt w (.slice wb m wd) N) :
    Calls Try.prog 18 #[.agg #[.slice ka n kc, .slice wa m wc], .agg #[.slice kb n kd, .slice wb m wd]] w fun e w' => ∃ b : Bool, e = .returned (.bool b) ∧ (b = true ↔ (⟨K, L⟩ : Dk) = ⟨M, N⟩) ∧ Below w.heap.size w w' := by
  obtain ⟨PP, hPP⟩ : ∃ PP : Ending → World → Prop, PP = fun e w' => ∃ b : Bool, e = .returned (.bool b) ∧ (b = true ↔ (⟨K, L⟩ : Dk) = ⟨M, N⟩) ∧ Below w.heap.size w w' := ⟨_, rfl⟩
  refine Calls.mono (R := PP) ?_ (by rw [hPP]; exact fun _ _ h => h)
  have HPt : Hid (∀ (w' : World), (⟨K, L⟩ : Dk) = ⟨M, N⟩ → Below w.heap.size w w' → PP (.returned (.bool true)) w') := by
    intro w' h1 h2
    rw [hPP]
    exact ⟨true, rfl, ⟨fun _ => h1, fun _ => rfl⟩, h2⟩
  have HPf : Hid (∀ (w' : World), (⟨K, L⟩ : Dk) ≠ ⟨M, N⟩ → Below w.heap.size w w' → PP (.returned (.bool false)) w') := by
    intro w' h1 h2
    rw [hPP]
    exact ⟨false, rfl, ⟨(fun e => by cases e), fun e => absurd e h1⟩, h2⟩
  clear hPP
  obtain ⟨_, _, e1, s1, -, c1⟩ := h1
  rw [hK] at e1
  cases e1
  obtain ⟨_, _, e2, -, -, c2⟩ := h2
  rw [hM] at e2
  cases e2
  obtain ⟨_, _, e3, s3, -, c3⟩ := h3
  rw [hL] at e3
  cases e3
  obtain ⟨_, _, e4, -, -, c4⟩ := h4
  rw [hN] at e4
  cases e4
  rw [hK] at s1
  rw [hL] at s3
  have HK := hide hK
  have HM := hide hM
  have HL := hide hL
  have HN := hide hN
  have C1 := hide c1
  have C2 := hide c2
  have C3 := hide c3
  have C4 := hide c4
  clear hK hM hL hN c1 c2 c3 c4
  have b0 := ((Below.refl w.heap.size w).alloc (Nat.le_refl _) (.cells #[.slice ka n kc, .slice wa m wc] 25)).alloc (by simp) (.cells #[.slice kb n kd, .slice wb m wd] 25)
  have hz1 : (w.alloc (.cells #[.slice ka n kc, .slice wa m wc] 25)).heap.size = w.heap.size + 1 := by simp
  have k1 : ((w.alloc (.cells #[.slice ka n kc, .slice wa m wc] 25)).alloc (.cells #[.slice kb n kd, .slice wb m wd] 25)).heap[w.heap.size + 1]? = some (.cells #[.slice kb n kd, .slice wb m wd] 25) := by
    rw [← hz1]; exact heap_alloc_new _ _
  have k0 : ((w.alloc (.cells #[.slice ka n kc, .slice wa m wc] 25)).alloc (.cells #[.slice kb n kd, .slice wb m wd] 25)).heap[w.heap.size]? = some (.cells #[.slice ka n kc, .slice wa m wc] 25) := (Below.heap_alloc (w.alloc (.cells #[.slice ka n kc, .slice wa m wc] 25)) _ _ (by omega)).trans (heap_alloc_new w _)
  have hz0 : ((w.alloc (.cells #[.slice ka n kc, .slice wa m wc] 25)).alloc (.cells #[.slice kb n kd, .slice wb m wd] 25)).heap.size = w.heap.size + 2 := by simp
  clear hz1
  go_enter Try.func18, Try.ntmps18
  go_wp2
  generalize ((w.alloc (.cells #[.slice ka n kc, .slice wa m wc] 25)).alloc (.cells #[.slice kb n kd, .slice wb m wd] 25)) = w0 at *
  go_loopw [5] (fun i wl => ∃ k : Nat, k ≤ n ∧ i = .int .i64 k ∧ Below w0.heap.size w0 wl ∧ Hid (∀ j, j < k → K[j]? = M[j]?)) (fun i _ => n - (intOf i).toNat)
  case atStart => exact ⟨0, Nat.zero_le _, rfl, Below.refl _ _, fun j hj => absurd hj (Nat.not_lt_zero _)⟩
  case round =>
    obtain ⟨k, hk, rfl, hnx, HA⟩ := hrel
    have kr := (hnx.block w.heap.size (by omega)).trans k0
    have lr := (hnx.block (w.heap.size + 1) (by omega)).trans k1
    obtain ⟨x0, x1⟩ := two_in kr
    obtain ⟨y0, y1⟩ := two_in lr
    by_cases hlt : k < n
    · obtain ⟨x, hx⟩ : ∃ x, K[k]? = some x := ⟨K[k]'(by rw [HK.out]; exact hlt), List.getElem?_eq_getElem _⟩
      obtain ⟨y, hy⟩ : ∃ y, M[k]? = some y := ⟨M[k]'(by rw [HM.out]; exact hlt), List.getElem?_eq_getElem _⟩
      obtain ⟨g, o, rfl, hg, hc⟩ := C1.out (by intro e; rw [e] at hx; cases hx)
      obtain ⟨g', o', rfl, hg', hc'⟩ := C2.out (by intro e; rw [e] at hy; cases hy)
      have c0 := ((hnx.cell (p := ⟨g, o + k, none⟩) (by show g < w0.heap.size; omega)).trans (b0.cell (p := ⟨g, o + k, none⟩) hg)).trans (hc k x hx)
      have d0 := ((hnx.cell (p := ⟨g', o' + k, none⟩) (by show g' < w0.heap.size; omega)).trans (b0.cell (p := ⟨g', o' + k, none⟩) hg')).trans (hc' k y hy)
      have hlt' : (k : Int) < (n : Int) := by omega
      have HX := hide hx
      have HY := hide hy
      clear hc hc' hx hy
      by_cases hxy : x = y
      · have HXY := hide hxy
        subst hxy
        go_wp2_with fail
        go_quiet (fail)
        go_wp2
        go_roundw
        case rel =>
          refine ⟨k + 1, by omega, by go_num, below_drewN hnx _, fun j hj => ?_⟩
          rcases Nat.lt_or_ge j k with h | h
          · exact HA.out j h
          · rw [show j = k by omega, HX.out, HY.out]
        case measure => simp [intOf]; omega
      · have h6 : (x.toList == y.toList) = false := by rw [Bool.eq_false_iff]; intro e; exact hxy ((bytes_iff x y).1 (eq_of_beq e))
        have h5 : (x == y) = false := by rw [beq_toListBytes]; exact h6
        go_wp2_with fail
        go_quiet (fail)
        go_wp2
        exact HPf.out _ (ks_ne fun e => by
          have h1 := HX.out
          rw [e, HY.out] at h1
          exact hxy (Option.some.inj h1).symm) (b0.trans ((below_drewN hnx _).mono b0.size))
    · have HKM : Hid (K = M) := by
        refine List.ext_getElem? fun j => ?_
        rcases Nat.lt_or_ge j k with h | h
        · exact HA.out j h
        · rw [List.getElem?_eq_none (by rw [HK.out]; omega), List.getElem?_eq_none (by rw [HM.out]; omega)]
      have q1 := b0.trans (hnx.mono b0.size)
      have z1 : w.heap.size + 2 ≤ wr.heap.size := by have := hnx.size; omega
      clear hnx b0 k0 k1 hz0 C1 C2
      go_wp2
      clear x0 x1 y0 y1
      generalize hW : wr = w1 at *
      clear hW
      go_loopw [6] (fun i wl => ∃ k : Nat, k ≤ m ∧ i = .int .i64 k ∧ Below w1.heap.size w1 wl ∧ Hid (∀ j, j < k → L[j]? = N[j]?)) (fun i _ => m - (intOf i).toNat)
      case atStart => exact ⟨0, Nat.zero_le _, rfl, Below.refl _ _, fun j hj => absurd hj (Nat.not_lt_zero _)⟩
      case round =>
        obtain ⟨k, hk, rfl, hnx, HA⟩ := hrel
        have kq := (hnx.block w.heap.size (by omega)).trans kr
        have lq := (hnx.block (w.heap.size + 1) (by omega)).trans lr
        obtain ⟨x0, x1⟩ := two_in kq
        obtain ⟨y0, y1⟩ := two_in lq
        have q2 := q1.trans (hnx.mono q1.size)
        by_cases hlt : k < m
        · obtain ⟨x, hx⟩ : ∃ x, L[k]? = some x := ⟨L[k]'(by rw [HL.out]; exact hlt), List.getElem?_eq_getElem _⟩
          obtain ⟨y, hy⟩ : ∃ y, N[k]? = some y := ⟨N[k]'(by rw [HN.out]; exact hlt), List.getElem?_eq_getElem _⟩
          obtain ⟨g, o, rfl, hg, hc⟩ := C3.out (by intro e; rw [e] at hx; cases hx)
          obtain ⟨g', o', rfl, hg', hc'⟩ := C4.out (by intro e; rw [e] at hy; cases hy)
          obtain ⟨a0, a1⟩ := hc k x hx
          obtain ⟨e0, e1⟩ := hc' k y hy
          have c0 := (q2.cell (p := ⟨g, o + k * 2, none⟩) hg).trans a0
          have c1 := (q2.cell (p := ⟨g, o + k * 2 + 1, none⟩) hg).trans a1
          have d0 := (q2.cell (p := ⟨g', o' + k * 2, none⟩) hg').trans e0
          have d1 := (q2.cell (p := ⟨g', o' + k * 2 + 1, none⟩) hg').trans e1
          have hlt' : (k : Int) < (m : Int) := by omega
          have hq := neq56 x y
          have HX := hide hx
          have HY := hide hy
          have HS := hide (sameWr_iff x y)
          generalize sameWr x y = B at hq HS
          clear hc hc' hx hy a0 a1 e0 e1
          cases B with
          | true =>
            go_wp2_with fail
            go_quiet (fail)
            go_wp2
            go_roundw
            case rel =>
              refine ⟨k + 1, by omega, by go_num, below_drewN hnx _, fun j hj => ?_⟩
              rcases Nat.lt_or_ge j k with h | h
              · exact HA.out j h
              · rw [show j = k by omega, HX.out, HY.out, HS.out.1 (by first | rfl | trivial)]
            case measure => simp [intOf]; omega
          | false =>
            go_wp2_with fail
            go_quiet (fail)
            go_wp2
            exact HPf.out _ (ws_ne fun e => by
              have h1 := HX.out
              rw [e, HY.out] at h1
              have := HS.out.2 (Option.some.inj h1).symm
              cases this) (below_drewN q2 _)
        · have HLN : Hid (L = N) := by
            refine List.ext_getElem? fun j => ?_
            rcases Nat.lt_or_ge j k with h | h
            · exact HA.out j h
            · rw [List.getElem?_eq_none (by rw [HL.out]; omega), List.getElem?_eq_none (by rw [HN.out]; omega)]
          clear C3 C4
          go_wp2
          exact HPt.out _ (by rw [HKM.out, HLN.out]) q2

set_option maxRecDepth 100000 in
set_option maxHeartbeats 1600000 in
theorem sameDisk_ne (n n' m m' : Nat) (ka kb wa wb : Option Addr) (kc kd wc wd : Nat) (w : World) (h : n ≠ n' ∨ m ≠ m') :
    Calls Try.prog 18 #[.agg #[.slice ka n kc, .slice wa m wc], .agg #[.slice kb n' kd, .slice wb m' wd]] w fun e w' => e = .returned (.bool false) ∧ Below w.heap.size w w' := by
  have b0 := ((Below.refl w.heap.size w).alloc (Nat.le_refl _) (.cells #[.slice ka n kc, .slice wa m wc] 25)).alloc (by simp) (.cells #[.slice kb n' kd, .slice wb m' wd] 25)
  by_cases h1 : n = n'
  · subst h1
    have h2 : m ≠ m' := by rcases h with h | h <;> first | exact absurd rfl h | exact h
    have h3 : ¬ (m : Int) = (m' : Int) := by omega
    clear h h2
    go_enter Try.func18, Try.ntmps18
    go_wp2
    go_ret
    exact ⟨rfl, b0⟩
  · have h3 : ¬ (n : Int) = (n' : Int) := by omega
    clear h h1
    go_enter Try.func18, Try.ntmps18
    go_wp2
    go_ret
    exact ⟨rfl, b0⟩

theorem sameDisk_any (d1 d2 : Dk) (ku wu kv wv : Value) (w : World) (h1 : DkAt w ku wu d1) (h2 : DkAt w kv wv d2) :
    Calls Try.prog 18 #[.agg #[ku, wu], .agg #[kv, wv]] w fun e w' => ∃ b : Bool, e = .returned (.bool b) ∧ (b = true ↔ d1 = d2) ∧ Below w.heap.size w w' := by
  obtain ⟨K, L⟩ := d1
  obtain ⟨M, N⟩ := d2
  obtain ⟨ka, kc, rfl⟩ := h1.1.form
  obtain ⟨wa, wc, rfl⟩ := h1.2.form
  obtain ⟨kb, kd, rfl⟩ := h2.1.form
  obtain ⟨wb, wd, rfl⟩ := h2.2.form
  by_cases hKM : K.length = M.length
  · by_cases hLN : L.length = N.length
    · obtain ⟨a1, a2⟩ := h1
      obtain ⟨a3, a4⟩ := h2
      simp only [] at *
      rw [← hKM] at a3 ⊢
      rw [← hLN] at a4 ⊢
      exact sameDisk_same K M L N ka kb wa wb _ _ kc kd wc wd w rfl hKM.symm rfl hLN.symm a1 a3 a2 a4
    · refine (sameDisk_ne _ _ _ _ ka kb wa wb kc kd wc wd w (.inr hLN)).mono ?_
      rintro e w' ⟨rfl, hb⟩
      exact ⟨false, rfl, ⟨(fun e => by cases e), fun e => absurd (by cases e; rfl) hLN⟩, hb⟩
  · refine (sameDisk_ne _ _ _ _ ka kb wa wb kc kd wc wd w (.inl hKM)).mono ?_
    rintro e w' ⟨rfl, hb⟩
    exact ⟨false, rfl, ⟨(fun e => by cases e), fun e => absurd (by cases e; rfl) hKM⟩, hb⟩

end Go.Proofs.Ytppgkhcmdajolaa
