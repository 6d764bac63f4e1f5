/-
  Disks: what Flush and Crash share.
-/
import Derived.Test.YtppgkhcmdajolaaDse
namespace Go.Proofs.Ytppgkhcmdajolaa
open Go.RowKit

/-- of what was written, what is to be kept, on its sectors -/
def settleL (P : Nat → Bool) : Nat → List Wr → List ByteArray → List ByteArray
  | _, [], K => K
  | i, x :: r, K => settleL P (i + 1) r (if P i then K.set x.n.toNat x.s else K)

theorem settleL_length (P : Nat → Bool) : ∀ (L : List Wr) (i : Nat) (K : List ByteArray), (settleL P i L K).length = K.length
  | [], _, _ => rfl
  | x :: r, i, K => by
    rw [settleL, settleL_length P r (i + 1)]
    split <;> simp

def NOP : Value := .slice none 0 0

theorem faultN_range {n : Nat} {x : Wr} (h : faultN n x = 0) : 0 ≤ x.n ∧ x.n < n ∧ badS x.s = false := by
  unfold faultN at h
  by_cases h1 : x.n < 0 ∨ (n : Int) ≤ x.n
  · rw [if_pos h1] at h; cases h
  · rw [if_neg h1] at h
    by_cases h2 : badS x.s = true
    · rw [if_pos h2] at h; cases h
    · exact ⟨by omega, by omega, by simpa using h2⟩

theorem checkD_zero {d : Dk} (h : checkD d = 0) : 1 ≤ d.ks.length ∧ d.ks.length ≤ 400 ∧ d.ks.any badS = false ∧ d.ws.length ≤ 400 ∧ faultsN d.ks.length d.ws = 0 := by
  unfold checkD at h
  by_cases h1 : d.ks.length < 1 ∨ 400 < d.ks.length
  · rw [if_pos h1] at h; cases h
  · rw [if_neg h1] at h
    cases hB : d.ks.any badS with
    | true => rw [if_pos hB] at h; cases h
    | false =>
      rw [if_neg (by rw [hB]; decide)] at h
      by_cases h2 : 400 < d.ws.length
      · rw [if_pos h2] at h; cases h
      · rw [if_neg h2] at h
        exact ⟨by omega, by omega, rfl, by omega, h⟩

set_option maxRecDepth 100000 in
set_option maxHeartbeats 3200000 in
theorem settled_badF (d : Dk) (ku wu : Value) (w : World) (hk : StAt w ku d.ks) (hw : WrAt w wu d.ws) (hE : checkD d ≠ 0) :
    Calls Try.prog 31 #[.agg #[ku, wu], .func (.func 32) #[] #[]] w fun e w' => e = .returned (.tuple #[.agg #[.slice none 0 0, .slice none 0 0], .int .i64 (checkD d : Nat)]) ∧ Below w.heap.size w w' := by
  have hc := fun W (hb : Below w.heap.size w W) => check_any d ku wu W (hk.below hb) (hw.below hb)
  obtain ⟨ka, kc, rfl⟩ := hk.form
  obtain ⟨wa, wc, rfl⟩ := hw.form
  clear hk hw
  generalize d.ks.length = n at *
  generalize d.ws.length = m at *
  generalize checkD d = F at *
  have hE' : (((F : Nat) : Int) == 0) = false := by simpa using hE
  have hne : ((F : Nat) : Int) ≠ 0 := by omega
  have b0 := ((Below.refl w.heap.size w).alloc (Nat.le_refl _) (.cells #[.slice ka n kc, .slice wa m wc] 25)).alloc (by simp) (.cells #[.slice none 0 0, .slice none 0 0] 25)
  have hz1 : (w.alloc (.cells #[.slice ka n kc, .slice wa m wc] 25)).heap.size = w.heap.size + 1 := by simp
  have k1 : ((w.alloc (.cells #[.slice ka n kc, .slice wa m wc] 25)).alloc (.cells #[.slice none 0 0, .slice none 0 0] 25)).heap[w.heap.size + 1]? = some (.cells #[.slice none 0 0, .slice none 0 0] 25) := by
    rw [← hz1]; exact heap_alloc_new _ _
  have hz0 : ((w.alloc (.cells #[.slice ka n kc, .slice wa m wc] 25)).alloc (.cells #[.slice none 0 0, .slice none 0 0] 25)).heap.size = w.heap.size + 2 := by simp
  clear hz1 hE
  go_enter Try.func31, Try.ntmps31
  go_wp2_with fail
  generalize ((w.alloc (.cells #[.slice ka n kc, .slice wa m wc] 25)).alloc (.cells #[.slice none 0 0, .slice none 0 0] 25)) = w0 at *
  refine (hc _ b0).mono ?_
  rintro e w1 ⟨rfl, b1⟩
  have q1 : Below w.heap.size w w1 := b0.trans (b1.mono b0.size)
  have L1 := hide ((b1.block (w.heap.size + 1) (by omega)).trans k1)
  clear hc b1 b0 k1 hz0
  go_wp2_with (refine wpList_store_whole 25 _ _ rfl rfl (w.heap.size + 1) [.slice none 0 0, .slice none 0 0] [.slice none 0 0, .slice none 0 0] 25 rfl rfl (by exact L1.out) rfl Try.size25 (by intro v hv; simp only [List.mem_cons, List.not_mem_nil, or_false] at hv; rcases hv with rfl | rfl <;> rfl) ?_; intro w9 l2 p9)
  have q2 : Below w.heap.size w w9 := by rw [p9.out]; exact below_putAll (Nat.le_succ _) _ _ _ q1
  obtain ⟨s0, s1⟩ := two_in l2
  refine bodyPost_ret (v := .tuple #[.agg #[.slice none 0 0, .slice none 0 0], .int .i64 (F : Nat)]) ?_ rfl ⟨rfl, q2⟩
  simp [results, Try.results31, go_sem, s0, s1]

set_option maxRecDepth 100000 in
set_option maxHeartbeats 6400000 in
theorem settled_okF (P : Nat → Bool) (d : Dk) (ku wu : Value) (w : World) (hk : StAt w ku d.ks) (hw : WrAt w wu d.ws) (hE : checkD d = 0)
    (hf : ∀ (W : World) (i : Nat), Below w.heap.size w W → i < d.ws.length → Calls Try.prog 32 #[.int .i64 i] W fun e w' => e = .returned (.bool (P i)) ∧ Below W.heap.size W w') :
    Calls Try.prog 31 #[.agg #[ku, wu], .func (.func 32) #[] #[]] w fun e w' => ∃ v, e = .returned (.tuple #[.agg #[v, .slice none 0 0], .int .i64 0]) ∧ w'.ownsRow w.heap.size 9 1 v d.ks.length ((settleL P 0 d.ws d.ks).map Value.string) ∧ Below w.heap.size w w' := by
  have hc := fun W (hb : Below w.heap.size w W) => check_any d ku wu W (hk.below hb) (hw.below hb)
  rw [hE] at hc
  obtain ⟨K, L⟩ := d
  have hkk := fun W (hb : Below w.heap.size w W) => clone_any K ku W (hk.below hb)
  obtain ⟨-, z3, -, z4, z5⟩ := checkD_zero hE
  clear hE
  obtain ⟨ka, kc, rfl⟩ := hk.form
  obtain ⟨wa, wc, rfl, hwl, -, hwc⟩ := hw
  obtain ⟨n, hn⟩ : ∃ n, K.length = n := ⟨_, rfl⟩
  obtain ⟨m, hm⟩ : ∃ m, L.length = m := ⟨_, rfl⟩
  simp only [] at *
  have HN := hide hn
  have HM := hide hm
  rw [hn] at hc hkk z3 z5 ⊢
  rw [hm] at hc hwl z4 hf ⊢
  have HF := hide (faultsN_zero z5)
  have HWC := hide hwc
  clear hk hn hm z5 hwc
  have b0 := ((Below.refl w.heap.size w).alloc (Nat.le_refl _) (.cells #[.slice ka n kc, .slice wa m wc] 25)).alloc (by simp) (.cells #[.slice none 0 0, .slice none 0 0] 25)
  have hz1 : (w.alloc (.cells #[.slice ka n kc, .slice wa m wc] 25)).heap.size = w.heap.size + 1 := by simp
  have k1 : ((w.alloc (.cells #[.slice ka n kc, .slice wa m wc] 25)).alloc (.cells #[.slice none 0 0, .slice none 0 0] 25)).heap[w.heap.size + 1]? = some (.cells #[.slice none 0 0, .slice none 0 0] 25) := by
    rw [← hz1]; exact heap_alloc_new _ _
  have k0 : ((w.alloc (.cells #[.slice ka n kc, .slice wa m wc] 25)).alloc (.cells #[.slice none 0 0, .slice none 0 0] 25)).heap[w.heap.size]? = some (.cells #[.slice ka n kc, .slice wa m wc] 25) := (Below.heap_alloc (w.alloc (.cells #[.slice ka n kc, .slice wa m wc] 25)) _ _ (by omega)).trans (heap_alloc_new w _)
  have hz0 : ((w.alloc (.cells #[.slice ka n kc, .slice wa m wc] 25)).alloc (.cells #[.slice none 0 0, .slice none 0 0] 25)).heap.size = w.heap.size + 2 := by simp
  clear hz1
  go_enter Try.func31, Try.ntmps31
  go_wp2_with fail
  generalize ((w.alloc (.cells #[.slice ka n kc, .slice wa m wc] 25)).alloc (.cells #[.slice none 0 0, .slice none 0 0] 25)) = w0 at *
  refine (hc _ b0).mono ?_
  rintro e w1 ⟨rfl, b1⟩
  have q1 : Below w.heap.size w w1 := b0.trans (b1.mono b0.size)
  have l1 := (b1.block (w.heap.size + 1) (by omega)).trans k1
  have l0 := (b1.block w.heap.size (by omega)).trans k0
  have z1 : w.heap.size + 2 ≤ w1.heap.size := by have := b1.size; omega
  clear hc b1 b0 k1 k0 hz0
  obtain ⟨x0, x1⟩ := two_in l0
  go_wp2_with fail
  clear x0 x1
  refine (hkk _ q1).mono ?_
  rintro e w2 ⟨v, rfl, o2, b2⟩
  have q2 : Below w.heap.size w w2 := q1.trans (b2.mono q1.size)
  have m1 := (b2.block (w.heap.size + 1) (by omega)).trans l1
  have m0 := (b2.block w.heap.size (by omega)).trans l0
  have z2 : w.heap.size + 2 ≤ w2.heap.size := by have := b2.size; omega
  have O2 := hide (own_lower o2 z1)
  obtain ⟨va, vc, rfl⟩ : ∃ a c, v = .slice a n c := by obtain ⟨a, c, e⟩ := owns_slice o2; exact ⟨a, c, e⟩
  clear hkk q1 l1 l0 z1 b2 o2
  obtain ⟨x0, x1⟩ := two_in m0
  go_wp2_with fail
  clear x0 x1
  go_loopw [22] (fun i wl => ∃ (k : Nat) (C : List ByteArray), k ≤ m ∧ i = .int .i64 k ∧ Below w.heap.size w wl ∧ w.heap.size + 2 ≤ wl.heap.size ∧ Hid (wl.heap[w.heap.size + 1]? = some (.cells #[.slice none 0 0, .slice none 0 0] 25)) ∧ Hid (wl.ownsRow (w.heap.size + 2) 9 1 (.slice va n vc) n (C.map Value.string)) ∧ Hid (C.length = n ∧ settleL P k (L.drop k) C = settleL P 0 L K)) (fun i _ => m - (intOf i).toNat)
  case atStart => exact ⟨0, K, Nat.zero_le _, rfl, q2, z2, hide m1, O2, HN.out, rfl⟩
  case round =>
    obtain ⟨k, C, hk, rfl, hb, hsz, HR, HO, HC⟩ := hrel
    by_cases hlt : k < m
    · obtain ⟨x, hx⟩ : ∃ x, L[k]? = some x := ⟨L[k]'(by rw [HM.out]; exact hlt), List.getElem?_eq_getElem _⟩
      obtain ⟨g, o, rfl, hg, hcc⟩ := HWC.out (by intro e; rw [e] at hx; cases hx)
      obtain ⟨a0, a1⟩ := hcc k x hx
      have c0 := (hb.cell (p := ⟨g, o + k * 2, none⟩) hg).trans a0
      have c1 := (hb.cell (p := ⟨g, o + k * 2 + 1, none⟩) hg).trans a1
      have hlt' : (k : Int) < (m : Int) := by omega
      have HX : Hid (L[k]? = some x) := hx
      have hdr : Hid (L.drop k = x :: L.drop (k + 1)) := by
        have hi := (List.getElem?_eq_some_iff.1 hx)
        obtain ⟨h1, h2⟩ := hi
        exact (List.drop_eq_getElem_cons h1).trans (by rw [h2])
      obtain ⟨r0, r1, -⟩ := faultN_range (HF.out x (List.mem_of_getElem? hx))
      obtain ⟨xn, xs⟩ := x
      simp only [] at r0 r1 c0 c1 HX hdr
      obtain ⟨j, rfl⟩ : ∃ j : Nat, xn = (j : Int) := ⟨xn.toNat, by omega⟩
      have hb3 := hb.alloc (by omega) (.cells #[.int .i64 (j : Int), .string xs] 56)
      have hfx := hf (wr.alloc (.cells #[.int .i64 (j : Int), .string xs] 56)) k hb3 hlt
      have n3 := heap_alloc_new wr (.cells #[.int .i64 (j : Int), .string xs] 56)
      have R3 := hide ((Below.heap_alloc wr (.cells #[.int .i64 (j : Int), .string xs] 56) (w.heap.size + 1) (by omega)).trans HR.out)
      have O3 := hide (HO.out.alloc (.cells #[.int .i64 (j : Int), .string xs] 56))
      have z6 : w.heap.size + 2 ≤ (wr.alloc (.cells #[.int .i64 (j : Int), .string xs] 56)).heap.size := by simp; omega
      have z7 : (wr.alloc (.cells #[.int .i64 (j : Int), .string xs] 56)).heap.size = wr.heap.size + 1 := by simp
      clear hcc a0 a1 hx hb HR HO
      have HP : Hid (∀ b, P k = b → Hid (settleL P (k + 1) (L.drop (k + 1)) (if b then C.set j xs else C) = settleL P 0 L K)) := by
        intro b hb
        have h2 := HC.out.2
        rw [hdr.out, settleL, hb] at h2
        exact hide (by simpa using h2)
      obtain ⟨b, hB⟩ : ∃ b, P k = b := ⟨_, rfl⟩
      have HP' := HP.out b hB
      rw [hB] at hfx
      clear HP hB hdr
      go_wp2_with fail
      generalize (wr.alloc (.cells #[.int .i64 (j : Int), .string xs] 56)) = w3 at *
      refine hfx.mono ?_
      rintro e w4 ⟨rfl, b4⟩
      have hb4 := hb3.trans (b4.mono (by omega))
      have z8 : w.heap.size + 2 ≤ w4.heap.size := by have := b4.size; omega
      have R4 := hide ((b4.block (w.heap.size + 1) (by omega)).trans R3.out)
      have O4 := hide (owns_keep O3.out b4)
      have n4 := (b4.block wr.heap.size (by omega)).trans n3
      obtain ⟨y0, y1⟩ := two_in n4
      clear n4 n3 R3 O3 hfx b4 hb3 z6 c0 c1
      cases b with
      | false =>
        go_wp2
        go_roundw
        case rel => exact ⟨k + 1, C, by omega, by go_num, hb4, z8, R4, O4, HC.out.1, by simpa using HP'.out⟩
        case measure => simp [intOf]; omega
      | true =>
        obtain ⟨gv, cv, e1, e2, e3⟩ := owns_some O4.out (by omega)
        cases e1
        have O5 := hide (own_put O4.out j (.string xs))
        obtain ⟨⟨u, hu⟩, hfz⟩ := own_at O4.out j (by omega)
        have R5 := hide ((heap_setCell_other w4 ⟨gv, j, none⟩ (w.heap.size + 1) (.string xs) (by show w.heap.size + 1 ≠ gv; omega)).trans R4.out)
        have hb5 := hb4.setCell (p := ⟨gv, j, none⟩) (show w.heap.size ≤ gv by omega) (.string xs)
        have z9 : w.heap.size + 2 ≤ (w4.setCell ⟨gv, j, none⟩ (.string xs)).heap.size := by simpa [World.setCell] using z8
        have r2 : (j : Int) < (n : Int) := by omega
        clear R4 O4
        go_wp2
        go_roundw
        case rel => exact ⟨k + 1, C.set j xs, by omega, by go_num, hb5, z9, R5, hide (by have := O5.out; rwa [← List.map_set] at this), by rw [List.length_set]; exact HC.out.1, by simpa using HP'.out⟩
        case measure => simp [intOf]; omega
    · obtain rfl : k = m := by omega
      have HS : Hid (C = settleL P 0 L K) := by
        have h2 := HC.out.2
        rw [List.drop_eq_nil_of_le (by rw [HM.out]; omega)] at h2
        exact h2
      clear hf HWC
      go_wp2_with (refine wpList_store_whole 25 _ _ rfl rfl (w.heap.size + 1) [.slice none 0 0, .slice none 0 0] [.slice va n vc, .slice none 0 0] 25 rfl rfl (by exact HR.out) rfl Try.size25 (by intro v hv; simp only [List.mem_cons, List.not_mem_nil, or_false] at hv; rcases hv with rfl | rfl <;> rfl) ?_; intro w9 l2 p9)
      have q9 : Below w.heap.size w w9 := by rw [p9.out]; exact below_putAll (Nat.le_succ _) _ _ _ hb
      obtain ⟨s0, s1⟩ := two_in l2
      have O9 : w9.ownsRow w.heap.size 9 1 (.slice va n vc) n ((settleL P 0 L K).map Value.string) := by
        rw [← HS.out, p9.out]
        exact own_lower (owns_put0 (owns_put0 HO.out (show w.heap.size + 1 < w.heap.size + 2 by omega) 0 (.slice va n vc)) (show w.heap.size + 1 < w.heap.size + 2 by omega) 1 (.slice none 0 0)) (by omega)
      refine bodyPost_ret (v := .tuple #[.agg #[.slice va n vc, .slice none 0 0], .int .i64 0]) ?_ rfl ⟨_, rfl, O9, q9⟩
      simp [results, Try.results31, go_sem, s0, s1]

set_option maxRecDepth 100000 in
set_option maxHeartbeats 3200000 in
theorem settled_badC (p : Nat) (d : Dk) (ku wu : Value) (w : World) (hk : StAt w ku d.ks) (hw : WrAt w wu d.ws) (hE : checkD d ≠ 0) :
    Calls Try.prog 31 #[.agg #[ku, wu], .func (.func 33) #[] #[.pointer (some ⟨p, 0, none⟩)]] w fun e w' => e = .returned (.tuple #[.agg #[.slice none 0 0, .slice none 0 0], .int .i64 (checkD d : Nat)]) ∧ Below w.heap.size w w' := by
  have hc := fun W (hb : Below w.heap.size w W) => check_any d ku wu W (hk.below hb) (hw.below hb)
  obtain ⟨ka, kc, rfl⟩ := hk.form
  obtain ⟨wa, wc, rfl⟩ := hw.form
  clear hk hw
  generalize d.ks.length = n at *
  generalize d.ws.length = m at *
  generalize checkD d = F at *
  have hE' : (((F : Nat) : Int) == 0) = false := by simpa using hE
  have hne : ((F : Nat) : Int) ≠ 0 := by omega
  have b0 := ((Below.refl w.heap.size w).alloc (Nat.le_refl _) (.cells #[.slice ka n kc, .slice wa m wc] 25)).alloc (by simp) (.cells #[.slice none 0 0, .slice none 0 0] 25)
  have hz1 : (w.alloc (.cells #[.slice ka n kc, .slice wa m wc] 25)).heap.size = w.heap.size + 1 := by simp
  have k1 : ((w.alloc (.cells #[.slice ka n kc, .slice wa m wc] 25)).alloc (.cells #[.slice none 0 0, .slice none 0 0] 25)).heap[w.heap.size + 1]? = some (.cells #[.slice none 0 0, .slice none 0 0] 25) := by
    rw [← hz1]; exact heap_alloc_new _ _
  have hz0 : ((w.alloc (.cells #[.slice ka n kc, .slice wa m wc] 25)).alloc (.cells #[.slice none 0 0, .slice none 0 0] 25)).heap.size = w.heap.size + 2 := by simp
  clear hz1 hE
  go_enter Try.func31, Try.ntmps31
  go_wp2_with fail
  generalize ((w.alloc (.cells #[.slice ka n kc, .slice wa m wc] 25)).alloc (.cells #[.slice none 0 0, .slice none 0 0] 25)) = w0 at *
  refine (hc _ b0).mono ?_
  rintro e w1 ⟨rfl, b1⟩
  have q1 : Below w.heap.size w w1 := b0.trans (b1.mono b0.size)
  have L1 := hide ((b1.block (w.heap.size + 1) (by omega)).trans k1)
  clear hc b1 b0 k1 hz0
  go_wp2_with (refine wpList_store_whole 25 _ _ rfl rfl (w.heap.size + 1) [.slice none 0 0, .slice none 0 0] [.slice none 0 0, .slice none 0 0] 25 rfl rfl (by exact L1.out) rfl Try.size25 (by intro v hv; simp only [List.mem_cons, List.not_mem_nil, or_false] at hv; rcases hv with rfl | rfl <;> rfl) ?_; intro w9 l2 p9)
  have q2 : Below w.heap.size w w9 := by rw [p9.out]; exact below_putAll (Nat.le_succ _) _ _ _ q1
  obtain ⟨s0, s1⟩ := two_in l2
  refine bodyPost_ret (v := .tuple #[.agg #[.slice none 0 0, .slice none 0 0], .int .i64 (F : Nat)]) ?_ rfl ⟨rfl, q2⟩
  simp [results, Try.results31, go_sem, s0, s1]

set_option maxRecDepth 100000 in
set_option maxHeartbeats 6400000 in
theorem settled_okC (P : Nat → Bool) (p : Nat) (d : Dk) (ku wu : Value) (w : World) (hk : StAt w ku d.ks) (hw : WrAt w wu d.ws) (hE : checkD d = 0)
    (hf : ∀ (W : World) (i : Nat), Below w.heap.size w W → i < d.ws.length → Calls Try.prog 33 #[.int .i64 i, .pointer (some ⟨p, 0, none⟩)] W fun e w' => e = .returned (.bool (P i)) ∧ Below W.heap.size W w') :
    Calls Try.prog 31 #[.agg #[ku, wu], .func (.func 33) #[] #[.pointer (some ⟨p, 0, none⟩)]] w fun e w' => ∃ v, e = .returned (.tuple #[.agg #[v, .slice none 0 0], .int .i64 0]) ∧ w'.ownsRow w.heap.size 9 1 v d.ks.length ((settleL P 0 d.ws d.ks).map Value.string) ∧ Below w.heap.size w w' := by
  have hc := fun W (hb : Below w.heap.size w W) => check_any d ku wu W (hk.below hb) (hw.below hb)
  rw [hE] at hc
  obtain ⟨K, L⟩ := d
  have hkk := fun W (hb : Below w.heap.size w W) => clone_any K ku W (hk.below hb)
  obtain ⟨-, z3, -, z4, z5⟩ := checkD_zero hE
  clear hE
  obtain ⟨ka, kc, rfl⟩ := hk.form
  obtain ⟨wa, wc, rfl, hwl, -, hwc⟩ := hw
  obtain ⟨n, hn⟩ : ∃ n, K.length = n := ⟨_, rfl⟩
  obtain ⟨m, hm⟩ : ∃ m, L.length = m := ⟨_, rfl⟩
  simp only [] at *
  have HN := hide hn
  have HM := hide hm
  rw [hn] at hc hkk z3 z5 ⊢
  rw [hm] at hc hwl z4 hf ⊢
  have HF := hide (faultsN_zero z5)
  have HWC := hide hwc
  clear hk hn hm z5 hwc
  have b0 := ((Below.refl w.heap.size w).alloc (Nat.le_refl _) (.cells #[.slice ka n kc, .slice wa m wc] 25)).alloc (by simp) (.cells #[.slice none 0 0, .slice none 0 0] 25)
  have hz1 : (w.alloc (.cells #[.slice ka n kc, .slice wa m wc] 25)).heap.size = w.heap.size + 1 := by simp
  have k1 : ((w.alloc (.cells #[.slice ka n kc, .slice wa m wc] 25)).alloc (.cells #[.slice none 0 0, .slice none 0 0] 25)).heap[w.heap.size + 1]? = some (.cells #[.slice none 0 0, .slice none 0 0] 25) := by
    rw [← hz1]; exact heap_alloc_new _ _
  have k0 : ((w.alloc (.cells #[.slice ka n kc, .slice wa m wc] 25)).alloc (.cells #[.slice none 0 0, .slice none 0 0] 25)).heap[w.heap.size]? = some (.cells #[.slice ka n kc, .slice wa m wc] 25) := (Below.heap_alloc (w.alloc (.cells #[.slice ka n kc, .slice wa m wc] 25)) _ _ (by omega)).trans (heap_alloc_new w _)
  have hz0 : ((w.alloc (.cells #[.slice ka n kc, .slice wa m wc] 25)).alloc (.cells #[.slice none 0 0, .slice none 0 0] 25)).heap.size = w.heap.size + 2 := by simp
  clear hz1
  go_enter Try.func31, Try.ntmps31
  go_wp2_with fail
  generalize ((w.alloc (.cells #[.slice ka n kc, .slice wa m wc] 25)).alloc (.cells #[.slice none 0 0, .slice none 0 0] 25)) = w0 at *
  refine (hc _ b0).mono ?_
  rintro e w1 ⟨rfl, b1⟩
  have q1 : Below w.heap.size w w1 := b0.trans (b1.mono b0.size)
  have l1 := (b1.block (w.heap.size + 1) (by omega)).trans k1
  have l0 := (b1.block w.heap.size (by omega)).trans k0
  have z1 : w.heap.size + 2 ≤ w1.heap.size := by have := b1.size; omega
  clear hc b1 b0 k1 k0 hz0
  obtain ⟨x0, x1⟩ := two_in l0
  go_wp2_with fail
  clear x0 x1
  refine (hkk _ q1).mono ?_
  rintro e w2 ⟨v, rfl, o2, b2⟩
  have q2 : Below w.heap.size w w2 := q1.trans (b2.mono q1.size)
  have m1 := (b2.block (w.heap.size + 1) (by omega)).trans l1
  have m0 := (b2.block w.heap.size (by omega)).trans l0
  have z2 : w.heap.size + 2 ≤ w2.heap.size := by have := b2.size; omega
  have O2 := hide (own_lower o2 z1)
  obtain ⟨va, vc, rfl⟩ : ∃ a c, v = .slice a n c := by obtain ⟨a, c, e⟩ := owns_slice o2; exact ⟨a, c, e⟩
  clear hkk q1 l1 l0 z1 b2 o2
  obtain ⟨x0, x1⟩ := two_in m0
  go_wp2_with fail
  clear x0 x1
  go_loopw [22] (fun i wl => ∃ (k : Nat) (C : List ByteArray), k ≤ m ∧ i = .int .i64 k ∧ Below w.heap.size w wl ∧ w.heap.size + 2 ≤ wl.heap.size ∧ Hid (wl.heap[w.heap.size + 1]? = some (.cells #[.slice none 0 0, .slice none 0 0] 25)) ∧ Hid (wl.ownsRow (w.heap.size + 2) 9 1 (.slice va n vc) n (C.map Value.string)) ∧ Hid (C.length = n ∧ settleL P k (L.drop k) C = settleL P 0 L K)) (fun i _ => m - (intOf i).toNat)
  case atStart => exact ⟨0, K, Nat.zero_le _, rfl, q2, z2, hide m1, O2, HN.out, rfl⟩
  case round =>
    obtain ⟨k, C, hk, rfl, hb, hsz, HR, HO, HC⟩ := hrel
    by_cases hlt : k < m
    · obtain ⟨x, hx⟩ : ∃ x, L[k]? = some x := ⟨L[k]'(by rw [HM.out]; exact hlt), List.getElem?_eq_getElem _⟩
      obtain ⟨g, o, rfl, hg, hcc⟩ := HWC.out (by intro e; rw [e] at hx; cases hx)
      obtain ⟨a0, a1⟩ := hcc k x hx
      have c0 := (hb.cell (p := ⟨g, o + k * 2, none⟩) hg).trans a0
      have c1 := (hb.cell (p := ⟨g, o + k * 2 + 1, none⟩) hg).trans a1
      have hlt' : (k : Int) < (m : Int) := by omega
      have HX : Hid (L[k]? = some x) := hx
      have hdr : Hid (L.drop k = x :: L.drop (k + 1)) := by
        have hi := (List.getElem?_eq_some_iff.1 hx)
        obtain ⟨h1, h2⟩ := hi
        exact (List.drop_eq_getElem_cons h1).trans (by rw [h2])
      obtain ⟨r0, r1, -⟩ := faultN_range (HF.out x (List.mem_of_getElem? hx))
      obtain ⟨xn, xs⟩ := x
      simp only [] at r0 r1 c0 c1 HX hdr
      obtain ⟨j, rfl⟩ : ∃ j : Nat, xn = (j : Int) := ⟨xn.toNat, by omega⟩
      have hb3 := hb.alloc (by omega) (.cells #[.int .i64 (j : Int), .string xs] 56)
      have hfx := hf (wr.alloc (.cells #[.int .i64 (j : Int), .string xs] 56)) k hb3 hlt
      have n3 := heap_alloc_new wr (.cells #[.int .i64 (j : Int), .string xs] 56)
      have R3 := hide ((Below.heap_alloc wr (.cells #[.int .i64 (j : Int), .string xs] 56) (w.heap.size + 1) (by omega)).trans HR.out)
      have O3 := hide (HO.out.alloc (.cells #[.int .i64 (j : Int), .string xs] 56))
      have z6 : w.heap.size + 2 ≤ (wr.alloc (.cells #[.int .i64 (j : Int), .string xs] 56)).heap.size := by simp; omega
      have z7 : (wr.alloc (.cells #[.int .i64 (j : Int), .string xs] 56)).heap.size = wr.heap.size + 1 := by simp
      clear hcc a0 a1 hx hb HR HO
      have HP : Hid (∀ b, P k = b → Hid (settleL P (k + 1) (L.drop (k + 1)) (if b then C.set j xs else C) = settleL P 0 L K)) := by
        intro b hb
        have h2 := HC.out.2
        rw [hdr.out, settleL, hb] at h2
        exact hide (by simpa using h2)
      obtain ⟨b, hB⟩ : ∃ b, P k = b := ⟨_, rfl⟩
      have HP' := HP.out b hB
      rw [hB] at hfx
      clear HP hB hdr
      go_wp2_with fail
      generalize (wr.alloc (.cells #[.int .i64 (j : Int), .string xs] 56)) = w3 at *
      refine hfx.mono ?_
      rintro e w4 ⟨rfl, b4⟩
      have hb4 := hb3.trans (b4.mono (by omega))
      have z8 : w.heap.size + 2 ≤ w4.heap.size := by have := b4.size; omega
      have R4 := hide ((b4.block (w.heap.size + 1) (by omega)).trans R3.out)
      have O4 := hide (owns_keep O3.out b4)
      have n4 := (b4.block wr.heap.size (by omega)).trans n3
      obtain ⟨y0, y1⟩ := two_in n4
      clear n4 n3 R3 O3 hfx b4 hb3 z6 c0 c1
      cases b with
      | false =>
        go_wp2
        go_roundw
        case rel => exact ⟨k + 1, C, by omega, by go_num, hb4, z8, R4, O4, HC.out.1, by simpa using HP'.out⟩
        case measure => simp [intOf]; omega
      | true =>
        obtain ⟨gv, cv, e1, e2, e3⟩ := owns_some O4.out (by omega)
        cases e1
        have O5 := hide (own_put O4.out j (.string xs))
        obtain ⟨⟨u, hu⟩, hfz⟩ := own_at O4.out j (by omega)
        have R5 := hide ((heap_setCell_other w4 ⟨gv, j, none⟩ (w.heap.size + 1) (.string xs) (by show w.heap.size + 1 ≠ gv; omega)).trans R4.out)
        have hb5 := hb4.setCell (p := ⟨gv, j, none⟩) (show w.heap.size ≤ gv by omega) (.string xs)
        have z9 : w.heap.size + 2 ≤ (w4.setCell ⟨gv, j, none⟩ (.string xs)).heap.size := by simpa [World.setCell] using z8
        have r2 : (j : Int) < (n : Int) := by omega
        clear R4 O4
        go_wp2
        go_roundw
        case rel => exact ⟨k + 1, C.set j xs, by omega, by go_num, hb5, z9, R5, hide (by have := O5.out; rwa [← List.map_set] at this), by rw [List.length_set]; exact HC.out.1, by simpa using HP'.out⟩
        case measure => simp [intOf]; omega
    · obtain rfl : k = m := by omega
      have HS : Hid (C = settleL P 0 L K) := by
        have h2 := HC.out.2
        rw [List.drop_eq_nil_of_le (by rw [HM.out]; omega)] at h2
        exact h2
      clear hf HWC
      go_wp2_with (refine wpList_store_whole 25 _ _ rfl rfl (w.heap.size + 1) [.slice none 0 0, .slice none 0 0] [.slice va n vc, .slice none 0 0] 25 rfl rfl (by exact HR.out) rfl Try.size25 (by intro v hv; simp only [List.mem_cons, List.not_mem_nil, or_false] at hv; rcases hv with rfl | rfl <;> rfl) ?_; intro w9 l2 p9)
      have q9 : Below w.heap.size w w9 := by rw [p9.out]; exact below_putAll (Nat.le_succ _) _ _ _ hb
      obtain ⟨s0, s1⟩ := two_in l2
      have O9 : w9.ownsRow w.heap.size 9 1 (.slice va n vc) n ((settleL P 0 L K).map Value.string) := by
        rw [← HS.out, p9.out]
        exact own_lower (owns_put0 (owns_put0 HO.out (show w.heap.size + 1 < w.heap.size + 2 by omega) 0 (.slice va n vc)) (show w.heap.size + 1 < w.heap.size + 2 by omega) 1 (.slice none 0 0)) (by omega)
      refine bodyPost_ret (v := .tuple #[.agg #[.slice va n vc, .slice none 0 0], .int .i64 0]) ?_ rfl ⟨_, rfl, O9, q9⟩
      simp [results, Try.results31, go_sem, s0, s1]

end Go.Proofs.Ytppgkhcmdajolaa
