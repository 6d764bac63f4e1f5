/-
  'kindOf' of package expr: of an expression with Args, and of any.
-/
import Derived.Test.YtjmhkeooiimpfaaGreatKof
namespace Go.Proofs.YtjmhkeooiimpfaaGreat
open Go.RowKit

set_option maxRecDepth 100000 in
set_option maxHeartbeats 3200000 in
theorem kof_args (L : List Cl) (cv : Value) (k : Int) (k1 : (k == 1) = false) (k2 : (k == 2) = false) (A I M : Int) (v : Vl) (nm : List UInt8) (b off n ca : Nat) (xs : List Ex) (us : Nat → Value) (W : World) (R : Value) (hT : Hid (fitK M (kindL L xs) = true → R = .tuple #[.int .i64 I, .bool true])) (hF : Hid (fitK M (kindL L xs) = false → R = .tuple #[.int .i64 0, .bool false])) (hn : xs.length = n) (hn2 : n * 80 ≤ 140737488351232) (hbW : b < W.heap.size)
    (hsh : ∀ W', Calls Tryz.prog 25 #[.int .i64 k] W' fun e w' => e = .returned (.tuple #[.agg #[.int .i64 A, .int .i64 M, .int .i64 I], .bool true]) ∧ Below W'.heap.size W' w')
    (hS : ∀ i y, xs[i]? = some y → ∃ (k : Int) (v : Vl) (nm : List UInt8) (ao : Option Addr) (n ca : Nat), us i = exL k v nm (.slice ao n ca) ∧ W.cell? ⟨b, off + i * 6, none⟩ = some (.int .i64 k) ∧ W.cell? ⟨b, off + i * 6 + 1, none⟩ = some (.int .i64 v.k) ∧ W.cell? ⟨b, off + i * 6 + 2, none⟩ = some (.int .i64 v.n) ∧
      W.cell? ⟨b, off + i * 6 + 3, none⟩ = some (.string ⟨v.s.toArray⟩) ∧ W.cell? ⟨b, off + i * 6 + 4, none⟩ = some (.string ⟨nm.toArray⟩) ∧ W.cell? ⟨b, off + i * 6 + 5, none⟩ = some (.slice ao n ca))
    (hf : ∀ i y, xs[i]? = some y → ∀ W' : World, Below W.heap.size W W' → Calls Tryz.prog 15 #[cv, us i] W' fun e w' => e = .returned (kindR (kindE L y)) ∧ Below W'.heap.size W' w') :
    Calls Tryz.prog 15 #[cv, exL k v nm (.slice (some ⟨b, off, none⟩) n ca)] W fun e w' => e = .returned R ∧ Below W.heap.size W w' := by
  have HS := hide hS
  have HF := hide hf
  clear hS hf
  go_enter Tryz.func15, Tryz.ntmps15
  go_wp2_with fail
  refine (hsh _).mono ?_
  rintro e w1 ⟨rfl, b1⟩
  have z1 : W.heap.size < w1.heap.size := by have := b1.size; simp at this; omega
  have d5 := (b1.cell (p := ⟨W.heap.size, 5, none⟩) (by simp)).trans (by simp : _ = some (.slice (some ⟨b, off, none⟩) n ca))
  have q1 : Below W.heap.size W w1 := ((Below.refl _ _).alloc (Nat.le_refl _) _).trans (b1.mono (by simp))
  have p1 : Below W.heap.size W (w1.alloc (.cells #[.int .i64 A, .int .i64 M, .int .i64 I] 60)) := q1.alloc (by omega) _
  obtain ⟨s, hs⟩ : ∃ s, w1.heap.size = s := ⟨_, rfl⟩
  have m1 : (w1.alloc (.cells #[.int .i64 A, .int .i64 M, .int .i64 I] 60)).cell? ⟨s, 2, none⟩ = some (.int .i64 I) := by rw [← hs]; simp
  have m2 : s < (w1.alloc (.cells #[.int .i64 A, .int .i64 M, .int .i64 I] 60)).heap.size := by rw [← hs]; simp
  have hWs : W.heap.size ≤ s := by omega
  have HH := hide hs
  clear hsh b1 hs
  go_wp2
  rw [HH.out]
  generalize w1.alloc (.cells #[.int .i64 A, .int .i64 M, .int .i64 I] 60) = w2 at *
  clear d5 q1 z1 HH
  go_loopw [8, 41] (fun mm i wl => ∃ (j : Nat) (m : Int), j ≤ n ∧ i = .int .i64 j ∧ mm = .int .i64 m ∧ Below w2.heap.size w2 wl ∧ Hid (fitK M (kindL L xs) = fitK m (kindL L (xs.drop j)))) (fun _ i _ => n - (intOf i).toNat)
  case atStart => exact ⟨0, M, Nat.zero_le _, rfl, rfl, Below.refl _ _, rfl⟩
  case round =>
    obtain ⟨j, m, hj, rfl, rfl, hnx, HA⟩ := hrel
    have hsz := hnx.size
    have qW : Below W.heap.size W wr := p1.trans (hnx.mono p1.size)
    by_cases hlt : j < n
    · obtain ⟨y, hy⟩ : ∃ y, xs[j]? = some y := ⟨xs[j], List.getElem?_eq_getElem (by omega)⟩
      obtain ⟨k3, v3, nm3, ao3, n3, ca3, hu, a0, a1, a2, a3, a4, a5⟩ := HS.out j y hy
      have c0 := (qW.cell (p := ⟨b, off + j * 6, none⟩) hbW).trans a0
      have c1 := (qW.cell (p := ⟨b, off + j * 6 + 1, none⟩) hbW).trans a1
      have c2 := (qW.cell (p := ⟨b, off + j * 6 + 2, none⟩) hbW).trans a2
      have c3 := (qW.cell (p := ⟨b, off + j * 6 + 3, none⟩) hbW).trans a3
      have c4 := (qW.cell (p := ⟨b, off + j * 6 + 4, none⟩) hbW).trans a4
      have c5 := (qW.cell (p := ⟨b, off + j * 6 + 5, none⟩) hbW).trans a5
      have hlt' : (j : Int) < (n : Int) := by omega
      have q2 : Below w2.heap.size w2 (wr.alloc (.cells #[.int .i64 k3, .int .i64 v3.k, .int .i64 v3.n, .string ⟨v3.s.toArray⟩, .string ⟨nm3.toArray⟩, .slice ao3 n3 ca3] 28)) := hnx.alloc hsz _
      have hc := HF.out j y hy _ (p1.trans (q2.mono p1.size))
      rw [hu] at hc
      have HDr : Hid (xs.drop j = y :: xs.drop (j + 1)) := by
        obtain ⟨hi, rfl⟩ := List.getElem?_eq_some_iff.1 hy
        exact List.drop_eq_getElem_cons hi
      have HKL : Hid (fitK M (kindL L xs) = fitK m (kindE L y :: kindL L (xs.drop (j + 1)))) := by rw [Hid, HA.out, HDr.out, kindL]
      clear a0 a1 a2 a3 a4 a5 hy hu HA HDr HS HF
      generalize kindE L y = O at hc HKL
      cases O with
      | none =>
        have HB : Hid (fitK M (kindL L xs) = false) := by rw [Hid, HKL.out, fitK]
        simp only [kindR, Option.getD_none, Option.isSome_none] at hc
        have qE := fun (w3 : World) (b2 : Below (wr.alloc (.cells #[.int .i64 k3, .int .i64 v3.k, .int .i64 v3.n, .string ⟨v3.s.toArray⟩, .string ⟨nm3.toArray⟩, .slice ao3 n3 ca3] 28)).heap.size (wr.alloc (.cells #[.int .i64 k3, .int .i64 v3.k, .int .i64 v3.n, .string ⟨v3.s.toArray⟩, .string ⟨nm3.toArray⟩, .slice ao3 n3 ca3] 28)) w3) => p1.trans ((q2.trans (b2.mono q2.size)).mono p1.size)
        clear HKL
        go_wp2_with (go_at_call 15; refine hc.mono ?_; rintro e w3 ⟨rfl, b2⟩; have qe := qE w3 b2; clear qE hc)
        go_ret2
        exact ⟨by rw [hF.out HB.out]; rfl, qe⟩
      | some K =>
        simp only [kindR, Option.getD_some, Option.isSome_some] at hc
        by_cases hcf : K ≠ 0 ∧ m ≠ 0 ∧ K ≠ m
        · have HB : Hid (fitK M (kindL L xs) = false) := by rw [Hid, HKL.out, fitK, if_pos hcf]
          have e1 : (K != 0) = true := by simpa using hcf.1
          have e2 : (m != 0) = true := by simpa using hcf.2.1
          have e3 : (K != m) = true := by simpa using hcf.2.2
          have qE := fun (w3 : World) (b2 : Below (wr.alloc (.cells #[.int .i64 k3, .int .i64 v3.k, .int .i64 v3.n, .string ⟨v3.s.toArray⟩, .string ⟨nm3.toArray⟩, .slice ao3 n3 ca3] 28)).heap.size (wr.alloc (.cells #[.int .i64 k3, .int .i64 v3.k, .int .i64 v3.n, .string ⟨v3.s.toArray⟩, .string ⟨nm3.toArray⟩, .slice ao3 n3 ca3] 28)) w3) => p1.trans ((q2.trans (b2.mono q2.size)).mono p1.size)
          clear HKL hcf
          go_wp2_with (go_at_call 15; refine hc.mono ?_; rintro e w3 ⟨rfl, b2⟩; have qe := qE w3 b2; clear qE hc)
          go_ret2
          exact ⟨by rw [hF.out HB.out]; rfl, qe⟩
        · obtain ⟨r, hr⟩ : ∃ r, (if m ≠ 0 then m else K) = r := ⟨_, rfl⟩
          have HB : Hid (fitK M (kindL L xs) = fitK r (kindL L (xs.drop (j + 1)))) := by rw [Hid, HKL.out, fitK, if_neg hcf, hr]
          have H1 : Hid (m ≠ 0 → r = m) := fun h => by rw [← hr, if_pos h]
          have H2 : Hid (m = 0 → r = K) := fun h => by rw [← hr, if_neg (fun hh => hh h)]
          have hd : (K != 0) = false ∨ ((K != 0) = true ∧ (m != 0) = false) ∨ ((K != 0) = true ∧ (m != 0) = true ∧ (K != m) = false) := by
            by_cases g1 : K = 0
            · left; simpa using g1
            · by_cases g2 : m = 0
              · right; left; exact ⟨by simpa using g1, by simpa using g2⟩
              · right; right; exact ⟨by simpa using g1, by simpa using g2, by simp; exact Classical.byContradiction fun g3 => hcf ⟨g1, g2, g3⟩⟩
          clear HKL hcf hr
          rcases hd with e1 | ⟨e1, e2⟩ | ⟨e1, e2, e3⟩
          all_goals
            go_wp2_with (first | (go_at_call 15; refine hc.mono ?_; rintro e w3 ⟨rfl, b2⟩; have q3 : Below w2.heap.size w2 w3 := q2.trans (b2.mono q2.size); clear hc b2) | (go_at_call 26; refine (or_two m K r H1 H2 _ w3.heap.size (by simp) (by simp)).mono ?_; rintro e w4 ⟨rfl, rfl⟩))
            go_roundw
            case rel => exact ⟨j + 1, r, by omega, by go_num, rfl, q3.alloc q3.size _, HB⟩
            case measure => simp [intOf]; omega
    · have c2 := (hnx.cell (p := ⟨s, 2, none⟩) m2).trans m1
      have HB : Hid (fitK M (kindL L xs) = true) := by rw [Hid, HA.out, List.drop_of_length_le (by omega)]; rfl
      clear HA HS HF m1
      go_wp2
      go_ret2
      exact ⟨by rw [hT.out HB.out]; rfl, qW⟩

theorem kindOf_any (L : List Cl) (cv : Value) {B : Nat} {w0 : World} {u : Value} {x : Ex} (h : ExAt B w0 u x) : Fit x → faultE L x = 0 → ∀ W : World, Below w0.heap.size w0 W → CsAt W cv L →
    Calls Tryz.prog 15 #[cv, u] W fun e w' => e = .returned (kindR (kindE L x)) ∧ Below W.heap.size W w' := by
  have lit : ∀ (k : Int) (v : Vl) (nm : List UInt8) (ao : Option Addr) (n ca : Nat) (xs : List Ex) (W : World), k = 1 ∨ k = 2 → faultE L (.mk k v nm xs) = 0 → CsAt W cv L →
      Calls Tryz.prog 15 #[cv, exL k v nm (.slice ao n ca)] W fun e w' => e = .returned (kindR (kindE L (.mk k v nm xs))) ∧ Below W.heap.size W w' := by
    intro k v nm ao n ca xs W hk hf hC
    rw [kindE]
    rcases hk with rfl | rfl
    · rw [if_pos rfl]
      exact kof_1 cv v nm ao n ca W
    · rw [if_neg (by decide), if_pos rfl]
      have h6 := (partF_zero (faultE_zero hf).1).2.2.2.2.2.1
      simp only [Ex.k, Ex.nm] at h6
      obtain ⟨i, hi⟩ := h6 trivial
      have hlt := placeC_lt L nm i hi
      have hc : L[i]? = some L[i] := List.getElem?_eq_getElem hlt
      rw [hi, Option.getD_some, hc]
      have hp := fun (W' : World) (hW : Below W.heap.size W W') => place_any L cv nm W' (hC.below hW)
      rw [placeI_some hi] at hp
      obtain ⟨ao2, cap2, rfl, h1, h2⟩ := hC
      obtain ⟨g, o, rfl, hg, hcc⟩ := h2 (by intro e; rw [e] at hlt; exact absurd hlt (Nat.not_lt_zero _))
      exact kof_2 g o cap2 L.length i _ v nm ao n ca W hg hlt (hcc i _ hc).2 hp
  induction h with
  | nil k v nm ao cap hz =>
    intro hf h0 W hb hC
    refine lit k v nm ao 0 cap [] W ?_ h0 hC
    have h3 := partF_zero (faultE_zero h0).1
    simp only [Ex.k, Ex.args] at h3
    have h4 := h3.2.2.1
    unfold argsS at h4
    by_cases hk : k = 1 ∨ k = 2
    · exact hk
    · rw [if_neg hk] at h4
      exfalso
      split at h4 <;> simp at h4
  | args k v nm b off cap xs us hx hB hs hc hh ih =>
    intro hf h0 W hb hC
    by_cases hk : k = 1 ∨ k = 2
    · exact lit k v nm _ _ cap xs W hk h0 hC
    · have h3 := partF_zero (faultE_zero h0).1
      simp only [Ex.k] at h3
      have h4 := faultL_zero (faultE_zero h0).2
      rw [kindE, if_neg (fun h => hk (.inl h)), if_neg (fun h => hk (.inr h))]
      have hbW : b < W.heap.size := Nat.lt_of_lt_of_le hs hb.size
      have hsh := shape_call k (decide_eq_true ⟨h3.1, h3.2.1⟩)
      have eI : isG k = isSg k := if_neg hk
      rw [eI] at hsh
      refine kof_args L cv k (by simpa using fun h => hk (.inl h)) (by simpa using fun h => hk (.inr h)) _ _ _ v nm b off xs.length cap xs us W _ (fun h => by rw [if_pos h]; rfl) (fun h => by rw [h]; rfl) rfl hf.args.1 hbW hsh (six_at hb hs hc hh) fun i y hy W' hW => ?_
      exact ih i y hy (hf.args.2 y (List.mem_of_getElem? hy)) (h4 y (List.mem_of_getElem? hy)) W' (hb.trans (hW.mono hb.size)) (hC.below hW)

end Go.Proofs.YtjmhkeooiimpfaaGreat
