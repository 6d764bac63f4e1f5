/-
  The document's ValueOf: of an expression with Args, of kinds 9 to 11.
-/
import Derived.Test.YtbelnjefnhelhabGreatRvh
namespace Go.Proofs.YtbelnjefnhelhabGreat
open Go.RowKit

set_option maxRecDepth 100000 in
set_option maxHeartbeats 3200000 in
theorem rva_9 (cv rv : Value) (v : Vl) (nm : List UInt8) (b off ca : Nat) (W : World) (x y O : Vl) (hO : opR 9 x y = O) (hx : chkV x.k x.n x.s = 0) (hy : chkV y.k y.n y.s = 0) (hbW : b < W.heap.size)
    (kA : Int) (vA : Vl) (nmA : List UInt8) (aoA : Option Addr) (nA caA : Nat) (hA : (W.cell? ⟨b, off, none⟩ = some (.int .i64 kA) ∧ W.cell? ⟨b, off + 1, none⟩ = some (.int .i64 vA.k) ∧ W.cell? ⟨b, off + 2, none⟩ = some (.int .i64 vA.n) ∧ W.cell? ⟨b, off + 3, none⟩ = some (.string ⟨vA.s.toArray⟩) ∧ W.cell? ⟨b, off + 4, none⟩ = some (.string ⟨nmA.toArray⟩) ∧ W.cell? ⟨b, off + 5, none⟩ = some (.slice aoA nA caA)))
    (hfA : ∀ W' : World, Below W.heap.size W W' → Calls Tryz.prog 11 #[cv, rv, exL kA vA nmA (.slice aoA nA caA)] W' fun e w' => e = .returned (vlV x) ∧ Below W'.heap.size W' w')
    (kB : Int) (vB : Vl) (nmB : List UInt8) (aoB : Option Addr) (nB caB : Nat) (hB : (W.cell? ⟨b, off + 6, none⟩ = some (.int .i64 kB) ∧ W.cell? ⟨b, off + 7, none⟩ = some (.int .i64 vB.k) ∧ W.cell? ⟨b, off + 8, none⟩ = some (.int .i64 vB.n) ∧ W.cell? ⟨b, off + 9, none⟩ = some (.string ⟨vB.s.toArray⟩) ∧ W.cell? ⟨b, off + 10, none⟩ = some (.string ⟨nmB.toArray⟩) ∧ W.cell? ⟨b, off + 11, none⟩ = some (.slice aoB nB caB)))
    (hfB : ∀ W' : World, Below W.heap.size W W' → Calls Tryz.prog 11 #[cv, rv, exL kB vB nmB (.slice aoB nB caB)] W' fun e w' => e = .returned (vlV y) ∧ Below W'.heap.size W' w')
    :
    Calls Tryz.prog 11 #[cv, rv, exL 9 v nm (.slice (some ⟨b, off, none⟩) 2 ca)] W fun e w' => e = .returned (vlV O) ∧ Below W.heap.size W w' := by
  have HO := hide hO
  obtain ⟨xb1, xb2, xb3⟩ := bounds_of hx
  obtain ⟨yb1, yb2, yb3⟩ := bounds_of hy
  have HY := hide hy
  clear hy
  have HX := hide hx
  clear hO hx
  have b0 := ((Below.refl W.heap.size W).alloc (Nat.le_refl _) (.cells #[.int .i64 9, .int .i64 v.k, .int .i64 v.n, .string ⟨v.s.toArray⟩, .string ⟨nm.toArray⟩, .slice (some ⟨b, off, none⟩) 2 ca] 28)).alloc (by simp) (.cells #[.int .i64 0, .int .i64 0, .string ⟨#[]⟩] 25)
  have hD : ∀ W' : World, Below ((W.alloc (.cells #[.int .i64 9, .int .i64 v.k, .int .i64 v.n, .string ⟨v.s.toArray⟩, .string ⟨nm.toArray⟩, .slice (some ⟨b, off, none⟩) 2 ca] 28)).alloc (.cells #[.int .i64 0, .int .i64 0, .string ⟨#[]⟩] 25)).heap.size ((W.alloc (.cells #[.int .i64 9, .int .i64 v.k, .int .i64 v.n, .string ⟨v.s.toArray⟩, .string ⟨nm.toArray⟩, .slice (some ⟨b, off, none⟩) 2 ca] 28)).alloc (.cells #[.int .i64 0, .int .i64 0, .string ⟨#[]⟩] 25)) W' → W'.cell? ⟨W.heap.size, 0, none⟩ = some (.int .i64 9) ∧ W'.cell? ⟨W.heap.size, 5, none⟩ = some (.slice (some ⟨b, off, none⟩) 2 ca) := fun W' hW =>
    ⟨(hW.cell (p := ⟨W.heap.size, 0, none⟩) (by simp; omega)).trans (by simp), (hW.cell (p := ⟨W.heap.size, 5, none⟩) (by simp; omega)).trans (by simp)⟩
  have c9 : ((W.alloc (.cells #[.int .i64 9, .int .i64 v.k, .int .i64 v.n, .string ⟨v.s.toArray⟩, .string ⟨nm.toArray⟩, .slice (some ⟨b, off, none⟩) 2 ca] 28)).alloc (.cells #[.int .i64 0, .int .i64 0, .string ⟨#[]⟩] 25)).heap[W.heap.size + 1]? = some (.cells #[.int .i64 0, .int .i64 0, .string ⟨#[]⟩] 25) := by
    have hz : (W.alloc (.cells #[.int .i64 9, .int .i64 v.k, .int .i64 v.n, .string ⟨v.s.toArray⟩, .string ⟨nm.toArray⟩, .slice (some ⟨b, off, none⟩) 2 ca] 28)).heap.size = W.heap.size + 1 := by simp
    rw [← hz]; exact heap_alloc_new _ _
  have z0 : ((W.alloc (.cells #[.int .i64 9, .int .i64 v.k, .int .i64 v.n, .string ⟨v.s.toArray⟩, .string ⟨nm.toArray⟩, .slice (some ⟨b, off, none⟩) 2 ca] 28)).alloc (.cells #[.int .i64 0, .int .i64 0, .string ⟨#[]⟩] 25)).heap.size = W.heap.size + 2 := by simp
  have hA' : ∀ W' : World, Below W.heap.size W W' → (W'.cell? ⟨b, off, none⟩ = some (.int .i64 kA) ∧ W'.cell? ⟨b, off + 1, none⟩ = some (.int .i64 vA.k) ∧ W'.cell? ⟨b, off + 2, none⟩ = some (.int .i64 vA.n) ∧ W'.cell? ⟨b, off + 3, none⟩ = some (.string ⟨vA.s.toArray⟩) ∧ W'.cell? ⟨b, off + 4, none⟩ = some (.string ⟨nmA.toArray⟩) ∧ W'.cell? ⟨b, off + 5, none⟩ = some (.slice aoA nA caA)) := fun W' hW => by
    obtain ⟨a0, a1, a2, a3, a4, a5⟩ := hA
    exact ⟨(hW.cell (p := ⟨b, _, none⟩) hbW).trans a0, (hW.cell (p := ⟨b, _, none⟩) hbW).trans a1, (hW.cell (p := ⟨b, _, none⟩) hbW).trans a2, (hW.cell (p := ⟨b, _, none⟩) hbW).trans a3, (hW.cell (p := ⟨b, _, none⟩) hbW).trans a4, (hW.cell (p := ⟨b, _, none⟩) hbW).trans a5⟩
  have hB' : ∀ W' : World, Below W.heap.size W W' → (W'.cell? ⟨b, off + 6, none⟩ = some (.int .i64 kB) ∧ W'.cell? ⟨b, off + 7, none⟩ = some (.int .i64 vB.k) ∧ W'.cell? ⟨b, off + 8, none⟩ = some (.int .i64 vB.n) ∧ W'.cell? ⟨b, off + 9, none⟩ = some (.string ⟨vB.s.toArray⟩) ∧ W'.cell? ⟨b, off + 10, none⟩ = some (.string ⟨nmB.toArray⟩) ∧ W'.cell? ⟨b, off + 11, none⟩ = some (.slice aoB nB caB)) := fun W' hW => by
    obtain ⟨a0, a1, a2, a3, a4, a5⟩ := hB
    exact ⟨(hW.cell (p := ⟨b, _, none⟩) hbW).trans a0, (hW.cell (p := ⟨b, _, none⟩) hbW).trans a1, (hW.cell (p := ⟨b, _, none⟩) hbW).trans a2, (hW.cell (p := ⟨b, _, none⟩) hbW).trans a3, (hW.cell (p := ⟨b, _, none⟩) hbW).trans a4, (hW.cell (p := ⟨b, _, none⟩) hbW).trans a5⟩
  have HB' := hide hB'
  have HFB := hide hfB
  have HD := hide hD
  obtain ⟨m0, m1, m2, m3, m4, m5⟩ := hA' _ b0
  obtain ⟨d0, d5⟩ := HD.out _ (Below.refl _ _)
  have hcA := hfA _ b0
  clear hD hA hfA hB hB' hfB
  unfold vlV at *
  go_enter Tryz.func11, Tryz.ntmps11
  go_wp2_with fail
  refine hcA.mono ?_
  rintro e w1 ⟨rfl, b1⟩
  have p1 : Below ((W.alloc (.cells #[.int .i64 9, .int .i64 v.k, .int .i64 v.n, .string ⟨v.s.toArray⟩, .string ⟨nm.toArray⟩, .slice (some ⟨b, off, none⟩) 2 ca] 28)).alloc (.cells #[.int .i64 0, .int .i64 0, .string ⟨#[]⟩] 25)).heap.size ((W.alloc (.cells #[.int .i64 9, .int .i64 v.k, .int .i64 v.n, .string ⟨v.s.toArray⟩, .string ⟨nm.toArray⟩, .slice (some ⟨b, off, none⟩) 2 ca] 28)).alloc (.cells #[.int .i64 0, .int .i64 0, .string ⟨#[]⟩] 25)) ((w1.alloc (.cells #[.int .i64 x.k, .int .i64 x.n, .string ⟨x.s.toArray⟩] 25)).alloc (.cells #[.int .i64 x.k, .int .i64 x.n, .string ⟨x.s.toArray⟩] 25)) := (b1.alloc b1.size _).alloc (by have := b1.size; simp at this ⊢; omega) _
  clear hcA m0 m1 m2 m3 m4 m5 d0 d5
  obtain ⟨d0, d5⟩ := HD.out _ p1
  have q2 : Below W.heap.size W ((w1.alloc (.cells #[.int .i64 x.k, .int .i64 x.n, .string ⟨x.s.toArray⟩] 25)).alloc (.cells #[.int .i64 x.k, .int .i64 x.n, .string ⟨x.s.toArray⟩] 25)) := b0.trans (p1.mono b0.size)
  have e2 := (p1.block (W.heap.size + 1) (by omega)).trans c9
  obtain ⟨s, hs⟩ : ∃ s, w1.heap.size = s := ⟨_, rfl⟩
  have k7 : ((w1.alloc (.cells #[.int .i64 x.k, .int .i64 x.n, .string ⟨x.s.toArray⟩] 25)).alloc (.cells #[.int .i64 x.k, .int .i64 x.n, .string ⟨x.s.toArray⟩] 25)).heap[s]? = some (.cells #[.int .i64 x.k, .int .i64 x.n, .string ⟨x.s.toArray⟩] 25) := by
    rw [← hs]
    exact (((Below.refl _ _).alloc (Nat.le_refl (w1.alloc (.cells #[.int .i64 x.k, .int .i64 x.n, .string ⟨x.s.toArray⟩] 25)).heap.size) _).block w1.heap.size (by simp)).trans (heap_alloc_new _ _)
  have k8 : ((w1.alloc (.cells #[.int .i64 x.k, .int .i64 x.n, .string ⟨x.s.toArray⟩] 25)).alloc (.cells #[.int .i64 x.k, .int .i64 x.n, .string ⟨x.s.toArray⟩] 25)).heap[s + 1]? = some (.cells #[.int .i64 x.k, .int .i64 x.n, .string ⟨x.s.toArray⟩] 25) := by
    have hz : (w1.alloc (.cells #[.int .i64 x.k, .int .i64 x.n, .string ⟨x.s.toArray⟩] 25)).heap.size = s + 1 := by rw [← hs]; simp
    rw [← hz]; exact heap_alloc_new _ _
  have zs : ((w1.alloc (.cells #[.int .i64 x.k, .int .i64 x.n, .string ⟨x.s.toArray⟩] 25)).alloc (.cells #[.int .i64 x.k, .int .i64 x.n, .string ⟨x.s.toArray⟩] 25)).heap.size = s + 2 := by rw [← hs]; simp
  have ws : W.heap.size + 2 ≤ s := by rw [← hs, ← z0]; exact b1.size
  have HSS := hide hs
  clear b1 hs
  obtain ⟨m0, m1, m2, m3, m4, m5⟩ := HB'.out _ q2
  have hcB := HFB.out _ q2
  go_wp2_with fail
  rw [HSS.out]
  generalize ((w1.alloc (.cells #[.int .i64 x.k, .int .i64 x.n, .string ⟨x.s.toArray⟩] 25)).alloc (.cells #[.int .i64 x.k, .int .i64 x.n, .string ⟨x.s.toArray⟩] 25)) = w2 at *
  refine hcB.mono ?_
  rintro e w3 ⟨rfl, b3⟩
  have p3 : Below ((W.alloc (.cells #[.int .i64 9, .int .i64 v.k, .int .i64 v.n, .string ⟨v.s.toArray⟩, .string ⟨nm.toArray⟩, .slice (some ⟨b, off, none⟩) 2 ca] 28)).alloc (.cells #[.int .i64 0, .int .i64 0, .string ⟨#[]⟩] 25)).heap.size ((W.alloc (.cells #[.int .i64 9, .int .i64 v.k, .int .i64 v.n, .string ⟨v.s.toArray⟩, .string ⟨nm.toArray⟩, .slice (some ⟨b, off, none⟩) 2 ca] 28)).alloc (.cells #[.int .i64 0, .int .i64 0, .string ⟨#[]⟩] 25)) w3 := p1.trans (b3.mono (by omega))
  have j7 := (b3.block s (by omega)).trans k7
  have j8 := (b3.block (s + 1) (by omega)).trans k8
  have j2 := (b3.block (W.heap.size + 1) (by omega)).trans e2
  have zs3 : s + 2 ≤ w3.heap.size := by have := b3.size; omega
  obtain ⟨⟨g0, g1, g2⟩, f0, f1, f2⟩ := three j8
  have k8' := three_set j8 (.int .i64 y.k) (.int .i64 y.n) (.string ⟨y.s.toArray⟩)
  have p4 : Below (s + 1) w3 (((w3.setCell ⟨s + 1, 0, none⟩ (.int .i64 y.k)).setCell ⟨s + 1, 1, none⟩ (.int .i64 y.n)).setCell ⟨s + 1, 2, none⟩ (.string ⟨y.s.toArray⟩)) := (((Below.refl (s + 1) w3).setCell (p := ⟨s + 1, 0, none⟩) (Nat.le_refl (s + 1)) _).setCell (p := ⟨s + 1, 1, none⟩) (Nat.le_refl (s + 1)) _).setCell (p := ⟨s + 1, 2, none⟩) (Nat.le_refl (s + 1)) _
  have z4 : (((w3.setCell ⟨s + 1, 0, none⟩ (.int .i64 y.k)).setCell ⟨s + 1, 1, none⟩ (.int .i64 y.n)).setCell ⟨s + 1, 2, none⟩ (.string ⟨y.s.toArray⟩)).heap.size = w3.heap.size := by simp
  have p40 : Below ((W.alloc (.cells #[.int .i64 9, .int .i64 v.k, .int .i64 v.n, .string ⟨v.s.toArray⟩, .string ⟨nm.toArray⟩, .slice (some ⟨b, off, none⟩) 2 ca] 28)).alloc (.cells #[.int .i64 0, .int .i64 0, .string ⟨#[]⟩] 25)).heap.size ((W.alloc (.cells #[.int .i64 9, .int .i64 v.k, .int .i64 v.n, .string ⟨v.s.toArray⟩, .string ⟨nm.toArray⟩, .slice (some ⟨b, off, none⟩) 2 ca] 28)).alloc (.cells #[.int .i64 0, .int .i64 0, .string ⟨#[]⟩] 25)) (((w3.setCell ⟨s + 1, 0, none⟩ (.int .i64 y.k)).setCell ⟨s + 1, 1, none⟩ (.int .i64 y.n)).setCell ⟨s + 1, 2, none⟩ (.string ⟨y.s.toArray⟩)) := p3.trans (p4.mono (by omega))
  clear hcB b3 k7 k8 e2 m0 m1 m2 m3 m4 m5 d0 d5 p1 q2 p3 j8 zs HFB HB' HSS
  go_wp2_with fail
  generalize (((w3.setCell ⟨s + 1, 0, none⟩ (.int .i64 y.k)).setCell ⟨s + 1, 1, none⟩ (.int .i64 y.n)).setCell ⟨s + 1, 2, none⟩ (.string ⟨y.s.toArray⟩)) = w4 at *
  have k7 := (p4.block s (by omega)).trans j7
  have e4 := (p4.block (W.heap.size + 1) (by omega)).trans j2
  have ws4 : s + 2 ≤ w4.heap.size := by omega
  obtain ⟨⟨x0, x1, x2⟩, -⟩ := three k7
  obtain ⟨⟨y0, y1, y2⟩, -⟩ := three k8'
  clear j7 j2 p4 z4 zs3 k7 k8' g0 g1 g2 f0 f1 f2
  have hx4 : ∀ W' : World, Below w4.heap.size w4 W' → W'.cell? ⟨s, 0, none⟩ = some (.int .i64 x.k) ∧ W'.cell? ⟨s, 1, none⟩ = some (.int .i64 x.n) ∧ W'.cell? ⟨s, 2, none⟩ = some (.string ⟨x.s.toArray⟩) := fun W' hW => ⟨(hW.cell (p := ⟨s, _, none⟩) (by show s < _; omega)).trans x0, (hW.cell (p := ⟨s, _, none⟩) (by show s < _; omega)).trans x1, (hW.cell (p := ⟨s, _, none⟩) (by show s < _; omega)).trans x2⟩
  have hy4 : ∀ W' : World, Below w4.heap.size w4 W' → W'.cell? ⟨s + 1, 0, none⟩ = some (.int .i64 y.k) ∧ W'.cell? ⟨s + 1, 1, none⟩ = some (.int .i64 y.n) ∧ W'.cell? ⟨s + 1, 2, none⟩ = some (.string ⟨y.s.toArray⟩) := fun W' hW => ⟨(hW.cell (p := ⟨s + 1, _, none⟩) (by show s + 1 < _; omega)).trans y0, (hW.cell (p := ⟨s + 1, _, none⟩) (by show s + 1 < _; omega)).trans y1, (hW.cell (p := ⟨s + 1, _, none⟩) (by show s + 1 < _; omega)).trans y2⟩
  have HX4 := hide hx4
  have HY4 := hide hy4
  clear hx4 hy4 x0 x1 x2 y0 y1 y2
  refine wp_region_as rv9_R (by kernel_rfl) ?_
  refine rv9_wp (a := x) (b := y) (ba := s) (bb := s + 1) (S := fun W' => Below w4.heap.size w4 W') rfl rfl (fun W' h => ⟨(HX4.out W' h).1, (HX4.out W' h).2.1⟩) (fun W' h => ⟨(HY4.out W' h).1, (HY4.out W' h).2.1⟩) rfl (Below.refl _ _).drew ?_
  intro w5 b5
  obtain ⟨NV, hNV⟩ : ∃ NV, rv9_V x y s (s + 1) = NV := ⟨_, rfl⟩
  have v36 : NV 36 = .bool (rv9_b63 x y) := by rw [← hNV]; rfl
  have v37 : NV 37 = .bool (rv9_b81 x y) := by rw [← hNV]; rfl
  rw [hNV]
  obtain ⟨NO, hNO⟩ : ∃ NO, rv9_b63 x y = NO := ⟨_, rfl⟩
  obtain ⟨YES, hYES⟩ : ∃ YES, rv9_b81 x y = YES := ⟨_, rfl⟩
  rw [hNO] at v36
  rw [hYES] at v37
  have HNO := hide hNO
  have HYES := hide hYES
  clear hNV hNO hYES
  have p5 : Below ((W.alloc (.cells #[.int .i64 9, .int .i64 v.k, .int .i64 v.n, .string ⟨v.s.toArray⟩, .string ⟨nm.toArray⟩, .slice (some ⟨b, off, none⟩) 2 ca] 28)).alloc (.cells #[.int .i64 0, .int .i64 0, .string ⟨#[]⟩] 25)).heap.size ((W.alloc (.cells #[.int .i64 9, .int .i64 v.k, .int .i64 v.n, .string ⟨v.s.toArray⟩, .string ⟨nm.toArray⟩, .slice (some ⟨b, off, none⟩) 2 ca] 28)).alloc (.cells #[.int .i64 0, .int .i64 0, .string ⟨#[]⟩] 25)) w5 := p40.trans (b5.mono (by omega))
  have q5 : Below W.heap.size W w5 := b0.trans (p5.mono b0.size)
  have e5 := (b5.block (W.heap.size + 1) (by omega)).trans e4
  obtain ⟨x0, x1, x2⟩ := HX4.out w5 b5
  obtain ⟨y0, y1, y2⟩ := HY4.out w5 b5
  obtain ⟨d0, d5⟩ := HD.out w5 p5
  have ws5 : W.heap.size + 2 ≤ w5.heap.size := by have := b5.size; omega
  clear b5 p5 p40 e4 HX4 HY4 HD b0 c9 z0 ws4
  refine ‹∀ (a : Act) (w : World), Code.wp _ _ _ a w → _› _ _ ?_
  simp only [rv9_d, putL, List.range, List.range.loop, List.map_cons, List.map_nil, List.zip_cons_cons, List.zip_nil_left, List.set_cons_succ, List.set_cons_zero, v36, v37]
  by_cases h0 : x.k = 0
  · have t0 : (x.k == 0) = true := by simpa using h0
    have HE : Hid (O = vl0) := by rw [Hid, ← HO.out, opR_9, if_pos (.inl h0)]
    have ew5 := e5
    obtain ⟨⟨g0, g1, g2⟩, f0, f1, f2⟩ := three ew5
    obtain ⟨⟨s0, s1, s2⟩, -⟩ := three (three_set ew5 (.int .i64 0) (.int .i64 0) (.string ⟨#[]⟩))
    go_wp2_with fail
    have q9 : Below W.heap.size W (((w5.setCell ⟨W.heap.size + 1, 0, none⟩ (.int .i64 0)).setCell ⟨W.heap.size + 1, 1, none⟩ (.int .i64 0)).setCell ⟨W.heap.size + 1, 2, none⟩ (.string ⟨#[]⟩)) := ((q5.setCell (by simp) _).setCell (by simp) _).setCell (by simp) _
    generalize (((w5.setCell ⟨W.heap.size + 1, 0, none⟩ (.int .i64 0)).setCell ⟨W.heap.size + 1, 1, none⟩ (.int .i64 0)).setCell ⟨W.heap.size + 1, 2, none⟩ (.string ⟨#[]⟩)) = w9 at *
    rw [HE.out]
    refine bodyPost_ret (v := .agg #[.int .i64 0, .int .i64 0, .string ⟨#[]⟩]) ?_ rfl ⟨rfl, q9⟩
    simp [results, Tryz.results11, go_sem, s0, s1, s2]
  · have t0 : (x.k == 0) = false := by simpa using h0
    by_cases h1 : y.k = 0
    · have t1 : (y.k == 0) = true := by simpa using h1
      have HE : Hid (O = vl0) := by rw [Hid, ← HO.out, opR_9, if_pos (.inr h1)]
      have ew5 := e5
      obtain ⟨⟨g0, g1, g2⟩, f0, f1, f2⟩ := three ew5
      obtain ⟨⟨s0, s1, s2⟩, -⟩ := three (three_set ew5 (.int .i64 0) (.int .i64 0) (.string ⟨#[]⟩))
      go_wp2_with fail
      have q9 : Below W.heap.size W (((w5.setCell ⟨W.heap.size + 1, 0, none⟩ (.int .i64 0)).setCell ⟨W.heap.size + 1, 1, none⟩ (.int .i64 0)).setCell ⟨W.heap.size + 1, 2, none⟩ (.string ⟨#[]⟩)) := ((q5.setCell (by simp) _).setCell (by simp) _).setCell (by simp) _
      generalize (((w5.setCell ⟨W.heap.size + 1, 0, none⟩ (.int .i64 0)).setCell ⟨W.heap.size + 1, 1, none⟩ (.int .i64 0)).setCell ⟨W.heap.size + 1, 2, none⟩ (.string ⟨#[]⟩)) = w9 at *
      rw [HE.out]
      refine bodyPost_ret (v := .agg #[.int .i64 0, .int .i64 0, .string ⟨#[]⟩]) ?_ rfl ⟨rfl, q9⟩
      simp [results, Tryz.results11, go_sem, s0, s1, s2]
    · have t1 : (y.k == 0) = false := by simpa using h1
      have hnn : ¬ (x.k = 0 ∨ y.k = 0) := by rintro (h | h); exact h0 h; exact h1 h
      have ew5 := e5
      by_cases hl : 20 < x.s.length + y.s.length
      · have t3 : (20 : Int) < (x.s.length : Int) + (y.s.length : Int) := by omega
        have HE : Hid (O = vl0) := by rw [Hid, ← HO.out, opR_9, if_neg hnn, if_pos hl]
        obtain ⟨⟨g0, g1, g2⟩, f0, f1, f2⟩ := three ew5
        obtain ⟨⟨s0, s1, s2⟩, -⟩ := three (three_set ew5 (.int .i64 0) (.int .i64 0) (.string ⟨#[]⟩))
        go_wp2_with fail
        have q9 : Below W.heap.size W (((w5.setCell ⟨W.heap.size + 1, 0, none⟩ (.int .i64 0)).setCell ⟨W.heap.size + 1, 1, none⟩ (.int .i64 0)).setCell ⟨W.heap.size + 1, 2, none⟩ (.string ⟨#[]⟩)) := ((q5.setCell (by simp) _).setCell (by simp) _).setCell (by simp) _
        generalize (((w5.setCell ⟨W.heap.size + 1, 0, none⟩ (.int .i64 0)).setCell ⟨W.heap.size + 1, 1, none⟩ (.int .i64 0)).setCell ⟨W.heap.size + 1, 2, none⟩ (.string ⟨#[]⟩)) = w9 at *
        rw [HE.out]
        refine bodyPost_ret (v := .agg #[.int .i64 0, .int .i64 0, .string ⟨#[]⟩]) ?_ rfl ⟨rfl, q9⟩
        simp [results, Tryz.results11, go_sem, s0, s1, s2]
      · have t3 : ¬ ((20 : Int) < (x.s.length : Int) + (y.s.length : Int)) := by omega
        have HE : Hid (O = ⟨2, 0, x.s ++ y.s⟩) := by rw [Hid, ← HO.out, opR_9, if_neg hnn, if_neg hl]
        obtain ⟨⟨g0, g1, g2⟩, f0, f1, f2⟩ := three ew5
        obtain ⟨⟨s0, s1, s2⟩, -⟩ := three (three_set ew5 (.int .i64 2) (.int .i64 0) (.string ((⟨x.s.toArray⟩ : ByteArray) ++ ⟨y.s.toArray⟩)))
        go_wp2_with fail
        have q9 : Below W.heap.size W (((w5.setCell ⟨W.heap.size + 1, 0, none⟩ (.int .i64 2)).setCell ⟨W.heap.size + 1, 1, none⟩ (.int .i64 0)).setCell ⟨W.heap.size + 1, 2, none⟩ (.string ((⟨x.s.toArray⟩ : ByteArray) ++ ⟨y.s.toArray⟩))) := ((q5.setCell (by simp) _).setCell (by simp) _).setCell (by simp) _
        generalize (((w5.setCell ⟨W.heap.size + 1, 0, none⟩ (.int .i64 2)).setCell ⟨W.heap.size + 1, 1, none⟩ (.int .i64 0)).setCell ⟨W.heap.size + 1, 2, none⟩ (.string ((⟨x.s.toArray⟩ : ByteArray) ++ ⟨y.s.toArray⟩))) = w9 at *
        rw [HE.out]
        refine bodyPost_ret (v := .agg #[.int .i64 2, .int .i64 0, .string ((⟨x.s.toArray⟩ : ByteArray) ++ ⟨y.s.toArray⟩)]) ?_ rfl ⟨by rw [bytes_cat], q9⟩
        simp [results, Tryz.results11, go_sem, s0, s1, s2]

set_option maxRecDepth 100000 in
set_option maxHeartbeats 3200000 in
theorem rva_10 (cv rv : Value) (v : Vl) (nm : List UInt8) (b off ca : Nat) (W : World) (x y O : Vl) (hO : opR 10 x y = O) (hx : chkV x.k x.n x.s = 0) (hy : chkV y.k y.n y.s = 0) (hbW : b < W.heap.size)
    (kA : Int) (vA : Vl) (nmA : List UInt8) (aoA : Option Addr) (nA caA : Nat) (hA : (W.cell? ⟨b, off, none⟩ = some (.int .i64 kA) ∧ W.cell? ⟨b, off + 1, none⟩ = some (.int .i64 vA.k) ∧ W.cell? ⟨b, off + 2, none⟩ = some (.int .i64 vA.n) ∧ W.cell? ⟨b, off + 3, none⟩ = some (.string ⟨vA.s.toArray⟩) ∧ W.cell? ⟨b, off + 4, none⟩ = some (.string ⟨nmA.toArray⟩) ∧ W.cell? ⟨b, off + 5, none⟩ = some (.slice aoA nA caA)))
    (hfA : ∀ W' : World, Below W.heap.size W W' → Calls Tryz.prog 11 #[cv, rv, exL kA vA nmA (.slice aoA nA caA)] W' fun e w' => e = .returned (vlV x) ∧ Below W'.heap.size W' w')
    (kB : Int) (vB : Vl) (nmB : List UInt8) (aoB : Option Addr) (nB caB : Nat) (hB : (W.cell? ⟨b, off + 6, none⟩ = some (.int .i64 kB) ∧ W.cell? ⟨b, off + 7, none⟩ = some (.int .i64 vB.k) ∧ W.cell? ⟨b, off + 8, none⟩ = some (.int .i64 vB.n) ∧ W.cell? ⟨b, off + 9, none⟩ = some (.string ⟨vB.s.toArray⟩) ∧ W.cell? ⟨b, off + 10, none⟩ = some (.string ⟨nmB.toArray⟩) ∧ W.cell? ⟨b, off + 11, none⟩ = some (.slice aoB nB caB)))
    (hfB : ∀ W' : World, Below W.heap.size W W' → Calls Tryz.prog 11 #[cv, rv, exL kB vB nmB (.slice aoB nB caB)] W' fun e w' => e = .returned (vlV y) ∧ Below W'.heap.size W' w')
    :
    Calls Tryz.prog 11 #[cv, rv, exL 10 v nm (.slice (some ⟨b, off, none⟩) 2 ca)] W fun e w' => e = .returned (vlV O) ∧ Below W.heap.size W w' := by
  have HO := hide hO
  obtain ⟨xb1, xb2, xb3⟩ := bounds_of hx
  obtain ⟨yb1, yb2, yb3⟩ := bounds_of hy
  have HY := hide hy
  clear hy
  have HX := hide hx
  clear hO hx
  have b0 := ((Below.refl W.heap.size W).alloc (Nat.le_refl _) (.cells #[.int .i64 10, .int .i64 v.k, .int .i64 v.n, .string ⟨v.s.toArray⟩, .string ⟨nm.toArray⟩, .slice (some ⟨b, off, none⟩) 2 ca] 28)).alloc (by simp) (.cells #[.int .i64 0, .int .i64 0, .string ⟨#[]⟩] 25)
  have hD : ∀ W' : World, Below ((W.alloc (.cells #[.int .i64 10, .int .i64 v.k, .int .i64 v.n, .string ⟨v.s.toArray⟩, .string ⟨nm.toArray⟩, .slice (some ⟨b, off, none⟩) 2 ca] 28)).alloc (.cells #[.int .i64 0, .int .i64 0, .string ⟨#[]⟩] 25)).heap.size ((W.alloc (.cells #[.int .i64 10, .int .i64 v.k, .int .i64 v.n, .string ⟨v.s.toArray⟩, .string ⟨nm.toArray⟩, .slice (some ⟨b, off, none⟩) 2 ca] 28)).alloc (.cells #[.int .i64 0, .int .i64 0, .string ⟨#[]⟩] 25)) W' → W'.cell? ⟨W.heap.size, 0, none⟩ = some (.int .i64 10) ∧ W'.cell? ⟨W.heap.size, 5, none⟩ = some (.slice (some ⟨b, off, none⟩) 2 ca) := fun W' hW =>
    ⟨(hW.cell (p := ⟨W.heap.size, 0, none⟩) (by simp; omega)).trans (by simp), (hW.cell (p := ⟨W.heap.size, 5, none⟩) (by simp; omega)).trans (by simp)⟩
  have c9 : ((W.alloc (.cells #[.int .i64 10, .int .i64 v.k, .int .i64 v.n, .string ⟨v.s.toArray⟩, .string ⟨nm.toArray⟩, .slice (some ⟨b, off, none⟩) 2 ca] 28)).alloc (.cells #[.int .i64 0, .int .i64 0, .string ⟨#[]⟩] 25)).heap[W.heap.size + 1]? = some (.cells #[.int .i64 0, .int .i64 0, .string ⟨#[]⟩] 25) := by
    have hz : (W.alloc (.cells #[.int .i64 10, .int .i64 v.k, .int .i64 v.n, .string ⟨v.s.toArray⟩, .string ⟨nm.toArray⟩, .slice (some ⟨b, off, none⟩) 2 ca] 28)).heap.size = W.heap.size + 1 := by simp
    rw [← hz]; exact heap_alloc_new _ _
  have z0 : ((W.alloc (.cells #[.int .i64 10, .int .i64 v.k, .int .i64 v.n, .string ⟨v.s.toArray⟩, .string ⟨nm.toArray⟩, .slice (some ⟨b, off, none⟩) 2 ca] 28)).alloc (.cells #[.int .i64 0, .int .i64 0, .string ⟨#[]⟩] 25)).heap.size = W.heap.size + 2 := by simp
  have hA' : ∀ W' : World, Below W.heap.size W W' → (W'.cell? ⟨b, off, none⟩ = some (.int .i64 kA) ∧ W'.cell? ⟨b, off + 1, none⟩ = some (.int .i64 vA.k) ∧ W'.cell? ⟨b, off + 2, none⟩ = some (.int .i64 vA.n) ∧ W'.cell? ⟨b, off + 3, none⟩ = some (.string ⟨vA.s.toArray⟩) ∧ W'.cell? ⟨b, off + 4, none⟩ = some (.string ⟨nmA.toArray⟩) ∧ W'.cell? ⟨b, off + 5, none⟩ = some (.slice aoA nA caA)) := fun W' hW => by
    obtain ⟨a0, a1, a2, a3, a4, a5⟩ := hA
    exact ⟨(hW.cell (p := ⟨b, _, none⟩) hbW).trans a0, (hW.cell (p := ⟨b, _, none⟩) hbW).trans a1, (hW.cell (p := ⟨b, _, none⟩) hbW).trans a2, (hW.cell (p := ⟨b, _, none⟩) hbW).trans a3, (hW.cell (p := ⟨b, _, none⟩) hbW).trans a4, (hW.cell (p := ⟨b, _, none⟩) hbW).trans a5⟩
  have hB' : ∀ W' : World, Below W.heap.size W W' → (W'.cell? ⟨b, off + 6, none⟩ = some (.int .i64 kB) ∧ W'.cell? ⟨b, off + 7, none⟩ = some (.int .i64 vB.k) ∧ W'.cell? ⟨b, off + 8, none⟩ = some (.int .i64 vB.n) ∧ W'.cell? ⟨b, off + 9, none⟩ = some (.string ⟨vB.s.toArray⟩) ∧ W'.cell? ⟨b, off + 10, none⟩ = some (.string ⟨nmB.toArray⟩) ∧ W'.cell? ⟨b, off + 11, none⟩ = some (.slice aoB nB caB)) := fun W' hW => by
    obtain ⟨a0, a1, a2, a3, a4, a5⟩ := hB
    exact ⟨(hW.cell (p := ⟨b, _, none⟩) hbW).trans a0, (hW.cell (p := ⟨b, _, none⟩) hbW).trans a1, (hW.cell (p := ⟨b, _, none⟩) hbW).trans a2, (hW.cell (p := ⟨b, _, none⟩) hbW).trans a3, (hW.cell (p := ⟨b, _, none⟩) hbW).trans a4, (hW.cell (p := ⟨b, _, none⟩) hbW).trans a5⟩
  have HB' := hide hB'
  have HFB := hide hfB
  have HD := hide hD
  obtain ⟨m0, m1, m2, m3, m4, m5⟩ := hA' _ b0
  obtain ⟨d0, d5⟩ := HD.out _ (Below.refl _ _)
  have hcA := hfA _ b0
  clear hD hA hfA hB hB' hfB
  unfold vlV at *
  go_enter Tryz.func11, Tryz.ntmps11
  go_wp2_with fail
  refine hcA.mono ?_
  rintro e w1 ⟨rfl, b1⟩
  have p1 : Below ((W.alloc (.cells #[.int .i64 10, .int .i64 v.k, .int .i64 v.n, .string ⟨v.s.toArray⟩, .string ⟨nm.toArray⟩, .slice (some ⟨b, off, none⟩) 2 ca] 28)).alloc (.cells #[.int .i64 0, .int .i64 0, .string ⟨#[]⟩] 25)).heap.size ((W.alloc (.cells #[.int .i64 10, .int .i64 v.k, .int .i64 v.n, .string ⟨v.s.toArray⟩, .string ⟨nm.toArray⟩, .slice (some ⟨b, off, none⟩) 2 ca] 28)).alloc (.cells #[.int .i64 0, .int .i64 0, .string ⟨#[]⟩] 25)) ((w1.alloc (.cells #[.int .i64 x.k, .int .i64 x.n, .string ⟨x.s.toArray⟩] 25)).alloc (.cells #[.int .i64 x.k, .int .i64 x.n, .string ⟨x.s.toArray⟩] 25)) := (b1.alloc b1.size _).alloc (by have := b1.size; simp at this ⊢; omega) _
  clear hcA m0 m1 m2 m3 m4 m5 d0 d5
  obtain ⟨d0, d5⟩ := HD.out _ p1
  have q2 : Below W.heap.size W ((w1.alloc (.cells #[.int .i64 x.k, .int .i64 x.n, .string ⟨x.s.toArray⟩] 25)).alloc (.cells #[.int .i64 x.k, .int .i64 x.n, .string ⟨x.s.toArray⟩] 25)) := b0.trans (p1.mono b0.size)
  have e2 := (p1.block (W.heap.size + 1) (by omega)).trans c9
  obtain ⟨s, hs⟩ : ∃ s, w1.heap.size = s := ⟨_, rfl⟩
  have k7 : ((w1.alloc (.cells #[.int .i64 x.k, .int .i64 x.n, .string ⟨x.s.toArray⟩] 25)).alloc (.cells #[.int .i64 x.k, .int .i64 x.n, .string ⟨x.s.toArray⟩] 25)).heap[s]? = some (.cells #[.int .i64 x.k, .int .i64 x.n, .string ⟨x.s.toArray⟩] 25) := by
    rw [← hs]
    exact (((Below.refl _ _).alloc (Nat.le_refl (w1.alloc (.cells #[.int .i64 x.k, .int .i64 x.n, .string ⟨x.s.toArray⟩] 25)).heap.size) _).block w1.heap.size (by simp)).trans (heap_alloc_new _ _)
  have k8 : ((w1.alloc (.cells #[.int .i64 x.k, .int .i64 x.n, .string ⟨x.s.toArray⟩] 25)).alloc (.cells #[.int .i64 x.k, .int .i64 x.n, .string ⟨x.s.toArray⟩] 25)).heap[s + 1]? = some (.cells #[.int .i64 x.k, .int .i64 x.n, .string ⟨x.s.toArray⟩] 25) := by
    have hz : (w1.alloc (.cells #[.int .i64 x.k, .int .i64 x.n, .string ⟨x.s.toArray⟩] 25)).heap.size = s + 1 := by rw [← hs]; simp
    rw [← hz]; exact heap_alloc_new _ _
  have zs : ((w1.alloc (.cells #[.int .i64 x.k, .int .i64 x.n, .string ⟨x.s.toArray⟩] 25)).alloc (.cells #[.int .i64 x.k, .int .i64 x.n, .string ⟨x.s.toArray⟩] 25)).heap.size = s + 2 := by rw [← hs]; simp
  have ws : W.heap.size + 2 ≤ s := by rw [← hs, ← z0]; exact b1.size
  have HSS := hide hs
  clear b1 hs
  obtain ⟨m0, m1, m2, m3, m4, m5⟩ := HB'.out _ q2
  have hcB := HFB.out _ q2
  go_wp2_with fail
  rw [HSS.out]
  generalize ((w1.alloc (.cells #[.int .i64 x.k, .int .i64 x.n, .string ⟨x.s.toArray⟩] 25)).alloc (.cells #[.int .i64 x.k, .int .i64 x.n, .string ⟨x.s.toArray⟩] 25)) = w2 at *
  refine hcB.mono ?_
  rintro e w3 ⟨rfl, b3⟩
  have p3 : Below ((W.alloc (.cells #[.int .i64 10, .int .i64 v.k, .int .i64 v.n, .string ⟨v.s.toArray⟩, .string ⟨nm.toArray⟩, .slice (some ⟨b, off, none⟩) 2 ca] 28)).alloc (.cells #[.int .i64 0, .int .i64 0, .string ⟨#[]⟩] 25)).heap.size ((W.alloc (.cells #[.int .i64 10, .int .i64 v.k, .int .i64 v.n, .string ⟨v.s.toArray⟩, .string ⟨nm.toArray⟩, .slice (some ⟨b, off, none⟩) 2 ca] 28)).alloc (.cells #[.int .i64 0, .int .i64 0, .string ⟨#[]⟩] 25)) w3 := p1.trans (b3.mono (by omega))
  have j7 := (b3.block s (by omega)).trans k7
  have j8 := (b3.block (s + 1) (by omega)).trans k8
  have j2 := (b3.block (W.heap.size + 1) (by omega)).trans e2
  have zs3 : s + 2 ≤ w3.heap.size := by have := b3.size; omega
  obtain ⟨⟨g0, g1, g2⟩, f0, f1, f2⟩ := three j8
  have k8' := three_set j8 (.int .i64 y.k) (.int .i64 y.n) (.string ⟨y.s.toArray⟩)
  have p4 : Below (s + 1) w3 (((w3.setCell ⟨s + 1, 0, none⟩ (.int .i64 y.k)).setCell ⟨s + 1, 1, none⟩ (.int .i64 y.n)).setCell ⟨s + 1, 2, none⟩ (.string ⟨y.s.toArray⟩)) := (((Below.refl (s + 1) w3).setCell (p := ⟨s + 1, 0, none⟩) (Nat.le_refl (s + 1)) _).setCell (p := ⟨s + 1, 1, none⟩) (Nat.le_refl (s + 1)) _).setCell (p := ⟨s + 1, 2, none⟩) (Nat.le_refl (s + 1)) _
  have z4 : (((w3.setCell ⟨s + 1, 0, none⟩ (.int .i64 y.k)).setCell ⟨s + 1, 1, none⟩ (.int .i64 y.n)).setCell ⟨s + 1, 2, none⟩ (.string ⟨y.s.toArray⟩)).heap.size = w3.heap.size := by simp
  have p40 : Below ((W.alloc (.cells #[.int .i64 10, .int .i64 v.k, .int .i64 v.n, .string ⟨v.s.toArray⟩, .string ⟨nm.toArray⟩, .slice (some ⟨b, off, none⟩) 2 ca] 28)).alloc (.cells #[.int .i64 0, .int .i64 0, .string ⟨#[]⟩] 25)).heap.size ((W.alloc (.cells #[.int .i64 10, .int .i64 v.k, .int .i64 v.n, .string ⟨v.s.toArray⟩, .string ⟨nm.toArray⟩, .slice (some ⟨b, off, none⟩) 2 ca] 28)).alloc (.cells #[.int .i64 0, .int .i64 0, .string ⟨#[]⟩] 25)) (((w3.setCell ⟨s + 1, 0, none⟩ (.int .i64 y.k)).setCell ⟨s + 1, 1, none⟩ (.int .i64 y.n)).setCell ⟨s + 1, 2, none⟩ (.string ⟨y.s.toArray⟩)) := p3.trans (p4.mono (by omega))
  clear hcB b3 k7 k8 e2 m0 m1 m2 m3 m4 m5 d0 d5 p1 q2 p3 j8 zs HFB HB' HSS
  go_wp2_with fail
  generalize (((w3.setCell ⟨s + 1, 0, none⟩ (.int .i64 y.k)).setCell ⟨s + 1, 1, none⟩ (.int .i64 y.n)).setCell ⟨s + 1, 2, none⟩ (.string ⟨y.s.toArray⟩)) = w4 at *
  have k7 := (p4.block s (by omega)).trans j7
  have e4 := (p4.block (W.heap.size + 1) (by omega)).trans j2
  have ws4 : s + 2 ≤ w4.heap.size := by omega
  obtain ⟨⟨x0, x1, x2⟩, -⟩ := three k7
  obtain ⟨⟨y0, y1, y2⟩, -⟩ := three k8'
  clear j7 j2 p4 z4 zs3 k7 k8' g0 g1 g2 f0 f1 f2
  have hx4 : ∀ W' : World, Below w4.heap.size w4 W' → W'.cell? ⟨s, 0, none⟩ = some (.int .i64 x.k) ∧ W'.cell? ⟨s, 1, none⟩ = some (.int .i64 x.n) ∧ W'.cell? ⟨s, 2, none⟩ = some (.string ⟨x.s.toArray⟩) := fun W' hW => ⟨(hW.cell (p := ⟨s, _, none⟩) (by show s < _; omega)).trans x0, (hW.cell (p := ⟨s, _, none⟩) (by show s < _; omega)).trans x1, (hW.cell (p := ⟨s, _, none⟩) (by show s < _; omega)).trans x2⟩
  have hy4 : ∀ W' : World, Below w4.heap.size w4 W' → W'.cell? ⟨s + 1, 0, none⟩ = some (.int .i64 y.k) ∧ W'.cell? ⟨s + 1, 1, none⟩ = some (.int .i64 y.n) ∧ W'.cell? ⟨s + 1, 2, none⟩ = some (.string ⟨y.s.toArray⟩) := fun W' hW => ⟨(hW.cell (p := ⟨s + 1, _, none⟩) (by show s + 1 < _; omega)).trans y0, (hW.cell (p := ⟨s + 1, _, none⟩) (by show s + 1 < _; omega)).trans y1, (hW.cell (p := ⟨s + 1, _, none⟩) (by show s + 1 < _; omega)).trans y2⟩
  have HX4 := hide hx4
  have HY4 := hide hy4
  clear hx4 hy4 x0 x1 x2 y0 y1 y2
  refine wp_region_as rv9_R (by kernel_rfl) ?_
  refine rv9_wp (a := x) (b := y) (ba := s) (bb := s + 1) (S := fun W' => Below w4.heap.size w4 W') rfl rfl (fun W' h => ⟨(HX4.out W' h).1, (HX4.out W' h).2.1⟩) (fun W' h => ⟨(HY4.out W' h).1, (HY4.out W' h).2.1⟩) rfl (Below.refl _ _).drew ?_
  intro w5 b5
  obtain ⟨NV, hNV⟩ : ∃ NV, rv9_V x y s (s + 1) = NV := ⟨_, rfl⟩
  have v36 : NV 36 = .bool (rv9_b63 x y) := by rw [← hNV]; rfl
  have v37 : NV 37 = .bool (rv9_b81 x y) := by rw [← hNV]; rfl
  rw [hNV]
  obtain ⟨NO, hNO⟩ : ∃ NO, rv9_b63 x y = NO := ⟨_, rfl⟩
  obtain ⟨YES, hYES⟩ : ∃ YES, rv9_b81 x y = YES := ⟨_, rfl⟩
  rw [hNO] at v36
  rw [hYES] at v37
  have HNO := hide hNO
  have HYES := hide hYES
  clear hNV hNO hYES
  have p5 : Below ((W.alloc (.cells #[.int .i64 10, .int .i64 v.k, .int .i64 v.n, .string ⟨v.s.toArray⟩, .string ⟨nm.toArray⟩, .slice (some ⟨b, off, none⟩) 2 ca] 28)).alloc (.cells #[.int .i64 0, .int .i64 0, .string ⟨#[]⟩] 25)).heap.size ((W.alloc (.cells #[.int .i64 10, .int .i64 v.k, .int .i64 v.n, .string ⟨v.s.toArray⟩, .string ⟨nm.toArray⟩, .slice (some ⟨b, off, none⟩) 2 ca] 28)).alloc (.cells #[.int .i64 0, .int .i64 0, .string ⟨#[]⟩] 25)) w5 := p40.trans (b5.mono (by omega))
  have q5 : Below W.heap.size W w5 := b0.trans (p5.mono b0.size)
  have e5 := (b5.block (W.heap.size + 1) (by omega)).trans e4
  obtain ⟨x0, x1, x2⟩ := HX4.out w5 b5
  obtain ⟨y0, y1, y2⟩ := HY4.out w5 b5
  obtain ⟨d0, d5⟩ := HD.out w5 p5
  have ws5 : W.heap.size + 2 ≤ w5.heap.size := by have := b5.size; omega
  clear b5 p5 p40 e4 HX4 HY4 HD b0 c9 z0 ws4
  refine ‹∀ (a : Act) (w : World), Code.wp _ _ _ a w → _› _ _ ?_
  simp only [rv9_d, putL, List.range, List.range.loop, List.map_cons, List.map_nil, List.zip_cons_cons, List.zip_nil_left, List.set_cons_succ, List.set_cons_zero, v36, v37]
  by_cases h0 : x.k = 0
  · have t0 : (x.k == 0) = true := by simpa using h0
    have HE : Hid (O = vl0) := by rw [Hid, ← HO.out, opR_10, if_pos (.inl h0)]
    have ew5 := e5
    obtain ⟨⟨g0, g1, g2⟩, f0, f1, f2⟩ := three ew5
    obtain ⟨⟨s0, s1, s2⟩, -⟩ := three (three_set ew5 (.int .i64 0) (.int .i64 0) (.string ⟨#[]⟩))
    go_wp2_with fail
    have q9 : Below W.heap.size W (((w5.setCell ⟨W.heap.size + 1, 0, none⟩ (.int .i64 0)).setCell ⟨W.heap.size + 1, 1, none⟩ (.int .i64 0)).setCell ⟨W.heap.size + 1, 2, none⟩ (.string ⟨#[]⟩)) := ((q5.setCell (by simp) _).setCell (by simp) _).setCell (by simp) _
    generalize (((w5.setCell ⟨W.heap.size + 1, 0, none⟩ (.int .i64 0)).setCell ⟨W.heap.size + 1, 1, none⟩ (.int .i64 0)).setCell ⟨W.heap.size + 1, 2, none⟩ (.string ⟨#[]⟩)) = w9 at *
    rw [HE.out]
    refine bodyPost_ret (v := .agg #[.int .i64 0, .int .i64 0, .string ⟨#[]⟩]) ?_ rfl ⟨rfl, q9⟩
    simp [results, Tryz.results11, go_sem, s0, s1, s2]
  · have t0 : (x.k == 0) = false := by simpa using h0
    by_cases h1 : y.k = 0
    · have t1 : (y.k == 0) = true := by simpa using h1
      have HE : Hid (O = vl0) := by rw [Hid, ← HO.out, opR_10, if_pos (.inr h1)]
      have ew5 := e5
      obtain ⟨⟨g0, g1, g2⟩, f0, f1, f2⟩ := three ew5
      obtain ⟨⟨s0, s1, s2⟩, -⟩ := three (three_set ew5 (.int .i64 0) (.int .i64 0) (.string ⟨#[]⟩))
      go_wp2_with fail
      have q9 : Below W.heap.size W (((w5.setCell ⟨W.heap.size + 1, 0, none⟩ (.int .i64 0)).setCell ⟨W.heap.size + 1, 1, none⟩ (.int .i64 0)).setCell ⟨W.heap.size + 1, 2, none⟩ (.string ⟨#[]⟩)) := ((q5.setCell (by simp) _).setCell (by simp) _).setCell (by simp) _
      generalize (((w5.setCell ⟨W.heap.size + 1, 0, none⟩ (.int .i64 0)).setCell ⟨W.heap.size + 1, 1, none⟩ (.int .i64 0)).setCell ⟨W.heap.size + 1, 2, none⟩ (.string ⟨#[]⟩)) = w9 at *
      rw [HE.out]
      refine bodyPost_ret (v := .agg #[.int .i64 0, .int .i64 0, .string ⟨#[]⟩]) ?_ rfl ⟨rfl, q9⟩
      simp [results, Tryz.results11, go_sem, s0, s1, s2]
    · have t1 : (y.k == 0) = false := by simpa using h1
      have hnn : ¬ (x.k = 0 ∨ y.k = 0) := by rintro (h | h); exact h0 h; exact h1 h
      have ho := orv_any x.k x.n y.k y.n ⟨x.s.toArray⟩ ⟨y.s.toArray⟩ w5 (by rw [size_mk]; omega) (by rw [size_mk]; omega)
      have ea : (⟨x.s.toArray⟩ : ByteArray).data.toList = x.s := by simp
      have eb : (⟨y.s.toArray⟩ : ByteArray).data.toList = y.s := by simp
      rw [ea, eb] at ho
      obtain ⟨D, hD⟩ : ∃ D, ordV x.k x.n x.s y.k y.n y.s = D := ⟨_, rfl⟩
      rw [hD] at ho
      have HD := hide hD
      clear ea eb hD
      go_wp2_with fail
      refine ho.mono ?_
      rintro e wo ⟨rfl, bo⟩
      have qo : Below W.heap.size W wo := q5.trans (bo.mono q5.size)
      have eo := (bo.block (W.heap.size + 1) (by omega)).trans e5
      have wso : W.heap.size + 2 ≤ wo.heap.size := by have := bo.size; omega
      clear ho bo e5 q5 ws5 x0 x1 x2 y0 y1 y2 d0 d5
      by_cases hd : D < 0
      · have t3 : (D < 0) = True := eq_true hd
        have HE : Hid (O = truthV true) := by rw [Hid, ← HO.out, opR_10, if_neg hnn, HD.out, decide_eq_true hd]
        have ht := fun (W' : World) => rtr_any true W'
        obtain ⟨V, hV⟩ : ∃ V, truthV true = V := ⟨_, rfl⟩
        rw [hV] at HE ht
        unfold vlV at ht
        clear hV
        go_wp2_with fail
        refine (ht _).mono ?_
        rintro e w6 ⟨rfl, b6⟩
        have q6 : Below W.heap.size W w6 := qo.trans (b6.mono qo.size)
        have ew6 := (b6.block (W.heap.size + 1) (by omega)).trans eo
        clear ht b6
        obtain ⟨⟨g0, g1, g2⟩, f0, f1, f2⟩ := three ew6
        obtain ⟨⟨s0, s1, s2⟩, -⟩ := three (three_set ew6 (.int .i64 V.k) (.int .i64 V.n) (.string ⟨V.s.toArray⟩))
        go_wp2_with fail
        have q9 : Below W.heap.size W (((w6.setCell ⟨W.heap.size + 1, 0, none⟩ (.int .i64 V.k)).setCell ⟨W.heap.size + 1, 1, none⟩ (.int .i64 V.n)).setCell ⟨W.heap.size + 1, 2, none⟩ (.string ⟨V.s.toArray⟩)) := ((q6.setCell (by simp) _).setCell (by simp) _).setCell (by simp) _
        generalize (((w6.setCell ⟨W.heap.size + 1, 0, none⟩ (.int .i64 V.k)).setCell ⟨W.heap.size + 1, 1, none⟩ (.int .i64 V.n)).setCell ⟨W.heap.size + 1, 2, none⟩ (.string ⟨V.s.toArray⟩)) = w9 at *
        rw [HE.out]
        refine bodyPost_ret (v := .agg #[.int .i64 V.k, .int .i64 V.n, .string ⟨V.s.toArray⟩]) ?_ rfl ⟨rfl, q9⟩
        simp [results, Tryz.results11, go_sem, s0, s1, s2]
      · have t3 : (D < 0) = False := eq_false hd
        have HE : Hid (O = truthV false) := by rw [Hid, ← HO.out, opR_10, if_neg hnn, HD.out, decide_eq_false hd]
        have ht := fun (W' : World) => rtr_any false W'
        obtain ⟨V, hV⟩ : ∃ V, truthV false = V := ⟨_, rfl⟩
        rw [hV] at HE ht
        unfold vlV at ht
        clear hV
        go_wp2_with fail
        refine (ht _).mono ?_
        rintro e w6 ⟨rfl, b6⟩
        have q6 : Below W.heap.size W w6 := qo.trans (b6.mono qo.size)
        have ew6 := (b6.block (W.heap.size + 1) (by omega)).trans eo
        clear ht b6
        obtain ⟨⟨g0, g1, g2⟩, f0, f1, f2⟩ := three ew6
        obtain ⟨⟨s0, s1, s2⟩, -⟩ := three (three_set ew6 (.int .i64 V.k) (.int .i64 V.n) (.string ⟨V.s.toArray⟩))
        go_wp2_with fail
        have q9 : Below W.heap.size W (((w6.setCell ⟨W.heap.size + 1, 0, none⟩ (.int .i64 V.k)).setCell ⟨W.heap.size + 1, 1, none⟩ (.int .i64 V.n)).setCell ⟨W.heap.size + 1, 2, none⟩ (.string ⟨V.s.toArray⟩)) := ((q6.setCell (by simp) _).setCell (by simp) _).setCell (by simp) _
        generalize (((w6.setCell ⟨W.heap.size + 1, 0, none⟩ (.int .i64 V.k)).setCell ⟨W.heap.size + 1, 1, none⟩ (.int .i64 V.n)).setCell ⟨W.heap.size + 1, 2, none⟩ (.string ⟨V.s.toArray⟩)) = w9 at *
        rw [HE.out]
        refine bodyPost_ret (v := .agg #[.int .i64 V.k, .int .i64 V.n, .string ⟨V.s.toArray⟩]) ?_ rfl ⟨rfl, q9⟩
        simp [results, Tryz.results11, go_sem, s0, s1, s2]

set_option maxRecDepth 100000 in
set_option maxHeartbeats 3200000 in
theorem rva_11 (cv rv : Value) (v : Vl) (nm : List UInt8) (b off ca : Nat) (W : World) (x y O : Vl) (hO : opR 11 x y = O) (hx : chkV x.k x.n x.s = 0) (hy : chkV y.k y.n y.s = 0) (hbW : b < W.heap.size)
    (kA : Int) (vA : Vl) (nmA : List UInt8) (aoA : Option Addr) (nA caA : Nat) (hA : (W.cell? ⟨b, off, none⟩ = some (.int .i64 kA) ∧ W.cell? ⟨b, off + 1, none⟩ = some (.int .i64 vA.k) ∧ W.cell? ⟨b, off + 2, none⟩ = some (.int .i64 vA.n) ∧ W.cell? ⟨b, off + 3, none⟩ = some (.string ⟨vA.s.toArray⟩) ∧ W.cell? ⟨b, off + 4, none⟩ = some (.string ⟨nmA.toArray⟩) ∧ W.cell? ⟨b, off + 5, none⟩ = some (.slice aoA nA caA)))
    (hfA : ∀ W' : World, Below W.heap.size W W' → Calls Tryz.prog 11 #[cv, rv, exL kA vA nmA (.slice aoA nA caA)] W' fun e w' => e = .returned (vlV x) ∧ Below W'.heap.size W' w')
    (kB : Int) (vB : Vl) (nmB : List UInt8) (aoB : Option Addr) (nB caB : Nat) (hB : (W.cell? ⟨b, off + 6, none⟩ = some (.int .i64 kB) ∧ W.cell? ⟨b, off + 7, none⟩ = some (.int .i64 vB.k) ∧ W.cell? ⟨b, off + 8, none⟩ = some (.int .i64 vB.n) ∧ W.cell? ⟨b, off + 9, none⟩ = some (.string ⟨vB.s.toArray⟩) ∧ W.cell? ⟨b, off + 10, none⟩ = some (.string ⟨nmB.toArray⟩) ∧ W.cell? ⟨b, off + 11, none⟩ = some (.slice aoB nB caB)))
    (hfB : ∀ W' : World, Below W.heap.size W W' → Calls Tryz.prog 11 #[cv, rv, exL kB vB nmB (.slice aoB nB caB)] W' fun e w' => e = .returned (vlV y) ∧ Below W'.heap.size W' w')
    :
    Calls Tryz.prog 11 #[cv, rv, exL 11 v nm (.slice (some ⟨b, off, none⟩) 2 ca)] W fun e w' => e = .returned (vlV O) ∧ Below W.heap.size W w' := by
  have HO := hide hO
  obtain ⟨xb1, xb2, xb3⟩ := bounds_of hx
  obtain ⟨yb1, yb2, yb3⟩ := bounds_of hy
  have HY := hide hy
  clear hy
  have HX := hide hx
  clear hO hx
  have b0 := ((Below.refl W.heap.size W).alloc (Nat.le_refl _) (.cells #[.int .i64 11, .int .i64 v.k, .int .i64 v.n, .string ⟨v.s.toArray⟩, .string ⟨nm.toArray⟩, .slice (some ⟨b, off, none⟩) 2 ca] 28)).alloc (by simp) (.cells #[.int .i64 0, .int .i64 0, .string ⟨#[]⟩] 25)
  have hD : ∀ W' : World, Below ((W.alloc (.cells #[.int .i64 11, .int .i64 v.k, .int .i64 v.n, .string ⟨v.s.toArray⟩, .string ⟨nm.toArray⟩, .slice (some ⟨b, off, none⟩) 2 ca] 28)).alloc (.cells #[.int .i64 0, .int .i64 0, .string ⟨#[]⟩] 25)).heap.size ((W.alloc (.cells #[.int .i64 11, .int .i64 v.k, .int .i64 v.n, .string ⟨v.s.toArray⟩, .string ⟨nm.toArray⟩, .slice (some ⟨b, off, none⟩) 2 ca] 28)).alloc (.cells #[.int .i64 0, .int .i64 0, .string ⟨#[]⟩] 25)) W' → W'.cell? ⟨W.heap.size, 0, none⟩ = some (.int .i64 11) ∧ W'.cell? ⟨W.heap.size, 5, none⟩ = some (.slice (some ⟨b, off, none⟩) 2 ca) := fun W' hW =>
    ⟨(hW.cell (p := ⟨W.heap.size, 0, none⟩) (by simp; omega)).trans (by simp), (hW.cell (p := ⟨W.heap.size, 5, none⟩) (by simp; omega)).trans (by simp)⟩
  have c9 : ((W.alloc (.cells #[.int .i64 11, .int .i64 v.k, .int .i64 v.n, .string ⟨v.s.toArray⟩, .string ⟨nm.toArray⟩, .slice (some ⟨b, off, none⟩) 2 ca] 28)).alloc (.cells #[.int .i64 0, .int .i64 0, .string ⟨#[]⟩] 25)).heap[W.heap.size + 1]? = some (.cells #[.int .i64 0, .int .i64 0, .string ⟨#[]⟩] 25) := by
    have hz : (W.alloc (.cells #[.int .i64 11, .int .i64 v.k, .int .i64 v.n, .string ⟨v.s.toArray⟩, .string ⟨nm.toArray⟩, .slice (some ⟨b, off, none⟩) 2 ca] 28)).heap.size = W.heap.size + 1 := by simp
    rw [← hz]; exact heap_alloc_new _ _
  have z0 : ((W.alloc (.cells #[.int .i64 11, .int .i64 v.k, .int .i64 v.n, .string ⟨v.s.toArray⟩, .string ⟨nm.toArray⟩, .slice (some ⟨b, off, none⟩) 2 ca] 28)).alloc (.cells #[.int .i64 0, .int .i64 0, .string ⟨#[]⟩] 25)).heap.size = W.heap.size + 2 := by simp
  have hA' : ∀ W' : World, Below W.heap.size W W' → (W'.cell? ⟨b, off, none⟩ = some (.int .i64 kA) ∧ W'.cell? ⟨b, off + 1, none⟩ = some (.int .i64 vA.k) ∧ W'.cell? ⟨b, off + 2, none⟩ = some (.int .i64 vA.n) ∧ W'.cell? ⟨b, off + 3, none⟩ = some (.string ⟨vA.s.toArray⟩) ∧ W'.cell? ⟨b, off + 4, none⟩ = some (.string ⟨nmA.toArray⟩) ∧ W'.cell? ⟨b, off + 5, none⟩ = some (.slice aoA nA caA)) := fun W' hW => by
    obtain ⟨a0, a1, a2, a3, a4, a5⟩ := hA
    exact ⟨(hW.cell (p := ⟨b, _, none⟩) hbW).trans a0, (hW.cell (p := ⟨b, _, none⟩) hbW).trans a1, (hW.cell (p := ⟨b, _, none⟩) hbW).trans a2, (hW.cell (p := ⟨b, _, none⟩) hbW).trans a3, (hW.cell (p := ⟨b, _, none⟩) hbW).trans a4, (hW.cell (p := ⟨b, _, none⟩) hbW).trans a5⟩
  have hB' : ∀ W' : World, Below W.heap.size W W' → (W'.cell? ⟨b, off + 6, none⟩ = some (.int .i64 kB) ∧ W'.cell? ⟨b, off + 7, none⟩ = some (.int .i64 vB.k) ∧ W'.cell? ⟨b, off + 8, none⟩ = some (.int .i64 vB.n) ∧ W'.cell? ⟨b, off + 9, none⟩ = some (.string ⟨vB.s.toArray⟩) ∧ W'.cell? ⟨b, off + 10, none⟩ = some (.string ⟨nmB.toArray⟩) ∧ W'.cell? ⟨b, off + 11, none⟩ = some (.slice aoB nB caB)) := fun W' hW => by
    obtain ⟨a0, a1, a2, a3, a4, a5⟩ := hB
    exact ⟨(hW.cell (p := ⟨b, _, none⟩) hbW).trans a0, (hW.cell (p := ⟨b, _, none⟩) hbW).trans a1, (hW.cell (p := ⟨b, _, none⟩) hbW).trans a2, (hW.cell (p := ⟨b, _, none⟩) hbW).trans a3, (hW.cell (p := ⟨b, _, none⟩) hbW).trans a4, (hW.cell (p := ⟨b, _, none⟩) hbW).trans a5⟩
  have HB' := hide hB'
  have HFB := hide hfB
  have HD := hide hD
  obtain ⟨m0, m1, m2, m3, m4, m5⟩ := hA' _ b0
  obtain ⟨d0, d5⟩ := HD.out _ (Below.refl _ _)
  have hcA := hfA _ b0
  clear hD hA hfA hB hB' hfB
  unfold vlV at *
  go_enter Tryz.func11, Tryz.ntmps11
  go_wp2_with fail
  refine hcA.mono ?_
  rintro e w1 ⟨rfl, b1⟩
  have p1 : Below ((W.alloc (.cells #[.int .i64 11, .int .i64 v.k, .int .i64 v.n, .string ⟨v.s.toArray⟩, .string ⟨nm.toArray⟩, .slice (some ⟨b, off, none⟩) 2 ca] 28)).alloc (.cells #[.int .i64 0, .int .i64 0, .string ⟨#[]⟩] 25)).heap.size ((W.alloc (.cells #[.int .i64 11, .int .i64 v.k, .int .i64 v.n, .string ⟨v.s.toArray⟩, .string ⟨nm.toArray⟩, .slice (some ⟨b, off, none⟩) 2 ca] 28)).alloc (.cells #[.int .i64 0, .int .i64 0, .string ⟨#[]⟩] 25)) ((w1.alloc (.cells #[.int .i64 x.k, .int .i64 x.n, .string ⟨x.s.toArray⟩] 25)).alloc (.cells #[.int .i64 x.k, .int .i64 x.n, .string ⟨x.s.toArray⟩] 25)) := (b1.alloc b1.size _).alloc (by have := b1.size; simp at this ⊢; omega) _
  clear hcA m0 m1 m2 m3 m4 m5 d0 d5
  obtain ⟨d0, d5⟩ := HD.out _ p1
  have q2 : Below W.heap.size W ((w1.alloc (.cells #[.int .i64 x.k, .int .i64 x.n, .string ⟨x.s.toArray⟩] 25)).alloc (.cells #[.int .i64 x.k, .int .i64 x.n, .string ⟨x.s.toArray⟩] 25)) := b0.trans (p1.mono b0.size)
  have e2 := (p1.block (W.heap.size + 1) (by omega)).trans c9
  obtain ⟨s, hs⟩ : ∃ s, w1.heap.size = s := ⟨_, rfl⟩
  have k7 : ((w1.alloc (.cells #[.int .i64 x.k, .int .i64 x.n, .string ⟨x.s.toArray⟩] 25)).alloc (.cells #[.int .i64 x.k, .int .i64 x.n, .string ⟨x.s.toArray⟩] 25)).heap[s]? = some (.cells #[.int .i64 x.k, .int .i64 x.n, .string ⟨x.s.toArray⟩] 25) := by
    rw [← hs]
    exact (((Below.refl _ _).alloc (Nat.le_refl (w1.alloc (.cells #[.int .i64 x.k, .int .i64 x.n, .string ⟨x.s.toArray⟩] 25)).heap.size) _).block w1.heap.size (by simp)).trans (heap_alloc_new _ _)
  have k8 : ((w1.alloc (.cells #[.int .i64 x.k, .int .i64 x.n, .string ⟨x.s.toArray⟩] 25)).alloc (.cells #[.int .i64 x.k, .int .i64 x.n, .string ⟨x.s.toArray⟩] 25)).heap[s + 1]? = some (.cells #[.int .i64 x.k, .int .i64 x.n, .string ⟨x.s.toArray⟩] 25) := by
    have hz : (w1.alloc (.cells #[.int .i64 x.k, .int .i64 x.n, .string ⟨x.s.toArray⟩] 25)).heap.size = s + 1 := by rw [← hs]; simp
    rw [← hz]; exact heap_alloc_new _ _
  have zs : ((w1.alloc (.cells #[.int .i64 x.k, .int .i64 x.n, .string ⟨x.s.toArray⟩] 25)).alloc (.cells #[.int .i64 x.k, .int .i64 x.n, .string ⟨x.s.toArray⟩] 25)).heap.size = s + 2 := by rw [← hs]; simp
  have ws : W.heap.size + 2 ≤ s := by rw [← hs, ← z0]; exact b1.size
  have HSS := hide hs
  clear b1 hs
  obtain ⟨m0, m1, m2, m3, m4, m5⟩ := HB'.out _ q2
  have hcB := HFB.out _ q2
  go_wp2_with fail
  rw [HSS.out]
  generalize ((w1.alloc (.cells #[.int .i64 x.k, .int .i64 x.n, .string ⟨x.s.toArray⟩] 25)).alloc (.cells #[.int .i64 x.k, .int .i64 x.n, .string ⟨x.s.toArray⟩] 25)) = w2 at *
  refine hcB.mono ?_
  rintro e w3 ⟨rfl, b3⟩
  have p3 : Below ((W.alloc (.cells #[.int .i64 11, .int .i64 v.k, .int .i64 v.n, .string ⟨v.s.toArray⟩, .string ⟨nm.toArray⟩, .slice (some ⟨b, off, none⟩) 2 ca] 28)).alloc (.cells #[.int .i64 0, .int .i64 0, .string ⟨#[]⟩] 25)).heap.size ((W.alloc (.cells #[.int .i64 11, .int .i64 v.k, .int .i64 v.n, .string ⟨v.s.toArray⟩, .string ⟨nm.toArray⟩, .slice (some ⟨b, off, none⟩) 2 ca] 28)).alloc (.cells #[.int .i64 0, .int .i64 0, .string ⟨#[]⟩] 25)) w3 := p1.trans (b3.mono (by omega))
  have j7 := (b3.block s (by omega)).trans k7
  have j8 := (b3.block (s + 1) (by omega)).trans k8
  have j2 := (b3.block (W.heap.size + 1) (by omega)).trans e2
  have zs3 : s + 2 ≤ w3.heap.size := by have := b3.size; omega
  obtain ⟨⟨g0, g1, g2⟩, f0, f1, f2⟩ := three j8
  have k8' := three_set j8 (.int .i64 y.k) (.int .i64 y.n) (.string ⟨y.s.toArray⟩)
  have p4 : Below (s + 1) w3 (((w3.setCell ⟨s + 1, 0, none⟩ (.int .i64 y.k)).setCell ⟨s + 1, 1, none⟩ (.int .i64 y.n)).setCell ⟨s + 1, 2, none⟩ (.string ⟨y.s.toArray⟩)) := (((Below.refl (s + 1) w3).setCell (p := ⟨s + 1, 0, none⟩) (Nat.le_refl (s + 1)) _).setCell (p := ⟨s + 1, 1, none⟩) (Nat.le_refl (s + 1)) _).setCell (p := ⟨s + 1, 2, none⟩) (Nat.le_refl (s + 1)) _
  have z4 : (((w3.setCell ⟨s + 1, 0, none⟩ (.int .i64 y.k)).setCell ⟨s + 1, 1, none⟩ (.int .i64 y.n)).setCell ⟨s + 1, 2, none⟩ (.string ⟨y.s.toArray⟩)).heap.size = w3.heap.size := by simp
  have p40 : Below ((W.alloc (.cells #[.int .i64 11, .int .i64 v.k, .int .i64 v.n, .string ⟨v.s.toArray⟩, .string ⟨nm.toArray⟩, .slice (some ⟨b, off, none⟩) 2 ca] 28)).alloc (.cells #[.int .i64 0, .int .i64 0, .string ⟨#[]⟩] 25)).heap.size ((W.alloc (.cells #[.int .i64 11, .int .i64 v.k, .int .i64 v.n, .string ⟨v.s.toArray⟩, .string ⟨nm.toArray⟩, .slice (some ⟨b, off, none⟩) 2 ca] 28)).alloc (.cells #[.int .i64 0, .int .i64 0, .string ⟨#[]⟩] 25)) (((w3.setCell ⟨s + 1, 0, none⟩ (.int .i64 y.k)).setCell ⟨s + 1, 1, none⟩ (.int .i64 y.n)).setCell ⟨s + 1, 2, none⟩ (.string ⟨y.s.toArray⟩)) := p3.trans (p4.mono (by omega))
  clear hcB b3 k7 k8 e2 m0 m1 m2 m3 m4 m5 d0 d5 p1 q2 p3 j8 zs HFB HB' HSS
  go_wp2_with fail
  generalize (((w3.setCell ⟨s + 1, 0, none⟩ (.int .i64 y.k)).setCell ⟨s + 1, 1, none⟩ (.int .i64 y.n)).setCell ⟨s + 1, 2, none⟩ (.string ⟨y.s.toArray⟩)) = w4 at *
  have k7 := (p4.block s (by omega)).trans j7
  have e4 := (p4.block (W.heap.size + 1) (by omega)).trans j2
  have ws4 : s + 2 ≤ w4.heap.size := by omega
  obtain ⟨⟨x0, x1, x2⟩, -⟩ := three k7
  obtain ⟨⟨y0, y1, y2⟩, -⟩ := three k8'
  clear j7 j2 p4 z4 zs3 k7 k8' g0 g1 g2 f0 f1 f2
  have hx4 : ∀ W' : World, Below w4.heap.size w4 W' → W'.cell? ⟨s, 0, none⟩ = some (.int .i64 x.k) ∧ W'.cell? ⟨s, 1, none⟩ = some (.int .i64 x.n) ∧ W'.cell? ⟨s, 2, none⟩ = some (.string ⟨x.s.toArray⟩) := fun W' hW => ⟨(hW.cell (p := ⟨s, _, none⟩) (by show s < _; omega)).trans x0, (hW.cell (p := ⟨s, _, none⟩) (by show s < _; omega)).trans x1, (hW.cell (p := ⟨s, _, none⟩) (by show s < _; omega)).trans x2⟩
  have hy4 : ∀ W' : World, Below w4.heap.size w4 W' → W'.cell? ⟨s + 1, 0, none⟩ = some (.int .i64 y.k) ∧ W'.cell? ⟨s + 1, 1, none⟩ = some (.int .i64 y.n) ∧ W'.cell? ⟨s + 1, 2, none⟩ = some (.string ⟨y.s.toArray⟩) := fun W' hW => ⟨(hW.cell (p := ⟨s + 1, _, none⟩) (by show s + 1 < _; omega)).trans y0, (hW.cell (p := ⟨s + 1, _, none⟩) (by show s + 1 < _; omega)).trans y1, (hW.cell (p := ⟨s + 1, _, none⟩) (by show s + 1 < _; omega)).trans y2⟩
  have HX4 := hide hx4
  have HY4 := hide hy4
  clear hx4 hy4 x0 x1 x2 y0 y1 y2
  refine wp_region_as rv9_R (by kernel_rfl) ?_
  refine rv9_wp (a := x) (b := y) (ba := s) (bb := s + 1) (S := fun W' => Below w4.heap.size w4 W') rfl rfl (fun W' h => ⟨(HX4.out W' h).1, (HX4.out W' h).2.1⟩) (fun W' h => ⟨(HY4.out W' h).1, (HY4.out W' h).2.1⟩) rfl (Below.refl _ _).drew ?_
  intro w5 b5
  obtain ⟨NV, hNV⟩ : ∃ NV, rv9_V x y s (s + 1) = NV := ⟨_, rfl⟩
  have v36 : NV 36 = .bool (rv9_b63 x y) := by rw [← hNV]; rfl
  have v37 : NV 37 = .bool (rv9_b81 x y) := by rw [← hNV]; rfl
  rw [hNV]
  obtain ⟨NO, hNO⟩ : ∃ NO, rv9_b63 x y = NO := ⟨_, rfl⟩
  obtain ⟨YES, hYES⟩ : ∃ YES, rv9_b81 x y = YES := ⟨_, rfl⟩
  rw [hNO] at v36
  rw [hYES] at v37
  have HNO := hide hNO
  have HYES := hide hYES
  clear hNV hNO hYES
  have p5 : Below ((W.alloc (.cells #[.int .i64 11, .int .i64 v.k, .int .i64 v.n, .string ⟨v.s.toArray⟩, .string ⟨nm.toArray⟩, .slice (some ⟨b, off, none⟩) 2 ca] 28)).alloc (.cells #[.int .i64 0, .int .i64 0, .string ⟨#[]⟩] 25)).heap.size ((W.alloc (.cells #[.int .i64 11, .int .i64 v.k, .int .i64 v.n, .string ⟨v.s.toArray⟩, .string ⟨nm.toArray⟩, .slice (some ⟨b, off, none⟩) 2 ca] 28)).alloc (.cells #[.int .i64 0, .int .i64 0, .string ⟨#[]⟩] 25)) w5 := p40.trans (b5.mono (by omega))
  have q5 : Below W.heap.size W w5 := b0.trans (p5.mono b0.size)
  have e5 := (b5.block (W.heap.size + 1) (by omega)).trans e4
  obtain ⟨x0, x1, x2⟩ := HX4.out w5 b5
  obtain ⟨y0, y1, y2⟩ := HY4.out w5 b5
  obtain ⟨d0, d5⟩ := HD.out w5 p5
  have ws5 : W.heap.size + 2 ≤ w5.heap.size := by have := b5.size; omega
  clear b5 p5 p40 e4 HX4 HY4 HD b0 c9 z0 ws4
  refine ‹∀ (a : Act) (w : World), Code.wp _ _ _ a w → _› _ _ ?_
  simp only [rv9_d, putL, List.range, List.range.loop, List.map_cons, List.map_nil, List.zip_cons_cons, List.zip_nil_left, List.set_cons_succ, List.set_cons_zero, v36, v37]
  by_cases h0 : x.k = 0
  · have t0 : (x.k == 0) = true := by simpa using h0
    have HE : Hid (O = vl0) := by rw [Hid, ← HO.out, opR_11, if_pos (.inl h0)]
    have ew5 := e5
    obtain ⟨⟨g0, g1, g2⟩, f0, f1, f2⟩ := three ew5
    obtain ⟨⟨s0, s1, s2⟩, -⟩ := three (three_set ew5 (.int .i64 0) (.int .i64 0) (.string ⟨#[]⟩))
    go_wp2_with fail
    have q9 : Below W.heap.size W (((w5.setCell ⟨W.heap.size + 1, 0, none⟩ (.int .i64 0)).setCell ⟨W.heap.size + 1, 1, none⟩ (.int .i64 0)).setCell ⟨W.heap.size + 1, 2, none⟩ (.string ⟨#[]⟩)) := ((q5.setCell (by simp) _).setCell (by simp) _).setCell (by simp) _
    generalize (((w5.setCell ⟨W.heap.size + 1, 0, none⟩ (.int .i64 0)).setCell ⟨W.heap.size + 1, 1, none⟩ (.int .i64 0)).setCell ⟨W.heap.size + 1, 2, none⟩ (.string ⟨#[]⟩)) = w9 at *
    rw [HE.out]
    refine bodyPost_ret (v := .agg #[.int .i64 0, .int .i64 0, .string ⟨#[]⟩]) ?_ rfl ⟨rfl, q9⟩
    simp [results, Tryz.results11, go_sem, s0, s1, s2]
  · have t0 : (x.k == 0) = false := by simpa using h0
    by_cases h1 : y.k = 0
    · have t1 : (y.k == 0) = true := by simpa using h1
      have HE : Hid (O = vl0) := by rw [Hid, ← HO.out, opR_11, if_pos (.inr h1)]
      have ew5 := e5
      obtain ⟨⟨g0, g1, g2⟩, f0, f1, f2⟩ := three ew5
      obtain ⟨⟨s0, s1, s2⟩, -⟩ := three (three_set ew5 (.int .i64 0) (.int .i64 0) (.string ⟨#[]⟩))
      go_wp2_with fail
      have q9 : Below W.heap.size W (((w5.setCell ⟨W.heap.size + 1, 0, none⟩ (.int .i64 0)).setCell ⟨W.heap.size + 1, 1, none⟩ (.int .i64 0)).setCell ⟨W.heap.size + 1, 2, none⟩ (.string ⟨#[]⟩)) := ((q5.setCell (by simp) _).setCell (by simp) _).setCell (by simp) _
      generalize (((w5.setCell ⟨W.heap.size + 1, 0, none⟩ (.int .i64 0)).setCell ⟨W.heap.size + 1, 1, none⟩ (.int .i64 0)).setCell ⟨W.heap.size + 1, 2, none⟩ (.string ⟨#[]⟩)) = w9 at *
      rw [HE.out]
      refine bodyPost_ret (v := .agg #[.int .i64 0, .int .i64 0, .string ⟨#[]⟩]) ?_ rfl ⟨rfl, q9⟩
      simp [results, Tryz.results11, go_sem, s0, s1, s2]
    · have t1 : (y.k == 0) = false := by simpa using h1
      have hnn : ¬ (x.k = 0 ∨ y.k = 0) := by rintro (h | h); exact h0 h; exact h1 h
      have ho := orv_any x.k x.n y.k y.n ⟨x.s.toArray⟩ ⟨y.s.toArray⟩ w5 (by rw [size_mk]; omega) (by rw [size_mk]; omega)
      have ea : (⟨x.s.toArray⟩ : ByteArray).data.toList = x.s := by simp
      have eb : (⟨y.s.toArray⟩ : ByteArray).data.toList = y.s := by simp
      rw [ea, eb] at ho
      obtain ⟨D, hD⟩ : ∃ D, ordV x.k x.n x.s y.k y.n y.s = D := ⟨_, rfl⟩
      rw [hD] at ho
      have HD := hide hD
      clear ea eb hD
      go_wp2_with fail
      refine ho.mono ?_
      rintro e wo ⟨rfl, bo⟩
      have qo : Below W.heap.size W wo := q5.trans (bo.mono q5.size)
      have eo := (bo.block (W.heap.size + 1) (by omega)).trans e5
      have wso : W.heap.size + 2 ≤ wo.heap.size := by have := bo.size; omega
      clear ho bo e5 q5 ws5 x0 x1 x2 y0 y1 y2 d0 d5
      by_cases hd : D = 0
      · have t3 : (D == 0) = true := by simpa using hd
        have HE : Hid (O = truthV true) := by rw [Hid, ← HO.out, opR_11, if_neg hnn, HD.out, decide_eq_true hd]
        have ht := fun (W' : World) => rtr_any true W'
        obtain ⟨V, hV⟩ : ∃ V, truthV true = V := ⟨_, rfl⟩
        rw [hV] at HE ht
        unfold vlV at ht
        clear hV
        go_wp2_with fail
        refine (ht _).mono ?_
        rintro e w6 ⟨rfl, b6⟩
        have q6 : Below W.heap.size W w6 := qo.trans (b6.mono qo.size)
        have ew6 := (b6.block (W.heap.size + 1) (by omega)).trans eo
        clear ht b6
        obtain ⟨⟨g0, g1, g2⟩, f0, f1, f2⟩ := three ew6
        obtain ⟨⟨s0, s1, s2⟩, -⟩ := three (three_set ew6 (.int .i64 V.k) (.int .i64 V.n) (.string ⟨V.s.toArray⟩))
        go_wp2_with fail
        have q9 : Below W.heap.size W (((w6.setCell ⟨W.heap.size + 1, 0, none⟩ (.int .i64 V.k)).setCell ⟨W.heap.size + 1, 1, none⟩ (.int .i64 V.n)).setCell ⟨W.heap.size + 1, 2, none⟩ (.string ⟨V.s.toArray⟩)) := ((q6.setCell (by simp) _).setCell (by simp) _).setCell (by simp) _
        generalize (((w6.setCell ⟨W.heap.size + 1, 0, none⟩ (.int .i64 V.k)).setCell ⟨W.heap.size + 1, 1, none⟩ (.int .i64 V.n)).setCell ⟨W.heap.size + 1, 2, none⟩ (.string ⟨V.s.toArray⟩)) = w9 at *
        rw [HE.out]
        refine bodyPost_ret (v := .agg #[.int .i64 V.k, .int .i64 V.n, .string ⟨V.s.toArray⟩]) ?_ rfl ⟨rfl, q9⟩
        simp [results, Tryz.results11, go_sem, s0, s1, s2]
      · have t3 : (D == 0) = false := by simpa using hd
        have HE : Hid (O = truthV false) := by rw [Hid, ← HO.out, opR_11, if_neg hnn, HD.out, decide_eq_false hd]
        have ht := fun (W' : World) => rtr_any false W'
        obtain ⟨V, hV⟩ : ∃ V, truthV false = V := ⟨_, rfl⟩
        rw [hV] at HE ht
        unfold vlV at ht
        clear hV
        go_wp2_with fail
        refine (ht _).mono ?_
        rintro e w6 ⟨rfl, b6⟩
        have q6 : Below W.heap.size W w6 := qo.trans (b6.mono qo.size)
        have ew6 := (b6.block (W.heap.size + 1) (by omega)).trans eo
        clear ht b6
        obtain ⟨⟨g0, g1, g2⟩, f0, f1, f2⟩ := three ew6
        obtain ⟨⟨s0, s1, s2⟩, -⟩ := three (three_set ew6 (.int .i64 V.k) (.int .i64 V.n) (.string ⟨V.s.toArray⟩))
        go_wp2_with fail
        have q9 : Below W.heap.size W (((w6.setCell ⟨W.heap.size + 1, 0, none⟩ (.int .i64 V.k)).setCell ⟨W.heap.size + 1, 1, none⟩ (.int .i64 V.n)).setCell ⟨W.heap.size + 1, 2, none⟩ (.string ⟨V.s.toArray⟩)) := ((q6.setCell (by simp) _).setCell (by simp) _).setCell (by simp) _
        generalize (((w6.setCell ⟨W.heap.size + 1, 0, none⟩ (.int .i64 V.k)).setCell ⟨W.heap.size + 1, 1, none⟩ (.int .i64 V.n)).setCell ⟨W.heap.size + 1, 2, none⟩ (.string ⟨V.s.toArray⟩)) = w9 at *
        rw [HE.out]
        refine bodyPost_ret (v := .agg #[.int .i64 V.k, .int .i64 V.n, .string ⟨V.s.toArray⟩]) ?_ rfl ⟨rfl, q9⟩
        simp [results, Tryz.results11, go_sem, s0, s1, s2]

end Go.Proofs.YtbelnjefnhelhabGreat
