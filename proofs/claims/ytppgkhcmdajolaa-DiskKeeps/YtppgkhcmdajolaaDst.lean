/-
  diskBegun: true, whatever world it is called in.
-/
import Derived.Test.YtppgkhcmdajolaaDsr
import Derived.Test.YtppgkhcmdajolaaBga
import Derived.Deep.RegionLaw
namespace Go.Proofs.Ytppgkhcmdajolaa
open Go.RowKit

def zD : Obj := .cells #[.slice none 0 0, .slice none 0 0] 25
theorem alloc_put {w1 w2 : World} {X Y : Value} (p : w2 = putAll (w1.alloc (.cells #[.slice none 0 0, .slice none 0 0] 25)) w1.heap.size 0 [X, Y]) : Below w1.heap.size w1 w2 ∧ w1.heap.size < w2.heap.size := by
  rw [p]
  refine ⟨below_putAll (Nat.le_refl _) _ _ _ ((Below.refl _ _).alloc (Nat.le_refl _) _), ?_⟩
  rw [putAll_size]; simp

set_option maxRecDepth 100000 in
set_option maxHeartbeats 25600000 in
theorem diskBegun_any (w : World) : Calls Try.prog 15 #[] w fun e w' => e = .returned (.bool true) ∧ Below w.heap.size w w' := by
  go_enter Try.func15, Try.ntmps15
  go_wp2_with fail
  refine (n2_any w).mono ?_
  rintro e w1 ⟨ka, kc, rfl, h1, b1⟩
  have K1 := hide (heap_alloc_new w1 (.cells #[.slice none 0 0, .slice none 0 0] 25))
  go_wp2_with (refine wpList_store_whole 25 _ _ rfl rfl w1.heap.size [.slice none 0 0, .slice none 0 0] [.slice ka 2 kc, .slice none 0 0] 25 rfl rfl (by exact K1.out) rfl Try.size25 (by intro v hv; simp only [List.mem_cons, List.not_mem_nil, or_false] at hv; rcases hv with rfl | rfl <;> rfl) ?_; intro w2 l2 p2)
  obtain ⟨b2, s2⟩ := alloc_put p2.out
  have hA := h1.below b2
  have q2 := b1.trans (b2.mono b1.size)
  obtain ⟨x0, x1⟩ := two_in l2
  generalize hp1 : w1.heap.size = p1 at *
  clear K1 p2 b2 b1 h1
  go_cut [3, 4] (fun s3 s4 wx => s4 = .int .i64 0 ∧ Below w2.heap.size w2 wx ∧ ∃ (vb : Nat) (xa : Option Addr) (xc : Nat) (ya : Option Addr) (yc : Nat), s3 = .pointer (some ⟨vb, 0, none⟩) ∧ wx.heap[vb]? = some (.cells #[.slice xa 2 xc, .slice ya 1 yc] 25) ∧ DkAt wx (.slice xa 2 xc) (.slice ya 1 yc) dB)
  case first =>
    have GA : Below w2.heap.size w2 (w2.alloc (.cells #[.slice none 0 0, .slice none 0 0] 25)) := (Below.refl _ _).alloc (Nat.le_refl _) _
    have n2 := heap_alloc_new w2 (.cells #[.slice none 0 0, .slice none 0 0] 25)
    have z2 : (w2.alloc (.cells #[.slice none 0 0, .slice none 0 0] 25)).heap.size = w2.heap.size + 1 := by simp
    have zlt : w2.heap.size < (w2.alloc (.cells #[.slice none 0 0, .slice none 0 0] 25)).heap.size := by omega
    have HQ : Hid (∀ W : World, Below w2.heap.size w2 W → (W.cell? ⟨p1, 0, none⟩ = some (.slice ka 2 kc) ∧ W.cell? ⟨p1, 1, none⟩ = some (.slice none 0 0)) ∧ DkAt W (.slice ka 2 kc) (.slice none 0 0) dA) := fun W hb =>
      ⟨⟨(hb.cell (p := ⟨p1, 0, none⟩) s2).trans x0, (hb.cell (p := ⟨p1, 1, none⟩) s2).trans x1⟩, hA.below hb⟩
    have FA : ∀ w3, Below (World.drew (w2.alloc (.cells #[.slice none 0 0, .slice none 0 0] 25))).heap.size (World.drew (w2.alloc (.cells #[.slice none 0 0, .slice none 0 0] 25))) w3 → Below w2.heap.size w2 w3 ∧ w3.heap[w2.heap.size]? = some (.cells #[.slice none 0 0, .slice none 0 0] 25) := fun w3 b3 => ⟨GA.drew.trans (b3.mono GA.size), (b3.block w2.heap.size zlt).trans n2⟩
    obtain ⟨⟨A0, A1⟩, AD⟩ := HQ.out _ GA
    go_region_law (first
      | (go_simp; with_reducible refine (sector_any (World.drew (w2.alloc (.cells #[.slice none 0 0, .slice none 0 0] 25)))).mono ?_; rintro e w3 ⟨rfl, b3⟩; obtain ⟨G3, KW⟩ := FA _ b3; replace KW := hide KW; obtain ⟨⟨X0, X1⟩, D3⟩ := HQ.out _ G3; have hw := wr1_any _ _ w3 D3; clear b3; dsimp only)
      | (go_simp; with_reducible refine (sector_any (World.drew w2)).mono ?_; rintro e w3 ⟨rfl, b3⟩; have G3 : Below w2.heap.size w2 w3 := (Below.refl w2.heap.size w2).drew.trans (b3.mono (Nat.le_refl _)); have K3 := hide G3.size; obtain ⟨⟨X0, X1⟩, D3⟩ := HQ.out _ G3; have G33 := G3.alloc G3.size (.cells #[.slice none 0 0, .slice none 0 0] 25); obtain ⟨⟨Y0, Y1⟩, D33⟩ := HQ.out _ G33; have hw := wr1_any _ _ w3 D3; have hw2 := wr1_any _ _ (w3.alloc (.cells #[.slice none 0 0, .slice none 0 0] 25)) D33; clear b3; dsimp only)
      | (go_simp; with_reducible refine hw.mono ?_; rintro e w4 ⟨xa, xc, ya, yc, rfl, o4, b4⟩; have O4 := hide o4; have G4 := G3.trans (b4.mono G3.size); have h4 := (b4.block w2.heap.size (by have := KW.out; exact (Array.getElem?_eq_some_iff.1 this).1)).trans KW.out; obtain ⟨⟨t0, t1⟩, f0, f1⟩ := two_of h4; have K4 := hide h4; clear h4 b4 o4 hw; dsimp only)
      | (go_simp; with_reducible refine hw.mono ?_; rintro e w4 ⟨xa, xc, ya, yc, rfl, o4, b4⟩; have O4 := hide o4; have G4 := G3.trans (b4.mono G3.size); have K5 := hide (And.intro K3.out b4.size); clear b4 o4 hw; dsimp only)
      | (go_simp; with_reducible refine hw2.mono ?_; rintro e w4 ⟨xa, xc, ya, yc, rfl, o4, b4⟩; have O4 := hide o4; have G4 := G33.trans (b4.mono G33.size); have h4 := (b4.block w3.heap.size (by simp)).trans (heap_alloc_new w3 (.cells #[.slice none 0 0, .slice none 0 0] 25)); obtain ⟨⟨t0, t1⟩, f0, f1⟩ := two_of h4; have K6 := hide h4; have K7 := hide G3.size; clear h4 b4 o4 hw2; dsimp only)
      | fail)
    all_goals (go_wp2_with fail; go_meet)
    all_goals (first
      | (have _ := K5.out; refine ⟨rfl, G4.alloc G4.size _, w4.heap.size, xa, xc, ya, yc, (by with_reducible rfl), heap_alloc_new _ _, ?_⟩; exact (O4.out.at (by decide) (by decide)).below ((Below.refl _ _).alloc (Nat.le_refl _) _))
      | (have _ := K4.out; refine ⟨rfl, (G4.setCell (p := ⟨w2.heap.size, 0, none⟩) (Nat.le_refl _) _).setCell (p := ⟨w2.heap.size, 1, none⟩) (Nat.le_refl _) _, w2.heap.size, xa, xc, ya, yc, (by with_reducible rfl), two_set K4.out _ _, ?_⟩; exact (DkOwn.two_set O4.out (Array.getElem?_eq_some_iff.1 KW.out).1 _ _).at (by decide) (by decide))
      | (have _ := K6.out; refine ⟨rfl, (G4.setCell (p := ⟨w3.heap.size, 0, none⟩) K7.out _).setCell (p := ⟨w3.heap.size, 1, none⟩) K7.out _, w3.heap.size, xa, xc, ya, yc, (by with_reducible rfl), two_set K6.out _ _, ?_⟩; exact (DkOwn.two_set O4.out (by simp) _ _).at (by decide) (by decide)))
  case rest =>
  obtain ⟨rfl, p5, vb, xa, xc, ya, yc, rfl, kv, hB⟩ := hcut
  generalize wc = w5 at *
  have zvb : vb < w5.heap.size := (Array.getElem?_eq_some_iff.1 kv).1
  have q5 := q2.trans (p5.mono q2.size)
  obtain ⟨v0, v1⟩ := two_in kv
  have y0 := (p5.cell (p := ⟨p1, 0, none⟩) s2).trans x0
  have y1 := (p5.cell (p := ⟨p1, 1, none⟩) s2).trans x1
  have s5 : p1 < w5.heap.size := by have := p5.size; omega
  have hA5 := hA.below p5
  have HE : Hid (∀ W : World, Below w5.heap.size w5 W → ((W.cell? ⟨p1, 0, none⟩ = some (.slice ka 2 kc) ∧ W.cell? ⟨p1, 1, none⟩ = some (.slice none 0 0)) ∧ W.cell? ⟨vb, 0, none⟩ = some (.slice xa 2 xc) ∧ W.cell? ⟨vb, 1, none⟩ = some (.slice ya 1 yc)) ∧ DkAt W (.slice ka 2 kc) (.slice none 0 0) dA ∧ DkAt W (.slice xa 2 xc) (.slice ya 1 yc) dB) := fun W hb =>
    ⟨⟨⟨(hb.cell (p := ⟨p1, 0, none⟩) s5).trans y0, (hb.cell (p := ⟨p1, 1, none⟩) s5).trans y1⟩, (hb.cell (p := ⟨vb, 0, none⟩) zvb).trans v0, (hb.cell (p := ⟨vb, 1, none⟩) zvb).trans v1⟩, hA5.below hb, hB.below hb⟩
  clear x0 x1 y0 y1 hA hA5 q2 p5 kv
  go_wp2_with fail
  refine (fl_any _ _ w5 hB).mono ?_
  rintro e w6 ⟨g, o, yk, ywa, ywc, rfl, hg, hgs, b6⟩
  have K6 := hide (heap_alloc_new w6 (.cells #[.slice none 0 0, .slice none 0 0] 25))
  clear v0 v1 hB
  go_wp2_with (refine wpList_store_whole 25 _ _ rfl rfl w6.heap.size [.slice none 0 0, .slice none 0 0] [.slice (some ⟨g, o, none⟩) 2 yk, .slice ywa 0 ywc] 25 rfl rfl (by exact K6.out) rfl Try.size25 (by intro v hv; simp only [List.mem_cons, List.not_mem_nil, or_false] at hv; rcases hv with rfl | rfl <;> rfl) ?_; intro w7 l7 p7; obtain ⟨b7, s7⟩ := alloc_put p7.out; have G7 := b6.trans (b7.mono b6.size); obtain ⟨⟨⟨x0, x1⟩, v0, v1⟩, -, hB7⟩ := HE.out _ G7; have KS := hide (And.intro s7 (And.intro ((b7.cell (p := ⟨g, o + 1, none⟩) hg).trans hgs) (Nat.lt_of_lt_of_le hg b7.size))); have L7 := hide l7; clear p7 b7 s7 hgs hg K6 b6 l7)
  generalize hq : w6.heap.size = q6 at *
  clear hq
  have b8a := (Below.refl w7.heap.size w7).alloc (Nat.le_refl _) (.cells #[.bool false] 4)
  refine (cr_any _ _ _ _ (w7.alloc (.cells #[.bool false] 4)) (hB7.below b8a) (bo_one (heap_alloc_new w7 _))).mono ?_
  rintro e w8 ⟨za, zc, zwa, zwc, rfl, hz, b8⟩
  have q8 := b8a.trans (b8.mono b8a.size)
  have K8 := hide (heap_alloc_new w8 (.cells #[.slice none 0 0, .slice none 0 0] 25))
  clear v0 v1 x0 x1 b8 b8a hB7
  go_wp2_with (refine wpList_store_whole 25 _ _ rfl rfl w8.heap.size [.slice none 0 0, .slice none 0 0] [.slice za 2 zc, .slice zwa 0 zwc] 25 rfl rfl (by exact K8.out) rfl Try.size25 (by intro v hv; simp only [List.mem_cons, List.not_mem_nil, or_false] at hv; rcases hv with rfl | rfl <;> rfl) ?_; intro w9 l9 p9; obtain ⟨b9, s9⟩ := alloc_put p9.out; have Q9 := q8.trans (b9.mono q8.size); have hz9 := hz.below b9; clear p9 b9 K8 q8 hz)
  generalize hq : w8.heap.size = q8 at *
  clear hq
  obtain ⟨z6, hc7, zg⟩ := KS.out
  have l6 := (Q9.block q6 z6).trans L7.out
  have gc := (Q9.cell (p := ⟨g, o + 1, none⟩) zg).trans hc7
  have G9 := G7.trans (Q9.mono G7.size)
  obtain ⟨⟨⟨x0, x1⟩, v0, v1⟩, hA9, hB9⟩ := HE.out _ G9
  obtain ⟨a0, a1⟩ := two_in l6
  obtain ⟨c0, c1⟩ := two_in l9
  have zq : q6 < w9.heap.size := Nat.lt_of_lt_of_le z6 Q9.size
  have zr : q8 < w9.heap.size := (Array.getElem?_eq_some_iff.1 l9).1
  have zh : g < w9.heap.size := Nat.lt_of_lt_of_le zg Q9.size
  have zs : p1 < w9.heap.size := Nat.lt_of_lt_of_le s5 G9.size
  have zt : vb < w9.heap.size := Nat.lt_of_lt_of_le zvb G9.size
  have FIN := hide (q5.trans (G9.mono q5.size))
  have HH : Hid (∀ W : World, Below w9.heap.size w9 W → ((((W.cell? ⟨p1, 0, none⟩ = some (.slice ka 2 kc) ∧ W.cell? ⟨p1, 1, none⟩ = some (.slice none 0 0)) ∧ W.cell? ⟨vb, 0, none⟩ = some (.slice xa 2 xc) ∧ W.cell? ⟨vb, 1, none⟩ = some (.slice ya 1 yc)) ∧ (W.cell? ⟨q6, 0, none⟩ = some (.slice (some ⟨g, o, none⟩) 2 yk) ∧ W.cell? ⟨q6, 1, none⟩ = some (.slice ywa 0 ywc)) ∧ (W.cell? ⟨q8, 0, none⟩ = some (.slice za 2 zc) ∧ W.cell? ⟨q8, 1, none⟩ = some (.slice zwa 0 zwc)) ∧ W.cell? ⟨g, o + 1, none⟩ = some (.string sevenS)) ∧ DkAt W (.slice ka 2 kc) (.slice none 0 0) dA ∧ DkAt W (.slice xa 2 xc) (.slice ya 1 yc) dB ∧ DkAt W (.slice za 2 zc) (.slice zwa 0 zwc) dA)) := fun W hb =>
    ⟨⟨⟨⟨(hb.cell (p := ⟨p1, 0, none⟩) zs).trans x0, (hb.cell (p := ⟨p1, 1, none⟩) zs).trans x1⟩, (hb.cell (p := ⟨vb, 0, none⟩) zt).trans v0, (hb.cell (p := ⟨vb, 1, none⟩) zt).trans v1⟩, ⟨(hb.cell (p := ⟨q6, 0, none⟩) zq).trans a0, (hb.cell (p := ⟨q6, 1, none⟩) zq).trans a1⟩, ⟨(hb.cell (p := ⟨q8, 0, none⟩) zr).trans c0, (hb.cell (p := ⟨q8, 1, none⟩) zr).trans c1⟩, (hb.cell (p := ⟨g, o + 1, none⟩) zh).trans gc⟩, hA9.below hb, hB9.below hb, hz9.below hb⟩
  have hsx := FIN.out.size
  clear HE KS L7 G7 Q9 l6 l9 hc7 z6 zg G9 hA9 hB9 hz9 gc x0 x1 a0 a1 c0 c1 v0 v1 q5 s5 zvb s9 zq zr zh zs zt s2
  refine wp_region_as bg_R (by kernel_rfl) ?_
  refine bg_wp (p1 := p1) (vb := vb) (q6 := q6) (q8 := q8) (g := g) (o := o) (kc := kc) (xc := xc) (yc := yc) (yk := yk) (ywc := ywc) (zc := zc) (zwc := zwc) (ka := ka) (xa := xa) (ya := ya) (ywa := ywa) (za := za) (zwa := zwa) (S := fun W => Below w9.heap.size w9 W) rfl rfl rfl rfl rfl rfl rfl rfl
    (fun W h => (HH.out W h).1.1.1.1) (fun W h => (HH.out W h).1.1.1.2) (fun W h => (HH.out W h).1.1.2.1) (fun W h => (HH.out W h).1.1.2.2) (fun W h => (HH.out W h).1.2.1.1) (fun W h => (HH.out W h).1.2.1.2) (fun W h => (HH.out W h).1.2.2.1.1) (fun W h => (HH.out W h).1.2.2.1.2) (fun W h => (HH.out W h).1.2.2.2)
    (fun W h => (ck_any _ _ W (HH.out W h).2.2.1).mono fun e w' q => ⟨q.1, h.trans (q.2.mono h.size)⟩) (fun W h => (sector_any W).mono fun e w' q => ⟨q.1, h.trans (q.2.mono h.size)⟩) (fun W h => (sd_any dA _ _ _ _ W (HH.out W h).2.2.2 (HH.out W h).2.1).mono fun e w' q => ⟨q.1, h.trans (q.2.mono h.size)⟩) rfl (Below.refl w9.heap.size w9).drew ?_
  intro w' hS
  refine ‹∀ (a : Act) (w : World), Code.wp _ _ _ a w → _› _ _ ?_
  refine wp_ret ?_
  exact post_frame 44 rfl bg_nodup rfl rfl (by simp) ⟨rfl, FIN.out.trans (hS.mono hsx)⟩

end Go.Proofs.Ytppgkhcmdajolaa
