/-
  Disks: the document's CrashOf.
-/
import Derived.Test.YtppgkhcmdajolaaDsj
namespace Go.Proofs.Ytppgkhcmdajolaa
open Go.RowKit

theorem Try.info_st9 : (Try.prog.info? 9).map (fun i => (i.zero, i.size, i.bytes)) = some (some (.string ⟨#[]⟩), 1, 16) := by kernel_rfl

/-- whether a write stays, as the document asks -/
def stays (all : Bool) (keep : List Bool) (i : Nat) : Bool := all || keepL keep i

set_option maxRecDepth 100000 in
set_option maxHeartbeats 6400000 in
theorem crashOf_any (d : Dk) (keep : List Bool) (all : Bool) (ku wu : Value) (ba : Option Addr) (bn bc : Nat) (w : World) (h : DkAt w ku wu d) (hb : BoAt w (.slice ba bn bc) keep) (hE : checkD d = 0) :
    Calls Try.prog 14 #[.agg #[ku, wu], .slice ba bn bc, .bool all] w fun e w' => ∃ v, e = .returned (.agg #[v, .slice none 0 0]) ∧ w'.ownsRow w.heap.size 9 1 v d.ks.length ((settleL (stays all keep) 0 d.ws d.ks).map Value.string) ∧ Below w.heap.size w w' := by
  obtain ⟨i0, hi, hz0, hz1, hz2⟩ := info_parts Try.info_st9
  obtain ⟨K, L⟩ := d
  obtain ⟨z2, z3, -, z4, z5⟩ := checkD_zero hE
  clear hE
  obtain ⟨⟨ka, kc, rfl, hkl, hknil, hkc⟩, wa, wc, rfl, hwl, -, hwc⟩ := h
  obtain ⟨_, _, eb, hbl, hbc⟩ := hb
  obtain ⟨bl, hbn⟩ : ∃ bl, keep.length = bl := ⟨_, rfl⟩
  rw [hbn] at eb hbl
  cases eb
  obtain ⟨n, hn⟩ : ∃ n, K.length = n := ⟨_, rfl⟩
  obtain ⟨m, hm⟩ : ∃ m, L.length = m := ⟨_, rfl⟩
  simp only [] at *
  have HN := hide hn
  have HM := hide hm
  have HB := hide hbn
  rw [hn] at z2 z3 z5 hkl hknil ⊢
  rw [hm] at hwl z4 ⊢
  have HF := hide (faultsN_zero z5)
  have HWC := hide hwc
  have HBC := hide hbc
  clear hn hm hbn z5 hwc hbc
  have b0 := ((Below.refl w.heap.size w).alloc (Nat.le_refl _) (.cells #[.slice ka n kc, .slice wa m wc] 25)).alloc (by simp) (.cells #[.slice none 0 0, .slice none 0 0] 25)
  have hz1' : (w.alloc (.cells #[.slice ka n kc, .slice wa m wc] 25)).heap.size = w.heap.size + 1 := by simp
  have k1 : ((w.alloc (.cells #[.slice ka n kc, .slice wa m wc] 25)).alloc (.cells #[.slice none 0 0, .slice none 0 0] 25)).heap[w.heap.size + 1]? = some (.cells #[.slice none 0 0, .slice none 0 0] 25) := by
    rw [← hz1']; exact heap_alloc_new _ _
  have k0 : ((w.alloc (.cells #[.slice ka n kc, .slice wa m wc] 25)).alloc (.cells #[.slice none 0 0, .slice none 0 0] 25)).heap[w.heap.size]? = some (.cells #[.slice ka n kc, .slice wa m wc] 25) := (Below.heap_alloc (w.alloc (.cells #[.slice ka n kc, .slice wa m wc] 25)) _ _ (by omega)).trans (heap_alloc_new w _)
  have hz0' : ((w.alloc (.cells #[.slice ka n kc, .slice wa m wc] 25)).alloc (.cells #[.slice none 0 0, .slice none 0 0] 25)).heap.size = w.heap.size + 2 := by simp
  clear hz1'
  obtain ⟨x0, x1⟩ := two_in k0
  obtain ⟨gk, ok, rfl, hgk, hkk⟩ := hkc (by intro e; rw [e] at HN; have := HN.out; simp at this; omega)
  have hnews : ∀ j u, (K.map Value.string)[j]? = some u → (((w.alloc (.cells #[.slice (some ⟨gk, ok, none⟩) n kc, .slice wa m wc] 25)).alloc (.cells #[.slice none 0 0, .slice none 0 0] 25)).alloc (.cells #[] 9)).cell? ((⟨gk, ok, none⟩ : Addr).add j) = some u := by
    intro j u hj
    rw [List.getElem?_map] at hj
    obtain ⟨x, hx, rfl⟩ := Option.map_eq_some_iff.1 hj
    rw [Go.WideShapes.add_plain]
    exact ((b0.alloc b0.size (.cells #[] 9)).cell (p := ⟨gk, ok + j, none⟩) hgk).trans (hkk j x hx)
  have hlen : (K.map Value.string).length = n * 1 := by rw [List.length_map, HN.out]; omega
  have h1c : ∀ u ∈ K.map Value.string, u.oneCell' = true := by
    intro u hu
    obtain ⟨y, -, rfl⟩ := List.mem_map.1 hu
    rfl
  have b00 := b0.alloc b0.size (.cells #[] 9)
  have k00 := (Below.heap_alloc ((w.alloc (.cells #[.slice (some ⟨gk, ok, none⟩) n kc, .slice wa m wc] 25)).alloc (.cells #[.slice none 0 0, .slice none 0 0] 25)) (.cells #[] 9) w.heap.size (by omega)).trans k0
  have k11 := (Below.heap_alloc ((w.alloc (.cells #[.slice (some ⟨gk, ok, none⟩) n kc, .slice wa m wc] 25)).alloc (.cells #[.slice none 0 0, .slice none 0 0] 25)) (.cells #[] 9) (w.heap.size + 1) (by omega)).trans k1
  have ho0 := World.ownsRow_made ((w.alloc (.cells #[.slice (some ⟨gk, ok, none⟩) n kc, .slice wa m wc] 25)).alloc (.cells #[.slice none 0 0, .slice none 0 0] 25)) #[] (e := 9) (size := 1) 0 (Nat.le_refl _) (Nat.zero_le _) rfl
  rw [hz0'] at ho0
  clear hkc hknil x0 x1
  go_enter Try.func14, Try.ntmps14
  go_wp2_with (at_builtin; go_loud (refine wpList_append_own _ rfl _ _ 22 rfl (w.heap.size + 2) 9 i0 (.string ⟨#[]⟩) 1 16 Try.underlying22 hi hz0 hz1 hz2 rfl (by decide) _ _ _ rfl ho0 ⟨gk, ok, none⟩ n kc (K.map Value.string) rfl hlen hnews h1c ?c3 ?c4 ?c5 ?_))
  case c3 => unfold maxLen; omega
  case c4 => omega
  case c5 => simp
  intro v1 w1 hown hgrow _
  have q1 := b00.grown hgrow b00.size (fun j hj => by simp [Value.ownBlock] at hj; omega)
  have l0 := (hgrow.block w.heap.size (by simp; omega) (by intro e; simp [Value.ownBlock] at e)).trans k00
  have l1 := (hgrow.block (w.heap.size + 1) (by simp) (by intro e; simp [Value.ownBlock] at e)).trans k11
  have z6 : w.heap.size + 3 ≤ w1.heap.size := by have := hgrow.size; simp at this; omega
  obtain ⟨va, vc, rfl⟩ : ∃ a c, v1 = .slice a n c := by obtain ⟨a, c, e⟩ := owns_slice hown; exact ⟨a, c, by rw [e]; try simp⟩
  have O1 : Hid (w1.ownsRow (w.heap.size + 2) 9 1 (.slice va n vc) n (K.map Value.string)) := by simpa using hide hown
  have q2 := q1.alloc q1.size (.cells #[.slice va n vc, .slice none 0 0] 25)
  have m0 := (Below.heap_alloc w1 (.cells #[.slice va n vc, .slice none 0 0] 25) w.heap.size (by omega)).trans l0
  have m1 := (Below.heap_alloc w1 (.cells #[.slice va n vc, .slice none 0 0] 25) (w.heap.size + 1) (by omega)).trans l1
  have m2 := heap_alloc_new w1 (.cells #[.slice va n vc, .slice none 0 0] 25)
  have O2 := hide (O1.out.alloc (.cells #[.slice va n vc, .slice none 0 0] 25))
  have P2 : Hid (∀ b, (Value.slice va n vc).ownBlock = some b → b < w1.heap.size) := fun b hb => (O1.out.lt b hb).2
  have z7 : (w1.alloc (.cells #[.slice va n vc, .slice none 0 0] 25)).heap.size = w1.heap.size + 1 := by simp
  clear hown hgrow b00 b0 k0 k1 k00 k11 ho0 hnews hlen h1c hkk hz0' q1 l0 l1 O1
  go_wp2_with fail
  generalize (w1.alloc (.cells #[.slice va n vc, .slice none 0 0] 25)) = w2 at *
  have z8 : w1.heap.size < w2.heap.size := by omega
  generalize hP : w1.heap.size = p2 at *
  clear hP z7
  go_loopw [8] (fun i wl => ∃ (k : Nat) (C : List ByteArray), k ≤ m ∧ i = .int .i64 k ∧ Below w.heap.size w wl ∧ p2 < wl.heap.size ∧ Hid (wl.heap[p2]? = some (.cells #[.slice va n vc, .slice none 0 0] 25)) ∧ Hid (wl.heap[w.heap.size]? = some (.cells #[.slice (some ⟨gk, ok, none⟩) n kc, .slice wa m wc] 25)) ∧ Hid (wl.heap[w.heap.size + 1]? = some (.cells #[.slice none 0 0, .slice none 0 0] 25)) ∧ Hid (wl.ownsRow (w.heap.size + 2) 9 1 (.slice va n vc) n (C.map Value.string)) ∧ Hid (C.length = n ∧ settleL (stays all keep) k (L.drop k) C = settleL (stays all keep) 0 L K)) (fun i _ => m - (intOf i).toNat)
  case atStart => exact ⟨0, K, Nat.zero_le _, rfl, q2, z8, hide m2, hide m0, hide m1, O2, HN.out, rfl⟩
  case round =>
    obtain ⟨k, C, hk, rfl, hb, hsz, HP, H0, H1, HO, HC⟩ := hrel
    obtain ⟨x0, x1⟩ := two_in H0.out
    obtain ⟨y0, y1⟩ := two_in HP.out
    by_cases hlt : k < m
    · obtain ⟨x, hx⟩ : ∃ x, L[k]? = some x := ⟨L[k]'(by rw [HM.out]; exact hlt), List.getElem?_eq_getElem _⟩
      obtain ⟨g, o, rfl, hg, hcc⟩ := HWC.out (by intro e; rw [e] at hx; cases hx)
      obtain ⟨a0, a1⟩ := hcc k x hx
      have c0 := (hb.cell (p := ⟨g, o + k * 2, none⟩) hg).trans a0
      have c1 := (hb.cell (p := ⟨g, o + k * 2 + 1, none⟩) hg).trans a1
      have hlt' : (k : Int) < (m : Int) := by omega
      have hdr : Hid (L.drop k = x :: L.drop (k + 1)) := by
        obtain ⟨h1, h2⟩ := List.getElem?_eq_some_iff.1 hx
        exact (List.drop_eq_getElem_cons h1).trans (by rw [h2])
      obtain ⟨r0, r1, -⟩ := faultN_range (HF.out x (List.mem_of_getElem? hx))
      obtain ⟨xn, xs⟩ := x
      simp only [] at r0 r1 c0 c1 hdr
      obtain ⟨j, rfl⟩ : ∃ j : Nat, xn = (j : Int) := ⟨xn.toNat, by omega⟩
      clear hcc a0 a1 hx
      have HB' : Hid (∀ b, stays all keep k = b → Hid (settleL (stays all keep) (k + 1) (L.drop (k + 1)) (if b then C.set j xs else C) = settleL (stays all keep) 0 L K)) := by
        intro b hb
        have h2 := HC.out.2
        rw [hdr.out, settleL, hb] at h2
        exact hide (by simpa using h2)
      clear hdr
      obtain ⟨gv, cv, e1, e2, e3⟩ := owns_some HO.out (by omega)
      cases e1
      have O5 := hide (own_put HO.out j (.string xs))
      obtain ⟨⟨u, hu⟩, hfz⟩ := own_at HO.out j (by omega)
      have hne : gv ≠ p2 := by
        intro e
        rcases HO.out.2 with ⟨h1, -⟩ | ⟨g', cap', cur, h1, -, h2, -⟩
        · cases h1
        · cases h1
          rw [e, HP.out] at h2
          cases h2
      have R0 := hide ((heap_setCell_other wr ⟨gv, j, none⟩ w.heap.size (.string xs) (by show w.heap.size ≠ gv; omega)).trans H0.out)
      have R1 := hide ((heap_setCell_other wr ⟨gv, j, none⟩ (w.heap.size + 1) (.string xs) (by show w.heap.size + 1 ≠ gv; omega)).trans H1.out)
      have RP := hide ((heap_setCell_other wr ⟨gv, j, none⟩ p2 (.string xs) (by show p2 ≠ gv; exact fun e => hne e.symm)).trans HP.out)
      have hb5 := hb.setCell (p := ⟨gv, j, none⟩) (show w.heap.size ≤ gv by omega) (.string xs)
      have hb6 := hb.drew.setCell (p := ⟨gv, j, none⟩) (show w.heap.size ≤ gv by omega) (.string xs)
      have z9 : p2 < (wr.setCell ⟨gv, j, none⟩ (.string xs)).heap.size := by simpa [World.setCell] using hsz
      have r2 : (j : Int) < (n : Int) := by omega
      have HK2 : Hid (∀ b, keepL keep k = b → stays false keep k = b) := fun b h => by unfold stays; rw [h]; rfl
      cases all with
      | true =>
        have HB2 := HB'.out true rfl
        clear HB' HK2
        go_wp2_with fail
        go_region
        go_wp2
        go_roundw
        case rel => exact ⟨k + 1, C.set j xs, by omega, by go_num, hb5.drew, z9, RP, R0, R1, hide (by have := O5.out; rwa [← List.map_set] at this), by rw [List.length_set]; exact HC.out.1, by simpa using HB2.out⟩
        case measure => simp [intOf]; omega
      | false =>
        by_cases hkb : k < bn
        · obtain ⟨y, hy⟩ : ∃ y, keep[k]? = some y := ⟨keep[k]'(by rw [HB.out]; exact hkb), List.getElem?_eq_getElem _⟩
          obtain ⟨gb, ob, rfl, hgb, hcb⟩ := HBC.out (by intro e; rw [e] at hy; cases hy)
          have d0 := (hb.cell (p := ⟨gb, ob + k, none⟩) hgb).trans (hcb k y hy)
          have hkb' : (k : Int) < (bn : Int) := by omega
          have hdb : decide ((k : Int) < (bn : Int)) = true := decide_eq_true hkb'
          have HB2 := HB'.out y (HK2.out y (by unfold keepL; rw [hy]; rfl))
          clear HB' HK2 hy hcb
          cases y with
          | true =>
            go_wp2_with fail
            go_region
            go_wp2
            go_roundw
            case rel => exact ⟨k + 1, C.set j xs, by omega, by go_num, hb5.drew, z9, RP, R0, R1, hide (by have := O5.out; rwa [← List.map_set] at this), by rw [List.length_set]; exact HC.out.1, by simpa using HB2.out⟩
            case measure => simp [intOf]; omega
          | false =>
            go_wp2
            go_roundw
            case rel => exact ⟨k + 1, C, by omega, by go_num, hb, hsz, HP, H0, H1, HO, HC.out.1, by simpa using HB2.out⟩
            case measure => simp [intOf]; omega
        · have hdb : decide ((k : Int) < (bn : Int)) = false := decide_eq_false (by omega)
          have HB2 := HB'.out false (HK2.out false (by unfold keepL; rw [List.getElem?_eq_none (by rw [HB.out]; omega)]; rfl))
          clear HB' HK2
          go_wp2
          go_roundw
          case rel => exact ⟨k + 1, C, by omega, by go_num, hb, hsz, HP, H0, H1, HO, HC.out.1, by simpa using HB2.out⟩
          case measure => simp [intOf]; omega
    · obtain rfl : k = m := by omega
      have HS : Hid (C = settleL (stays all keep) 0 L K) := by
        have h2 := HC.out.2
        rw [List.drop_eq_nil_of_le (by rw [HM.out]; omega)] at h2
        exact h2
      clear HWC HBC
      go_wp2_with (refine wpList_store_whole 25 _ _ rfl rfl (w.heap.size + 1) [.slice none 0 0, .slice none 0 0] [.slice va n vc, .slice none 0 0] 25 rfl rfl (by exact H1.out) rfl Try.size25 (by intro v hv; simp only [List.mem_cons, List.not_mem_nil, or_false] at hv; rcases hv with rfl | rfl <;> rfl) ?_; intro w9 l2 p9)
      have q9 : Below w.heap.size w w9 := by rw [p9.out]; exact below_putAll (Nat.le_succ _) _ _ _ hb
      obtain ⟨s0, s1⟩ := two_in l2
      have O9 : w9.ownsRow w.heap.size 9 1 (.slice va n vc) n ((settleL (stays all keep) 0 L K).map Value.string) := by
        rw [← HS.out, p9.out]
        exact own_lower (owns_putAll (show w.heap.size + 1 < w.heap.size + 2 by omega) _ _ _ HO.out) (by omega)
      refine bodyPost_ret (v := .agg #[.slice va n vc, .slice none 0 0]) ?_ rfl ⟨_, rfl, O9, q9⟩
      simp [results, Try.results14, go_sem, s0, s1]

end Go.Proofs.Ytppgkhcmdajolaa
