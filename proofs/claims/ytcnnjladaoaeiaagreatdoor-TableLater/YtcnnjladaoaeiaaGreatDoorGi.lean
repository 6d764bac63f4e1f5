/-
  Package table: indexesFault.
  Package table: columnsFault.
  Package table: Check.
  Package table: Check of any table.
  Package table: Read of any table.
  slices.Clone of the lists of a table.
  Package fresh: a table made anew.
-/
import Derived.Deep.RegionLaw
import Derived.Test.YtcnnjladaoaeiaaGreatDoorGa
import Derived.Test.YtcnnjladaoaeiaaGreatDoorGf
import Derived.Test.YtcnnjladaoaeiaaGreatDoorGh

set_option maxRecDepth 100000
set_option maxHeartbeats 25600000
namespace Go.Proofs.YtcnnjladaoaeiaaGreatDoor
open Go.RowKit
theorem cs_of_own {w : World} {B : Nat} {v : Value} {xs : List Cl} {e : TypeId} (h : w.ownsRow B e 2 v xs.length (xs.flatMap clC)) (hn : xs.length ≤ 1000) : CsAt w v xs := by
  obtain ⟨ao, cap, e⟩ := owns_slice h
  refine ⟨ao, cap, e, by omega, fun hne => ?_⟩
  obtain ⟨g, cap', e', -, hg⟩ := owns_some h (by intro e0; exact hne (List.eq_nil_of_length_eq_zero e0))
  rw [e] at e'
  cases e'
  refine ⟨g, 0, rfl, hg, fun i x hx => ?_⟩
  rw [e] at h
  have at' : ∀ q, q < 2 → w.cell? ⟨g, i * 2 + q, none⟩ = (clC x)[q]? := by
    intro q hq
    have hi := (List.getElem?_eq_some_iff.1 hx).1
    have := h.cellAt (i * 2 + q) (by omega)
    rw [flat_get clC 2 (fun _ => rfl) xs i x hx q hq] at this
    exact this
  rw [Nat.zero_add]
  exact ⟨at' 0 (by decide), at' 1 (by decide)⟩
def ixsF (cn : Nat) (rows : List Vl) (LL : List (List Vl)) (next : Int) (ahead : List Ix) : List Ix → Nat
  | [] => 0
  | x :: r => if nameW x.name = false then 1 else if hasIx ahead x.name = true then 6 else if (decide (0 ≤ x.a) && decide (x.a < (cn : Int))) = false then 5 else if x.b < 1 ∨ next < x.b then 3 else if decide (x.es = sortE (entL x.a.toNat x.b rows LL)) = false then 4 else ixsF cn rows LL next (ahead ++ [x]) r
theorem four_cells {w W : World} {a b c d : Value} {t : TypeId} (hW : Below (w.heap.size + 1) (w.alloc (.cells #[a, b, c, d] t)) W) :
    W.cell? ⟨w.heap.size, 0, none⟩ = some a ∧ W.cell? ⟨w.heap.size, 1, none⟩ = some b ∧ W.cell? ⟨w.heap.size, 2, none⟩ = some c ∧ W.cell? ⟨w.heap.size, 3, none⟩ = some d :=
  ⟨(hW.cell (p := ⟨w.heap.size, 0, none⟩) (by simp)).trans (by simp), (hW.cell (p := ⟨w.heap.size, 1, none⟩) (by simp)).trans (by simp), (hW.cell (p := ⟨w.heap.size, 2, none⟩) (by simp)).trans (by simp), (hW.cell (p := ⟨w.heap.size, 3, none⟩) (by simp)).trans (by simp)⟩
theorem ixs_raw (ixs : List Ix) (rows : List Vl) (LL : List (List Vl)) (ca ia : Option Addr) (cn cc ic : Nat) (nm : List UInt8) (du ru : Value) (next : Int) (w : World) (hi : IsAt w (.slice ia ixs.length ic) ixs)
    (h30 : ∀ W : World, Below w.heap.size w W → Calls Tryz.prog 30 #[tbV nm (.slice ca cn cc) du ru next (.slice ia ixs.length ic)] W fun e w' => ∃ u, e = .returned u ∧ VvOwn w' W.heap.size u LL ∧ Below W.heap.size W w')
    (h94 : ∀ (W : World) (u ev : Value) (x : Ix), Below w.heap.size w W → (∃ B, VvOwn W B u LL) → (decide (0 ≤ x.a) && decide (x.a < (cn : Int))) = true → Calls Tryz.prog 93 #[tbV nm (.slice ca cn cc) du ru next (.slice ia ixs.length ic), u, .agg #[.string ⟨x.name.toArray⟩, .int .i64 x.a, .int .i64 x.b, ev]] W fun e w' => ∃ v, e = .returned v ∧ CsAt w' v (sortE (entL x.a.toNat x.b rows LL)) ∧ Below W.heap.size W w')
    (hl : Ml w) :
    Calls Tryz.prog 47 #[tbV nm (.slice ca cn cc) du ru next (.slice ia ixs.length ic)] w fun e w' => e = .returned (.int .i64 (ixsF cn rows LL next [] ixs : Nat)) ∧ Below w.heap.size w w' := by
  have b0 := (Below.refl w.heap.size w).alloc (Nat.le_refl _) (.cells #[.string ⟨nm.toArray⟩, .slice ca cn cc, du, ru, .int .i64 next, .slice ia ixs.length ic] 27)
  have hz0 : (w.alloc (.cells #[.string ⟨nm.toArray⟩, .slice ca cn cc, du, ru, .int .i64 next, .slice ia ixs.length ic] 27)).heap.size = w.heap.size + 1 := by simp
  have h90 := fun (W : World) (hW : Below w.heap.size w W) (k : Nat) (hk : k ≤ ixs.length) (x : Ix) => hasIx_any (ixs.take k) (.slice ia k ic) x.name W ((hi.below hW).take k hk)
  have h92 := fun (W : World) (c : Int) => isColumn_any c ca cn cc nm du ru (.slice ia ixs.length ic) next W
  obtain ⟨ia', ic', he, hcap, hsz, hns, hcc⟩ := hi
  cases he
  obtain ⟨PP, hPP⟩ : ∃ PP : Ending → World → Prop, PP = fun e w' => e = .returned (.int .i64 (ixsF cn rows LL next [] ixs : Nat)) ∧ Below w.heap.size w w' := ⟨_, rfl⟩
  refine Calls.mono (R := PP) ?_ (by rw [hPP]; exact fun _ _ h => h)
  have HP : Hid (∀ (E : Nat) (w' : World), ixsF cn rows LL next [] ixs = E → Below w.heap.size w w' → PP (.returned (.int .i64 (E : Int))) w') := by
    intro E w' h1 h2
    rw [hPP]
    exact ⟨by rw [h1], h2⟩
  clear hPP
  have h85 := fun (W : World) (hW : Below w.heap.size w W) (x : Ix) (hx : x ∈ ixs) => isName_any ⟨x.name.toArray⟩ W (by simpa [ByteArray.size] using hns x hx) (hl.below hW)
  obtain ⟨n, hn⟩ : ∃ n, ixs.length = n := ⟨_, rfl⟩
  have hRN := hide hn
  have hC : Hid (ixs ≠ [] → ∃ g o, ia = some ⟨g, o, none⟩ ∧ g < w.heap.size ∧ ∀ i x, ixs[i]? = some x → ∃ ev, w.cell? ⟨g, o + i * 4, none⟩ = some (.string ⟨x.name.toArray⟩) ∧ w.cell? ⟨g, o + i * 4 + 1, none⟩ = some (.int .i64 x.a) ∧ w.cell? ⟨g, o + i * 4 + 2, none⟩ = some (.int .i64 x.b) ∧ w.cell? ⟨g, o + i * 4 + 3, none⟩ = some ev ∧ CsAt w ev x.es ∧ ∀ y ∈ x.es, y.name.length ≤ 140737488355328) := hcc
  have H0 : Hid (ixsF cn rows LL next [] ixs = ixsF cn rows LL next (ixs.take 0) (ixs.drop 0)) := by rw [List.drop_zero, List.take_zero]; exact rfl
  rw [hn] at hsz h30 h94 hz0 b0 h90 h92 hcap ⊢
  clear hcc hn hns hl
  unfold tbV at *
  go_enter Tryz.func47, Tryz.ntmps47
  go_wp2_with fail
  refine (h30 _ b0).mono ?_
  rintro e w0 ⟨u, rfl, hu, bu⟩
  have qu : Below w.heap.size w w0 := b0.trans (bu.mono b0.size)
  have pu : Below (w.heap.size + 1) (w.alloc (.cells #[.string ⟨nm.toArray⟩, .slice ca cn cc, du, ru, .int .i64 next, .slice ia n ic] 27)) w0 := by rw [hz0] at bu; exact bu
  have HU := hide hu
  obtain ⟨d0, d1, d2, d3, d4, d5⟩ := six_cells pu
  clear h30 bu hu
  go_wp2_with fail
  go_loopw [11] (fun i wl => ∃ k : Nat, k ≤ n ∧ i = .int .i64 k ∧ Below w0.heap.size w0 wl ∧ Hid (ixsF cn rows LL next [] ixs = ixsF cn rows LL next (ixs.take k) (ixs.drop k))) (fun i _ => n - (intOf i).toNat)
  case atStart => exact ⟨0, Nat.zero_le _, rfl, Below.refl _ _, H0⟩
  case round =>
    obtain ⟨k, hk, rfl, hnx, HR⟩ := hrel
    have q0 : Below w.heap.size w wr := qu.trans (hnx.mono qu.size)
    have pr : Below (w.heap.size + 1) (w.alloc (.cells #[.string ⟨nm.toArray⟩, .slice ca cn cc, du, ru, .int .i64 next, .slice ia n ic] 27)) wr := pu.trans (hnx.mono (by have := pu.size; omega))
    clear d0 d1 d2 d3 d4 d5
    by_cases hlt : k < n
    · obtain ⟨x, hx⟩ : ∃ x, ixs[k]? = some x := ⟨ixs[k]'(by rw [hRN.out]; exact hlt), List.getElem?_eq_getElem _⟩
      obtain ⟨g, o, rfl, hg, hc⟩ := hC.out (by intro e; rw [e] at hx; cases hx)
      obtain ⟨ev, c0, c1, c2, c3, hes, -⟩ := hc k x hx
      obtain ⟨ea, en, ec, hev⟩ : ∃ ea en ec, ev = .slice ea en ec := by
        obtain ⟨ea, ec, e, -⟩ := hes
        exact ⟨ea, _, ec, e⟩
      subst hev
      replace c0 := (q0.cell (p := ⟨g, o + k * 4, none⟩) hg).trans c0
      replace c1 := (q0.cell (p := ⟨g, o + k * 4 + 1, none⟩) hg).trans c1
      replace c2 := (q0.cell (p := ⟨g, o + k * 4 + 2, none⟩) hg).trans c2
      replace c3 := (q0.cell (p := ⟨g, o + k * 4 + 3, none⟩) hg).trans c3
      have hlt' : (k : Int) < (n : Int) := by omega
      have hkc : (k : Int) ≤ (ic : Int) := by omega
      have hd : ixs.drop k = x :: ixs.drop (k + 1) := by
        obtain ⟨hh, e⟩ := List.getElem?_eq_some_iff.1 hx
        rw [List.drop_eq_getElem_cons hh, e]
      have ht : ixs.take (k + 1) = ixs.take k ++ [x] := by rw [List.take_add_one, hx]; rfl
      have HX : Hid (ixsF cn rows LL next [] ixs = if nameW x.name = false then 1 else if hasIx (ixs.take k) x.name = true then 6 else if (decide (0 ≤ x.a) && decide (x.a < (cn : Int))) = false then 5 else if x.b < 1 ∨ next < x.b then 3 else if decide (x.es = sortE (entL x.a.toNat x.b rows LL)) = false then 4 else ixsF cn rows LL next (ixs.take (k + 1)) (ixs.drop (k + 1))) := by
        rw [Hid, HR.out, hd, ht]; rfl
      have hNx := fun (W : World) (hW : Below w.heap.size w W) => h85 W hW x (List.mem_of_getElem? hx)
      have hHx := fun (W : World) (hW : Below w.heap.size w W) => h90 W hW k (by omega) x
      have h94x := fun (W : World) (hW : Below w.heap.size w W) (hu : ∃ B, VvOwn W B u LL) => h94 W u (.slice ea en ec) x hW hu
      have h93x := fun (W : World) (v : Value) (h1 : CsAt W (.slice ea en ec) x.es) (h2 : CsAt W v (sortE (entL x.a.toNat x.b rows LL))) => equalEn_any x.es (sortE (entL x.a.toNat x.b rows LL)) (.slice ea en ec) v W h1 h2
      have HES := hide hes
      obtain ⟨B, hB⟩ : ∃ B, nameW x.name = B := ⟨_, rfl⟩
      have eB : nameW (⟨x.name.toArray⟩ : ByteArray).data.toList = B := hB
      rw [eB] at hNx
      obtain ⟨D, hD⟩ : ∃ D, hasIx (ixs.take k) x.name = D := ⟨_, rfl⟩
      rw [hD] at hHx
      obtain ⟨E, hE⟩ : ∃ E, (decide (0 ≤ x.a) && decide (x.a < (cn : Int))) = E := ⟨_, rfl⟩
      have h92x := fun (W : World) => h92 W x.a
      rw [hE] at h92x h94x
      obtain ⟨F, hF⟩ : ∃ F, decide (x.es = sortE (entL x.a.toNat x.b rows LL)) = F := ⟨_, rfl⟩
      rw [hF] at h93x
      rw [hB, hD, hE, hF] at HX
      generalize sortE (entL x.a.toNat x.b rows LL) = M at h93x h94x
      have q1 := q0.alloc q0.size (.cells #[.string ⟨x.name.toArray⟩, .int .i64 x.a, .int .i64 x.b, .slice ea en ec] 73)
      have sl : w.heap.size < wr.heap.size := by have := pr.size; omega
      have p1 : Below (w.heap.size + 1) (w.alloc (.cells #[.string ⟨nm.toArray⟩, .slice ca cn cc, du, ru, .int .i64 next, .slice (some ⟨g, o, none⟩) n ic] 27)) (wr.alloc (.cells #[.string ⟨x.name.toArray⟩, .int .i64 x.a, .int .i64 x.b, .slice ea en ec] 73)) := pr.alloc (by omega) _
      have n1 : Below w0.heap.size w0 (wr.alloc (.cells #[.string ⟨x.name.toArray⟩, .int .i64 x.a, .int .i64 x.b, .slice ea en ec] 73)) := hnx.alloc hnx.size _
      obtain ⟨sb, hsb⟩ : ∃ s, wr.heap.size = s := ⟨_, rfl⟩
      have z1 : (wr.alloc (.cells #[.string ⟨x.name.toArray⟩, .int .i64 x.a, .int .i64 x.b, .slice ea en ec] 73)).heap.size = sb + 1 := by rw [← hsb]; simp
      have R1 : Hid (∀ W : World, Below (sb + 1) (wr.alloc (.cells #[.string ⟨x.name.toArray⟩, .int .i64 x.a, .int .i64 x.b, .slice ea en ec] 73)) W → W.cell? ⟨sb, 0, none⟩ = some (.string ⟨x.name.toArray⟩) ∧ W.cell? ⟨sb, 1, none⟩ = some (.int .i64 x.a) ∧ W.cell? ⟨sb, 2, none⟩ = some (.int .i64 x.b) ∧ W.cell? ⟨sb, 3, none⟩ = some (.slice ea en ec)) := by
        rw [← hsb]
        exact fun W hW => four_cells hW
      have D1 : Hid (∀ W : World, Below (sb + 1) (wr.alloc (.cells #[.string ⟨x.name.toArray⟩, .int .i64 x.a, .int .i64 x.b, .slice ea en ec] 73)) W → W.cell? ⟨w.heap.size, 0, none⟩ = some (.string ⟨nm.toArray⟩) ∧ W.cell? ⟨w.heap.size, 1, none⟩ = some (.slice ca cn cc) ∧ W.cell? ⟨w.heap.size, 2, none⟩ = some du ∧ W.cell? ⟨w.heap.size, 3, none⟩ = some ru ∧ W.cell? ⟨w.heap.size, 4, none⟩ = some (.int .i64 next) ∧ W.cell? ⟨w.heap.size, 5, none⟩ = some (.slice (some ⟨g, o, none⟩) n ic)) := hide fun W hW => six_cells (p1.trans (hW.mono (by omega)))
      clear h85 h90 hC hc hx hd ht HR eB hB hD hE hF hes h94 h92
      go_wp2_with fail
      generalize wr.alloc (.cells #[.string ⟨x.name.toArray⟩, .int .i64 x.a, .int .i64 x.b, .slice ea en ec] 73) = wa at *
      refine (hNx _ q1).mono ?_
      rintro e w1 ⟨rfl, b1⟩
      rw [z1] at b1
      have q2 : Below w.heap.size w w1 := q1.trans (b1.mono (by omega))
      obtain ⟨r0, r1, r2, r3⟩ := R1.out w1 b1
      obtain ⟨d0, d1, d2, d3, d4, d5⟩ := D1.out w1 b1
      have l1 : sb < w1.heap.size := by have := b1.size; omega
      clear hNx q1 c0 c1 c2 c3 hsb
      cases B with
      | false =>
        go_wp2
        exact HP.out 1 _ (by rw [HX.out]; rfl) q2
      | true =>
        have hH1 := hHx w1 q2
        have hH2 := hHx w1.drew q2.drew
        clear hHx
        go_wp2_with fail
        go_region_law (go_simp; refine (by first | exact hH1 | exact hH2 : Calls Tryz.prog 90 _ _ _).mono ?_; rintro e w2 ⟨K, rfl, hK, b7⟩; have HK := hide hK; have B2 : Hid (Below w1.heap.size w1 w2) := hide (by first | exact b7 | exact ((Below.refl w1.heap.size w1).drew.trans (b7.mono (by simp)))); clear b7 hK; dsimp only)
        all_goals
          have b3 : Below (sb + 1) wa w2 := b1.trans (B2.out.mono (by omega))
          have q3 : Below w.heap.size w w2 := q2.trans (B2.out.mono q2.size)
          clear hH1 hH2 B2 b1 q2 r0 r1 r2 r3 d0 d1 d2 d3 d4 d5 l1
          obtain ⟨r0, r1, r2, r3⟩ := R1.out w2 b3
          obtain ⟨d0, d1, d2, d3, d4, d5⟩ := D1.out w2 b3
          cases D with
          | true =>
            have hK0 : K ≥ 0 := of_decide_eq_true HK.out
            go_wp2
            exact HP.out 6 _ (by rw [HX.out]; simp) q3
          | false =>
            have hK0 : ¬ K ≥ 0 := of_decide_eq_false HK.out
            go_wp2_with fail
            refine (h92x _).mono ?_
            rintro e w3 ⟨rfl, b4⟩
            have b5 : Below (sb + 1) wa w3 := b3.trans (b4.mono (by have := b3.size; omega))
            have q4 : Below w.heap.size w w3 := q3.trans (b4.mono q3.size)
            clear b3 b4 q3 r0 r1 r2 r3 d0 d1 d2 d3 d4 d5 h92x
            obtain ⟨r0, r1, r2, r3⟩ := R1.out w3 b5
            obtain ⟨d0, d1, d2, d3, d4, d5⟩ := D1.out w3 b5
            cases E with
            | false =>
              go_wp2
              exact HP.out 5 _ (by rw [HX.out]; simp) q4
            | true =>
              by_cases h1 : x.b < 1
              · go_wp2
                exact HP.out 3 _ (by rw [HX.out]; simp [h1]) q4
              by_cases h2 : next < x.b
              · have h2' : x.b > next := h2
                go_wp2
                exact HP.out 3 _ (by rw [HX.out]; simp [h2]) q4
              have h2' : ¬ x.b > next := h2
              have HX2 : Hid (ixsF cn rows LL next [] ixs = if F = false then 4 else ixsF cn rows LL next (ixs.take (k + 1)) (ixs.drop (k + 1))) := by
                rw [Hid, HX.out]; simp [h1, h2]
              have n3 : Below w0.heap.size w0 w3 := n1.trans (b5.mono (by have := n1.size; omega))
              have hU3 : ∃ B, VvOwn w3 B u LL := ⟨_, HU.out.below n3⟩
              have h94y := h94x w3 q4 hU3 rfl
              have h94z := h94x w3.drew q4.drew ⟨_, HU.out.below n3.drew⟩ rfl
              clear HX h94x
              go_wp2_with fail
              go_region_law (first | (go_simp; refine (by first | exact h94y | exact h94z : Calls Tryz.prog 93 _ _ _).mono ?_; rintro e w7 ⟨v7, rfl, o7, b7⟩; have B7 : Hid (Below w3.heap.size w3 w7) := hide (by first | exact b7 | exact ((Below.refl w3.heap.size w3).drew.trans (b7.mono (by simp)))); have O7 := hide o7; have y3 := (R1.out w7 (b5.trans (B7.out.mono (by have := b5.size; omega)))).2.2.2; clear b7 o7; dsimp only) | (go_simp; refine (h93x w7 v7 (HES.out.below (q4.trans (B7.out.mono q4.size))) O7.out).mono ?_; rintro e w8 ⟨rfl, b8⟩; have B8 := hide b8; clear b8; dsimp only))
              all_goals
                have n8 : Below w0.heap.size w0 w8 := (n3.trans (B7.out.mono n3.size)).trans (B8.out.mono (by have h1 := n3.size; have h2 := B7.out.size; omega))
                have q8 : Below w.heap.size w w8 := qu.trans (n8.mono qu.size)
                clear y3 r0 r1 r2 r3 d0 d1 d2 d3 d4 d5 B7 B8 O7 n3 b5 q4 h94y h94z hU3 n1
                cases F with
                | false =>
                  go_wp2
                  exact HP.out 4 _ (by rw [HX2.out]; rfl) q8
                | true =>
                  go_wp2
                  go_roundw
                  case rel => exact ⟨k + 1, by omega, by go_num, n8, by rw [Hid, HX2.out]; simp⟩
                  case measure => simp [intOf]; omega
    · have hkn : k = n := by omega
      go_wp2
      exact HP.out 0 _ (by rw [HR.out, hkn, ← hRN.out, List.drop_length]; rfl) q0
theorem CsAt.take {w : World} {ao : Option Addr} {n cap : Nat} {L : List Cl} (h : CsAt w (.slice ao n cap) L) (k : Nat) (hk : k ≤ L.length) : CsAt w (.slice ao k cap) (L.take k) := by
  obtain ⟨ao', cap', e, hs, hc⟩ := h
  cases e
  refine ⟨ao, cap, by rw [List.length_take, Nat.min_eq_left hk], by rw [List.length_take, Nat.min_eq_left hk]; omega, fun hne => ?_⟩
  have hL : L ≠ [] := by intro e; subst e; simp at hne
  obtain ⟨g, o, e, hg, hcc⟩ := hc hL
  refine ⟨g, o, e, hg, fun i c hi => hcc i c ?_⟩
  rw [List.getElem?_take] at hi
  split at hi
  · exact hi
  · cases hi
theorem two_cells {w W : World} {a b : Value} {t : TypeId} (hW : Below (w.heap.size + 1) (w.alloc (.cells #[a, b] t)) W) :
    W.cell? ⟨w.heap.size, 0, none⟩ = some a ∧ W.cell? ⟨w.heap.size, 1, none⟩ = some b :=
  ⟨(hW.cell (p := ⟨w.heap.size, 0, none⟩) (by simp)).trans (by simp), (hW.cell (p := ⟨w.heap.size, 1, none⟩) (by simp)).trans (by simp)⟩
theorem ofType_E (ty : Int) : ∃ (s : ByteArray) (E : Bool), E = decide (¬ (1 ≤ ty ∧ ty ≤ 3)) ∧ (s.toList == []) = E ∧ s.toList.isEmpty = E ∧ ∀ W : World, Calls Tryz.prog 86 #[.int .i64 ty] W fun e w' => e = .returned (.string s) ∧ Below W.heap.size W w' := by
  refine ⟨⟨(atL typesL ty).toArray⟩, _, rfl, ?_, ?_, fun W => ofType_any ty W⟩
  · rw [ne_empty]
    exact decide_eq_decide.2 (isType_iff ty)
  · have h1 := ne_empty (atL typesL ty)
    have h2 : ((⟨(atL typesL ty).toArray⟩ : ByteArray).toList == []) = (⟨(atL typesL ty).toArray⟩ : ByteArray).toList.isEmpty := by
      cases (⟨(atL typesL ty).toArray⟩ : ByteArray).toList <;> rfl
    rw [← h2, h1]
    exact decide_eq_decide.2 (isType_iff ty)
theorem columns_raw (L : List Cl) (ao : Option Addr) (n cap : Nat) (nm : List UInt8) (du ru iu : Value) (nx : Int) (w : World) (h : CsAt w (.slice ao n cap) L) (hcp : n ≤ cap) (hs : ∀ x ∈ L, x.name.length ≤ 140737488355328) (hl : Ml w) :
    Calls Tryz.prog 43 #[tbV nm (.slice ao n cap) du ru nx iu] w fun e w' => e = .returned (.int .i64 (colsF [] L : Nat)) ∧ Below w.heap.size w w' := by
  have b0 := (Below.refl w.heap.size w).alloc (Nat.le_refl _) (.cells #[.string ⟨nm.toArray⟩, .slice ao n cap, du, ru, .int .i64 nx, iu] 27)
  have hz0 : (w.alloc (.cells #[.string ⟨nm.toArray⟩, .slice ao n cap, du, ru, .int .i64 nx, iu] 27)).heap.size = w.heap.size + 1 := by simp
  have h85 := fun (W : World) (hW : Below w.heap.size w W) (x : Cl) (hx : x ∈ L) => isName_any ⟨x.name.toArray⟩ W (by simpa [ByteArray.size] using hs x hx) (hl.below hW)
  have hhc := fun (W : World) (hW : Below w.heap.size w W) (k : Nat) (hk : k ≤ L.length) (x : Cl) => hasColumn_any (L.take k) (.slice ao k cap) x.name W ((h.take k hk).below hW)
  obtain ⟨ao', cap', he, hsz, hcc⟩ := h
  cases he
  obtain ⟨n, hn⟩ : ∃ n, L.length = n := ⟨_, rfl⟩
  rw [hn] at hcp hsz hhc hz0 b0 ⊢
  obtain ⟨PP, hPP⟩ : ∃ PP : Ending → World → Prop, PP = fun e w' => e = .returned (.int .i64 (colsF [] L : Nat)) ∧ Below w.heap.size w w' := ⟨_, rfl⟩
  refine Calls.mono (R := PP) ?_ (by rw [hPP]; exact fun _ _ h => h)
  have HP : Hid (∀ (E : Nat) (w' : World), colsF [] L = E → Below w.heap.size w w' → PP (.returned (.int .i64 (E : Int))) w') := by
    intro E w' h1 h2
    rw [hPP]
    exact ⟨by rw [h1], h2⟩
  clear hPP hs hl
  have hC : Hid (L ≠ [] → ∃ g o, ao = some ⟨g, o, none⟩ ∧ g < w.heap.size ∧ ∀ i c, L[i]? = some c → w.cell? ⟨g, o + i * 2, none⟩ = some (.string ⟨c.name.toArray⟩) ∧ w.cell? ⟨g, o + i * 2 + 1, none⟩ = some (.int .i64 c.ty)) := hcc
  clear hcc
  have H0 : Hid (colsF [] L = colsF (L.take 0) (L.drop 0)) := by rw [List.take_zero, List.drop_zero]; exact rfl
  unfold tbV
  go_enter Tryz.func43, Tryz.ntmps43
  go_wp2_with fail
  go_loopw [8] (fun i wl => ∃ k : Nat, k ≤ n ∧ i = .int .i64 k ∧ Below (w.heap.size + 1) (w.alloc (.cells #[.string ⟨nm.toArray⟩, .slice ao n cap, du, ru, .int .i64 nx, iu] 27)) wl ∧ Hid (colsF [] L = colsF (L.take k) (L.drop k))) (fun i _ => n - (intOf i).toNat)
  case atStart => exact ⟨0, Nat.zero_le _, rfl, Below.refl _ _, H0⟩
  case round =>
    obtain ⟨k, hk, rfl, hnx, HR⟩ := hrel
    have q0 : Below w.heap.size w wr := b0.trans (hnx.mono (by omega))
    by_cases hlt : k < n
    · obtain ⟨x, hx⟩ : ∃ x, L[k]? = some x := ⟨L[k], List.getElem?_eq_getElem (by omega)⟩
      have hmem : x ∈ L := List.mem_of_getElem? hx
      obtain ⟨g, o, rfl, hg, hc⟩ := hC.out (by intro e; rw [e] at hx; cases hx)
      obtain ⟨c0, c1⟩ := hc k x hx
      replace c0 := (q0.cell (p := ⟨g, o + k * 2, none⟩) hg).trans c0
      replace c1 := (q0.cell (p := ⟨g, o + k * 2 + 1, none⟩) hg).trans c1
      have hlt' : (k : Int) < (n : Int) := by omega
      have hd : L.drop k = x :: L.drop (k + 1) := by
        obtain ⟨hh, e⟩ := List.getElem?_eq_some_iff.1 hx
        rw [List.drop_eq_getElem_cons hh, e]
      have ht : L.take (k + 1) = L.take k ++ [x] := by rw [List.take_add_one, hx]; rfl
      have HX : Hid (colsF [] L = if nameW x.name = false then 1 else if ¬ (1 ≤ x.ty ∧ x.ty ≤ 3) then 7 else if (placeC (L.take k) x.name).isSome = true then 6 else colsF (L.take (k + 1)) (L.drop (k + 1))) := by
        rw [Hid, HR.out, hd, ht]; rfl
      obtain ⟨S, E, hE, hE1, hE2, h86⟩ := ofType_E x.ty
      have hNx := fun (W : World) (hW : Below w.heap.size w W) => h85 W hW x hmem
      have hHx := fun (W : World) (hW : Below w.heap.size w W) => hhc W hW k (by omega) x
      have HE := hide hE
      obtain ⟨B, hB⟩ : ∃ B, nameW x.name = B := ⟨_, rfl⟩
      have eB : nameW (⟨x.name.toArray⟩ : ByteArray).data.toList = B := hB
      rw [eB] at hNx
      obtain ⟨D, hD⟩ : ∃ D, (placeC (L.take k) x.name).isSome = D := ⟨_, rfl⟩
      have hPD := placeI_ge (L.take k) x.name
      rw [hD] at hPD
      generalize placeI (L.take k) x.name = K at hHx hPD
      have HPD := hide hPD
      clear hPD
      rw [hB, hD] at HX
      have q1 := q0.alloc q0.size (.cells #[.string ⟨x.name.toArray⟩, .int .i64 x.ty] 65)
      have p1 : Below (w.heap.size + 1) (w.alloc (.cells #[.string ⟨nm.toArray⟩, .slice (some ⟨g, o, none⟩) n cap, du, ru, .int .i64 nx, iu] 27)) (wr.alloc (.cells #[.string ⟨x.name.toArray⟩, .int .i64 x.ty] 65)) := hnx.alloc (by have := hnx.size; omega) _
      obtain ⟨d0, d1, d2, d3, d4, d5⟩ := six_cells hnx
      clear h85 hhc hC hc hx hd ht HR eB hB hD hE hmem
      have sl := hnx.size
      obtain ⟨sb, hsb⟩ : ∃ s, wr.heap.size = s := ⟨_, rfl⟩
      have z1 : (wr.alloc (.cells #[.string ⟨x.name.toArray⟩, .int .i64 x.ty] 65)).heap.size = sb + 1 := by rw [← hsb]; simp
      have r1 : ∀ W : World, Below (sb + 1) (wr.alloc (.cells #[.string ⟨x.name.toArray⟩, .int .i64 x.ty] 65)) W → W.cell? ⟨sb, 0, none⟩ = some (.string ⟨x.name.toArray⟩) ∧ W.cell? ⟨sb, 1, none⟩ = some (.int .i64 x.ty) := by
        intro W hW
        rw [← hsb] at hW ⊢
        exact two_cells hW
      have R1 := hide r1
      have D1 : Hid (∀ W : World, Below (sb + 1) (wr.alloc (.cells #[.string ⟨x.name.toArray⟩, .int .i64 x.ty] 65)) W → W.cell? ⟨w.heap.size, 1, none⟩ = some (.slice (some ⟨g, o, none⟩) n cap)) := hide fun W hW => (six_cells (p1.trans (hW.mono (by omega)))).2.1
      clear r1 d0 d1 d2 d3 d4 d5
      go_wp2_with fail
      generalize wr.alloc (.cells #[.string ⟨x.name.toArray⟩, .int .i64 x.ty] 65) = wa at *
      refine (hNx _ q1).mono ?_
      rintro e w1 ⟨rfl, b1⟩
      rw [z1] at b1
      have q2 : Below w.heap.size w w1 := q1.trans (b1.mono (by omega))
      obtain ⟨r0, r1⟩ := R1.out w1 b1
      clear hNx q1
      cases B with
      | false =>
        go_wp2
        skip
        exact HP.out 1 _ (by rw [HX.out]; rfl) q2
      | true =>
        go_wp2_with fail
        refine (h86 _).mono ?_
        rintro e w2 ⟨rfl, b2⟩
        have b3 : Below (sb + 1) wa w2 := b1.trans (b2.mono (by have := b1.size; omega))
        have q3 : Below w.heap.size w w2 := q2.trans (b2.mono q2.size)
        clear b1 b2 q2 r0 r1
        obtain ⟨r0, r1⟩ := R1.out w2 b3
        have d1 := D1.out w2 b3
        cases E with
        | true =>
          go_wp2
          skip
          exact HP.out 7 _ (by rw [HX.out, if_neg (by simp), if_pos (of_decide_eq_true HE.out.symm)]) q3
        | false =>
          have hbad : 1 ≤ x.ty ∧ x.ty ≤ 3 := by simpa using HE.out
          have HB := hide hbad
          have hkc : (k : Int) ≤ (cap : Int) := by omega
          have hDr := q3.drew
          clear hbad HE
          go_wp2_with fail
          go_region_law (go_simp; refine (hHx _ (by first | exact q3 | exact hDr)).mono ?_; rintro e w7 ⟨rfl, b7⟩; have B2 : Hid (Below w2.heap.size w2 w7) := hide (by first | exact b7 | exact ((Below.refl w2.heap.size w2).drew.trans (b7.mono (by simp)))); clear b7; dsimp only)
          all_goals
            have q7 : Below w.heap.size w w7 := q3.trans (B2.out.mono q3.size)
            have p7 : Below (w.heap.size + 1) (w.alloc (.cells #[.string ⟨nm.toArray⟩, .slice (some ⟨g, o, none⟩) n cap, du, ru, .int .i64 nx, iu] 27)) w7 := p1.trans ((b3.trans (B2.out.mono (by have := b3.size; omega))).mono (by omega))
            clear B2 r0 r1 d1 p1 b3 q3 hDr hnx q0
            cases D with
            | true =>
              have hK0 : K ≥ 0 := of_decide_eq_true HPD.out
              go_wp2
              skip
              exact HP.out 6 _ (by rw [HX.out, if_neg (by simp), if_neg (by simpa using HB.out)]; simp) q7
            | false =>
              have hK0 : ¬ K ≥ 0 := of_decide_eq_false HPD.out
              go_wp2
              go_roundw
              case rel => exact ⟨k + 1, by omega, by go_num, p7, by rw [Hid, HX.out, if_neg (by simp), if_neg (by simpa using HB.out)]; simp⟩
              case measure => simp [intOf]; omega
    · have hkn : k = n := by omega
      go_wp2
      skip
      exact HP.out 0 _ (by rw [HR.out, hkn, ← hn, List.drop_length]; rfl) q0
def firstE : List Nat → Nat
  | [] => 0
  | e :: r => if e ≠ 0 then e else firstE r
theorem check_raw (nm : List UInt8) (ca da ra ia : Option Addr) (cn dn rn xn cc dc rc ic : Nat) (nx : Int) (w : World) (F0 F1 F2 F3 F4 F5 : Nat)
    (h42 : ∀ W : World, Below w.heap.size w W → Calls Tryz.prog 42 #[tbV nm (.slice ca cn cc) (.slice da dn dc) (.slice ra rn rc) nx (.slice ia xn ic)] W fun e w' => e = .returned (.int .i64 (F0 : Nat)) ∧ Below W.heap.size W w')
    (h43 : ∀ W : World, Below w.heap.size w W → F0 = 0 → Calls Tryz.prog 43 #[tbV nm (.slice ca cn cc) (.slice da dn dc) (.slice ra rn rc) nx (.slice ia xn ic)] W fun e w' => e = .returned (.int .i64 (F1 : Nat)) ∧ Below W.heap.size W w')
    (h44 : ∀ W : World, Below w.heap.size w W → F0 = 0 → F1 = 0 → Calls Tryz.prog 44 #[tbV nm (.slice ca cn cc) (.slice da dn dc) (.slice ra rn rc) nx (.slice ia xn ic)] W fun e w' => e = .returned (.int .i64 (F2 : Nat)) ∧ Below W.heap.size W w')
    (h45 : ∀ W : World, Below w.heap.size w W → F0 = 0 → F1 = 0 → F2 = 0 → Calls Tryz.prog 45 #[tbV nm (.slice ca cn cc) (.slice da dn dc) (.slice ra rn rc) nx (.slice ia xn ic)] W fun e w' => e = .returned (.int .i64 (F3 : Nat)) ∧ Below W.heap.size W w')
    (h46 : ∀ W : World, Below w.heap.size w W → F0 = 0 → F1 = 0 → F2 = 0 → F3 = 0 → Calls Tryz.prog 46 #[tbV nm (.slice ca cn cc) (.slice da dn dc) (.slice ra rn rc) nx (.slice ia xn ic)] W fun e w' => e = .returned (.int .i64 (F4 : Nat)) ∧ Below W.heap.size W w')
    (h47 : ∀ W : World, Below w.heap.size w W → F0 = 0 → F1 = 0 → F2 = 0 → F3 = 0 → F4 = 0 → Calls Tryz.prog 47 #[tbV nm (.slice ca cn cc) (.slice da dn dc) (.slice ra rn rc) nx (.slice ia xn ic)] W fun e w' => e = .returned (.int .i64 (F5 : Nat)) ∧ Below W.heap.size W w') :
    Calls Tryz.prog 11 #[tbV nm (.slice ca cn cc) (.slice da dn dc) (.slice ra rn rc) nx (.slice ia xn ic)] w fun e w' => e = .returned (.int .i64 (firstE [F0, F1, F2, F3, F4, F5] : Nat)) ∧ Below w.heap.size w w' := by
  have b0 := ((Below.refl w.heap.size w).alloc (Nat.le_refl _) (.cells #[.string ⟨nm.toArray⟩, .slice ca cn cc, .slice da dn dc, .slice ra rn rc, .int .i64 nx, .slice ia xn ic] 27)).alloc (by simp) (.cells #[.func (.func 42) #[] #[], .func (.func 43) #[] #[], .func (.func 44) #[] #[], .func (.func 45) #[] #[], .func (.func 46) #[] #[], .func (.func 47) #[] #[]] 36)
  have hz0 : ((w.alloc (.cells #[.string ⟨nm.toArray⟩, .slice ca cn cc, .slice da dn dc, .slice ra rn rc, .int .i64 nx, .slice ia xn ic] 27)).alloc (.cells #[.func (.func 42) #[] #[], .func (.func 43) #[] #[], .func (.func 44) #[] #[], .func (.func 45) #[] #[], .func (.func 46) #[] #[], .func (.func 47) #[] #[]] 36)).heap.size = w.heap.size + 2 := by simp
  have hd : ∀ W : World, Below (w.heap.size + 2) ((w.alloc (.cells #[.string ⟨nm.toArray⟩, .slice ca cn cc, .slice da dn dc, .slice ra rn rc, .int .i64 nx, .slice ia xn ic] 27)).alloc (.cells #[.func (.func 42) #[] #[], .func (.func 43) #[] #[], .func (.func 44) #[] #[], .func (.func 45) #[] #[], .func (.func 46) #[] #[], .func (.func 47) #[] #[]] 36)) W → W.cell? ⟨w.heap.size, 0, none⟩ = some (.string ⟨nm.toArray⟩) ∧ W.cell? ⟨w.heap.size, 1, none⟩ = some (.slice ca cn cc) ∧ W.cell? ⟨w.heap.size, 2, none⟩ = some (.slice da dn dc) ∧ W.cell? ⟨w.heap.size, 3, none⟩ = some (.slice ra rn rc) ∧ W.cell? ⟨w.heap.size, 4, none⟩ = some (.int .i64 nx) ∧ W.cell? ⟨w.heap.size, 5, none⟩ = some (.slice ia xn ic) ∧ W.cell? ⟨w.heap.size + 1, 0, none⟩ = some (.func (.func 42) #[] #[]) ∧ W.cell? ⟨w.heap.size + 1, 1, none⟩ = some (.func (.func 43) #[] #[]) ∧ W.cell? ⟨w.heap.size + 1, 2, none⟩ = some (.func (.func 44) #[] #[]) ∧ W.cell? ⟨w.heap.size + 1, 3, none⟩ = some (.func (.func 45) #[] #[]) ∧ W.cell? ⟨w.heap.size + 1, 4, none⟩ = some (.func (.func 46) #[] #[]) ∧ W.cell? ⟨w.heap.size + 1, 5, none⟩ = some (.func (.func 47) #[] #[]) := fun W hW =>
    ⟨(hW.cell (p := ⟨w.heap.size, 0, none⟩) (by simp)).trans (by simp), (hW.cell (p := ⟨w.heap.size, 1, none⟩) (by simp)).trans (by simp), (hW.cell (p := ⟨w.heap.size, 2, none⟩) (by simp)).trans (by simp), (hW.cell (p := ⟨w.heap.size, 3, none⟩) (by simp)).trans (by simp), (hW.cell (p := ⟨w.heap.size, 4, none⟩) (by simp)).trans (by simp), (hW.cell (p := ⟨w.heap.size, 5, none⟩) (by simp)).trans (by simp), (hW.cell (p := ⟨w.heap.size + 1, 0, none⟩) (by simp)).trans (by simp), (hW.cell (p := ⟨w.heap.size + 1, 1, none⟩) (by simp)).trans (by simp), (hW.cell (p := ⟨w.heap.size + 1, 2, none⟩) (by simp)).trans (by simp), (hW.cell (p := ⟨w.heap.size + 1, 3, none⟩) (by simp)).trans (by simp), (hW.cell (p := ⟨w.heap.size + 1, 4, none⟩) (by simp)).trans (by simp), (hW.cell (p := ⟨w.heap.size + 1, 5, none⟩) (by simp)).trans (by simp)⟩
  have HD := hide hd
  obtain ⟨PP, hPP⟩ : ∃ PP : Ending → World → Prop, PP = fun e w' => e = .returned (.int .i64 (firstE [F0, F1, F2, F3, F4, F5] : Nat)) ∧ Below w.heap.size w w' := ⟨_, rfl⟩
  refine Calls.mono (R := PP) ?_ (by rw [hPP]; exact fun _ _ h => h)
  have HP : Hid (∀ (E : Nat) (w' : World), firstE [F0, F1, F2, F3, F4, F5] = E → Below w.heap.size w w' → PP (.returned (.int .i64 (E : Int))) w') := by
    intro E w' h1 h2
    rw [hPP]
    exact ⟨by rw [h1], h2⟩
  clear hPP hd
  unfold tbV at *
  generalize hW0 : ((w.alloc (.cells #[.string ⟨nm.toArray⟩, .slice ca cn cc, .slice da dn dc, .slice ra rn rc, .int .i64 nx, .slice ia xn ic] 27)).alloc (.cells #[.func (.func 42) #[] #[], .func (.func 43) #[] #[], .func (.func 44) #[] #[], .func (.func 45) #[] #[], .func (.func 46) #[] #[], .func (.func 47) #[] #[]] 36)) = W0 at b0 hz0 HD
  have HW0 := hide hW0
  clear hW0
  go_enter Tryz.func11, Tryz.ntmps11
  go_wp2_with fail
  rw [HW0.out]
  go_loopw [8] (fun i wl => ∃ k : Nat, k ≤ 6 ∧ i = .int .i64 k ∧ Below (w.heap.size + 2) W0 wl ∧ Hid (∀ j E, j < k → [F0, F1, F2, F3, F4, F5][j]? = some E → E = 0)) (fun i _ => 6 - (intOf i).toNat)
  case atStart => exact ⟨0, Nat.zero_le _, rfl, Below.refl _ _, fun j E hj => absurd hj (Nat.not_lt_zero _)⟩
  case round =>
    obtain ⟨k, hk, rfl, hnx, HA⟩ := hrel
    have q0 : Below w.heap.size w wr := b0.trans (hnx.mono (by omega))
    obtain ⟨d0, d1, d2, d3, d4, d5, f0, f1, f2, f3, f4, f5⟩ := HD.out wr hnx
    have hcase : k = 0 ∨ k = 1 ∨ k = 2 ∨ k = 3 ∨ k = 4 ∨ k = 5 ∨ k = 6 := by omega
    have s0 := hnx.size
    rcases hcase with rfl | rfl | rfl | rfl | rfl | rfl | rfl
    · have hc := h42 wr q0
      have HZ : Hid (True) := by exact trivial
      clear h42 h43 h44 h45 h46 h47
      go_wp2_with fail
      refine hc.mono ?_
      rintro e w1 ⟨rfl, b1⟩
      have q1 : Below w.heap.size w w1 := q0.trans (b1.mono q0.size)
      have p1 : Below (w.heap.size + 2) W0 w1 := hnx.trans (b1.mono (by omega))
      clear hc b1 d0 d1 d2 d3 d4 d5 f0 f1 f2 f3 f4 f5
      by_cases hE : F0 = 0
      · have HE := hide hE
        rw [hE]
        clear hE
        go_wp2
        go_roundw
        case rel =>
          refine ⟨1, by omega, by go_num, p1, fun j E hj hE => ?_⟩
          rcases Nat.lt_or_ge j 0 with h | h
          · exact HA.out j E h hE
          · obtain rfl : j = 0 := by omega
            simp at hE
            rw [← hE]; exact HE.out
        case measure => simp [intOf]
      · have hE1 : ¬ (F0 : Int) = 0 := by omega
        have HE := hide hE
        clear hE
        go_wp2
        exact HP.out F0 _ (by simp [firstE, show ¬ F0 = 0 from HE.out]) q1
    · have z0 : F0 = 0 := HA.out 0 F0 (by decide) rfl
      have hc := h43 wr q0 z0
      have HZ : Hid (True ∧ F0 = 0) := by exact ⟨trivial, z0⟩
      clear h42 h43 h44 h45 h46 h47 z0
      go_wp2_with fail
      refine hc.mono ?_
      rintro e w1 ⟨rfl, b1⟩
      have q1 : Below w.heap.size w w1 := q0.trans (b1.mono q0.size)
      have p1 : Below (w.heap.size + 2) W0 w1 := hnx.trans (b1.mono (by omega))
      clear hc b1 d0 d1 d2 d3 d4 d5 f0 f1 f2 f3 f4 f5
      by_cases hE : F1 = 0
      · have HE := hide hE
        rw [hE]
        clear hE
        go_wp2
        go_roundw
        case rel =>
          refine ⟨2, by omega, by go_num, p1, fun j E hj hE => ?_⟩
          rcases Nat.lt_or_ge j 1 with h | h
          · exact HA.out j E h hE
          · obtain rfl : j = 1 := by omega
            simp at hE
            rw [← hE]; exact HE.out
        case measure => simp [intOf]
      · have hE1 : ¬ (F1 : Int) = 0 := by omega
        have HE := hide hE
        clear hE
        go_wp2
        exact HP.out F1 _ (by simp [firstE, HZ.out.2, show ¬ F1 = 0 from HE.out]) q1
    · have z0 : F0 = 0 := HA.out 0 F0 (by decide) rfl
      have z1 : F1 = 0 := HA.out 1 F1 (by decide) rfl
      have hc := h44 wr q0 z0 z1
      have HZ : Hid (True ∧ F0 = 0 ∧ F1 = 0) := by exact ⟨trivial, z0, z1⟩
      clear h42 h43 h44 h45 h46 h47 z0 z1
      go_wp2_with fail
      refine hc.mono ?_
      rintro e w1 ⟨rfl, b1⟩
      have q1 : Below w.heap.size w w1 := q0.trans (b1.mono q0.size)
      have p1 : Below (w.heap.size + 2) W0 w1 := hnx.trans (b1.mono (by omega))
      clear hc b1 d0 d1 d2 d3 d4 d5 f0 f1 f2 f3 f4 f5
      by_cases hE : F2 = 0
      · have HE := hide hE
        rw [hE]
        clear hE
        go_wp2
        go_roundw
        case rel =>
          refine ⟨3, by omega, by go_num, p1, fun j E hj hE => ?_⟩
          rcases Nat.lt_or_ge j 2 with h | h
          · exact HA.out j E h hE
          · obtain rfl : j = 2 := by omega
            simp at hE
            rw [← hE]; exact HE.out
        case measure => simp [intOf]
      · have hE1 : ¬ (F2 : Int) = 0 := by omega
        have HE := hide hE
        clear hE
        go_wp2
        exact HP.out F2 _ (by simp [firstE, HZ.out.2.1, HZ.out.2.2, show ¬ F2 = 0 from HE.out]) q1
    · have z0 : F0 = 0 := HA.out 0 F0 (by decide) rfl
      have z1 : F1 = 0 := HA.out 1 F1 (by decide) rfl
      have z2 : F2 = 0 := HA.out 2 F2 (by decide) rfl
      have hc := h45 wr q0 z0 z1 z2
      have HZ : Hid (True ∧ F0 = 0 ∧ F1 = 0 ∧ F2 = 0) := by exact ⟨trivial, z0, z1, z2⟩
      clear h42 h43 h44 h45 h46 h47 z0 z1 z2
      go_wp2_with fail
      refine hc.mono ?_
      rintro e w1 ⟨rfl, b1⟩
      have q1 : Below w.heap.size w w1 := q0.trans (b1.mono q0.size)
      have p1 : Below (w.heap.size + 2) W0 w1 := hnx.trans (b1.mono (by omega))
      clear hc b1 d0 d1 d2 d3 d4 d5 f0 f1 f2 f3 f4 f5
      by_cases hE : F3 = 0
      · have HE := hide hE
        rw [hE]
        clear hE
        go_wp2
        go_roundw
        case rel =>
          refine ⟨4, by omega, by go_num, p1, fun j E hj hE => ?_⟩
          rcases Nat.lt_or_ge j 3 with h | h
          · exact HA.out j E h hE
          · obtain rfl : j = 3 := by omega
            simp at hE
            rw [← hE]; exact HE.out
        case measure => simp [intOf]
      · have hE1 : ¬ (F3 : Int) = 0 := by omega
        have HE := hide hE
        clear hE
        go_wp2
        exact HP.out F3 _ (by simp [firstE, HZ.out.2.1, HZ.out.2.2.1, HZ.out.2.2.2, show ¬ F3 = 0 from HE.out]) q1
    · have z0 : F0 = 0 := HA.out 0 F0 (by decide) rfl
      have z1 : F1 = 0 := HA.out 1 F1 (by decide) rfl
      have z2 : F2 = 0 := HA.out 2 F2 (by decide) rfl
      have z3 : F3 = 0 := HA.out 3 F3 (by decide) rfl
      have hc := h46 wr q0 z0 z1 z2 z3
      have HZ : Hid (True ∧ F0 = 0 ∧ F1 = 0 ∧ F2 = 0 ∧ F3 = 0) := by exact ⟨trivial, z0, z1, z2, z3⟩
      clear h42 h43 h44 h45 h46 h47 z0 z1 z2 z3
      go_wp2_with fail
      refine hc.mono ?_
      rintro e w1 ⟨rfl, b1⟩
      have q1 : Below w.heap.size w w1 := q0.trans (b1.mono q0.size)
      have p1 : Below (w.heap.size + 2) W0 w1 := hnx.trans (b1.mono (by omega))
      clear hc b1 d0 d1 d2 d3 d4 d5 f0 f1 f2 f3 f4 f5
      by_cases hE : F4 = 0
      · have HE := hide hE
        rw [hE]
        clear hE
        go_wp2
        go_roundw
        case rel =>
          refine ⟨5, by omega, by go_num, p1, fun j E hj hE => ?_⟩
          rcases Nat.lt_or_ge j 4 with h | h
          · exact HA.out j E h hE
          · obtain rfl : j = 4 := by omega
            simp at hE
            rw [← hE]; exact HE.out
        case measure => simp [intOf]
      · have hE1 : ¬ (F4 : Int) = 0 := by omega
        have HE := hide hE
        clear hE
        go_wp2
        exact HP.out F4 _ (by simp [firstE, HZ.out.2.1, HZ.out.2.2.1, HZ.out.2.2.2.1, HZ.out.2.2.2.2, show ¬ F4 = 0 from HE.out]) q1
    · have z0 : F0 = 0 := HA.out 0 F0 (by decide) rfl
      have z1 : F1 = 0 := HA.out 1 F1 (by decide) rfl
      have z2 : F2 = 0 := HA.out 2 F2 (by decide) rfl
      have z3 : F3 = 0 := HA.out 3 F3 (by decide) rfl
      have z4 : F4 = 0 := HA.out 4 F4 (by decide) rfl
      have hc := h47 wr q0 z0 z1 z2 z3 z4
      have HZ : Hid (True ∧ F0 = 0 ∧ F1 = 0 ∧ F2 = 0 ∧ F3 = 0 ∧ F4 = 0) := by exact ⟨trivial, z0, z1, z2, z3, z4⟩
      clear h42 h43 h44 h45 h46 h47 z0 z1 z2 z3 z4
      go_wp2_with fail
      refine hc.mono ?_
      rintro e w1 ⟨rfl, b1⟩
      have q1 : Below w.heap.size w w1 := q0.trans (b1.mono q0.size)
      have p1 : Below (w.heap.size + 2) W0 w1 := hnx.trans (b1.mono (by omega))
      clear hc b1 d0 d1 d2 d3 d4 d5 f0 f1 f2 f3 f4 f5
      by_cases hE : F5 = 0
      · have HE := hide hE
        rw [hE]
        clear hE
        go_wp2
        go_roundw
        case rel =>
          refine ⟨6, by omega, by go_num, p1, fun j E hj hE => ?_⟩
          rcases Nat.lt_or_ge j 5 with h | h
          · exact HA.out j E h hE
          · obtain rfl : j = 5 := by omega
            simp at hE
            rw [← hE]; exact HE.out
        case measure => simp [intOf]
      · have hE1 : ¬ (F5 : Int) = 0 := by omega
        have HE := hide hE
        clear hE
        go_wp2
        exact HP.out F5 _ (by simp [firstE, HZ.out.2.1, HZ.out.2.2.1, HZ.out.2.2.2.1, HZ.out.2.2.2.2.1, HZ.out.2.2.2.2.2, show ¬ F5 = 0 from HE.out]) q1
    · have HZ : Hid (F0 = 0 ∧ F1 = 0 ∧ F2 = 0 ∧ F3 = 0 ∧ F4 = 0 ∧ F5 = 0) := ⟨HA.out 0 F0 (by decide) rfl, HA.out 1 F1 (by decide) rfl, HA.out 2 F2 (by decide) rfl, HA.out 3 F3 (by decide) rfl, HA.out 4 F4 (by decide) rfl, HA.out 5 F5 (by decide) rfl⟩
      clear h42 h43 h44 h45 h46 h47
      go_wp2
      exact HP.out 0 _ (by obtain ⟨z0, z1, z2, z3, z4, z5⟩ := HZ.out; simp [firstE, z0, z1, z2, z3, z4, z5]) q0
def valsT (t : Tb) : List (List Vl) := t.rows.map (nowL t.ds)
def faultsT (t : Tb) : List Nat := [frameN (nameW t.name) t.cols.length t.ds.length t.rows.length t.ixs.length, colsF [] t.cols, nextF t.next, deltasF t.cols.length t.ds, rowsF t.cols t.ds t.next 0 t.rows, ixsF t.cols.length t.rows (valsT t) t.next [] t.ixs]
def checkT (t : Tb) : Nat := firstE (faultsT t)
theorem frameN_zero {b : Bool} {cn dn rn xn : Nat} (h : frameN b cn dn rn xn = 0) : b = true ∧ cn ≠ 0 ∧ cn ≤ 5 ∧ dn ≤ 6 ∧ rn ≤ 30 ∧ xn ≤ 4 := by
  unfold frameN at h
  split at h
  · cases h
  · rename_i h1
    split at h
    · cases h
    · rename_i h2
      have hb : b = true := by cases b <;> simp_all
      exact ⟨hb, fun e => h1 (Or.inr e), by omega, by omega, by omega, by omega⟩
structure RowOk (cs : List Cl) (ds : List Dl) (next : Int) (r : Vl) : Prop where
  lt : r.k < next
  v0 : 0 ≤ r.n
  v1 : r.n ≤ ds.length
  ok : nowE ds r = 0
  len : (nowL ds r).length = cs.length
  kinds : kindsR cs (nowL ds r) = true
theorem rowsF_zero {cs : List Cl} {ds : List Dl} {next : Int} : ∀ {l : List Vl} {a : Int}, rowsF cs ds next a l = 0 → ∀ r ∈ l, a < r.k ∧ RowOk cs ds next r
  | [], _, _ => by simp
  | x :: l, a, h => by
    rw [rowsF] at h
    split at h
    · cases h
    · rename_i h1
      split at h
      · cases h
      · rename_i h2
        split at h
        · rename_i h3; exact absurd h h3
        · rename_i h3
          split at h
          · cases h
          · rename_i h4
            have h4' := Classical.not_not.1 h4
            intro r hr
            rcases List.mem_cons.1 hr with rfl | hr
            · exact ⟨by omega, ⟨by omega, by omega, by omega, Classical.not_not.1 h3, h4'.1, h4'.2⟩⟩
            · obtain ⟨g1, g2⟩ := rowsF_zero h r hr
              exact ⟨by omega, g2⟩
theorem now_short {ds : List Dl} {r : Vl} (h : nowE ds r = 0) : ∀ y ∈ nowL ds r, y.s.length ≤ 20 := by
  unfold nowE at h
  by_cases hD : decE r.s = 0
  · rw [if_neg (by simpa using hD)] at h
    rw [nowL, if_neg (by simpa using hD)]
    obtain ⟨-, hb⟩ := applied_ok h
    exact fun y hy => short_of ((badL_zero _).1 hb y hy)
  · rw [if_pos hD] at h; exact absurd h hD
theorem tvalues_any (t : Tb) (cu du ru iu : Value) (w : World) (h : TbAt w cu du ru iu t) (laid : Laid w) (hr30 : t.rows.length ≤ 1000) (hok : ∀ r ∈ t.rows, 0 ≤ r.n ∧ r.n ≤ t.ds.length ∧ nowE t.ds r = 0) :
    Calls Tryz.prog 30 #[tbV t.name cu du ru t.next iu] w fun e w' => ∃ u, e = .returned u ∧ VvOwn w' w.heap.size u (valsT t) ∧ Below w.heap.size w w' := by
  have hds := h.ds
  have hrs := h.rs
  obtain ⟨da, dc, rfl, -⟩ := h.ds
  obtain ⟨ra, rc, rfl, -⟩ := h.rs
  refine values_raw t.rows (nowL t.ds) cu da ra t.ds.length t.rows.length dc rc t.name iu t.next w rfl hr30 hrs ?_
  intro W r hW hr
  obtain ⟨h0, h1, h2⟩ := hok r hr
  have := now_any t.ds r _ t.name cu (.slice ra t.rows.length rc) iu t.next W (hds.below hW) (laid.below hW) h0 h1
  rw [h2] at this
  exact this
theorem entries_any (t : Tb) (cu du ru iu u ev : Value) (x : Ix) (B : Nat) (w : World) (h : TbAt w cu du ru iu t) (laid : Laid w) (hr30 : t.rows.length ≤ 1000) (hok : ∀ r ∈ t.rows, RowOk t.cols t.ds t.next r) (hu : VvOwn w B u (valsT t)) (h0 : 0 ≤ x.a) (h1 : x.a < t.cols.length) :
    Calls Tryz.prog 93 #[tbV t.name cu du ru t.next iu, u, .agg #[.string ⟨x.name.toArray⟩, .int .i64 x.a, .int .i64 x.b, ev]] w fun e w' => ∃ v, e = .returned v ∧ w'.ownsRow w.heap.size 111 2 v (entL x.a.toNat x.b t.rows (valsT t)).length ((sortE (entL x.a.toNat x.b t.rows (valsT t))).flatMap clC) ∧ Below w.heap.size w w' := by
  obtain ⟨c, hc⟩ : ∃ c : Nat, x.a = (c : Int) := ⟨x.a.toNat, by omega⟩
  rw [hc, Int.toNat_natCast]
  refine entOf_any t.rows (valsT t) c x.b x.name t.name ru u cu du iu ev t.next B w h.rs hu (by simp [valsT]) hr30 ?_ ?_ laid
  · intro l hl
    obtain ⟨r, hr, rfl⟩ := List.mem_map.1 hl
    rw [(hok r hr).len]
    omega
  · intro l hl
    obtain ⟨r, hr, rfl⟩ := List.mem_map.1 hl
    exact now_short (hok r hr).ok
theorem tcheck_any (t : Tb) (cu du ru iu : Value) (w : World) (h : TbAt w cu du ru iu t) (laid : Laid w) (hl : Ml w) :
    Calls Tryz.prog 11 #[tbV t.name cu du ru t.next iu] w fun e w' => e = .returned (.int .i64 (checkT t : Nat)) ∧ Below w.heap.size w w' := by
  have hT := fun (W : World) (hW : Below w.heap.size w W) => h.below hW
  have hcs := h.cs
  have hds := h.ds
  have hrs := h.rs
  have his := h.is
  obtain ⟨ca, n, cc, hce, hcap⟩ := h.cc
  obtain ⟨ca', cc', hce', -⟩ := h.cs
  rw [hce] at hce'
  cases hce'
  subst hce
  obtain ⟨da, dc, rfl, -⟩ := h.ds
  obtain ⟨ra, rc, rfl, -⟩ := h.rs
  obtain ⟨ia, ic, rfl, -⟩ := h.is
  refine check_raw t.name ca da ra ia t.cols.length t.ds.length t.rows.length t.ixs.length cc dc rc ic t.next w _ _ _ _ _ _ ?_ ?_ ?_ ?_ ?_ ?_
  · intro W hW
    exact frame_any t.name ca da ra ia _ _ _ _ cc dc rc ic t.next W h.nm (hl.below hW)
  · intro W hW _
    exact columns_raw t.cols ca _ cc t.name _ _ _ t.next W (hcs.below hW) hcap h.cn (hl.below hW)
  · intro W _ _ _
    exact tnext_any t.name _ _ _ _ t.next W
  · intro W hW z0 _ _
    obtain ⟨-, -, c5, d6, -⟩ := frameN_zero z0
    exact deltasF_any t.ds _ ca _ cc t.name _ _ t.next W (hds.below hW) c5 d6
  · intro W hW _ _ _ _
    refine rows_raw t.cols t.ds t.rows t.next ca da ra _ _ _ cc dc rc t.name _ W rfl rfl (hrs.below hW) ?_ ?_
    · intro W' r hW' h0 h1
      have hW2 := hW.trans (hW'.mono hW.size)
      exact now_any t.ds r _ t.name _ _ _ t.next W' (hds.below hW2) (laid.below hW2) h0 h1
    · intro W' z R hW' hR
      have hW2 := hW.trans (hW'.mono hW.size)
      exact fitRow_all t.cols R _ z W' (hcs.below hW2) hR
  · intro W hW z0 _ _ _ z4
    obtain ⟨-, -, c5, d6, r30, -⟩ := frameN_zero z0
    have hok := rowsF_zero z4
    refine ixs_raw t.ixs t.rows (valsT t) ca ia _ cc ic t.name _ _ t.next W (his.below hW) ?_ ?_ (hl.below hW)
    · intro W' hW'
      have hW2 := hW.trans (hW'.mono hW.size)
      exact tvalues_any t _ _ _ _ W' (hT W' hW2) (laid.below hW2) (by omega) (fun r hr => ⟨(hok r hr).2.v0, (hok r hr).2.v1, (hok r hr).2.ok⟩)
    · intro W' u ev x hW' ⟨B, hu⟩ hb
      have hW2 := hW.trans (hW'.mono hW.size)
      simp only [Bool.and_eq_true, decide_eq_true_eq] at hb
      refine (entries_any t _ _ _ _ u ev x B W' (hT W' hW2) (laid.below hW2) (by omega) (fun r hr => (hok r hr).2) hu hb.1 hb.2).mono ?_
      rintro e w' ⟨v, rfl, o, b⟩
      rw [← (sortE_perm _).length_eq] at o
      refine ⟨v, rfl, cs_of_own o ?_, b⟩
      rw [(sortE_perm _).length_eq]
      have := entL_few x.a.toNat x.b t.rows (valsT t)
      omega
theorem Tryz.info_int : (Tryz.prog.info? 3).map (fun i => (i.zero, i.size, i.bytes)) = some (some (.int .i64 0), 1, 8) := by kernel_rfl
def NsOwn (w : World) (B : Nat) (v : Value) (L : List Int) : Prop := w.ownsRow B 3 1 v L.length (L.map fun k => Value.int .i64 k)
theorem read_bad (E : Nat) (hE : ¬ (E : Int) = 0) (nm : List UInt8) (cu du ru iu : Value) (nx : Int) (w : World)
    (h11 : ∀ W : World, Below w.heap.size w W → Calls Tryz.prog 11 #[tbV nm cu du ru nx iu] W fun e w' => e = .returned (.int .i64 (E : Nat)) ∧ Below W.heap.size W w') :
    Calls Tryz.prog 8 #[tbV nm cu du ru nx iu] w fun e w' => e = .returned (.tuple #[.slice none 0 0, .slice none 0 0, .int .i64 (E : Nat)]) ∧ Below w.heap.size w w' := by
  have b0 := (Below.refl w.heap.size w).alloc (Nat.le_refl _) (.cells #[.string ⟨nm.toArray⟩, cu, du, ru, .int .i64 nx, iu] 27)
  unfold tbV at *
  go_enter Tryz.func8, Tryz.ntmps8
  go_wp2_with fail
  refine (h11 _ b0).mono ?_
  rintro e w1 ⟨rfl, b1⟩
  have q1 : Below w.heap.size w w1 := b0.trans (b1.mono b0.size)
  clear h11 b1 b0
  go_wp2
  go_ret3
  exact ⟨rfl, q1⟩
theorem read_ok (rows : List Vl) (LL : List (List Vl)) (ra : Option Addr) (rn rc : Nat) (nm : List UInt8) (cu du iu : Value) (nx : Int) (w : World) (hrn : rows.length ≤ 1000) (hr : VsAt w (.slice ra rn rc) rows)
    (h11 : ∀ W : World, Below w.heap.size w W → Calls Tryz.prog 11 #[tbV nm cu du (.slice ra rn rc) nx iu] W fun e w' => e = .returned (.int .i64 0) ∧ Below W.heap.size W w')
    (h30 : ∀ W : World, Below w.heap.size w W → Calls Tryz.prog 30 #[tbV nm cu du (.slice ra rn rc) nx iu] W fun e w' => ∃ u, e = .returned u ∧ VvOwn w' W.heap.size u LL ∧ Below W.heap.size W w') :
    Calls Tryz.prog 8 #[tbV nm cu du (.slice ra rn rc) nx iu] w fun e w' => ∃ v u, e = .returned (.tuple #[v, u, .int .i64 0]) ∧ NsOwn w' w.heap.size v (rows.map Vl.k) ∧ VvOwn w' w.heap.size u LL ∧ Below w.heap.size w w' := by
  obtain ⟨i4, li, lz0, lz1, lz2⟩ := info_parts Tryz.info_int
  have b0 := (Below.refl w.heap.size w).alloc (Nat.le_refl _) (.cells #[.string ⟨nm.toArray⟩, cu, du, .slice ra rn rc, .int .i64 nx, iu] 27)
  have hz0 : (w.alloc (.cells #[.string ⟨nm.toArray⟩, cu, du, .slice ra rn rc, .int .i64 nx, iu] 27)).heap.size = w.heap.size + 1 := by simp
  obtain ⟨ra', rc', he, hsz, -, hcc⟩ := hr
  cases he
  obtain ⟨PP, hPP⟩ : ∃ PP : Ending → World → Prop, PP = fun e w' => ∃ v u, e = .returned (.tuple #[v, u, .int .i64 0]) ∧ NsOwn w' w.heap.size v (rows.map Vl.k) ∧ VvOwn w' w.heap.size u LL ∧ Below w.heap.size w w' := ⟨_, rfl⟩
  refine Calls.mono (R := PP) ?_ (by rw [hPP]; exact fun _ _ h => h)
  have HP : Hid (∀ (v u : Value) (w' : World), NsOwn w' w.heap.size v (rows.map Vl.k) → VvOwn w' w.heap.size u LL → Below w.heap.size w w' → PP (.returned (.tuple #[v, u, .int .i64 0])) w') := by
    intro v u w' h1 h2 h3
    rw [hPP]
    exact ⟨v, u, rfl, h1, h2, h3⟩
  clear hPP
  obtain ⟨n, hn⟩ : ∃ n, rows.length = n := ⟨_, rfl⟩
  have hRN := hide hn
  have hC : Hid (rows ≠ [] → ∃ g o, ra = some ⟨g, o, none⟩ ∧ g < w.heap.size ∧ ∀ i x, rows[i]? = some x → w.cell? ⟨g, o + i * 3, none⟩ = some (.int .i64 x.k) ∧ w.cell? ⟨g, o + i * 3 + 1, none⟩ = some (.int .i64 x.n) ∧ w.cell? ⟨g, o + i * 3 + 2, none⟩ = some (.string ⟨x.s.toArray⟩)) := hcc
  rw [hn] at hsz h30 h11 hz0 b0 hrn ⊢
  clear hcc hn
  unfold tbV at *
  go_enter Tryz.func8, Tryz.ntmps8
  go_wp2_with fail
  refine (h11 _ b0).mono ?_
  rintro e w0 ⟨rfl, bu⟩
  have qu : Below w.heap.size w w0 := b0.trans (bu.mono b0.size)
  have pu : Below (w.heap.size + 1) (w.alloc (.cells #[.string ⟨nm.toArray⟩, cu, du, .slice ra n rc, .int .i64 nx, iu] 27)) w0 := by rw [hz0] at bu; exact bu
  obtain ⟨d0, d1, d2, d3, d4, d5⟩ := six_cells pu
  clear h11 bu
  go_wp2_with fail
  go_loopw [6, 17] (fun x i wl => ∃ k : Nat, k ≤ n ∧ i = .int .i64 k ∧ Hid (wl.ownsRow w0.heap.size 3 1 x k ((rows.take k).map fun r => Value.int .i64 r.k)) ∧ Below w0.heap.size w0 wl) (fun _ i _ => n - (intOf i).toNat)
  case atStart => exact ⟨0, Nat.zero_le _, rfl, ⟨rfl, .inl ⟨rfl, rfl⟩⟩, Below.refl _ _⟩
  case round =>
    obtain ⟨k, hk, rfl, HO, hnx⟩ := hrel
    have q0 : Below w.heap.size w wr := qu.trans (hnx.mono qu.size)
    have pr : Below (w.heap.size + 1) (w.alloc (.cells #[.string ⟨nm.toArray⟩, cu, du, .slice ra n rc, .int .i64 nx, iu] 27)) wr := pu.trans (hnx.mono (by have := pu.size; omega))
    obtain ⟨xa, xc, hxe⟩ := owns_slice HO.out
    subst hxe
    clear d0 d1 d2 d3 d4 d5
    by_cases hlt : k < n
    · obtain ⟨x, hx⟩ : ∃ x, rows[k]? = some x := ⟨rows[k]'(by rw [hRN.out]; exact hlt), List.getElem?_eq_getElem _⟩
      obtain ⟨g, o, rfl, hg, hc⟩ := hC.out (by intro e; rw [e] at hx; cases hx)
      obtain ⟨c0, c1, c2⟩ := hc k x hx
      replace c0 := (q0.cell (p := ⟨g, o + k * 3, none⟩) hg).trans c0
      replace c1 := (q0.cell (p := ⟨g, o + k * 3 + 1, none⟩) hg).trans c1
      replace c2 := (q0.cell (p := ⟨g, o + k * 3 + 2, none⟩) hg).trans c2
      have hlt' : (k : Int) < (n : Int) := by omega
      have ht : Hid ((rows.take (k + 1)).map (fun r => Value.int .i64 r.k) = (rows.take k).map (fun r => Value.int .i64 r.k) ++ [.int .i64 x.k]) := by
        rw [Hid, List.take_add_one, hx, List.map_append]; rfl
      have ba : Below wr.heap.size wr (wr.alloc (.cells #[.int .i64 x.k, .int .i64 x.n, .string ⟨x.s.toArray⟩] 39)) := (Below.refl _ _).alloc (Nat.le_refl _) _
      have bb : Below wr.heap.size wr ((wr.alloc (.cells #[.int .i64 x.k, .int .i64 x.n, .string ⟨x.s.toArray⟩] 39)).alloc (.cells #[.int .i64 x.k] 3)) := ba.alloc (by simp) _
      have HO2 : ((wr.alloc (.cells #[.int .i64 x.k, .int .i64 x.n, .string ⟨x.s.toArray⟩] 39)).alloc (.cells #[.int .i64 x.k] 3)).ownsRow w0.heap.size 3 1 (.slice xa k xc) k ((rows.take k).map fun r => Value.int .i64 r.k) := owns_keep HO.out bb
      have hz2 : ((wr.alloc (.cells #[.int .i64 x.k, .int .i64 x.n, .string ⟨x.s.toArray⟩] 39)).alloc (.cells #[.int .i64 x.k] 3)).heap.size = wr.heap.size + 2 := by simp
      have hne : ∀ j u, [Value.int .i64 x.k][j]? = some u → ((wr.alloc (.cells #[.int .i64 x.k, .int .i64 x.n, .string ⟨x.s.toArray⟩] 39)).alloc (.cells #[.int .i64 x.k] 3)).cell? ((⟨wr.heap.size + 1, 0, none⟩ : Addr).add j) = some u := by
        intro j u hj
        match j, hj with
        | 0, hj => simp at hj; subst hj; simp [Addr.add]
        | j + 1, hj => simp at hj
      have hone : ∀ u ∈ [Value.int .i64 x.k], u.oneCell' = true := by
        intro u hu
        simp at hu
        subst hu
        rfl
      have n2 : Below w0.heap.size w0 ((wr.alloc (.cells #[.int .i64 x.k, .int .i64 x.n, .string ⟨x.s.toArray⟩] 39)).alloc (.cells #[.int .i64 x.k] 3)) := hnx.trans (bb.mono hnx.size)
      have s2 := hnx.size
      clear hC hc hx ba bb HO
      go_wp2_with (at_builtin; go_loud (refine append_any rfl _ _ 28 rfl w0.heap.size 3 i4 (.int .i64 0) 1 8 Tryz.underlying28 li lz0 lz1 lz2 rfl (by decide) _ k _ rfl HO2 (some ⟨wr.heap.size + 1, 0, none⟩) 1 1 [.int .i64 x.k] rfl (by intro e; cases e) rfl (by intro ad had; cases had; exact hne) hone ?c3 ?c4 ?c5 ?_))
      case c3 => unfold maxLen; omega
      case c4 => omega
      case c5 => omega
      intro v2 w2 hown hgrow
      have n3 : Below w0.heap.size w0 w2 := n2.grown hgrow (by omega) (fun j hj => (HO2.lt j hj).1)
      have HO4 : Hid (w2.ownsRow w0.heap.size 3 1 v2 (k + 1) ((rows.take (k + 1)).map fun r => Value.int .i64 r.k)) := by rw [Hid, ht.out, List.map_take]; exact hown
      clear hown hgrow HO2 hne hone hz2 n2 c0 c1 c2
      go_wp2
      go_roundw
      case rel => exact ⟨k + 1, by omega, by go_num, HO4, n3⟩
      case measure => simp [intOf]; omega
    · obtain rfl : k = n := by omega
      have HF : Hid (wr.ownsRow w0.heap.size 3 1 (.slice xa k xc) (rows.map Vl.k).length ((rows.map Vl.k).map fun k => Value.int .i64 k)) := by
        have h1 : rows.take k = rows := List.take_of_length_le (by rw [hRN.out]; omega)
        have := HO.out
        rw [h1] at this
        rw [Hid, List.length_map, hRN.out, List.map_map]
        exact this
      obtain ⟨d0, d1, d2, d3, d4, d5⟩ := six_cells pr
      clear HO
      go_wp2_with fail
      refine (h30 _ q0).mono ?_
      rintro e w3 ⟨u, rfl, hu, b3⟩
      have q3 : Below w.heap.size w w3 := q0.trans (b3.mono q0.size)
      have O3 : Hid (NsOwn w3 w.heap.size (.slice xa k xc) (rows.map Vl.k)) := own_lower (owns_keep HF.out b3) qu.size
      have U3 : Hid (VvOwn w3 w.heap.size u LL) := hu.mono q0.size
      clear h30 b3 hu d0 d1 d2 d3 d4 d5
      go_wp2
      go_ret3
      exact HP.out _ _ _ O3.out U3.out q3
theorem read_any (t : Tb) (cu du ru iu : Value) (w : World) (h : TbAt w cu du ru iu t) (laid : Laid w) (hl : Ml w) :
    Calls Tryz.prog 8 #[tbV t.name cu du ru t.next iu] w fun e w' => ∃ v u, e = .returned (.tuple #[v, u, .int .i64 (checkT t : Nat)]) ∧ NsOwn w' w.heap.size v (if checkT t = 0 then t.rows.map Vl.k else []) ∧ VvOwn w' w.heap.size u (if checkT t = 0 then valsT t else []) ∧ Below w.heap.size w w' := by
  have h11 := fun (W : World) (hW : Below w.heap.size w W) => tcheck_any t cu du ru iu W (h.below hW) (laid.below hW) (hl.below hW)
  by_cases hE : checkT t = 0
  · rw [if_pos hE, if_pos hE]
    rw [hE] at h11 ⊢
    have hz : frameN (nameW t.name) t.cols.length t.ds.length t.rows.length t.ixs.length = 0 ∧ rowsF t.cols t.ds t.next 0 t.rows = 0 := by
      unfold checkT faultsT firstE at hE
      split at hE
      · contradiction
      · rename_i z0
        refine ⟨Classical.not_not.1 z0, ?_⟩
        unfold firstE at hE
        split at hE
        · contradiction
        · unfold firstE at hE
          split at hE
          · contradiction
          · unfold firstE at hE
            split at hE
            · contradiction
            · unfold firstE at hE
              split at hE
              · contradiction
              · rename_i z4
                exact Classical.not_not.1 z4
    obtain ⟨z0, z4⟩ := hz
    obtain ⟨-, -, -, -, r30, -⟩ := frameN_zero z0
    have hok := rowsF_zero z4
    have hrs := h.rs
    have h30 := fun (W : World) (hW : Below w.heap.size w W) => tvalues_any t cu du ru iu W (h.below hW) (laid.below hW) (by omega) (fun r hr => ⟨(hok r hr).2.v0, (hok r hr).2.v1, (hok r hr).2.ok⟩)
    obtain ⟨ra, rc, rfl, -⟩ := h.rs
    exact read_ok t.rows (valsT t) ra _ rc t.name cu du iu t.next w (by omega) hrs h11 h30
  · rw [if_neg hE, if_neg hE]
    refine (read_bad (checkT t) (by omega) t.name cu du ru iu t.next w h11).mono ?_
    rintro e w' ⟨rfl, b⟩
    exact ⟨_, _, rfl, ⟨rfl, .inl ⟨rfl, rfl⟩⟩, ⟨[], rfl, ⟨rfl, .inl ⟨rfl, rfl⟩⟩, by simp⟩, b⟩
def NilOk (v : Value) : Prop := ∀ ao n cap, v = .slice ao n cap → ao = none → n = 0 ∧ cap = 0
theorem Tryz.info_cl : (Tryz.prog.info? 65).map (fun i => (i.zero, i.size, i.bytes)) = some (some (.agg #[.string ⟨#[]⟩, .int .i64 0]), 2, 24) := by kernel_rfl
theorem Tryz.info_st : (Tryz.prog.info? 39).map (fun i => (i.zero, i.size, i.bytes)) = some (some (.agg #[.int .i64 0, .int .i64 0, .string ⟨#[]⟩]), 3, 32) := by kernel_rfl
theorem Tryz.info_ix : (Tryz.prog.info? 73).map (fun i => (i.zero, i.size, i.bytes)) = some (some (.agg #[.string ⟨#[]⟩, .int .i64 0, .int .i64 0, .slice none 0 0]), 4, 56) := by kernel_rfl
theorem clone_cols (news : List Value) (ao : Option Addr) (n cap : Nat) (w : World) (hnil : ao = none → n = 0 ∧ cap = 0) (hl : n * 24 ≤ 140737488355328) (hnl : news.length = n * 2) (h1 : ∀ u ∈ news, u.oneCell' = true) (hn : ∀ ad, ao = some ad → ∀ j x, news[j]? = some x → w.cell? (ad.add j) = some x ∧ (ad.add j).block < w.heap.size) :
    Calls Tryz.prog 94 #[.slice ao n cap] w fun e w' => ∃ v, e = .returned v ∧ w'.ownsRow w.heap.size 65 2 v n news ∧ Below w.heap.size w w' := by
  obtain ⟨i0, hi, hz0, hz1, hz2⟩ := info_parts Tryz.info_cl
  have q22 : ∀ (w : World) (a : Option Addr) (n c n' c' : Nat), (binOp .eql 22 (.slice a n c) (.slice none n' c')).run Tryz.prog w = .ok (.bool a.isNone) w := fun w a n c n' c' => Lib.run_eql_slice_nil w _ _ a n c n' c' Tryz.underlying22
  cases ao with
  | none =>
    obtain ⟨rfl, rfl⟩ := hnil rfl
    have hz : news = [] := List.eq_nil_of_length_eq_zero (by omega)
    subst hz
    clear hn hnl h1
    go_enter Tryz.func94, Tryz.ntmps94
    go_wp2
    go_ret
    exact ⟨_, rfl, World.ownsRow_nil _ _ _ _, Below.refl _ _⟩
  | some ad =>
    have hnews : ∀ j x, news[j]? = some x → (w.alloc (.cells #[] 65)).cell? (ad.add j) = some x := by
      intro j x hj
      obtain ⟨h2, h3⟩ := hn ad rfl j x hj
      exact (((Below.refl w.heap.size w).alloc (Nat.le_refl _) _).cell (p := ad.add j) h3).trans h2
    have b0 := (Below.refl w.heap.size w).alloc (Nat.le_refl _) (.cells #[] 65)
    clear hn hnil
    go_enter Tryz.func94, Tryz.ntmps94
    go_wp2_with (at_builtin; go_loud (refine wpList_append_own _ rfl _ _ 22 rfl w.heap.size 65 i0 (.agg #[.string ⟨#[]⟩, .int .i64 0]) 2 24 Tryz.underlying22 hi hz0 hz1 hz2 rfl (by decide) _ _ _ rfl (World.ownsRow_made w #[] 0 (Nat.le_refl _) (Nat.zero_le _) rfl) ad n cap news rfl hnl hnews h1 ?c3 ?c4 ?c5 ?_))
    case c3 => unfold maxLen; omega
    case c4 => omega
    case c5 => simp
    intro v' w' hown hgrow _
    have hb := b0.grown hgrow (by simp) (fun j hj => by cases hj; exact Nat.le_refl _)
    clear hnews
    go_wp2
    go_ret
    exact ⟨_, rfl, by simpa using hown, hb⟩
theorem clone_dels (news : List Value) (ao : Option Addr) (n cap : Nat) (w : World) (hnil : ao = none → n = 0 ∧ cap = 0) (hl : n * 56 ≤ 140737488355328) (hnl : news.length = n * 6) (h1 : ∀ u ∈ news, u.oneCell' = true) (hn : ∀ ad, ao = some ad → ∀ j x, news[j]? = some x → w.cell? (ad.add j) = some x ∧ (ad.add j).block < w.heap.size) :
    Calls Tryz.prog 95 #[.slice ao n cap] w fun e w' => ∃ v, e = .returned v ∧ w'.ownsRow w.heap.size 51 6 v n news ∧ Below w.heap.size w w' := by
  obtain ⟨i0, hi, hz0, hz1, hz2⟩ := info_parts Tryz.info_dl
  have q22 : ∀ (w : World) (a : Option Addr) (n c n' c' : Nat), (binOp .eql 23 (.slice a n c) (.slice none n' c')).run Tryz.prog w = .ok (.bool a.isNone) w := fun w a n c n' c' => Lib.run_eql_slice_nil w _ _ a n c n' c' Tryz.underlying23
  cases ao with
  | none =>
    obtain ⟨rfl, rfl⟩ := hnil rfl
    have hz : news = [] := List.eq_nil_of_length_eq_zero (by omega)
    subst hz
    clear hn hnl h1
    go_enter Tryz.func95, Tryz.ntmps95
    go_wp2
    go_ret
    exact ⟨_, rfl, World.ownsRow_nil _ _ _ _, Below.refl _ _⟩
  | some ad =>
    have hnews : ∀ j x, news[j]? = some x → (w.alloc (.cells #[] 51)).cell? (ad.add j) = some x := by
      intro j x hj
      obtain ⟨h2, h3⟩ := hn ad rfl j x hj
      exact (((Below.refl w.heap.size w).alloc (Nat.le_refl _) _).cell (p := ad.add j) h3).trans h2
    have b0 := (Below.refl w.heap.size w).alloc (Nat.le_refl _) (.cells #[] 51)
    clear hn hnil
    go_enter Tryz.func95, Tryz.ntmps95
    go_wp2_with (at_builtin; go_loud (refine wpList_append_own _ rfl _ _ 23 rfl w.heap.size 51 i0 (.agg #[.int .i64 0, .int .i64 0, .int .i64 0, .int .i64 0, .int .i64 0, .string ⟨#[]⟩]) 6 56 Tryz.underlying23 hi hz0 hz1 hz2 rfl (by decide) _ _ _ rfl (World.ownsRow_made w #[] 0 (Nat.le_refl _) (Nat.zero_le _) rfl) ad n cap news rfl hnl hnews h1 ?c3 ?c4 ?c5 ?_))
    case c3 => unfold maxLen; omega
    case c4 => omega
    case c5 => simp
    intro v' w' hown hgrow _
    have hb := b0.grown hgrow (by simp) (fun j hj => by cases hj; exact Nat.le_refl _)
    clear hnews
    go_wp2
    go_ret
    exact ⟨_, rfl, by simpa using hown, hb⟩
theorem clone_rows (news : List Value) (ao : Option Addr) (n cap : Nat) (w : World) (hnil : ao = none → n = 0 ∧ cap = 0) (hl : n * 32 ≤ 140737488355328) (hnl : news.length = n * 3) (h1 : ∀ u ∈ news, u.oneCell' = true) (hn : ∀ ad, ao = some ad → ∀ j x, news[j]? = some x → w.cell? (ad.add j) = some x ∧ (ad.add j).block < w.heap.size) :
    Calls Tryz.prog 96 #[.slice ao n cap] w fun e w' => ∃ v, e = .returned v ∧ w'.ownsRow w.heap.size 39 3 v n news ∧ Below w.heap.size w w' := by
  obtain ⟨i0, hi, hz0, hz1, hz2⟩ := info_parts Tryz.info_st
  have q22 : ∀ (w : World) (a : Option Addr) (n c n' c' : Nat), (binOp .eql 24 (.slice a n c) (.slice none n' c')).run Tryz.prog w = .ok (.bool a.isNone) w := fun w a n c n' c' => Lib.run_eql_slice_nil w _ _ a n c n' c' Tryz.underlying24
  cases ao with
  | none =>
    obtain ⟨rfl, rfl⟩ := hnil rfl
    have hz : news = [] := List.eq_nil_of_length_eq_zero (by omega)
    subst hz
    clear hn hnl h1
    go_enter Tryz.func96, Tryz.ntmps96
    go_wp2
    go_ret
    exact ⟨_, rfl, World.ownsRow_nil _ _ _ _, Below.refl _ _⟩
  | some ad =>
    have hnews : ∀ j x, news[j]? = some x → (w.alloc (.cells #[] 39)).cell? (ad.add j) = some x := by
      intro j x hj
      obtain ⟨h2, h3⟩ := hn ad rfl j x hj
      exact (((Below.refl w.heap.size w).alloc (Nat.le_refl _) _).cell (p := ad.add j) h3).trans h2
    have b0 := (Below.refl w.heap.size w).alloc (Nat.le_refl _) (.cells #[] 39)
    clear hn hnil
    go_enter Tryz.func96, Tryz.ntmps96
    go_wp2_with (at_builtin; go_loud (refine wpList_append_own _ rfl _ _ 24 rfl w.heap.size 39 i0 (.agg #[.int .i64 0, .int .i64 0, .string ⟨#[]⟩]) 3 32 Tryz.underlying24 hi hz0 hz1 hz2 rfl (by decide) _ _ _ rfl (World.ownsRow_made w #[] 0 (Nat.le_refl _) (Nat.zero_le _) rfl) ad n cap news rfl hnl hnews h1 ?c3 ?c4 ?c5 ?_))
    case c3 => unfold maxLen; omega
    case c4 => omega
    case c5 => simp
    intro v' w' hown hgrow _
    have hb := b0.grown hgrow (by simp) (fun j hj => by cases hj; exact Nat.le_refl _)
    clear hnews
    go_wp2
    go_ret
    exact ⟨_, rfl, by simpa using hown, hb⟩
theorem clone_ixs (news : List Value) (ao : Option Addr) (n cap : Nat) (w : World) (hnil : ao = none → n = 0 ∧ cap = 0) (hl : n * 56 ≤ 140737488355328) (hnl : news.length = n * 4) (h1 : ∀ u ∈ news, u.oneCell' = true) (hn : ∀ ad, ao = some ad → ∀ j x, news[j]? = some x → w.cell? (ad.add j) = some x ∧ (ad.add j).block < w.heap.size) :
    Calls Tryz.prog 97 #[.slice ao n cap] w fun e w' => ∃ v, e = .returned v ∧ w'.ownsRow w.heap.size 73 4 v n news ∧ Below w.heap.size w w' := by
  obtain ⟨i0, hi, hz0, hz1, hz2⟩ := info_parts Tryz.info_ix
  have q22 : ∀ (w : World) (a : Option Addr) (n c n' c' : Nat), (binOp .eql 25 (.slice a n c) (.slice none n' c')).run Tryz.prog w = .ok (.bool a.isNone) w := fun w a n c n' c' => Lib.run_eql_slice_nil w _ _ a n c n' c' Tryz.underlying25
  cases ao with
  | none =>
    obtain ⟨rfl, rfl⟩ := hnil rfl
    have hz : news = [] := List.eq_nil_of_length_eq_zero (by omega)
    subst hz
    clear hn hnl h1
    go_enter Tryz.func97, Tryz.ntmps97
    go_wp2
    go_ret
    exact ⟨_, rfl, World.ownsRow_nil _ _ _ _, Below.refl _ _⟩
  | some ad =>
    have hnews : ∀ j x, news[j]? = some x → (w.alloc (.cells #[] 73)).cell? (ad.add j) = some x := by
      intro j x hj
      obtain ⟨h2, h3⟩ := hn ad rfl j x hj
      exact (((Below.refl w.heap.size w).alloc (Nat.le_refl _) _).cell (p := ad.add j) h3).trans h2
    have b0 := (Below.refl w.heap.size w).alloc (Nat.le_refl _) (.cells #[] 73)
    clear hn hnil
    go_enter Tryz.func97, Tryz.ntmps97
    go_wp2_with (at_builtin; go_loud (refine wpList_append_own _ rfl _ _ 25 rfl w.heap.size 73 i0 (.agg #[.string ⟨#[]⟩, .int .i64 0, .int .i64 0, .slice none 0 0]) 4 56 Tryz.underlying25 hi hz0 hz1 hz2 rfl (by decide) _ _ _ rfl (World.ownsRow_made w #[] 0 (Nat.le_refl _) (Nat.zero_le _) rfl) ad n cap news rfl hnl hnews h1 ?c3 ?c4 ?c5 ?_))
    case c3 => unfold maxLen; omega
    case c4 => omega
    case c5 => simp
    intro v' w' hown hgrow _
    have hb := b0.grown hgrow (by simp) (fun j hj => by cases hj; exact Nat.le_refl _)
    clear hnews
    go_wp2
    go_ret
    exact ⟨_, rfl, by simpa using hown, hb⟩
theorem clone_ents (news : List Value) (ao : Option Addr) (n cap : Nat) (w : World) (hnil : ao = none → n = 0 ∧ cap = 0) (hl : n * 24 ≤ 140737488355328) (hnl : news.length = n * 2) (h1 : ∀ u ∈ news, u.oneCell' = true) (hn : ∀ ad, ao = some ad → ∀ j x, news[j]? = some x → w.cell? (ad.add j) = some x ∧ (ad.add j).block < w.heap.size) :
    Calls Tryz.prog 98 #[.slice ao n cap] w fun e w' => ∃ v, e = .returned v ∧ w'.ownsRow w.heap.size 111 2 v n news ∧ Below w.heap.size w w' := by
  obtain ⟨i0, hi, hz0, hz1, hz2⟩ := info_parts Tryz.info_en
  have q22 : ∀ (w : World) (a : Option Addr) (n c n' c' : Nat), (binOp .eql 71 (.slice a n c) (.slice none n' c')).run Tryz.prog w = .ok (.bool a.isNone) w := fun w a n c n' c' => Lib.run_eql_slice_nil w _ _ a n c n' c' Tryz.underlying71
  cases ao with
  | none =>
    obtain ⟨rfl, rfl⟩ := hnil rfl
    have hz : news = [] := List.eq_nil_of_length_eq_zero (by omega)
    subst hz
    clear hn hnl h1
    go_enter Tryz.func98, Tryz.ntmps98
    go_wp2
    go_ret
    exact ⟨_, rfl, World.ownsRow_nil _ _ _ _, Below.refl _ _⟩
  | some ad =>
    have hnews : ∀ j x, news[j]? = some x → (w.alloc (.cells #[] 111)).cell? (ad.add j) = some x := by
      intro j x hj
      obtain ⟨h2, h3⟩ := hn ad rfl j x hj
      exact (((Below.refl w.heap.size w).alloc (Nat.le_refl _) _).cell (p := ad.add j) h3).trans h2
    have b0 := (Below.refl w.heap.size w).alloc (Nat.le_refl _) (.cells #[] 111)
    clear hn hnil
    go_enter Tryz.func98, Tryz.ntmps98
    go_wp2_with (at_builtin; go_loud (refine wpList_append_own _ rfl _ _ 71 rfl w.heap.size 111 i0 (.agg #[.string ⟨#[]⟩, .int .i64 0]) 2 24 Tryz.underlying71 hi hz0 hz1 hz2 rfl (by decide) _ _ _ rfl (World.ownsRow_made w #[] 0 (Nat.le_refl _) (Nat.zero_le _) rfl) ad n cap news rfl hnl hnews h1 ?c3 ?c4 ?c5 ?_))
    case c3 => unfold maxLen; omega
    case c4 => omega
    case c5 => simp
    intro v' w' hown hgrow _
    have hb := b0.grown hgrow (by simp) (fun j hj => by cases hj; exact Nat.le_refl _)
    clear hnews
    go_wp2
    go_ret
    exact ⟨_, rfl, by simpa using hown, hb⟩
def ixC (x : Ix) (ev : Value) : List Value := [.string ⟨x.name.toArray⟩, .int .i64 x.a, .int .i64 x.b, ev]
def ixsC (L : List Ix) (evs : List Value) : List Value := (List.zipWith ixC L evs).flatten
theorem ixsC_len : ∀ (L : List Ix) (evs : List Value), evs.length = L.length → (ixsC L evs).length = L.length * 4
  | [], _, _ => by simp [ixsC]
  | x :: L, [], h => by simp at h
  | x :: L, e :: evs, h => by
    have ih := ixsC_len L evs (by simpa using h)
    unfold ixsC at ih ⊢
    simp only [List.zipWith_cons_cons, List.flatten_cons, List.length_append, ih, List.length_cons]
    simp [ixC]; omega
theorem ixsC_get : ∀ (L : List Ix) (evs : List Value) (i : Nat) (x : Ix) (ev : Value), L[i]? = some x → evs[i]? = some ev → ∀ q, q < 4 → (ixsC L evs)[i * 4 + q]? = (ixC x ev)[q]?
  | [], _, i, x, ev, h, _ => by simp at h
  | _ :: _, [], i, x, ev, _, h => by simp at h
  | y :: L, e :: evs, 0, x, ev, h1, h2 => by
    simp at h1 h2
    subst h1 h2
    intro q hq
    unfold ixsC
    simp only [List.zipWith_cons_cons, List.flatten_cons]
    rw [List.getElem?_append_left (by simp [ixC]; omega), Nat.zero_mul, Nat.zero_add]
  | y :: L, e :: evs, i + 1, x, ev, h1, h2 => by
    intro q hq
    have ih := ixsC_get L evs i x ev (by simpa using h1) (by simpa using h2) q hq
    unfold ixsC at ih ⊢
    simp only [List.zipWith_cons_cons, List.flatten_cons]
    rw [List.getElem?_append_right (by simp [ixC]; omega), ← ih]
    congr 1
    simp [ixC]; omega
theorem ixsC_set : ∀ (L : List Ix) (evs : List Value) (i : Nat) (v : Value), evs.length = L.length → i < L.length → (ixsC L evs).set (i * 4 + 3) v = ixsC L (evs.set i v)
  | [], _, i, v, _, h => by simp at h
  | _ :: _, [], i, v, h, _ => by simp at h
  | y :: L, e :: evs, 0, v, h1, h2 => by simp [ixsC, ixC]
  | y :: L, e :: evs, i + 1, v, h1, h2 => by
    have ih := ixsC_set L evs i v (by simpa using h1) (by simpa using h2)
    unfold ixsC at ih ⊢
    simp only [List.zipWith_cons_cons, List.flatten_cons, List.set_cons_succ]
    rw [← ih, List.set_append, if_neg (by simp [ixC]; omega)]
    congr 2
    simp [ixC]; omega
def IxOwn (w : World) (B : Nat) (u : Value) (L : List Ix) : Prop := ∃ evs : List Value, evs.length = L.length ∧ w.ownsRow B 73 4 u L.length (ixsC L evs) ∧ ∀ (i : Nat) ev x, evs[i]? = some ev → L[i]? = some x → w.ownsRow B 111 2 ev x.es.length (x.es.flatMap clC)
structure TbOwn (w : World) (B : Nat) (cu du ru iu : Value) (t : Tb) : Prop where
  cs : w.ownsRow B 65 2 cu t.cols.length (t.cols.flatMap clC)
  ds : w.ownsRow B 51 6 du t.ds.length (t.ds.flatMap dlC)
  rs : w.ownsRow B 39 3 ru t.rows.length (t.rows.flatMap vlC)
  is : IxOwn w B iu t.ixs
theorem own_put {w : World} {B : Nat} {e : TypeId} {m : Nat} {g n cap : Nat} {xs : List Value} (h : w.ownsRow B e m (.slice (some ⟨g, 0, none⟩) n cap) n xs) (j : Nat) (v : Value) :
    (w.setCell ⟨g, j, none⟩ v).ownsRow B e m (.slice (some ⟨g, 0, none⟩) n cap) n (xs.set j v) := by
  refine ⟨by rw [List.length_set]; exact h.1, .inr ?_⟩
  rcases h.2 with ⟨e, -⟩ | ⟨g', cap', cur, hv, hB, hg, h1, h2, h3, h4⟩
  · cases e
  · cases hv
    refine ⟨g, cap, cur.setIfInBounds j v, rfl, hB, heap_setCell_same w g j cur e v hg, h1, h2, by simpa using h3, ?_⟩
    rw [Array.toList_setIfInBounds, ← h4, List.take_set]
theorem own_at {w : World} {B : Nat} {e : TypeId} {m : Nat} {g n cap : Nat} {xs : List Value} (h : w.ownsRow B e m (.slice (some ⟨g, 0, none⟩) n cap) n xs) (j : Nat) (hj : j < n * m) : (∃ x, w.cell? ⟨g, j, none⟩ = some x) ∧ w.frozen? ⟨g, j, none⟩ = false := by
  rcases h.2 with ⟨e, -⟩ | ⟨g', cap', cur, hv, hB, hg, h1, h2, h3, h4⟩
  · cases e
  · cases hv
    refine ⟨⟨cur[j]'(by have := Nat.mul_le_mul_right m h1; omega), ?_⟩, Lib.frozen_of_heap hg _⟩
    rw [Lib.cell_of_heap hg]
    exact Array.getElem?_eq_getElem _
end Go.Proofs.YtcnnjladaoaeiaaGreatDoor
