/-
  Package table: values of all rows.
  Package entries: how entries are compared.
  Entries that are compared by slices.Equal.
  slices.SortFunc of entries, stated at the numbers of this program.
  Entries that are sorted.
  slices.SortFunc of entries in memory.
  Package entries: what must be in an index.
  Package table: an index of a name among others; isColumn.
-/
import Derived.Deep.RegionHeld3
import Derived.Shelf.SlSortCmp.WholeK
import Derived.Shelf.SlGeneric
import Derived.Ground.SlsfProg
import Derived.Test.YtcnnjladaoaeiaaGreatDoorProg
import Derived.Deep.RegionLaw
import Derived.Test.YtcnnjladaoaeiaaGreatDoorGa
import Derived.Test.YtcnnjladaoaeiaaGreatDoorGf
import Derived.Test.YtcnnjladaoaeiaaGreatDoorGg

set_option maxRecDepth 100000
set_option maxHeartbeats 25600000
namespace Go.Proofs.YtcnnjladaoaeiaaGreatDoor
open Go.RowKit
theorem Tryz.info_vs : (Tryz.prog.info? 41).map (fun i => (i.zero, i.size, i.bytes)) = some (some (.slice none 0 0), 1, 24) := by kernel_rfl
theorem owns_keep {w w' : World} {B : Nat} {e : TypeId} {m : Nat} {v : Value} {n : Nat} {xs : List Value} (h : w.ownsRow B e m v n xs) (hb : Below w.heap.size w w') : w'.ownsRow B e m v n xs := by
  refine ⟨h.1, ?_⟩
  rcases h.2 with h' | ⟨g, cap, cur, hv, hB, hg, r⟩
  · exact .inl h'
  · exact .inr ⟨g, cap, cur, hv, hB, (hb.block g (ltS hg)).trans hg, r⟩
theorem owns_other {w w' : World} {B B' : Nat} {e e' : TypeId} {m m' : Nat} {v x : Value} {n n' : Nat} {xs ys : List Value} (h : w.ownsRow B e m v n xs) (hx : w.ownsRow B' e' m' x n' ys) (hne : e ≠ e') (hg : w.grownBy w' x.ownBlock) : w'.ownsRow B e m v n xs := by
  refine ⟨h.1, ?_⟩
  rcases h.2 with h' | ⟨g, cap, cur, hv, hB, hc, r⟩
  · exact .inl h'
  · refine .inr ⟨g, cap, cur, hv, hB, (hg.block g (ltS hc) fun e1 => ?_).trans hc, r⟩
    rcases hx.2 with ⟨rfl, -⟩ | ⟨g', cap', cur', rfl, -, hc', -⟩
    · cases e1
    · simp [Value.ownBlock] at e1
      subst e1
      rw [hc] at hc'
      cases hc'
      exact hne rfl
theorem own_lower {w : World} {B B' : Nat} {e : TypeId} {m : Nat} {v : Value} {n : Nat} {xs : List Value} (h : w.ownsRow B' e m v n xs) (hB : B ≤ B') : w.ownsRow B e m v n xs := by
  refine ⟨h.1, ?_⟩
  rcases h.2 with h' | ⟨g, cap, cur, hv, hB', r⟩
  · exact .inl h'
  · exact .inr ⟨g, cap, cur, hv, by omega, r⟩
def VvOwn (w : World) (B : Nat) (u : Value) (L : List (List Vl)) : Prop := ∃ us : List Value, us.length = L.length ∧ w.ownsRow B 41 1 u L.length us ∧ ∀ (j : Nat) z l, us[j]? = some z → L[j]? = some l → Own w B z l
theorem VvOwn.below {w w' : World} {B : Nat} {u : Value} {L : List (List Vl)} (h : VvOwn w B u L) (hb : Below w.heap.size w w') : VvOwn w' B u L := by
  obtain ⟨us, h1, h2, h3⟩ := h
  exact ⟨us, h1, owns_keep h2 hb, fun j z l hz hl => owns_keep (h3 j z l hz hl) hb⟩
theorem VvOwn.mono {w : World} {B B' : Nat} {u : Value} {L : List (List Vl)} (h : VvOwn w B' u L) (hB : B ≤ B') : VvOwn w B u L := by
  obtain ⟨us, h1, h2, h3⟩ := h
  refine ⟨us, h1, ⟨h2.1, ?_⟩, fun j z l hz hl => Own.mono (h3 j z l hz hl) hB⟩
  rcases h2.2 with h' | ⟨g, cap, cur, hv, hB', r⟩
  · exact .inl h'
  · exact .inr ⟨g, cap, cur, hv, by omega, r⟩
theorem values_raw (rows : List Vl) (N : Vl → List Vl) (cu : Value) (da ra : Option Addr) (dn rn dc rc : Nat) (nm : List UInt8) (iu : Value) (next : Int) (w : World) (hrn : rows.length = rn) (hr30 : rn ≤ 1000) (hr : VsAt w (.slice ra rn rc) rows)
    (h57 : ∀ (W : World) (r : Vl), Below w.heap.size w W → r ∈ rows → Calls Tryz.prog 57 #[tbV nm cu (.slice da dn dc) (.slice ra rn rc) next iu, .agg #[.int .i64 r.k, .int .i64 r.n, .string ⟨r.s.toArray⟩]] W fun e w' => ∃ z, e = .returned (.tuple #[z, .int .i64 0]) ∧ Own w' W.heap.size z (N r) ∧ Below W.heap.size W w') :
    Calls Tryz.prog 30 #[tbV nm cu (.slice da dn dc) (.slice ra rn rc) next iu] w fun e w' => ∃ u, e = .returned u ∧ VvOwn w' w.heap.size u (rows.map N) ∧ Below w.heap.size w w' := by
  obtain ⟨i2, ji, jz0, jz1, jz2⟩ := info_parts Tryz.info_vs
  have b0 := (Below.refl w.heap.size w).alloc (Nat.le_refl _) (.cells #[.string ⟨nm.toArray⟩, cu, .slice da dn dc, .slice ra rn rc, .int .i64 next, iu] 27)
  have hz0 : (w.alloc (.cells #[.string ⟨nm.toArray⟩, cu, .slice da dn dc, .slice ra rn rc, .int .i64 next, iu] 27)).heap.size = w.heap.size + 1 := by simp
  obtain ⟨ao', cap', he, hsz, hss, hcc⟩ := hr
  cases he
  obtain ⟨PP, hPP⟩ : ∃ PP : Ending → World → Prop, PP = fun e w' => ∃ u, e = .returned u ∧ VvOwn w' w.heap.size u (rows.map N) ∧ Below w.heap.size w w' := ⟨_, rfl⟩
  refine Calls.mono (R := PP) ?_ (by rw [hPP]; exact fun _ _ h => h)
  have HP : Hid (∀ (u : Value) (w' : World), VvOwn w' w.heap.size u (rows.map N) → Below w.heap.size w w' → PP (.returned u) w') := by
    intro u w' h1 h2
    rw [hPP]
    exact ⟨u, rfl, h1, h2⟩
  clear hPP hss
  obtain ⟨n, hn⟩ : ∃ n, rows.length = n := ⟨_, rfl⟩
  have hRN := hide hn
  have hC : Hid (rows ≠ [] → ∃ g o, ra = some ⟨g, o, none⟩ ∧ g < w.heap.size ∧ ∀ i x, rows[i]? = some x → w.cell? ⟨g, o + i * 3, none⟩ = some (.int .i64 x.k) ∧ w.cell? ⟨g, o + i * 3 + 1, none⟩ = some (.int .i64 x.n) ∧ w.cell? ⟨g, o + i * 3 + 2, none⟩ = some (.string ⟨x.s.toArray⟩)) := hcc
  rw [hn] at hsz h57 hz0 b0 hr30 ⊢
  clear hcc hn hrn
  unfold tbV at *
  go_enter Tryz.func30, Tryz.ntmps30
  go_wp2_with fail
  go_loopw [3, 11] (fun x i wl => ∃ (k : Nat) (us : List Value), k ≤ n ∧ i = .int .i64 k ∧ Hid (us.length = k) ∧ Hid (wl.ownsRow (w.heap.size + 1) 41 1 x k us) ∧ Below (w.heap.size + 1) (w.alloc (.cells #[.string ⟨nm.toArray⟩, cu, .slice da dn dc, .slice ra n rc, .int .i64 next, iu] 27)) wl ∧ Hid (∀ (j : Nat) z r, us[j]? = some z → rows[j]? = some r → Own wl w.heap.size z (N r))) (fun _ i _ => n - (intOf i).toNat)
  case atStart => exact ⟨0, [], Nat.zero_le _, rfl, rfl, ⟨rfl, .inl ⟨rfl, rfl⟩⟩, Below.refl _ _, fun j z r hz _ => by simp at hz⟩
  case round =>
    obtain ⟨k, us, hk, rfl, HU, HO, hnx, HV⟩ := hrel
    have q0 : Below w.heap.size w wr := b0.trans (hnx.mono (by omega))
    obtain ⟨xa, xc, hxe⟩ := owns_slice HO.out
    subst hxe
    by_cases hlt : k < n
    · obtain ⟨x, hx⟩ : ∃ x, rows[k]? = some x := ⟨rows[k]'(by rw [hRN.out]; exact hlt), List.getElem?_eq_getElem _⟩
      obtain ⟨g, o, rfl, hg, hc⟩ := hC.out (by intro e; rw [e] at hx; cases hx)
      obtain ⟨c0, c1, c2⟩ := hc k x hx
      replace c0 := (q0.cell (p := ⟨g, o + k * 3, none⟩) hg).trans c0
      replace c1 := (q0.cell (p := ⟨g, o + k * 3 + 1, none⟩) hg).trans c1
      replace c2 := (q0.cell (p := ⟨g, o + k * 3 + 2, none⟩) hg).trans c2
      have hlt' : (k : Int) < (n : Int) := by omega
      have hXK := hide hx
      have q1 := q0.alloc q0.size (.cells #[.int .i64 x.k, .int .i64 x.n, .string ⟨x.s.toArray⟩] 39)
      have p1 : Below (w.heap.size + 1) (w.alloc (.cells #[.string ⟨nm.toArray⟩, cu, .slice da dn dc, .slice (some ⟨g, o, none⟩) n rc, .int .i64 next, iu] 27)) (wr.alloc (.cells #[.int .i64 x.k, .int .i64 x.n, .string ⟨x.s.toArray⟩] 39)) := hnx.alloc (by have := hnx.size; omega) _
      have sl : w.heap.size < wr.heap.size := by have := hnx.size; omega
      obtain ⟨d0, d1, d2, d3, d4, d5⟩ := six_cells hnx
      have h57' := h57 _ x q1 (List.mem_of_getElem? hx)
      have z1 : (wr.alloc (.cells #[.int .i64 x.k, .int .i64 x.n, .string ⟨x.s.toArray⟩] 39)).heap.size = wr.heap.size + 1 := by simp
      have ba : Below wr.heap.size wr (wr.alloc (.cells #[.int .i64 x.k, .int .i64 x.n, .string ⟨x.s.toArray⟩] 39)) := (Below.refl _ _).alloc (Nat.le_refl _) _
      clear hC hc hx h57
      go_wp2_with fail
      refine h57'.mono ?_
      rintro e w1 ⟨z, rfl, oz, b1⟩
      rw [z1] at b1 oz
      have bb : Below wr.heap.size wr w1 := ba.trans (b1.mono (by omega))
      have q2 : Below w.heap.size w w1 := q1.trans (b1.mono (by have := q1.size; omega))
      have p2 : Below (w.heap.size + 1) (w.alloc (.cells #[.string ⟨nm.toArray⟩, cu, .slice da dn dc, .slice (some ⟨g, o, none⟩) n rc, .int .i64 next, iu] 27)) w1 := p1.trans (b1.mono (by omega))
      have HO1 : Hid (w1.ownsRow (w.heap.size + 1) 41 1 (.slice xa k xc) k us) := hide (owns_keep HO.out bb)
      have HV1 : Hid (∀ (j : Nat) z r, us[j]? = some z → rows[j]? = some r → Own w1 w.heap.size z (N r)) := hide fun j z r hz hr => owns_keep (HV.out j z r hz hr) bb
      have OZ : Hid (Own w1 w.heap.size z (N x)) := hide (Own.mono oz (by omega))
      obtain ⟨za, zc, hze⟩ := owns_slice oz
      obtain ⟨zn, hzn⟩ : ∃ zn, (N x).length = zn := ⟨_, rfl⟩
      rw [hzn] at hze
      subst hze
      have q3 := q2.alloc q2.size (.cells #[.slice za zn zc] 41)
      have HO2 : (w1.alloc (.cells #[.slice za zn zc] 41)).ownsRow (w.heap.size + 1) 41 1 (.slice xa k xc) k us := owns_keep HO1.out ((Below.refl _ _).alloc (Nat.le_refl _) _)
      have hz1 : (w1.alloc (.cells #[.slice za zn zc] 41)).heap.size = w1.heap.size + 1 := by simp
      have p3 : Below (w.heap.size + 1) (w.alloc (.cells #[.string ⟨nm.toArray⟩, cu, .slice da dn dc, .slice (some ⟨g, o, none⟩) n rc, .int .i64 next, iu] 27)) (w1.alloc (.cells #[.slice za zn zc] 41)) := p2.alloc (by have := p2.size; omega) _
      have hne : ∀ j u, [(.slice za zn zc : Value)][j]? = some u → (w1.alloc (.cells #[.slice za zn zc] 41)).cell? ((⟨w1.heap.size, 0, none⟩ : Addr).add j) = some u := by
        intro j u hj
        match j, hj with
        | 0, hj => simp at hj; subst hj; simp [Addr.add]
        | j + 1, hj => simp at hj
      have hone : ∀ u ∈ [(.slice za zn zc : Value)], u.oneCell' = true := by
        intro u hu
        simp at hu
        subst hu
        rfl
      clear h57' b1 q1 p1 oz d0 d1 d2 d3 d4 d5 c0 c1 c2 HO HV hzn ba hnx q0
      go_wp2_with (at_builtin; go_loud (refine append_any rfl _ _ 29 rfl (w.heap.size + 1) 41 i2 (.slice none 0 0) 1 24 Tryz.underlying29 ji jz0 jz1 jz2 rfl (by decide) _ k us rfl HO2 (some ⟨w1.heap.size, 0, none⟩) 1 1 [.slice za zn zc] rfl (by intro e; cases e) rfl (by intro ad had; cases had; exact hne) hone ?c3 ?c4 ?c5 ?_))
      case c3 => unfold maxLen; omega
      case c4 => omega
      case c5 => have := p2.size; omega
      intro v2 w2 hown hgrow
      have q4 : Below w.heap.size w w2 := q3.grown hgrow q3.size (fun j hj => by have := HO2.lt j hj; omega)
      have s4 := q2.size
      have p4 : Below (w.heap.size + 1) (w.alloc (.cells #[.string ⟨nm.toArray⟩, cu, .slice da dn dc, .slice (some ⟨g, o, none⟩) n rc, .int .i64 next, iu] 27)) w2 := p3.grown hgrow (by rw [hz1]; omega) (fun j hj => (HO2.lt j hj).1)
      have HV2 : Hid (∀ (j : Nat) z' r, (us ++ [.slice za zn zc])[j]? = some z' → rows[j]? = some r → Own w2 w.heap.size z' (N r)) := by
        intro j z' r hz hr
        have hk2 : Own (w1.alloc (.cells #[.slice za zn zc] 41)) w.heap.size z' (N r) := by
          refine owns_keep ?_ ((Below.refl _ _).alloc (Nat.le_refl _) _)
          rcases Nat.lt_or_ge j us.length with h | h
          · rw [List.getElem?_append_left h] at hz
            exact HV1.out j z' r hz hr
          · rw [List.getElem?_append_right h] at hz
            have hj : j = us.length := by
              rcases Nat.lt_or_ge us.length j with h' | h'
              · rw [List.getElem?_eq_none (by simp; omega)] at hz; cases hz
              · omega
            subst hj
            rw [HU.out, hXK.out] at hr
            cases hr
            simp at hz
            subst hz
            exact OZ.out
        exact owns_other hk2 HO2 (by decide) hgrow
      have HU2 : Hid ((us ++ [(Value.slice za zn zc)]).length = k + 1) := by rw [Hid, List.length_append, HU.out]; rfl
      have HO4 := hide hown
      clear hown hgrow HO2 HV1 OZ HO1 hne hone hz1 q3 p3 p2 q2 bb s4
      go_wp2
      go_roundw
      case rel => exact ⟨k + 1, us ++ [.slice za zn zc], by omega, by go_num, HU2, HO4, p4, HV2⟩
      case measure => simp [intOf]; omega
    · have hkn : k = n := by omega
      go_wp2
      refine HP.out _ _ ⟨us, ?_, ?_, ?_⟩ q0
      · rw [HU.out, List.length_map, hRN.out, hkn]
      · have := own_lower HO.out (show w.heap.size ≤ w.heap.size + 1 by omega); rw [List.length_map, hRN.out, ← hkn]; exact this
      · intro j z l hz hl
        rw [List.getElem?_map] at hl
        obtain ⟨r, hr, rfl⟩ := Option.map_eq_some_iff.1 hl
        exact HV.out j z r hz hr
def or2V (x y : Int) : Int := if x ≠ 0 then x else y
theorem or2_any (b c : Nat) (x y : Int) (w : World) (h0 : w.cell? ⟨b, 0, none⟩ = some (.int .i64 x)) (h1 : w.cell? ⟨b, 1, none⟩ = some (.int .i64 y)) :
    Calls Tryz.prog 145 #[.slice (some ⟨b, 0, none⟩) 2 c] w fun e w' => e = .returned (.int .i64 (or2V x y)) ∧ w' = w := by
  cases e0 : (x != 0)
  · cases e1 : (y != 0)
    · have hx : or2V x y = 0 := by
        simp only [bne_eq_false_iff_eq] at e0 e1
        simp [or2V, e0, e1]
      rw [hx]
      clear hx
      go_enter Tryz.func145, Tryz.ntmps145
      go_wp2
      go_loopw [8] (fun i wl => ∃ k : Nat, k ≤ 2 ∧ i = .int .i64 k ∧ wl = w) (fun i _ => 2 - (intOf i).toNat)
      case atStart => exact ⟨0, by omega, rfl, rfl⟩
      case round =>
        obtain ⟨k, hk, rfl, hw⟩ := hrel
        subst hw
        match k, hk with
        | 0, _ =>
          go_wp2
          go_roundw
          case rel => exact ⟨1, by omega, by go_num, trivial⟩
          case measure => simp [intOf]
        | 1, _ =>
          go_wp2
          go_roundw
          case rel => exact ⟨2, by omega, by go_num, trivial⟩
          case measure => simp [intOf]
        | 2, _ =>
          go_wp2
          go_ret
          exact ⟨rfl, rfl⟩
    · have hx : or2V x y = y := by
        simp only [bne_eq_false_iff_eq] at e0
        simp [or2V, e0]
      rw [hx]
      clear hx
      go_enter Tryz.func145, Tryz.ntmps145
      go_wp2
      go_loopw [8] (fun i wl => ∃ k : Nat, k ≤ 1 ∧ i = .int .i64 k ∧ wl = w) (fun i _ => 2 - (intOf i).toNat)
      case atStart => exact ⟨0, by omega, rfl, rfl⟩
      case round =>
        obtain ⟨k, hk, rfl, hw⟩ := hrel
        subst hw
        match k, hk with
        | 0, _ =>
          go_wp2
          go_roundw
          case rel => exact ⟨1, by omega, by go_num, trivial⟩
          case measure => simp [intOf]
        | 1, _ =>
          go_wp2
          go_ret
          exact ⟨rfl, rfl⟩
  · have hx : or2V x y = x := by
      simp at e0
      simp [or2V, e0]
    rw [hx]
    clear hx
    go_enter Tryz.func145, Tryz.ntmps145
    go_wp2
    go_loopw [8] (fun i wl => i = .int .i64 0 ∧ wl = w) (fun i _ => 0)
    case atStart => exact ⟨rfl, rfl⟩
    case round =>
      obtain ⟨rfl, hw⟩ := hrel
      subst hw
      go_wp2
      go_ret
      exact ⟨rfl, rfl⟩
theorem nan_any (s : ByteArray) (w : World) : Calls Tryz.prog 167 #[.string s] w fun e w' => e = .returned (.bool false) ∧ w' = w := by
  go_enter Tryz.func167, Tryz.ntmps167
  go_wp2
  go_ret
  exact ⟨by simp, rfl⟩
theorem cmp_turn : ∀ a b : List UInt8, Lib.compareBytes b a = - Lib.compareBytes a b
  | [], [] => by simp [Lib.compareBytes]
  | [], _ :: _ => by simp [Lib.compareBytes]
  | _ :: _, [] => by simp [Lib.compareBytes]
  | x :: a, y :: b => by
    have ih := cmp_turn a b
    unfold Lib.compareBytes
    by_cases h1 : x < y
    · have h2 : ¬ y < x := fun h => UInt8.lt_irrefl _ (UInt8.lt_trans h1 h)
      simp [h1, h2]
    · by_cases h2 : y < x
      · simp [h1, h2]
      · simp [h1, h2, ih]
theorem cmp_three (a b : List UInt8) : Lib.compareBytes a b = -1 ∨ Lib.compareBytes a b = 0 ∨ Lib.compareBytes a b = 1 := by
  induction a generalizing b with
  | nil => cases b <;> simp [Lib.compareBytes]
  | cons x a ih =>
    cases b with
    | nil => simp [Lib.compareBytes]
    | cons y b =>
      unfold Lib.compareBytes
      split
      · simp
      · split
        · simp
        · exact ih b
theorem bytes_list (s : ByteArray) : s.toList = s.data.toList := Lib.toList_data s
theorem cmps_any (s t : ByteArray) (w : World) : Calls Tryz.prog 146 #[.string s, .string t] w fun e w' => e = .returned (.int .i64 (Lib.compareBytes s.data.toList t.data.toList)) ∧ w' = w := by
  have n1 := fun W => nan_any s W
  have n2 := fun W => nan_any t W
  have l1 := cmp_less s.data.toList t.data.toList
  have l2 := cmp_less t.data.toList s.data.toList
  rw [cmp_turn s.data.toList t.data.toList] at l2
  have l3 : (s.data.toList == t.data.toList) = decide (Lib.compareBytes s.data.toList t.data.toList = 0) := by
    rw [Bool.eq_iff_iff, beq_iff_eq, decide_eq_true_iff]; exact cmp_same _ _
  rcases cmp_three s.data.toList t.data.toList with h | h | h
  all_goals
    rw [h] at l1 l2 l3 ⊢
    rw [← bytes_list s, ← bytes_list t] at l1 l2 l3
    simp only [Int.reduceNeg, Int.reduceLT, Int.reduceEq, Int.neg_zero, Int.neg_neg, decide_true, decide_false, Int.lt_irrefl] at l1 l2 l3
    go_enter Tryz.func146, Tryz.ntmps146
    go_wp2_with (first | (go_at_call_of 167 (Value.string s); refine (n1 _).mono ?_; rintro e w' ⟨rfl, rfl⟩) | (go_at_call 167; refine (n2 _).mono ?_; rintro e w' ⟨rfl, rfl⟩))
    go_ret
    exact ⟨rfl, rfl⟩
def cfE (x y : Cl) : Int := or2V (Lib.compareBytes x.name y.name) (Lib.compareInt x.ty y.ty)
theorem entCmp_any (x y : Cl) (W : World) : Calls Tryz.prog 144 #[.agg #[.string ⟨x.name.toArray⟩, .int .i64 x.ty], .agg #[.string ⟨y.name.toArray⟩, .int .i64 y.ty]] W fun e w' => e = .returned (.int .i64 (cfE x y)) ∧ ∃ q os', w' = Go.Sort.grow (W.drewN q) os' := by
  have k1 := fun W => cmps_any ⟨x.name.toArray⟩ ⟨y.name.toArray⟩ W
  have k2 := fun W => Tryz.cmp_Compare_int x.ty y.ty W
  unfold cfE
  have e1 : Lib.compareBytes (⟨x.name.toArray⟩ : ByteArray).data.toList (⟨y.name.toArray⟩ : ByteArray).data.toList = Lib.compareBytes x.name y.name := rfl
  rw [e1] at k1
  generalize Lib.compareBytes x.name y.name = c1 at *
  generalize Lib.compareInt x.ty y.ty = c2 at *
  clear e1
  have a0 : ((W.alloc (.cells #[.string ⟨x.name.toArray⟩, .int .i64 x.ty] 111)).alloc (.cells #[.string ⟨y.name.toArray⟩, .int .i64 y.ty] 111)).cell? ⟨W.heap.size, 0, none⟩ = some (.string ⟨x.name.toArray⟩) := by simp
  have a1 : ((W.alloc (.cells #[.string ⟨x.name.toArray⟩, .int .i64 x.ty] 111)).alloc (.cells #[.string ⟨y.name.toArray⟩, .int .i64 y.ty] 111)).cell? ⟨W.heap.size, 1, none⟩ = some (.int .i64 x.ty) := by simp
  have a2 : ((W.alloc (.cells #[.string ⟨x.name.toArray⟩, .int .i64 x.ty] 111)).alloc (.cells #[.string ⟨y.name.toArray⟩, .int .i64 y.ty] 111)).cell? ⟨W.heap.size + 1, 0, none⟩ = some (.string ⟨y.name.toArray⟩) := by simp
  have a3 : ((W.alloc (.cells #[.string ⟨x.name.toArray⟩, .int .i64 x.ty] 111)).alloc (.cells #[.string ⟨y.name.toArray⟩, .int .i64 y.ty] 111)).cell? ⟨W.heap.size + 1, 1, none⟩ = some (.int .i64 y.ty) := by simp
  have hz : W.heap.size + 2 ≤ ((W.alloc (.cells #[.string ⟨x.name.toArray⟩, .int .i64 x.ty] 111)).alloc (.cells #[.string ⟨y.name.toArray⟩, .int .i64 y.ty] 111)).heap.size := by simp
  have hg : Hid (∃ os, ((W.alloc (.cells #[.string ⟨x.name.toArray⟩, .int .i64 x.ty] 111)).alloc (.cells #[.string ⟨y.name.toArray⟩, .int .i64 y.ty] 111)) = Go.Sort.grow W os) := hide ⟨_, by rw [Go.Sort.alloc_eq_grow, Go.Sort.alloc_eq_grow, Go.Sort.grow_grow]⟩
  go_enter Tryz.func144, Tryz.ntmps144
  go_wp2_with fail
  generalize ((W.alloc (.cells #[.string ⟨x.name.toArray⟩, .int .i64 x.ty] 111)).alloc (.cells #[.string ⟨y.name.toArray⟩, .int .i64 y.ty] 111)) = W2 at *
  go_region_held3 (fun w' => w'.cell? ⟨W.heap.size, 0, none⟩ = some (.string ⟨x.name.toArray⟩) ∧ w'.cell? ⟨W.heap.size, 1, none⟩ = some (.int .i64 x.ty) ∧ w'.cell? ⟨W.heap.size + 1, 0, none⟩ = some (.string ⟨y.name.toArray⟩) ∧ w'.cell? ⟨W.heap.size + 1, 1, none⟩ = some (.int .i64 y.ty)) (go_keep) (first | (go_at_call 146; refine (k1 _).mono ?_; rintro e w' ⟨rfl, rfl⟩) | (go_at_call 147; refine (k2 _).mono ?_; rintro e w' ⟨rfl, rfl⟩) | (go_at_call 145; refine (or2_any _ _ c1 c2 _ (by simp) (by simp)).mono ?_; rintro e w' ⟨rfl, rfl⟩))
  all_goals go_wp2
  go_ret
  obtain ⟨os, hos⟩ := hg.out
  refine ⟨rfl, 1, os ++ #[.cells #[.int .i64 c1, .int .i64 c2] 3], ?_⟩
  rw [hos, Go.Sort.alloc_eq_grow, Go.Sort.grow_grow]
  rfl
theorem fields_pair {fs : Array Field} {a b : String} {x y : TypeId} {i j : Nat} (h : fs.toList.map (fun f => (f.name, f.type, f.offset)) = [(a, x, i), (b, y, j)]) :
    ∃ f0 f1, fs = #[f0, f1] ∧ f0.name = a ∧ f0.type = x ∧ f0.offset = i ∧ f1.name = b ∧ f1.type = y ∧ f1.offset = j := by
  obtain ⟨l⟩ := fs
  match l, h with
  | [f0, f1], h =>
    simp at h
    exact ⟨f0, f1, rfl, h.1.1, h.1.2.1, h.1.2.2, h.2.1, h.2.2.1, h.2.2.2⟩
theorem Tryz.fieldsEn : (Tryz.prog.fieldsOf 111).toList.map (fun f => (f.name, f.type, f.offset)) = [("Key", 9, 0), ("Number", 3, 1)] := by kernel_rfl
theorem Tryz.underEn : Tryz.prog.underlying 111 = some (.struct (Tryz.prog.fieldsOf 111)) := by kernel_rfl
theorem Tryz.stoodEn : Tryz.prog.stoodInHeld 111 = false := by kernel_rfl
def sameEn (x y : Cl) : Bool := decide (x.name = y.name) && decide (x.ty = y.ty)
theorem neqEn (x y : Cl) (w : World) :
    (binOp .neq 111 (.agg #[.string ⟨x.name.toArray⟩, .int .i64 x.ty]) (.agg #[.string ⟨y.name.toArray⟩, .int .i64 y.ty])).run Tryz.prog w = .ok (.bool (!sameEn x y)) w := by
  rw [run_neq_struct, run_equalIn_struct w 9999 111 _ _ Tryz.underEn Tryz.stoodEn]
  obtain ⟨f0, f1, hf, n0, t0, o0, n1, t1, o1⟩ := fields_pair Tryz.fieldsEn
  rw [hf]
  simp [Op.eqFields, n0, t0, o0, n1, t1, o1, go_sem]
  unfold sameEn
  by_cases h1 : x.name = y.name <;> by_cases h2 : x.ty = y.ty <;> simp [h1, h2]
theorem sameEn_iff (x y : Cl) : sameEn x y = true ↔ x = y := by
  cases x; cases y; simp [sameEn]
theorem CsAt.cells2 {w : World} {u : Value} {L : List Cl} (h : CsAt w u L) {i : Nat} {x : Cl} (hx : L[i]? = some x) : ∃ g o n cap, u = .slice (some ⟨g, o, none⟩) n cap ∧ g < w.heap.size ∧ w.cell? ⟨g, o + i * 2, none⟩ = some (.string ⟨x.name.toArray⟩) ∧ w.cell? ⟨g, o + i * 2 + 1, none⟩ = some (.int .i64 x.ty) := by
  obtain ⟨ao, cap, rfl, -, hc⟩ := h
  obtain ⟨g, o, rfl, hg, hcc⟩ := hc (by intro e; rw [e] at hx; cases hx)
  obtain ⟨c0, c1⟩ := hcc i x hx
  exact ⟨g, o, _, cap, rfl, hg, c0, c1⟩
theorem equalEn_same (L M : List Cl) (ao bo : Option Addr) (n ca cb : Nat) (w : World) (hL : L.length = n) (hM : M.length = n) (h : CsAt w (.slice ao n ca) L) (h' : CsAt w (.slice bo n cb) M) :
    Calls Tryz.prog 92 #[.slice ao n ca, .slice bo n cb] w fun e w' => e = .returned (.bool (decide (L = M))) ∧ Below w.heap.size w w' := by
  obtain ⟨PP, hPP⟩ : ∃ PP : Ending → World → Prop, PP = fun e w' => e = .returned (.bool (decide (L = M))) ∧ Below w.heap.size w w' := ⟨_, rfl⟩
  refine Calls.mono (R := PP) ?_ (by rw [hPP]; exact fun _ _ h => h)
  have HP : Hid (∀ (b : Bool) (w' : World), decide (L = M) = b → Below w.heap.size w w' → PP (.returned (.bool b)) w') := by
    intro b w' h1 h2
    rw [hPP]
    exact ⟨by rw [h1], h2⟩
  clear hPP
  have hs : n * 24 ≤ 140737488355328 := by obtain ⟨_, _, e, hs, _⟩ := h; cases e; rw [hL] at hs; exact hs
  have HL := hide hL
  have HM := hide hM
  have h1 := fun (i : Nat) (x : Cl) (hx : L[i]? = some x) => h.cells2 hx
  have h2 := fun (i : Nat) (x : Cl) (hx : M[i]? = some x) => h'.cells2 hx
  have H1 := hide h1
  have H2 := hide h2
  clear h h' h1 h2 hL hM
  go_enter Tryz.func92, Tryz.ntmps92
  go_wp2
  go_loopw [13] (fun i wl => ∃ k : Nat, k ≤ n ∧ i = .int .i64 k ∧ Below w.heap.size w wl ∧ Hid (∀ j, j < k → L[j]? = M[j]?)) (fun i _ => n - (intOf i).toNat)
  case atStart => exact ⟨0, Nat.zero_le _, rfl, Below.refl _ _, fun j hj => absurd hj (Nat.not_lt_zero _)⟩
  case round =>
    obtain ⟨k, hk, rfl, hnx, HA⟩ := hrel
    by_cases hlt : k < n
    · obtain ⟨x, hx⟩ : ∃ x, L[k]? = some x := ⟨L[k]'(by rw [HL.out]; exact hlt), List.getElem?_eq_getElem _⟩
      obtain ⟨y, hy⟩ : ∃ y, M[k]? = some y := ⟨M[k]'(by rw [HM.out]; exact hlt), List.getElem?_eq_getElem _⟩
      obtain ⟨g, o, n1, c1, e1, hg, a0, a1⟩ := H1.out k x hx
      obtain ⟨g', o', n2, c2, e2, hg', b0, b1⟩ := H2.out k y hy
      cases e1
      cases e2
      have hq := neqEn x y
      have c0 := (hnx.cell (p := ⟨g, o + k * 2, none⟩) hg).trans a0
      have c1 := (hnx.cell (p := ⟨g, o + k * 2 + 1, none⟩) hg).trans a1
      have d0 := (hnx.cell (p := ⟨g', o' + k * 2, none⟩) hg').trans b0
      have d1 := (hnx.cell (p := ⟨g', o' + k * 2 + 1, none⟩) hg').trans b1
      have hlt' : (k : Int) < (n : Int) := by omega
      have qd := hnx.drew
      have HX := hide hx
      have HY := hide hy
      have hS := sameEn_iff x y
      generalize sameEn x y = B at hq hS
      have HS := hide hS
      clear a0 a1 b0 b1 hx hy hg hg' hS
      cases B with
      | true =>
        go_wp2_with fail
        go_region
        all_goals
          go_wp2
          go_roundw
          case rel =>
            refine ⟨k + 1, by omega, by go_num, by first | exact hnx | exact qd, fun j hj => ?_⟩
            rcases Nat.lt_or_ge j k with h | h
            · exact HA.out j h
            · rw [show j = k by omega, HX.out, HY.out, HS.out.1 trivial]
          case measure => simp [intOf]; omega
      | false =>
        go_wp2_with fail
        go_region
        all_goals
          go_wp2
          exact HP.out false _ (by
            refine decide_eq_false fun e => ?_
            have h1 := HX.out
            rw [e, HY.out] at h1
            have := HS.out.2 (Option.some.inj h1).symm
            cases this) (by first | exact hnx | exact qd)
    · have hkn : k = n := by omega
      go_wp2
      exact HP.out true _ (by
        refine decide_eq_true (List.ext_getElem? fun j => ?_)
        rcases Nat.lt_or_ge j k with h | h
        · exact HA.out j h
        · rw [List.getElem?_eq_none (by rw [HL.out]; omega), List.getElem?_eq_none (by rw [HM.out]; omega)]) hnx
theorem equalEn_ne (ao bo : Option Addr) (n m ca cb : Nat) (w : World) (h : ¬ n = m) :
    Calls Tryz.prog 92 #[.slice ao n ca, .slice bo m cb] w fun e w' => e = .returned (.bool false) ∧ Below w.heap.size w w' := by
  have h' : ¬ (n : Int) = (m : Int) := by omega
  go_enter Tryz.func92, Tryz.ntmps92
  go_wp2
  go_ret
  exact ⟨rfl, Below.refl _ _⟩
theorem equalEn_any (L M : List Cl) (u v : Value) (w : World) (h : CsAt w u L) (h' : CsAt w v M) :
    Calls Tryz.prog 92 #[u, v] w fun e w' => e = .returned (.bool (decide (L = M))) ∧ Below w.heap.size w w' := by
  obtain ⟨ao, ca, rfl, r1⟩ := h
  obtain ⟨bo, cb, rfl, r2⟩ := h'
  by_cases e : M.length = L.length
  · have h2 : CsAt w (.slice bo M.length cb) M := ⟨bo, cb, rfl, r2⟩
    rw [e] at h2 ⊢
    exact equalEn_same L M ao bo L.length ca cb w rfl e ⟨ao, ca, rfl, r1⟩ h2
  · rw [decide_eq_false (fun hh => e (by rw [hh]))]
    exact equalEn_ne ao bo _ _ ca cb w (fun h => e h.symm)
end Go.Proofs.YtcnnjladaoaeiaaGreatDoor
namespace Go.Proofs
open Go.Shelf
def Tryz.sortEn_ren : Go.Shelf.Ren := ⟨fun | 6 => 143 | 15 => 166 | 14 => 165 | 28 => 188 | 29 => 189 | 20 => 180 | 21 => 181 | 22 => 182 | 23 => 183 | 24 => 184 | 25 => 185 | 26 => 186 | 27 => 187 | 46 => 205 | 47 => 206 | 48 => 207 | 49 => 208 | 50 => 209 | 57 => 228 | n => n, fun | 22 => 71 | 24 => 111 | 25 => 174 | 3 => 3 | 39 => 176 | 0 => 0 | 53 => 212 | 55 => 214 | 4 => 4 | 46 => 206 | 45 => 205 | 50 => 138 | 5 => 5 | 9 => 9 | 66 => 224 | 70 => 228 | 76 => 240 | 77 => 153 | n => n, fun | n => n⟩
theorem Tryz.sortEn : Go.Proofs.SlLaysF0.n6 Tryz.prog Tryz.sortEn_ren := {
  mixed := by kernel_rfl
  f6 := ⟨Tryz.f143.name, by decide, Tryz.func143.trans (congrArg some (by kernel_rfl))⟩
  f14 := ⟨Tryz.f165.name, by decide, Tryz.func165.trans (congrArg some (by kernel_rfl))⟩
  f15 := Tryz.func166.trans (congrArg some (by kernel_rfl))
  f20 := ⟨Tryz.f180.name, by decide, Tryz.func180.trans (congrArg some (by kernel_rfl))⟩
  f21 := ⟨Tryz.f181.name, by decide, Tryz.func181.trans (congrArg some (by kernel_rfl))⟩
  f22 := ⟨Tryz.f182.name, by decide, Tryz.func182.trans (congrArg some (by kernel_rfl))⟩
  f23 := ⟨Tryz.f183.name, by decide, Tryz.func183.trans (congrArg some (by kernel_rfl))⟩
  f24 := ⟨Tryz.f184.name, by decide, Tryz.func184.trans (congrArg some (by kernel_rfl))⟩
  f25 := ⟨Tryz.f185.name, by decide, Tryz.func185.trans (congrArg some (by kernel_rfl))⟩
  f26 := ⟨Tryz.f186.name, by decide, Tryz.func186.trans (congrArg some (by kernel_rfl))⟩
  f27 := ⟨Tryz.f187.name, by decide, Tryz.func187.trans (congrArg some (by kernel_rfl))⟩
  f28 := Tryz.func188.trans (congrArg some (by kernel_rfl))
  f29 := Tryz.func189.trans (congrArg some (by kernel_rfl))
  f46 := ⟨Tryz.f205.name, by decide, Tryz.func205.trans (congrArg some (by kernel_rfl))⟩
  f47 := Tryz.func206.trans (congrArg some (by kernel_rfl))
  f48 := Tryz.func207.trans (congrArg some (by kernel_rfl))
  f49 := ⟨Tryz.f208.name, by decide, Tryz.func208.trans (congrArg some (by kernel_rfl))⟩
  f50 := ⟨Tryz.f209.name, by decide, Tryz.func209.trans (congrArg some (by kernel_rfl))⟩
  f57 := ⟨Tryz.f228.name, by decide, Tryz.func228.trans (congrArg some (by kernel_rfl))⟩
  t0 := Tryz.underlying0
  a0 := Tryz.isAgg0
  z0 := Tryz.sizeOf0
  v0 := Tryz.zeroValue0
  t3 := Tryz.underlying3
  a3 := Tryz.isAgg3
  z3 := Tryz.sizeOf3
  v3 := Tryz.zeroValue3
  t4 := Tryz.underlying4
  a4 := Tryz.isAgg4
  z4 := Tryz.sizeOf4
  v4 := Tryz.zeroValue4
  t5 := Tryz.underlying5
  a5 := Tryz.isAgg5
  z5 := Tryz.sizeOf5
  v5 := Tryz.zeroValue5
  t9 := Tryz.underlying9
  a9 := Tryz.isAgg9
  z9 := Tryz.sizeOf9
  v9 := Tryz.zeroValue9
  t22 := Tryz.underlying71
  a22 := Tryz.isAgg71
  z22 := Tryz.sizeOf71
  v22 := Tryz.zeroValue71
  t25 := Tryz.underlying174
  a25 := Tryz.isAgg174
  z25 := Tryz.sizeOf174
  v25 := Tryz.zeroValue174
  t39 := Tryz.underlying176
  a39 := Tryz.isAgg176
  z39 := Tryz.sizeOf176
  v39 := Tryz.zeroValue176
  t45 := Tryz.underlying205
  a45 := Tryz.isAgg205
  z45 := Tryz.sizeOf205
  v45 := Tryz.zeroValue205
  t46 := Tryz.underlying206
  a46 := Tryz.isAgg206
  z46 := Tryz.sizeOf206
  v46 := Tryz.zeroValue206
  t50 := Tryz.underlying138
  a50 := Tryz.isAgg138
  z50 := Tryz.sizeOf138
  v50 := Tryz.zeroValue138
  t53 := Tryz.underlying212
  a53 := Tryz.isAgg212
  z53 := Tryz.sizeOf212
  v53 := Tryz.zeroValue212
  t55 := Tryz.underlying214
  a55 := Tryz.isAgg214
  z55 := Tryz.sizeOf214
  v55 := Tryz.zeroValue214
  t66 := Tryz.underlying224
  a66 := Tryz.isAgg224
  z66 := Tryz.sizeOf224
  v66 := Tryz.zeroValue224
  t70 := Tryz.underlying228
  a70 := Tryz.isAgg228
  z70 := Tryz.sizeOf228
  v70 := Tryz.zeroValue228
  t76 := Tryz.underlying240
  a76 := Tryz.isAgg240
  z76 := Tryz.sizeOf240
  v76 := Tryz.zeroValue240
  t77 := Tryz.underlying153
  a77 := Tryz.isAgg153
  z77 := Tryz.sizeOf153
  v77 := Tryz.zeroValue153 }
end Go.Proofs
namespace Go.Proofs.YtcnnjladaoaeiaaGreatDoor
open Go.RowKit
theorem cmpB_trans : ∀ a b c : List UInt8, Lib.compareBytes a b < 0 → Lib.compareBytes b c < 0 → Lib.compareBytes a c < 0
  | [], [], c, h, _ => by simp [Lib.compareBytes] at h
  | [], _ :: _, [], _, h => by simp [Lib.compareBytes] at h
  | [], _ :: _, _ :: _, _, _ => by simp [Lib.compareBytes]
  | _ :: _, [], c, h, _ => by simp [Lib.compareBytes] at h
  | _ :: _, _ :: _, [], _, h => by simp [Lib.compareBytes] at h
  | x :: a, y :: b, z :: c, h1, h2 => by
    have ih := cmpB_trans a b c
    unfold Lib.compareBytes at h1 h2 ⊢
    by_cases xy : x < y
    · by_cases yz : y < z
      · simp [UInt8.lt_trans xy yz]
      · by_cases zy : z < y
        · simp [yz, zy] at h2
        · have e : y = z := UInt8.le_antisymm (UInt8.not_lt.1 zy) (UInt8.not_lt.1 yz)
          subst e
          simp [xy]
    · by_cases yx : y < x
      · simp [xy, yx] at h1
      · have e : x = y := UInt8.le_antisymm (UInt8.not_lt.1 yx) (UInt8.not_lt.1 xy)
        subst e
        by_cases xz : x < z
        · simp [xz]
        · by_cases zx : z < x
          · rw [if_neg xz, if_pos zx] at h2
            exact absurd h2 (by decide)
          · rw [if_neg xz, if_neg zx] at h2 ⊢
            rw [if_neg xy, if_neg yx] at h1
            exact ih h1 h2
theorem compareInt_turn (x y : Int) : Lib.compareInt y x = - Lib.compareInt x y := by
  unfold Lib.compareInt
  by_cases h1 : x < y
  · have h2 : ¬ y < x := by omega
    simp [h1, h2]
  · by_cases h2 : y < x <;> simp [h1, h2]
theorem compareInt_zero {x y : Int} (h : Lib.compareInt x y = 0) : x = y := by
  unfold Lib.compareInt at h
  by_cases h1 : x < y
  · simp [h1] at h
  · by_cases h2 : y < x
    · simp [h1, h2] at h
    · omega
theorem compareInt_neg (x y : Int) : Lib.compareInt x y < 0 ↔ x < y := by
  unfold Lib.compareInt
  by_cases h1 : x < y
  · simp [h1]
  · by_cases h2 : y < x <;> simp [h1, h2]
theorem cfE_turn (x y : Cl) : cfE y x = - cfE x y := by
  unfold cfE or2V
  rw [cmp_turn x.name y.name, compareInt_turn x.ty y.ty]
  by_cases h : Lib.compareBytes x.name y.name = 0 <;> simp [h]
theorem cfE_zero {x y : Cl} (h : cfE x y = 0) : x = y := by
  unfold cfE or2V at h
  by_cases h1 : Lib.compareBytes x.name y.name = 0
  · simp [h1] at h
    obtain ⟨a, b⟩ := x
    obtain ⟨c, d⟩ := y
    simp at h1 h
    rw [(cmp_same a c).2 h1, compareInt_zero h]
  · simp [h1] at h
theorem cfE_neg (x y : Cl) : cfE x y < 0 ↔ Lib.compareBytes x.name y.name < 0 ∨ (x.name = y.name ∧ x.ty < y.ty) := by
  unfold cfE or2V
  by_cases h1 : Lib.compareBytes x.name y.name = 0
  · rw [h1, (cmp_same _ _).2 h1]
    simp [compareInt_neg]
  · have : ¬ x.name = y.name := fun e => h1 ((cmp_same _ _).1 e)
    simp [h1, this]
theorem cfE_trans {x y z : Cl} (h1 : cfE x y < 0) (h2 : cfE y z < 0) : cfE x z < 0 := by
  rw [cfE_neg] at *
  rcases h1 with h1 | ⟨h1, h1'⟩ <;> rcases h2 with h2 | ⟨h2, h2'⟩
  · exact Or.inl (cmpB_trans _ _ _ h1 h2)
  · exact Or.inl (h2 ▸ h1)
  · exact Or.inl (h1 ▸ h2)
  · exact Or.inr ⟨h1.trans h2, by omega⟩
theorem cfE_swo : Go.Sort.SWO (ltOf cfE) where
  irrefl x := by
    have := cfE_turn x x
    simp [ltOf]; omega
  trans x y z h1 h2 := by
    simp [ltOf] at *
    exact cfE_trans h1 h2
  ntrans x y z h1 h2 := by
    simp [ltOf] at *
    by_cases h : cfE x z < 0
    · exfalso
      have t1 := cfE_turn x y
      have t2 := cfE_turn y z
      by_cases a : cfE y x < 0
      · have := cfE_trans a h
        omega
      · have e : x = y := cfE_zero (by omega)
        subst e
        omega
    · omega
def OrdE (l : List Cl) : Prop := l.Pairwise fun a b => ¬ cfE b a < 0
theorem ordE_unique {l m : List Cl} (hp : l.Perm m) (h1 : OrdE l) (h2 : OrdE m) : l = m :=
  List.Perm.eq_of_pairwise (fun a b _ _ ha hb => cfE_zero (by have := cfE_turn a b; omega)) h1 h2 hp
def insE (e : Cl) : List Cl → List Cl
  | [] => [e]
  | x :: r => if cfE e x < 0 then e :: x :: r else x :: insE e r
theorem insE_perm (e : Cl) : ∀ l, (insE e l).Perm (e :: l)
  | [] => List.Perm.refl _
  | x :: r => by
    rw [insE]
    split
    · exact List.Perm.refl _
    · exact ((insE_perm e r).cons x).trans (List.Perm.swap e x r)
theorem insE_ord (e : Cl) : ∀ l, OrdE l → OrdE (insE e l)
  | [], _ => by simp [insE, OrdE]
  | x :: r, h => by
    unfold OrdE at h ⊢
    rw [List.pairwise_cons] at h
    rw [insE]
    split
    · rename_i hlt
      rw [List.pairwise_cons]
      refine ⟨fun y hy => ?_, List.pairwise_cons.2 h⟩
      have t := cfE_turn e x
      rcases List.mem_cons.1 hy with rfl | hy
      · omega
      · intro hc
        have := cfE_trans hc hlt
        exact h.1 y hy this
    · rename_i hnl
      rw [List.pairwise_cons]
      refine ⟨fun y hy => ?_, insE_ord e r h.2⟩
      rcases List.mem_cons.1 ((insE_perm e r).mem_iff.1 hy) with rfl | hy
      · exact hnl
      · exact h.1 y hy
def sortE (l : List Cl) : List Cl := l.foldl (fun acc e => insE e acc) []
theorem sortE_go : ∀ (l acc : List Cl), OrdE acc → OrdE (l.foldl (fun acc e => insE e acc) acc) ∧ (l.foldl (fun acc e => insE e acc) acc).Perm (acc ++ l)
  | [], acc, h => ⟨h, by simp⟩
  | e :: r, acc, h => by
    obtain ⟨h1, h2⟩ := sortE_go r (insE e acc) (insE_ord e acc h)
    refine ⟨h1, h2.trans ?_⟩
    exact ((insE_perm e acc).append_right r).trans (by simpa using (List.perm_middle (a := e) (l₁ := acc) (l₂ := r)).symm)
theorem sortE_ord (l : List Cl) : OrdE (sortE l) := (sortE_go l [] List.Pairwise.nil).1
theorem sortE_perm (l : List Cl) : (sortE l).Perm l := by unfold sortE; simpa using (sortE_go l [] List.Pairwise.nil).2
theorem sorted_is (d d' : Array Cl) (hp : Go.Sort.PermIn 0 d.size d d') (hs : Go.Sort.SortedIn (ltOf cfE) 0 d.size d') : d'.toList = sortE d.toList := by
  obtain ⟨h1, -, h3⟩ := hp
  have e1 : d'.extract 0 d.size = d' := by rw [← h1]; simp
  have e2 : d.extract 0 d.size = d := by simp
  rw [e1, e2] at h3
  refine ordE_unique (h3.trans (sortE_perm _).symm) ?_ (sortE_ord _)
  unfold OrdE
  rw [List.pairwise_iff_getElem]
  intro i j hi hj hij
  have := hs i j (Nat.zero_le _) hij (by simpa [h1] using hj)
  simp [ltOf] at this
  have a1 : d'[j]! = d'.toList[j] := by rw [getElem!_pos d' j (by simpa using hj)]; simp
  have a2 : d'[i]! = d'.toList[i] := by rw [getElem!_pos d' i (by simpa using hi)]; simp
  rw [a1, a2] at this
  omega
theorem flatK_list (d : Array Cl) : Go.Sort.flatK clC 2 d = (d.toList.flatMap clC).toArray := by
  apply Go.Sort.ext_get!
  · have : ∀ l : List Cl, (l.flatMap clC).length = l.length * 2 := by
      intro l
      induction l with
      | nil => rfl
      | cons x r ih => rw [List.flatMap_cons, List.length_append, ih]; simp [clC]; omega
    simp [this]
  · intro t ht
    rw [Go.Sort.size_flatK] at ht
    rw [Go.Sort.get_flatK _ _ _ _ ht]
    have hi : t / 2 < d.size := by omega
    have hx : d.toList[t / 2]? = some d[t / 2] := by simp [hi]
    have := flat_get clC 2 (fun _ => rfl) d.toList (t / 2) _ hx (t % 2) (by omega)
    rw [show t / 2 * 2 + t % 2 = t by omega] at this
    have e1 : d[t / 2]! = d[t / 2] := getElem!_pos d (t / 2) hi
    rw [e1]
    have h2 : t % 2 < (clC d[t / 2]).length := by simp [clC]; omega
    have e2 : (clC d[t / 2])[t % 2]! = (clC d[t / 2])[t % 2] := getElem!_pos (clC d[t / 2]) (t % 2) h2
    rw [e2]
    rw [List.getElem?_eq_getElem h2] at this
    obtain ⟨h3, h4⟩ := List.getElem?_eq_some_iff.1 this
    have e3 : ((d.toList.flatMap clC).toArray)[t]! = (d.toList.flatMap clC)[t] := by
      rw [getElem!_pos (d.toList.flatMap clC).toArray t (by rw [List.size_toArray]; exact h3)]; simp
    rw [e3, h4]
theorem flatE_len (L : List Cl) : (L.flatMap clC).length = L.length * 2 := by
  induction L with
  | nil => rfl
  | cons x r ih => rw [List.flatMap_cons, List.length_append, ih]; simp [clC]; omega
theorem heap_grow {w : World} {os : Array Obj} {k : Nat} (h : k < w.heap.size) : (Go.Sort.grow w os).heap[k]? = w.heap[k]? := by
  show (w.heap ++ os)[k]? = _
  exact Array.getElem?_append_left h
theorem sorted_world {w : World} {g : Nat} {cur : Array Value} {d' : Array Cl} {m : Nat} {os : Array Obj} {cap n : Nat} (hg : w.heap[g]? = some (.cells cur 111 (0, 0))) (hn : d'.size = n) (hc : cur.size = cap * 2) (hnc : n ≤ cap) :
    (sortWorldK clC 2 w g 0 m d' os).heap[g]? = some (.cells (Go.Sort.putCells id 0 (Go.Sort.flatK clC 2 d') cur) 111 (0, 0)) ∧ (Go.Sort.putCells id 0 (Go.Sort.flatK clC 2 d') cur).size = cap * 2 ∧ (Go.Sort.putCells id 0 (Go.Sort.flatK clC 2 d') cur).toList.take (n * 2) = d'.toList.flatMap clC ∧ w.grownBy (sortWorldK clC 2 w g 0 m d' os) (some g) := by
  have hlt : g < w.heap.size := (ltS hg)
  have hsz : (Go.Sort.putRowK clC 2 (Go.Sort.ahead w m) g 0 d').heap.size = w.heap.size := by
    unfold Go.Sort.putRowK; rw [Go.Sort.size_putRow]; rfl
  have hk : ∀ k, (Go.Sort.putRowK clC 2 (Go.Sort.ahead w m) g 0 d').heap[k]? = if g = k then (w.heap[k]?).map (Go.Sort.onCells (Go.Sort.putCells id 0 (Go.Sort.flatK clC 2 d'))) else w.heap[k]? := by
    intro k
    show ((Go.Sort.ahead w m).heap.modify g _)[k]? = _
    rw [Array.getElem?_modify]
    rfl
  have hps : (Go.Sort.putCells id 0 (Go.Sort.flatK clC 2 d') cur).size = cap * 2 := by simp [Go.Sort.putCells, hc]
  refine ⟨?_, hps, ?_, ?_⟩
  · unfold sortWorldK
    rw [heap_grow (by rw [hsz]; exact hlt), hk, if_pos rfl, hg]
    rfl
  · have hl : (d'.toList.flatMap clC).length = n * 2 := by rw [flatE_len]; simp [hn]
    apply List.ext_getElem?
    intro j
    rw [List.getElem?_take]
    by_cases hj : j < n * 2
    · rw [if_pos hj, Array.getElem?_toList]
      have hF : (Go.Sort.flatK clC 2 d').size = n * 2 := by simp [hn]
      have hjc : j < cur.size := by omega
      have e1 : (Go.Sort.putCells id 0 (Go.Sort.flatK clC 2 d') cur)[j]? = some ((Go.Sort.flatK clC 2 d')[j]!) := by
        unfold Go.Sort.putCells
        rw [Array.getElem?_mapIdx, Array.getElem?_eq_getElem hjc]
        simp [hF, hj]
      have hjl : j < (d'.toList.flatMap clC).length := by rw [hl]; exact hj
      rw [e1, flatK_list, getElem!_pos (d'.toList.flatMap clC).toArray j (by rw [List.size_toArray]; exact hjl), List.getElem?_eq_getElem hjl]
      rfl
    · rw [if_neg hj, List.getElem?_eq_none (by omega)]
  · refine ⟨rfl, rfl, rfl, ?_, fun k hk1 hk2 => ?_⟩
    · show w.heap.size ≤ ((Go.Sort.putRowK clC 2 (Go.Sort.ahead w m) g 0 d').heap ++ os).size
      rw [Array.size_append, hsz]; omega
    · unfold sortWorldK
      rw [heap_grow (by rw [hsz]; exact hk1), hk, if_neg (fun e => hk2 (by rw [e]))]
theorem bitsLen0 (W : World) : Calls Tryz.prog 166 #[.int .u64 0] W fun e w' => e = .returned (.int .i64 (Lib.bitLen 0 : Nat)) ∧ w' = W := by
  have h := Any.bits_Len (SlLaysF0.n15.bits (P := Tryz.prog) (ρ := Tryz.sortEn_ren) { Tryz.sortEn with }) 0 W (by omega) (by omega)
  exact h
theorem sort_nil (w : World) : Calls Tryz.prog 143 #[.slice none 0 0, .func (.func 144) #[] #[]] w fun e w' => e = .returned (.tuple #[]) ∧ w' = w := by
  have h3 : ∀ W : World, Calls Tryz.prog 180 #[.slice none 0 0, .int .i64 0, .int .i64 0, .func (.func 144) #[] #[]] W fun e w' => e = .returned (.tuple #[]) ∧ w' = W := by
    intro W
    go_enter Tryz.func180, Tryz.ntmps180
    go_wp2
    go_loopw [8] (fun i wl => i = .int .i64 1 ∧ wl = W) (fun i _ => 0)
    case atStart => exact ⟨rfl, rfl⟩
    case round =>
      obtain ⟨rfl, hw⟩ := hrel
      subst hw
      go_wp2
      go_end0
      exact ⟨rfl, rfl⟩
  have h2 : ∀ (W : World) (k : Int), Calls Tryz.prog 165 #[.slice none 0 0, .int .i64 0, .int .i64 0, .int .i64 k, .func (.func 144) #[] #[]] W fun e w' => e = .returned (.tuple #[]) ∧ w' = W := by
    intro W k
    go_enter Tryz.func165, Tryz.ntmps165
    go_wp2_with fail
    go_loopw [1, 2, 3, 10, 11] (fun a b c d f wl => a = .int .i64 0 ∧ b = .int .i64 0 ∧ c = .int .i64 k ∧ d = .bool true ∧ f = .bool true ∧ wl = W) (fun _ _ _ _ _ _ => 0)
    case atStart => exact ⟨rfl, rfl, rfl, rfl, rfl, rfl⟩
    case round =>
      obtain ⟨rfl, rfl, rfl, rfl, rfl, hw⟩ := hrel
      subst hw
      go_wp2_with (go_at_call 180; refine (h3 _).mono ?_; rintro e w' ⟨rfl, rfl⟩)
      (try simp only [Exit.inBlock, Exit.then])
      refine bodyPost_ret (results_none rfl _ _ _) rfl ?_
      exact ⟨rfl, rfl⟩
  go_enter Tryz.func143, Tryz.ntmps143
  go_wp2_with (first | (go_at_call 166; refine (bitsLen0 _).mono ?_; rintro e w' ⟨rfl, rfl⟩) | (go_at_call 165; refine (h2 _ _).mono ?_; rintro e w' ⟨rfl, rfl⟩))
  go_end0
  exact ⟨rfl, rfl⟩
theorem sort_any (L : List Cl) (B : Nat) (v : Value) (w : World) (h : w.ownsRow B 111 2 v L.length (L.flatMap clC)) (hn : L.length ≤ 1000) :
    Calls Tryz.prog 143 #[v, .func (.func 144) #[] #[]] w fun e w' => e = .returned (.tuple #[]) ∧ w'.ownsRow B 111 2 v L.length ((sortE L).flatMap clC) ∧ w.grownBy w' v.ownBlock := by
  rcases h.2 with ⟨rfl, h0⟩ | ⟨g, cap, cur, rfl, hB, hg, h1, h2, h3, h4⟩
  · obtain rfl := List.eq_nil_of_length_eq_zero h0
    refine (sort_nil w).mono ?_
    rintro e w' ⟨rfl, rfl⟩
    exact ⟨rfl, ⟨rfl, .inl ⟨rfl, rfl⟩⟩, grown_refl _ _⟩
  · have hlt : g < w.heap.size := (ltS hg)
    have eg : ∀ args w, (callFunc 144 args).run Tryz.prog w = .ok (.enter 144 args) w := enters_of Tryz.func144 (by kernel_rfl) rfl
    have hcmp : CmpLays Tryz.prog 144 #[] clC 2 cfE g 0 L.toArray.size w := fun _ _ _ _ x y => entCmp_any x y _
    have hH : Go.Sort.HoldsK clC 2 w g 0 L.toArray := by
      intro j hj
      rw [Go.Sort.size_flatK] at hj
      simp at hj
      have hj2 : j < (L.flatMap clC).length := by rw [flatE_len]; exact hj
      refine ⟨?_, Lib.frozen_of_heap hg _⟩
      have hc := h.cellAt j (by rw [flatE_len] at hj2; exact hj2)
      rw [Nat.zero_add, flatK_list, getElem!_pos _ j (by rw [List.size_toArray]; exact hj2)]
      rw [hc, List.getElem?_eq_getElem hj2]
      rfl
    have hcon := AnyQ.slices_SortFunc Tryz.sortEn 2 Tryz.isAgg111 Tryz.sizeOf111 clC (fun _ => rfl) (fun x v hv => by simp [clC] at hv; rcases hv with rfl | rfl <;> rfl) cfE cfE_swo 144 #[] g 0 cap L.toArray w eg hcmp hH hlt (by simp; omega)
    change Calls Tryz.prog 143 _ _ _ at hcon
    rw [show L.toArray.size = L.length by simp] at hcon
    refine hcon.mono ?_
    rintro e w' ⟨rfl, d', m, os, hp, hs, rfl⟩
    have hd : d'.size = L.length := by have := hp.1; simpa using this
    have hl : d'.toList = sortE L := by
      have := sorted_is L.toArray d' (by simpa using hp) (by simpa using hs)
      simpa using this
    obtain ⟨r1, r2, r3, r4⟩ := sorted_world (m := m) (os := os) hg hd h3 h1
    rw [hl] at r3
    exact ⟨rfl, ⟨by rw [flatE_len, (sortE_perm L).length_eq], .inr ⟨g, cap, _, rfl, hB, r1, h1, h2, r2, r3⟩⟩, r4⟩
def keyT (y : Vl) : List UInt8 := if chkV y.k y.n y.s = 0 then keyV y.k y.n y.s else []
def entL (c : Nat) (built : Int) : List Vl → List (List Vl) → List Cl
  | r :: rs, l :: ls => if r.k < built then ⟨keyT (l.getD c vl0), r.k⟩ :: entL c built rs ls else entL c built rs ls
  | _, _ => []
theorem entL_snoc (c : Nat) (b : Int) (r : Vl) (l : List Vl) : ∀ (rs : List Vl) (ls : List (List Vl)), rs.length = ls.length → entL c b (rs ++ [r]) (ls ++ [l]) = entL c b rs ls ++ (if r.k < b then [⟨keyT (l.getD c vl0), r.k⟩] else [])
  | [], [], _ => by simp [entL]
  | x :: rs, y :: ls, h => by
    have ih := entL_snoc c b r l rs ls (by simpa using h)
    simp only [List.cons_append, entL]
    split
    · rw [ih]; rfl
    · rw [ih]
theorem entL_few (c : Nat) (b : Int) : ∀ (rs : List Vl) (ls : List (List Vl)), (entL c b rs ls).length ≤ rs.length
  | [], _ => by simp [entL]
  | _ :: _, [] => by simp [entL]
  | x :: rs, y :: ls => by
    have ih := entL_few c b rs ls
    rw [entL]
    split
    · simp; omega
    · simp; omega
theorem Tryz.info_en : (Tryz.prog.info? 111).map (fun i => (i.zero, i.size, i.bytes)) = some (some (.agg #[.string ⟨#[]⟩, .int .i64 0]), 2, 24) := by kernel_rfl
theorem own_cells {w : World} {B : Nat} {z : Value} {l : List Vl} {c : Nat} {y : Vl} (h : Own w B z l) (hy : l[c]? = some y) : ∃ g n cap, z = .slice (some ⟨g, 0, none⟩) n cap ∧ n = l.length ∧ g < w.heap.size ∧ w.cell? ⟨g, c * 3, none⟩ = some (.int .i64 y.k) ∧ w.cell? ⟨g, c * 3 + 1, none⟩ = some (.int .i64 y.n) ∧ w.cell? ⟨g, c * 3 + 2, none⟩ = some (.string ⟨y.s.toArray⟩) := by
  have hc := (List.getElem?_eq_some_iff.1 hy).1
  obtain ⟨g, cap, rfl, -, hg⟩ := owns_some h (by omega)
  have at' : ∀ q, q < 3 → w.cell? ⟨g, c * 3 + q, none⟩ = (vlC y)[q]? := by
    intro q hq
    have := h.cellAt (c * 3 + q) (by omega)
    rw [flat_get vlC 3 (fun _ => rfl) l c y hy q hq] at this
    exact this
  exact ⟨g, _, cap, rfl, rfl, hg, at' 0 (by decide), at' 1 (by decide), at' 2 (by decide)⟩
theorem vv_cells {w : World} {B : Nat} {u : Value} {L : List (List Vl)} (h : VvOwn w B u L) {k : Nat} {l : List Vl} (hl : L[k]? = some l) : ∃ g n cap z, u = .slice (some ⟨g, 0, none⟩) n cap ∧ n = L.length ∧ g < w.heap.size ∧ w.cell? ⟨g, k, none⟩ = some z ∧ Own w B z l := by
  obtain ⟨us, h1, h2, h3⟩ := h
  have hk := (List.getElem?_eq_some_iff.1 hl).1
  obtain ⟨g, cap, rfl, -, hg⟩ := owns_some h2 (by omega)
  have hz : us[k]? = some us[k] := List.getElem?_eq_getElem (by omega)
  have := h2.cellAt k (by omega)
  exact ⟨g, _, cap, us[k], rfl, rfl, hg, this.trans hz, h3 k _ l hz hl⟩
theorem entOf_any (rows : List Vl) (LL : List (List Vl)) (c : Nat) (b : Int) (xn nm : List UInt8) (ru u cu du iu ev : Value) (nx : Int) (B0 : Nat) (w : World) (hr : VsAt w ru rows) (hu : VvOwn w B0 u LL) (hl : LL.length = rows.length) (hn30 : rows.length ≤ 1000) (hc : ∀ l ∈ LL, c < l.length) (hsh : ∀ l ∈ LL, ∀ y ∈ l, y.s.length ≤ 20) (laid : Laid w) :
    Calls Tryz.prog 93 #[tbV nm cu du ru nx iu, u, .agg #[.string ⟨xn.toArray⟩, .int .i64 c, .int .i64 b, ev]] w fun e w' => ∃ x, e = .returned x ∧ w'.ownsRow w.heap.size 111 2 x (entL c b rows LL).length ((sortE (entL c b rows LL)).flatMap clC) ∧ Below w.heap.size w w' := by
  obtain ⟨i3, ki, kz0, kz1, kz2⟩ := info_parts Tryz.info_en
  obtain ⟨ra, rc, rfl, hsz, -, hcc⟩ := hr
  have b0 := ((Below.refl w.heap.size w).alloc (Nat.le_refl _) (.cells #[.string ⟨nm.toArray⟩, cu, du, .slice ra rows.length rc, .int .i64 nx, iu] 27)).alloc (by simp) (.cells #[.string ⟨xn.toArray⟩, .int .i64 c, .int .i64 b, ev] 73)
  have hd0 : ((w.alloc (.cells #[.string ⟨nm.toArray⟩, cu, du, .slice ra rows.length rc, .int .i64 nx, iu] 27)).alloc (.cells #[.string ⟨xn.toArray⟩, .int .i64 c, .int .i64 b, ev] 73)).cell? ⟨w.heap.size + 1, 1, none⟩ = some (.int .i64 c) := by simp
  have hd1 : ((w.alloc (.cells #[.string ⟨nm.toArray⟩, cu, du, .slice ra rows.length rc, .int .i64 nx, iu] 27)).alloc (.cells #[.string ⟨xn.toArray⟩, .int .i64 c, .int .i64 b, ev] 73)).cell? ⟨w.heap.size + 1, 2, none⟩ = some (.int .i64 b) := by simp
  have hd2 : ((w.alloc (.cells #[.string ⟨nm.toArray⟩, cu, du, .slice ra rows.length rc, .int .i64 nx, iu] 27)).alloc (.cells #[.string ⟨xn.toArray⟩, .int .i64 c, .int .i64 b, ev] 73)).cell? ⟨w.heap.size, 3, none⟩ = some (.slice ra rows.length rc) := by simp
  have hz0 : ((w.alloc (.cells #[.string ⟨nm.toArray⟩, cu, du, .slice ra rows.length rc, .int .i64 nx, iu] 27)).alloc (.cells #[.string ⟨xn.toArray⟩, .int .i64 c, .int .i64 b, ev] 73)).heap.size = w.heap.size + 2 := by simp
  obtain ⟨PP, hPP⟩ : ∃ PP : Ending → World → Prop, PP = fun e w' => ∃ x, e = .returned x ∧ w'.ownsRow w.heap.size 111 2 x (entL c b rows LL).length ((sortE (entL c b rows LL)).flatMap clC) ∧ Below w.heap.size w w' := ⟨_, rfl⟩
  refine Calls.mono (R := PP) ?_ (by rw [hPP]; exact fun _ _ h => h)
  have HP : Hid (∀ (x : Value) (w' : World), w'.ownsRow w.heap.size 111 2 x (entL c b rows LL).length ((sortE (entL c b rows LL)).flatMap clC) → Below w.heap.size w w' → PP (.returned x) w') := by
    intro x w' h1 h2
    rw [hPP]
    exact ⟨x, rfl, h1, h2⟩
  clear hPP
  obtain ⟨n, hn⟩ : ∃ n, rows.length = n := ⟨_, rfl⟩
  have hRN := hide hn
  have HLN : Hid (LL.length = n) := hl.trans hn
  have hC : Hid (rows ≠ [] → ∃ g o, ra = some ⟨g, o, none⟩ ∧ g < w.heap.size ∧ ∀ i x, rows[i]? = some x → w.cell? ⟨g, o + i * 3, none⟩ = some (.int .i64 x.k) ∧ w.cell? ⟨g, o + i * 3 + 1, none⟩ = some (.int .i64 x.n) ∧ w.cell? ⟨g, o + i * 3 + 2, none⟩ = some (.string ⟨x.s.toArray⟩)) := hcc
  have HU := hide hu
  have HK := hide (fun (k : Nat) (l : List Vl) (h : LL[k]? = some l) => hc l (List.mem_of_getElem? h))
  have HSH := hide (fun (k : Nat) (l : List Vl) (h : LL[k]? = some l) => hsh l (List.mem_of_getElem? h))
  have HL := hide laid
  rw [hn] at hsz hz0 b0 hn30 hd0 hd1 hd2 ⊢
  obtain ⟨ua, uc, hue⟩ : ∃ ua uc, u = .slice ua n uc := by
    obtain ⟨us, -, h2, -⟩ := hu
    obtain ⟨a, cap, e⟩ := owns_slice h2
    exact ⟨a, cap, by rw [e, HLN.out]⟩
  subst hue
  clear hcc hn hl hu hc hsh laid
  unfold tbV
  generalize hW0 : ((w.alloc (.cells #[.string ⟨nm.toArray⟩, cu, du, .slice ra n rc, .int .i64 nx, iu] 27)).alloc (.cells #[.string ⟨xn.toArray⟩, .int .i64 c, .int .i64 b, ev] 73)) = W0 at b0 hz0 hd0 hd1 hd2
  have HW0 := hide hW0
  clear hW0
  go_enter Tryz.func93, Tryz.ntmps93
  go_wp2_with fail
  rw [HW0.out]
  go_loopw [7, 15] (fun x i wl => ∃ (k : Nat) (es : List Cl), k ≤ n ∧ i = .int .i64 k ∧ Hid (wl.ownsRow (w.heap.size + 2) 111 2 x es.length (es.flatMap clC)) ∧ Below (w.heap.size + 2) W0 wl ∧ Hid (es = entL c b (rows.take k) (LL.take k))) (fun _ i _ => n - (intOf i).toNat)
  case atStart => exact ⟨0, [], Nat.zero_le _, rfl, ⟨rfl, .inl ⟨rfl, rfl⟩⟩, Below.refl _ _, by rw [Hid, List.take_zero, List.take_zero]; rfl⟩
  case round =>
    obtain ⟨k, es, hk, rfl, HO, hnx, HE⟩ := hrel
    have q0 : Below w.heap.size w wr := b0.trans (hnx.mono (by omega))
    have d0 := (hnx.cell (p := ⟨w.heap.size + 1, 1, none⟩) (by show w.heap.size + 1 < _; omega)).trans hd0
    have d1 := (hnx.cell (p := ⟨w.heap.size + 1, 2, none⟩) (by show w.heap.size + 1 < _; omega)).trans hd1
    have d2 := (hnx.cell (p := ⟨w.heap.size, 3, none⟩) (by show w.heap.size < _; omega)).trans hd2
    have sl : w.heap.size + 1 < wr.heap.size := by have := hnx.size; omega
    have sl2 : w.heap.size < wr.heap.size := by omega
    obtain ⟨xa, xc, hxe⟩ := owns_slice HO.out
    obtain ⟨m, hm⟩ : ∃ m, es.length = m := ⟨_, rfl⟩
    have HM := hide hm
    have hmk : m ≤ 1000 := by
      rw [← hm, HE.out]
      have := entL_few c b (rows.take k) (LL.take k)
      rw [List.length_take] at this
      omega
    rw [hm] at hxe
    subst hxe
    by_cases hlt : k < n
    · obtain ⟨r, hx⟩ : ∃ x, rows[k]? = some x := ⟨rows[k]'(by rw [hRN.out]; exact hlt), List.getElem?_eq_getElem _⟩
      obtain ⟨l, hl⟩ : ∃ x, LL[k]? = some x := ⟨LL[k]'(by rw [HLN.out]; exact hlt), List.getElem?_eq_getElem _⟩
      obtain ⟨g, o, rfl, hg, hcc⟩ := hC.out (by intro e; rw [e] at hx; cases hx)
      obtain ⟨c0, c1, c2⟩ := hcc k r hx
      replace c0 := (q0.cell (p := ⟨g, o + k * 3, none⟩) hg).trans c0
      replace c1 := (q0.cell (p := ⟨g, o + k * 3 + 1, none⟩) hg).trans c1
      replace c2 := (q0.cell (p := ⟨g, o + k * 3 + 2, none⟩) hg).trans c2
      have hlt' : (k : Int) < (n : Int) := by omega
      have hkl := HK.out k l hl
      obtain ⟨y, hy⟩ : ∃ y, l[c]? = some y := ⟨l[c], List.getElem?_eq_getElem hkl⟩
      have hys : y.s.length ≤ 20 := HSH.out k l hl y (List.mem_of_getElem? hy)
      have HS2 : Hid (entL c b (rows.take (k + 1)) (LL.take (k + 1)) = es ++ (if r.k < b then [⟨keyT y, r.k⟩] else [])) := by
        have e1 : rows.take (k + 1) = rows.take k ++ [r] := by rw [List.take_add_one, hx]; rfl
        have e2 : LL.take (k + 1) = LL.take k ++ [l] := by rw [List.take_add_one, hl]; rfl
        rw [Hid, e1, e2, entL_snoc _ _ _ _ _ _ (by rw [List.length_take, List.length_take, hRN.out, HLN.out]), ← HE.out]
        rw [show l.getD c vl0 = y by rw [List.getD, hy]; rfl]
      obtain ⟨gu, un, ucap, z, hue, hun, hgu, huc, hOz⟩ := vv_cells HU.out hl
      cases hue
      clear hun
      obtain ⟨gz, zn, zc, hze, hzn, hgz, z0, z1, z2⟩ := own_cells hOz hy
      subst hze
      replace huc := (q0.cell (p := ⟨gu, k, none⟩) hgu).trans huc
      replace z0 := (q0.cell (p := ⟨gz, c * 3, none⟩) hgz).trans z0
      replace z1 := (q0.cell (p := ⟨gz, c * 3 + 1, none⟩) hgz).trans z1
      replace z2 := (q0.cell (p := ⟨gz, c * 3 + 2, none⟩) hgz).trans z2
      have hkz : c < zn := by omega
      have hcz : (c : Int) < (zn : Int) := by omega
      clear hzn
      have hg' : g < wr.heap.size := by have := q0.size; omega
      have hgu' : gu < wr.heap.size := by have := q0.size; omega
      have hgz' : gz < wr.heap.size := by have := q0.size; omega
      have p1 : Below (w.heap.size + 2) W0 (wr.alloc (.cells #[.int .i64 r.k, .int .i64 r.n, .string ⟨r.s.toArray⟩] 39)) := hnx.alloc (by omega) _
      have HO1 : Hid ((wr.alloc (.cells #[.int .i64 r.k, .int .i64 r.n, .string ⟨r.s.toArray⟩] 39)).ownsRow (w.heap.size + 2) 111 2 (.slice xa m xc) es.length (es.flatMap clC)) := hide (owns_keep HO.out ((Below.refl _ _).alloc (Nat.le_refl _) _))
      clear hC hcc hx hl hy HO hOz hkl
      by_cases hb : r.k < b
      · have HS3 : Hid (es ++ [⟨keyT y, r.k⟩] = entL c b (rows.take (k + 1)) (LL.take (k + 1))) := by rw [Hid, HS2.out, if_pos hb]
        have hkey : ∀ W : World, Below w.heap.size w W → Calls Tryz.prog 142 #[.agg #[.int .i64 y.k, .int .i64 y.n, .string ⟨y.s.toArray⟩]] W fun e w' => e = .returned (.tuple #[.string ⟨(keyT y).toArray⟩, .int .i64 (chkV y.k y.n y.s : Nat)]) ∧ Below W.heap.size W w' := by
          intro W hW
          exact key_any y.k y.n ⟨y.s.toArray⟩ W (by simp [ByteArray.size]; omega) (HL.out.below hW)
        generalize keyT y = KT at hkey HS3
        generalize chkV y.k y.n y.s = KE at hkey
        have q1 : Below w.heap.size w (wr.alloc (.cells #[.int .i64 r.k, .int .i64 r.n, .string ⟨r.s.toArray⟩] 39)) := q0.alloc q0.size _
        have ba : Below wr.heap.size wr (wr.alloc (.cells #[.int .i64 r.k, .int .i64 r.n, .string ⟨r.s.toArray⟩] 39)) := (Below.refl _ _).alloc (Nat.le_refl _) _
        have e0 := (ba.cell (p := ⟨gu, k, none⟩) hgu').trans huc
        have e1 := (ba.cell (p := ⟨gz, c * 3, none⟩) hgz').trans z0
        have e2 := (ba.cell (p := ⟨gz, c * 3 + 1, none⟩) hgz').trans z1
        have e3 := (ba.cell (p := ⟨gz, c * 3 + 2, none⟩) hgz').trans z2
        have e4 := (ba.cell (p := ⟨w.heap.size + 1, 1, none⟩) sl).trans d0
        obtain ⟨sb, hsb⟩ : ∃ s, wr.heap.size = s := ⟨_, rfl⟩
        have zb : (wr.alloc (.cells #[.int .i64 r.k, .int .i64 r.n, .string ⟨r.s.toArray⟩] 39)).heap.size = sb + 1 := by rw [← hsb]; simp
        have R0 : Hid (∀ W : World, Below (sb + 1) (wr.alloc (.cells #[.int .i64 r.k, .int .i64 r.n, .string ⟨r.s.toArray⟩] 39)) W → W.cell? ⟨sb, 0, none⟩ = some (.int .i64 r.k)) := by
          rw [← hsb]
          exact fun W hW => (hW.cell (p := ⟨wr.heap.size, 0, none⟩) (by simp)).trans (by simp)
        have HSB := hide hsb
        clear hsb hg' z0 z1 z2 huc ba
        go_wp2_with fail
        try rw [HSB.out]
        generalize (wr.alloc (.cells #[.int .i64 r.k, .int .i64 r.n, .string ⟨r.s.toArray⟩] 39)) = wa at *
        have hDr := q1.drew
        clear c0 c1 c2 d0 d1 d2 sl sl2 hgu hgz hg hd0 hd1 hd2 q0 hnx
        go_region_law (go_simp; refine (hkey _ (by first | exact q1 | exact hDr)).mono ?_; rintro e w7 ⟨rfl, b7⟩; have B2 : Hid (Below wa.heap.size wa w7) := hide (by first | exact b7 | exact ((Below.refl wa.heap.size wa).drew.trans (b7.mono (by simp)))); clear b7; dsimp only)
        all_goals
          have q7 : Below w.heap.size w w7 := q1.trans (B2.out.mono q1.size)
          have s7 := q1.size
          have p7 : Below (w.heap.size + 2) W0 w7 := p1.trans (B2.out.mono (by have := p1.size; omega))
          have r0 := R0.out w7 (B2.out.mono (by omega))
          have HO3 : (w7.alloc (.cells #[.string ⟨KT.toArray⟩, .int .i64 r.k] 111)).ownsRow (w.heap.size + 2) 111 2 (.slice xa m xc) es.length (es.flatMap clC) := owns_keep (owns_keep HO1.out B2.out) ((Below.refl _ _).alloc (Nat.le_refl _) _)
          have hz7 : (w7.alloc (.cells #[.string ⟨KT.toArray⟩, .int .i64 r.k] 111)).heap.size = w7.heap.size + 1 := by simp
          have hne : ∀ j u, [Value.string ⟨KT.toArray⟩, .int .i64 r.k][j]? = some u → (w7.alloc (.cells #[.string ⟨KT.toArray⟩, .int .i64 r.k] 111)).cell? ((⟨w7.heap.size, 0, none⟩ : Addr).add j) = some u := by
            intro j u hj
            match j, hj with
            | 0, hj => simp at hj; subst hj; simp [Addr.add]
            | 1, hj => simp at hj; subst hj; simp [Addr.add]
            | j + 2, hj => simp at hj
          have hone : ∀ u ∈ [Value.string ⟨KT.toArray⟩, .int .i64 r.k], u.oneCell' = true := by
            intro u hu
            simp at hu
            rcases hu with rfl | rfl <;> rfl
          have p8 : Below (w.heap.size + 2) W0 (w7.alloc (.cells #[.string ⟨KT.toArray⟩, .int .i64 r.k] 111)) := p7.alloc (by have := p7.size; omega) _
          have s8 := p8.size
          clear e0 e1 e2 e3 e4 B2 q1 hDr HO1 hkey hm
          go_wp2_with (at_builtin; go_loud (refine append_any rfl _ _ 71 rfl (w.heap.size + 2) 111 i3 (.agg #[.string ⟨#[]⟩, .int .i64 0]) 2 24 Tryz.underlying71 ki kz0 kz1 kz2 rfl (by decide) _ es.length (es.flatMap clC) rfl HO3 (some ⟨w7.heap.size, 0, none⟩) 1 1 [.string ⟨KT.toArray⟩, .int .i64 r.k] rfl (by intro e; cases e) rfl (by intro ad had; cases had; exact hne) hone ?c3 ?c4 ?c5 ?_))
          case c3 => have := HM.out; unfold maxLen; omega
          case c4 => have := HM.out; omega
          case c5 => omega
          intro v9 w9 hown hgrow
          have p9 : Below (w.heap.size + 2) W0 w9 := p8.grown hgrow (by omega) (fun j hj => (HO3.lt j hj).1)
          have HO9 : Hid (w9.ownsRow (w.heap.size + 2) 111 2 v9 (es ++ [(⟨KT, r.k⟩ : Cl)]).length ((es ++ [(⟨KT, r.k⟩ : Cl)]).flatMap clC)) := by
            rw [Hid, List.length_append, List.flatMap_append]
            exact hown
          clear hown hgrow HO3 hne hone p8 p7 q7 r0
          go_wp2
          go_roundw
          case rel => exact ⟨k + 1, es ++ [(⟨KT, r.k⟩ : Cl)], by omega, by go_num, HO9, p9, HS3⟩
          case measure => simp [intOf]; omega
      · have HS3 : Hid (es = entL c b (rows.take (k + 1)) (LL.take (k + 1))) := by rw [Hid, HS2.out, if_neg hb, List.append_nil]
        go_wp2
        go_roundw
        case rel => exact ⟨k + 1, es, by omega, by go_num, HO1, p1, HS3⟩
        case measure => simp [intOf]; omega
    · have hkn : k = n := by omega
      have HF : Hid (es = entL c b rows LL) := by
        have h1 : rows.take k = rows := List.take_of_length_le (by rw [hRN.out]; omega)
        have h2 : LL.take k = LL := List.take_of_length_le (by rw [HLN.out]; omega)
        rw [Hid, HE.out, h1, h2]
      have hso := sort_any es (w.heap.size + 2) (.slice xa m xc) wr HO.out (by rw [hm]; exact hmk)
      clear hm
      go_wp2_with fail
      refine hso.mono ?_
      rintro e w1 ⟨rfl, o1, g1⟩
      have q1 : Below w.heap.size w w1 := q0.grown g1 q0.size (fun j hj => by have := HO.out.lt j hj; omega)
      have O1 : Hid (w1.ownsRow w.heap.size 111 2 (.slice xa m xc) (entL c b rows LL).length ((sortE (entL c b rows LL)).flatMap clC)) := by
        rw [Hid, ← HF.out]; exact own_lower o1 (by omega)
      clear o1 g1 hso
      go_wp2
      exact HP.out _ _ O1.out q1
def hasIx (L : List Ix) (nm : List UInt8) : Bool := L.any fun y => decide (y.name = nm)
theorem hasIx_at {L : List Ix} {nm : List UInt8} {i : Nat} {y : Ix} (h : L[i]? = some y) (e : y.name = nm) : hasIx L nm = true := by
  unfold hasIx
  rw [List.any_eq_true]
  exact ⟨y, List.mem_of_getElem? h, decide_eq_true e⟩
theorem hasIx_none {L : List Ix} {nm : List UInt8} (h : ∀ (j : Nat) y, L[j]? = some y → y.name ≠ nm) : hasIx L nm = false := by
  unfold hasIx
  rw [List.any_eq_false]
  intro y hy
  obtain ⟨j, hj, rfl⟩ := List.getElem_of_mem hy
  simpa using h j _ (List.getElem?_eq_getElem hj)
theorem IsAt.take {w : World} {ao : Option Addr} {n cap : Nat} {L : List Ix} (h : IsAt w (.slice ao n cap) L) (k : Nat) (hk : k ≤ L.length) : IsAt w (.slice ao k cap) (L.take k) := by
  obtain ⟨ao', cap', e, hl, hs, hn, hc⟩ := h
  cases e
  refine ⟨ao, cap, by rw [List.length_take, Nat.min_eq_left hk], by rw [List.length_take, Nat.min_eq_left hk]; omega, by rw [List.length_take, Nat.min_eq_left hk]; omega, fun x hx => hn x (List.mem_of_mem_take hx), fun hne => ?_⟩
  have hL : L ≠ [] := by intro e; subst e; simp at hne
  obtain ⟨g, o, e, hg, hcc⟩ := hc hL
  refine ⟨g, o, e, hg, fun i x hi => hcc i x ?_⟩
  rw [List.getElem?_take] at hi
  split at hi
  · exact hi
  · cases hi
theorem isIx_any (c : Ix) (ev : Value) (nm : List UInt8) (W : World) (p : Nat) (hp : W.cell? ⟨p, 0, none⟩ = some (.string ⟨nm.toArray⟩)) (lp : p < W.heap.size) :
    Calls Tryz.prog 141 #[.agg #[.string ⟨c.name.toArray⟩, .int .i64 c.a, .int .i64 c.b, ev], .pointer (some ⟨p, 0, none⟩)] W fun e W' => e = .returned (.bool (decide (c.name = nm))) ∧ Below W.heap.size W W' := by
  have b0 := (Below.refl W.heap.size W).alloc (Nat.le_refl _) (.cells #[.string ⟨c.name.toArray⟩, .int .i64 c.a, .int .i64 c.b, ev] 73)
  have a1 := (b0.cell (p := ⟨p, 0, none⟩) lp).trans hp
  go_enter Tryz.func141, Tryz.ntmps141
  go_wp2
  go_ret
  refine ⟨ret_bool ?_, b0⟩
  rw [Bool.eq_iff_iff]; simp
theorem xix_any (L : List Ix) (u : Value) (nm : List UInt8) (w : World) (h : IsAt w u L) (p : Nat) (hp : w.cell? ⟨p, 0, none⟩ = some (.string ⟨nm.toArray⟩)) (lp : p < w.heap.size) :
    Calls Tryz.prog 140 #[u, .func (.func 141) #[] #[.pointer (some ⟨p, 0, none⟩)]] w fun e w' => ∃ k : Int, e = .returned (.int .i64 k) ∧ (decide (k ≥ 0)) = hasIx L nm ∧ Below w.heap.size w w' := by
  obtain ⟨ao, cap, rfl, -, h1, -, h3⟩ := h
  obtain ⟨n, hn⟩ : ∃ n, L.length = n := ⟨_, rfl⟩
  have HN := hide hn
  rw [hn] at h1 ⊢
  have HP := hide hp
  clear hp hn
  go_enter Tryz.func140, Tryz.ntmps140
  go_wp2
  go_loopw [8] (fun i wl => ∃ k : Nat, k ≤ n ∧ i = .int .i64 k ∧ Below w.heap.size w wl ∧ Hid (∀ j x, j < k → L[j]? = some x → x.name ≠ nm)) (fun i _ => n - (intOf i).toNat)
  case atStart => exact ⟨0, Nat.zero_le _, rfl, Below.refl _ _, fun j _ hj => absurd hj (Nat.not_lt_zero _)⟩
  case round =>
    obtain ⟨k, hk, rfl, hnx, HA⟩ := hrel
    by_cases hlt : k < n
    · obtain ⟨x, hx⟩ : ∃ x, L[k]? = some x := ⟨L[k]'(by rw [HN.out]; exact hlt), List.getElem?_eq_getElem _⟩
      obtain ⟨g, o, rfl, hg, hc⟩ := h3 (by intro e; rw [e] at hx; cases hx)
      obtain ⟨ev, a0, a1, a2, a3, -, -⟩ := hc k x hx
      have c0 := (hnx.cell (p := ⟨g, o + k * 4, none⟩) hg).trans a0
      have c1 := (hnx.cell (p := ⟨g, o + k * 4 + 1, none⟩) hg).trans a1
      have c2 := (hnx.cell (p := ⟨g, o + k * 4 + 2, none⟩) hg).trans a2
      have c3 := (hnx.cell (p := ⟨g, o + k * 4 + 3, none⟩) hg).trans a3
      have hlt' : (k : Int) < (n : Int) := by omega
      have hsz := hnx.size
      have hf := isIx_any x ev nm wr p ((hnx.cell (p := ⟨p, 0, none⟩) lp).trans HP.out) (Nat.lt_of_lt_of_le lp hsz)
      have HX : Hid (L[k]? = some x) := hx
      clear hc h3 a0 a1 a2 a3 hx
      by_cases hB : x.name = nm
      · have HB := hide hB
        rw [decide_eq_true hB] at hf
        clear hB
        go_wp2_with (go_at_call 141; refine hf.mono ?_; rintro e w2 ⟨rfl, b2⟩)
        go_ret
        exact ⟨k, rfl, by rw [hasIx_at HX.out HB.out]; exact decide_eq_true (by omega), hnx.trans (b2.mono hsz)⟩
      · have HB := hide hB
        rw [decide_eq_false hB] at hf
        clear hB
        go_wp2_with (go_at_call 141; refine hf.mono ?_; rintro e w2 ⟨rfl, b2⟩)
        go_roundw
        case rel =>
          refine ⟨k + 1, by omega, by go_num, hnx.trans (b2.mono hsz), fun j y hj hy => ?_⟩
          rcases Nat.lt_or_ge j k with h | h
          · exact HA.out j y h hy
          · rw [show j = k by omega, HX.out] at hy; cases hy; exact HB.out
        case measure => simp [intOf]; omega
    · clear h3
      go_wp2
      go_ret
      refine ⟨-1, rfl, ?_, hnx⟩
      rw [hasIx_none (L := L) (nm := nm) (fun j y hy => HA.out j y (by have := (List.getElem?_eq_some_iff.1 hy).1; have := HN.out; omega) hy)]
      rfl
theorem hasIx_any (L : List Ix) (u : Value) (nm : List UInt8) (w : World) (h : IsAt w u L) :
    Calls Tryz.prog 90 #[u, .string ⟨nm.toArray⟩] w fun e w' => ∃ k : Int, e = .returned (.int .i64 k) ∧ decide (k ≥ 0) = hasIx L nm ∧ Below w.heap.size w w' := by
  have b0 := (Below.refl w.heap.size w).alloc (Nat.le_refl _) (.cells #[.string ⟨nm.toArray⟩] 9)
  have hx := xix_any L u nm (w.alloc (.cells #[.string ⟨nm.toArray⟩] 9)) (h.below b0) w.heap.size (by simp) (by simp)
  generalize hasIx L nm = B at hx ⊢
  have HB := hide b0
  clear b0 h
  go_enter Tryz.func90, Tryz.ntmps90
  go_wp2_with fail
  refine hx.mono ?_
  rintro e w1 ⟨k, rfl, hk, b1⟩
  have HK := hide hk
  clear hk
  have q1 := HB.out.trans (b1.mono HB.out.size)
  go_wp2
  go_ret
  exact ⟨k, rfl, HK.out, q1⟩
theorem isColumn_any (c : Int) (ca : Option Addr) (n cc : Nat) (nm : List UInt8) (du ru iu : Value) (nx : Int) (w : World) :
    Calls Tryz.prog 91 #[tbV nm (.slice ca n cc) du ru nx iu, .int .i64 c] w fun e w' => e = .returned (.bool (decide (0 ≤ c) && decide (c < (n : Int)))) ∧ Below w.heap.size w w' := by
  have b0 := (Below.refl w.heap.size w).alloc (Nat.le_refl _) (.cells #[.string ⟨nm.toArray⟩, .slice ca n cc, du, ru, .int .i64 nx, iu] 27)
  unfold tbV
  by_cases h0 : 0 ≤ c
  · by_cases h1 : c < (n : Int)
    · rw [decide_eq_true h0, decide_eq_true h1]
      have h0' : c ≥ 0 := h0
      go_enter Tryz.func91, Tryz.ntmps91
      go_wp2
      go_ret
      exact ⟨rfl, b0⟩
    · rw [decide_eq_true h0, decide_eq_false h1]
      have h0' : c ≥ 0 := h0
      go_enter Tryz.func91, Tryz.ntmps91
      go_wp2
      go_ret
      exact ⟨rfl, b0⟩
  · rw [decide_eq_false h0]
    have h0' : ¬ c ≥ 0 := h0
    go_enter Tryz.func91, Tryz.ntmps91
    go_wp2
    go_ret
    exact ⟨rfl, b0⟩
end Go.Proofs.YtcnnjladaoaeiaaGreatDoor
