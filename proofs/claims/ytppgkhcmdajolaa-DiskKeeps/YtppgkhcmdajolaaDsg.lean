/-
  Disks: what was written and one more: slices.Concat of two.
-/
import Derived.Test.YtppgkhcmdajolaaDsf
import Derived.Lib.AppendZerosOnto
import Derived.Lib.SliceRun
import Derived.Lib.Walk
import Derived.Laws.AppendOwnNone
namespace Go.Proofs.Ytppgkhcmdajolaa
open Go.RowKit

theorem Try.info_wr : (Try.prog.info? 56).map (fun i => (i.zero, i.size, i.bytes)) = some (some (.agg #[.int .i64 0, .string ⟨#[]⟩]), 2, 24) := by kernel_rfl

theorem wrC_len : ∀ L : List Wr, (L.flatMap wrC).length = L.length * 2
  | [] => rfl
  | y :: r => by rw [List.flatMap_cons, List.length_append, wrC_len r, List.length_cons]; simp [wrC]; omega

set_option maxRecDepth 100000 in
set_option maxHeartbeats 1600000 in
theorem grow_any (n : Nat) (w : World) (h1 : 1 ≤ n) (h2 : n ≤ 1000) :
    Calls Try.prog 49 #[.slice none 0 0, .int .i64 n] w fun e w' => ∃ v, e = .returned v ∧ w'.ownsRow w.heap.size 56 2 v 0 [] ∧ v ≠ .slice none 0 0 ∧ Below w.heap.size w w' := by
  obtain ⟨i0, hi, hz0, hz1, hz2⟩ := info_parts Try.info_wr
  have hold : (Builtin.firstCells i0.size 0 (.slice none 0 0)).run Try.prog w.drew = .ok (([] : List Value).toArray) w.drew := run_firstCells_none w.drew i0.size 0 0 0
  have hG := grownCap_ge w n 0 56
  have hGm := grownCap_le_maxLen w n 0 56 (by unfold maxLen; omega)
  have hrz : ∀ ty, (Builtin.append_ #[23, 3] ty #[.slice none 0 0, .int .i64 n]).run Try.prog w = .ok (.slice (some ⟨w.heap.size, 0, none⟩) n (grownCap w n 0 56)) (w.drew.alloc (.cells ((([] : List Value).toArray) ++ Builtin.zeroCells (Value.agg #[.int .i64 0, .string ⟨#[]⟩]).cells n ++ Builtin.zeroCells (Value.agg #[.int .i64 0, .string ⟨#[]⟩]).cells (grownCap w n 0 56 - n)) 56)) := fun ty => by
    have h := Lib.run_append_grow_zeros (P := Try.prog) w 23 3 ty 56 i0 _ .i64 .i64 Try.underlying23 Try.underlying3 hi hz0 none 0 0 [] hold n (by omega) (by rw [hz1]; decide) (by omega) (by omega) (by rw [hz2]; omega) (by rw [hz2]; exact growslice_fits (by omega) (by omega))
    simpa using h
  have b0 := (Below.refl w.heap.size w).drew.alloc (Nat.le_refl _) (.cells ((([] : List Value).toArray) ++ Builtin.zeroCells (Value.agg #[.int .i64 0, .string ⟨#[]⟩]).cells n ++ Builtin.zeroCells (Value.agg #[.int .i64 0, .string ⟨#[]⟩]).cells (grownCap w n 0 56 - n)) 56)
  have hn := heap_alloc_new w.drew (.cells ((([] : List Value).toArray) ++ Builtin.zeroCells (Value.agg #[.int .i64 0, .string ⟨#[]⟩]).cells n ++ Builtin.zeroCells (Value.agg #[.int .i64 0, .string ⟨#[]⟩]).cells (grownCap w n 0 56 - n)) 56)
  have hsz : ((([] : List Value).toArray) ++ Builtin.zeroCells (Value.agg #[.int .i64 0, .string ⟨#[]⟩]).cells n ++ Builtin.zeroCells (Value.agg #[.int .i64 0, .string ⟨#[]⟩]).cells (grownCap w n 0 56 - n)).size = grownCap w n 0 56 * 2 := by
    simp only [Array.size_append, size_zeroCells]
    show 0 + n * 2 + (grownCap w n 0 56 - n) * 2 = grownCap w n 0 56 * 2
    omega
  generalize ((([] : List Value).toArray) ++ Builtin.zeroCells (Value.agg #[.int .i64 0, .string ⟨#[]⟩]).cells n ++ Builtin.zeroCells (Value.agg #[.int .i64 0, .string ⟨#[]⟩]).cells (grownCap w n 0 56 - n)) = cs at *
  generalize grownCap w n 0 56 = G at *
  have hGm' : G ≤ 9223372036854775807 := by unfold maxLen at hGm; exact hGm
  clear hold hi hz0 hz1 hz2
  go_enter Try.func49, Try.ntmps49
  go_wp2_with (at_builtin; refine Lib.wpList_append_run _ rfl _ _ _ _ rfl _ _ rfl rfl _ _ (hrz _) ?_)
  all_goals
    go_ret
    exact ⟨_, rfl, ⟨rfl, .inr ⟨w.heap.size, G, cs, rfl, Nat.le_refl _, hn, Nat.zero_le _, hGm, hsz, by simp⟩⟩, by simp, b0⟩

def CcRel (w : World) (L : List Wr) (x : Wr) (m : Nat) (i z : Value) (wl : World) : Prop := ∃ (k : Nat) (zs : Value), k ≤ 2 ∧ Hid (i = .int .i64 k) ∧ Hid (zs = z) ∧ Below w.heap.size w wl ∧ Hid (zs ≠ .slice none 0 0) ∧ Hid (wl.ownsRow w.heap.size 56 2 zs (if k = 0 then 0 else if k = 1 then m else m + 1) (if k = 0 then [] else if k = 1 then L.flatMap wrC else (L ++ [x]).flatMap wrC))

set_option maxRecDepth 100000 in
set_option maxHeartbeats 6400000 in
theorem concat_any (L : List Wr) (x : Wr) (wa : Option Addr) (m wc s t : Nat) (w : World) (h : WrAt w (.slice wa m wc) L) (hm : m ≤ 400)
    (hs0 : w.cell? ⟨s, 0, none⟩ = some (.slice wa m wc)) (hs1 : w.cell? ⟨s, 1, none⟩ = some (.slice (some ⟨t, 0, none⟩) 1 1)) (ht0 : w.cell? ⟨t, 0, none⟩ = some (.int .i64 x.n)) (ht1 : w.cell? ⟨t, 1, none⟩ = some (.string x.s))
    (hs : s < w.heap.size) (ht : t < w.heap.size) :
    Calls Try.prog 30 #[.slice (some ⟨s, 0, none⟩) 2 2] w fun e w' => ∃ v, e = .returned v ∧ w'.ownsRow w.heap.size 56 2 v (L.length + 1) ((L ++ [x]).flatMap wrC) ∧ Below w.heap.size w w' := by
  obtain ⟨i0, hi, hz0, hz1, hz2⟩ := info_parts Try.info_wr
  obtain ⟨a', c', e, hwl, hnil, hwc⟩ := h
  cases e
  obtain ⟨m, hm'⟩ : ∃ m, L.length = m := ⟨_, rfl⟩
  have HM := hide hm'
  rw [hm'] at hm hs0 hwl hnil ⊢
  clear hm'
  have HW := hide hwc
  have hg := fun (W : World) => grow_any (m + 1) W (by omega) (by omega)
  clear hwc
  go_enter Try.func30, Try.ntmps30
  go_wp2_with fail
  go_loopw [11, 3] (fun i z wl => ∃ k : Nat, k ≤ 2 ∧ i = .int .i64 k ∧ wl = w ∧ z = .int .i64 (if k = 0 then 0 else if k = 1 then (m : Int) else (m : Int) + 1)) (fun i _ _ => 2 - (intOf i).toNat)
  case atStart => exact ⟨0, by decide, rfl, rfl, rfl⟩
  case round =>
    obtain ⟨k, hk, rfl, hw, rfl⟩ := hrel
    have hw := hw.symm
    subst hw
    rcases Nat.lt_or_ge k 1 with h | h
    · obtain rfl : k = 0 := by omega
      go_wp2
      go_roundw
      case rel => exact ⟨1, by decide, by go_num, by first | trivial | rfl, by first | trivial | go_num⟩
      case measure => simp [intOf]
    rcases Nat.lt_or_ge k 2 with h | h
    · obtain rfl : k = 1 := by omega
      go_wp2
      go_roundw
      case rel => exact ⟨2, by decide, by go_num, by first | trivial | rfl, by first | trivial | go_num⟩
      case measure => simp [intOf]
    · obtain rfl : k = 2 := by omega
      simp only [if_neg (show ¬ (2 : Nat) = 0 by decide), if_neg (show ¬ (2 : Nat) = 1 by decide)]
      have hg' := hg w
      rw [show ((m + 1 : Nat) : Int) = (m : Int) + 1 by omega] at hg'
      go_wp2_with fail
      refine hg'.mono ?_
      rintro e w1 ⟨v, rfl, o1, hv, b1⟩
      have O1 := hide o1
      have HV := hide hv
      clear o1 hv hg hg'
      go_wp2_with fail
      go_loopw [27, 6] (fun i z wl => CcRel w L x m i z wl) (fun i _ _ => 2 - (intOf i).toNat)
      case atStart => exact ⟨0, v, by decide, hide rfl, hide rfl, b1, HV, O1⟩
      case round =>
        obtain ⟨k, zs, hk, hi0, hz9, hb, HV, HZ⟩ := hrel
        obtain rfl := hi0.out
        obtain rfl := hz9.out
        clear hi0 hz9
        have z0 := hb.size
        rcases Nat.lt_or_ge k 1 with h | h
        · obtain rfl : k = 0 := by omega
          obtain ⟨az, cz, rfl⟩ : ∃ a c, zs = .slice a 0 c := owns_slice HZ.out
          have HZ1 : Hid (wr.ownsRow w.heap.size 56 2 (.slice az 0 cz) 0 []) := HZ
          have c0 := (hb.cell (p := ⟨s, 0, none⟩) hs).trans hs0
          clear HZ
          by_cases hL : wa = none
          · obtain ⟨rfl, rfl⟩ := hnil hL
            subst hL
            have HL0 : Hid (L = []) := List.eq_nil_of_length_eq_zero HM.out
            go_wp2_with (at_builtin; go_loud (refine wpList_append_own_none rfl _ _ 23 rfl w.heap.size 56 i0 2 Try.underlying23 hi (.slice az 0 cz) 0 [] (by rfl) HZ1.out (by rfl) ?_))
            go_wp2
            go_roundw
            case rel => first | exact ⟨1, .slice az 0 cz, by decide, hide (by go_num), hide rfl, hb, HV, hide (by rw [HL0.out]; exact HL0.out ▸ HZ1.out)⟩ | exact ⟨_, _, _, ⟨1, .slice az 0 cz, by decide, hide rfl, hide rfl, hb, HV, hide (by rw [HL0.out]; exact HZ1.out)⟩, ⟨rfl, rfl, rfl⟩⟩
            case measure => simp [intOf]
          · obtain ⟨ad, rfl⟩ := Option.ne_none_iff_exists'.1 hL
            have hcs : Hid (∀ j u, (L.flatMap wrC)[j]? = some u → wr.cell? (ad.add j) = some u) := by
              intro j u hj
              by_cases hL : L = []
              · subst hL; simp at hj
              obtain ⟨g, o, e, hg, hcc⟩ := HW.out hL
              cases e
              have hjl := (List.getElem?_eq_some_iff.1 hj).1
              have hlen := wrC_len L
              obtain ⟨y, hy⟩ : ∃ y, L[j / 2]? = some y := ⟨L[j / 2]'(by omega), List.getElem?_eq_getElem _⟩
              have hf := flat_get wrC 2 (fun _ => rfl) L (j / 2) y hy (j % 2) (by omega)
              rw [show j / 2 * 2 + j % 2 = j by omega, hj] at hf
              obtain ⟨a0, a1⟩ := hcc (j / 2) y hy
              rw [Go.WideShapes.add_plain]
              rcases Nat.mod_two_eq_zero_or_one j with h | h
              · rw [h] at hf
                rw [show o + j = o + j / 2 * 2 by omega, hf]
                exact (hb.cell (p := ⟨g, o + j / 2 * 2, none⟩) hg).trans a0
              · rw [h] at hf
                rw [show o + j = o + j / 2 * 2 + 1 by omega, hf]
                exact (hb.cell (p := ⟨g, o + j / 2 * 2 + 1, none⟩) hg).trans a1
            have hlen : (L.flatMap wrC).length = m * 2 := by rw [wrC_len, HM.out]
            have h1c : ∀ u ∈ L.flatMap wrC, u.oneCell' = true := by
              intro u hu
              obtain ⟨y, -, hy⟩ := List.mem_flatMap.1 hu
              simp only [wrC, List.mem_cons, List.not_mem_nil, or_false] at hy
              rcases hy with rfl | rfl <;> rfl
            go_wp2_with (at_builtin; go_loud (refine wpList_append_own _ rfl _ _ 23 rfl w.heap.size 56 i0 (.agg #[.int .i64 0, .string ⟨#[]⟩]) 2 24 Try.underlying23 hi hz0 hz1 hz2 rfl (by decide) (.slice az 0 cz) 0 [] (by rfl) HZ1.out ad m wc (L.flatMap wrC) (by rfl) hlen hcs.out h1c ?c3 ?c4 ?c5 ?_))
            case c3 => unfold maxLen; omega
            case c4 => omega
            case c5 => exact z0
            intro v' w' hown hgrow hnn
            have HO := hide hown
            have HN : Hid (v' ≠ .slice none 0 0) := fun e => by first | exact HV.out (hnn.1 e).1 | exact hnn e | (obtain ⟨⟨h1, h2⟩, _⟩ := hnn.1 e; exact HV.out (by rw [h1, h2]))
            have hb' := hb.grown hgrow z0 (fun j hj => (HZ1.out.lt j hj).1)
            clear hcs hown hnn hgrow
            go_wp2
            go_roundw
            case rel => exact ⟨1, v', by decide, hide (by go_num), hide rfl, hb', HN, hide (by have := HO.out; simpa using this)⟩
            case measure => simp [intOf]
        rcases Nat.lt_or_ge k 2 with h | h
        · obtain rfl : k = 1 := by omega
          obtain ⟨az, cz, rfl⟩ : ∃ a c, zs = .slice a m c := owns_slice HZ.out
          have HZ1 : Hid (wr.ownsRow w.heap.size 56 2 (.slice az m cz) m (L.flatMap wrC)) := HZ
          have c0 := (hb.cell (p := ⟨s, 1, none⟩) hs).trans hs1
          have d0 := (hb.cell (p := ⟨t, 0, none⟩) ht).trans ht0
          have d1 := (hb.cell (p := ⟨t, 1, none⟩) ht).trans ht1
          have hcs : Hid (∀ j u, (wrC x)[j]? = some u → wr.cell? ((⟨t, 0, none⟩ : Addr).add j) = some u) := by
            intro j u hj
            rw [Go.WideShapes.add_plain]
            match j, hj with
            | 0, hj => cases hj; exact d0
            | 1, hj => cases hj; exact d1
          have h1c : ∀ u ∈ wrC x, u.oneCell' = true := by
            intro u hy
            simp only [wrC, List.mem_cons, List.not_mem_nil, or_false] at hy
            rcases hy with rfl | rfl <;> rfl
          clear HZ
          go_wp2_with (at_builtin; go_loud (refine wpList_append_own _ rfl _ _ 23 rfl w.heap.size 56 i0 (.agg #[.int .i64 0, .string ⟨#[]⟩]) 2 24 Try.underlying23 hi hz0 hz1 hz2 rfl (by decide) (.slice az m cz) m (L.flatMap wrC) (by rfl) HZ1.out ⟨t, 0, none⟩ 1 1 (wrC x) (by rfl) rfl hcs.out h1c ?c3 ?c4 ?c5 ?_))
          case c3 => unfold maxLen; omega
          case c4 => omega
          case c5 => exact z0
          intro v' w' hown hgrow hnn
          have HO := hide hown
          have HN : Hid (v' ≠ .slice none 0 0) := fun e => by first | exact HV.out (hnn.1 e).1 | exact hnn e | (obtain ⟨⟨h1, h2⟩, _⟩ := hnn.1 e; exact HV.out (by rw [h1, h2]))
          have hb' := hb.grown hgrow z0 (fun j hj => (HZ1.out.lt j hj).1)
          clear hcs hown hnn hgrow
          go_wp2
          go_roundw
          case rel => exact ⟨2, v', by decide, hide (by go_num), hide rfl, hb', HN, hide (by have := HO.out; simpa using this)⟩
          case measure => simp [intOf]
        · obtain rfl : k = 2 := by omega
          have HZ1 : Hid (wr.ownsRow w.heap.size 56 2 zs (m + 1) ((L ++ [x]).flatMap wrC)) := HZ
          clear HZ
          go_wp2
          go_ret
          exact ⟨_, rfl, HZ1.out, hb⟩

end Go.Proofs.Ytppgkhcmdajolaa
