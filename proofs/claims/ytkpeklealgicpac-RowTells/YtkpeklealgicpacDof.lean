/-
  'DecodeOf' of package overhaulref.
-/
import Derived.Test.YtkpeklealgicpacRef
namespace Go.Proofs.Ytkpeklealgicpac
open Go.RowKit

theorem dec_none (s : List UInt8) (h : valsOf s = none) : decE s = 1 ∧ decR s = [] := by
  have e : decP s = none := by rw [decP_vals, h]
  have e1 : decE s = 1 := by unfold decE; rw [e]
  exact ⟨e1, decR_none s (by rw [e1]; decide)⟩

theorem post_none (w w' : World) (s : List UInt8) (h : valsOf s = none) (hb : Below w.heap.size w w') : DecPost w s (.returned (.tuple #[.slice none 0 0, .int .i64 1])) w' := by
  obtain ⟨e1, e2⟩ := dec_none s h
  exact ⟨.slice none 0 0, by rw [e1]; rfl, by rw [e2]; exact World.ownsRow_nil _ _ _ _, hb, by rw [e2]; decide, by rw [e2]; intro x hx; cases hx⟩

theorem vals_bad (L : List UInt8) (m : Nat) (acc : List Vl) (L' : List UInt8) (h : valsOf L = (valsP (m + 1) L').map fun q => (acc ++ q.1, q.2)) (hv : valP L' = none) : valsOf L = none := by
  rw [h, valsP, hv]; rfl

theorem vals_good (L : List UInt8) (m : Nat) (acc : List Vl) (x : Vl) (L' L2 : List UInt8) (h : valsOf L = (valsP (m + 1) L').map fun q => (acc ++ q.1, q.2)) (hv : valP L' = some (x, L2)) :
    valsOf L = (valsP m L2).map fun q => ((acc ++ [x]) ++ q.1, q.2) := by
  have := vals_step L m acc x L' L2 false h (by simpa using hv)
  simpa using this

theorem size_set (w : World) (p : Addr) (x : Value) : (w.setCell p x).heap.size = w.heap.size := by simp [World.setCell]

theorem new_three (w : World) (x y z : Value) (b : Nat) (hb : b = w.heap.size) : ∀ j u, [x, y, z][j]? = some u → (w.alloc (.cells #[x, y, z] 36)).cell? ((⟨b, 0, none⟩ : Addr).add j) = some u := by
  subst hb
  intro j u hj
  match j, hj with
  | 0, hj => simp at hj; subst hj; simp [Addr.add]
  | 1, hj => simp at hj; subst hj; simp [Addr.add]
  | 2, hj => simp at hj; subst hj; simp [Addr.add]

theorem wrap_sum (f c j : Nat) (hj : j ≤ 3) (hc : c < 256) (hf : f < 256 ^ j) : wrap64 ((f : Int) + wrap64 ((c : Int) * 256 ^ j)) = ((f + c * 256 ^ j : Nat) : Int) := by
  have e : (c : Int) * 256 ^ j = ((c * 256 ^ j : Nat) : Int) := by simp
  have b1 : 256 ^ j ≤ 16777216 := by
    have := Nat.pow_le_pow_right (show 0 < 256 by decide) hj
    simpa using this
  have b2 : c * 256 ^ j ≤ 256 * 16777216 := Nat.mul_le_mul (by omega) b1
  rw [e]
  unfold wrap64
  omega
theorem wrap_pow (j : Nat) (hj : j ≤ 3) : wrap64 ((256 : Int) ^ j * 256) = ((256 ^ (j + 1) : Nat) : Int) := by
  obtain rfl | rfl | rfl | rfl : j = 0 ∨ j = 1 ∨ j = 2 ∨ j = 3 := by omega
  all_goals (unfold wrap64; simp)

theorem valF_2 (m : UInt8) (r : List UInt8) (h : r.length < m.toNat) : valP (2 :: m :: r) = none := by simp [valP, h]
theorem valT_2 (m : UInt8) (r : List UInt8) (h : m.toNat ≤ r.length) : valP (2 :: m :: r) = some (⟨2, 0, r.take m.toNat⟩, r.drop m.toNat) := by
  have : ¬ r.length < m.toNat := by omega
  simp [valP, this]
theorem valF_1 (r : List UInt8) (h : r.length < 4) : valP (1 :: r) = none := by simp [valP, h]
theorem valT_1 (r : List UInt8) (h : 4 ≤ r.length) : valP (1 :: r) = some (⟨1, (numL (r.take 4) : Nat) - 999999999, []⟩, r.drop 4) := by
  have : ¬ r.length < 4 := by omega
  simp [valP, this]
theorem valF_3 (r : List UInt8) (h : r.length < 1) : valP (3 :: r) = none := by
  cases r with
  | nil => simp [valP]
  | cons a b => simp at h
theorem valT_3 (r : List UInt8) (h : 1 ≤ r.length) : valP (3 :: r) = some (⟨3, (numL (r.take 1) : Nat), []⟩, r.drop 1) := by
  cases r with
  | nil => simp at h
  | cons a b => simp [valP, numL]

/-- what holds between two values that are read -/
def DofAt (w : World) (s : ByteArray) (c0 : Nat) (v : Value) (k a : Nat) (acc : List Vl) (wl : World) : Prop :=
  k ≤ c0 ∧ a ≤ s.size ∧ 1 ≤ a ∧ wl.ownsRow w.heap.size 36 3 v acc.length (acc.flatMap vlC) ∧ Below w.heap.size w wl ∧ acc.length ≤ k ∧ Hid (valsOf s.data.toList = (valsP (c0 - k) (s.data.toList.drop a)).map fun q => (acc ++ q.1, q.2)) ∧ Hid (∀ x ∈ acc, x.s.length ≤ 255)

/-- a value that is being read: its block, beside what was read -/
def DIn (w : World) (vb : Nat) (K N : Int) (S : List UInt8) (v : Value) (acc : List Vl) (wl : World) : Prop :=
  wl.heap[vb]? = some (.cells #[.int .i64 K, .int .i64 N, .string ⟨S.toArray⟩] 36) ∧ wl.ownsRow w.heap.size 36 3 v acc.length (acc.flatMap vlC) ∧ Below w.heap.size w wl ∧ w.heap.size ≤ vb ∧ v.ownBlock ≠ some vb

theorem DIn.start {w wr : World} {v : Value} {acc : List Vl} (hown : wr.ownsRow w.heap.size 36 3 v acc.length (acc.flatMap vlC)) (hnx : Below w.heap.size w wr) (K N : Int) (S : List UInt8) :
    DIn w wr.heap.size K N S v acc (wr.alloc (.cells #[.int .i64 K, .int .i64 N, .string ⟨S.toArray⟩] 36)) :=
  ⟨heap_alloc_new _ _, hown.alloc _, hnx.alloc hnx.size _, hnx.size, fun e => by have := (hown.lt _ e).2; omega⟩

theorem DIn.lt {w wl : World} {vb : Nat} {K N : Int} {S : List UInt8} {v : Value} {acc : List Vl} (h : DIn w vb K N S v acc wl) : vb < wl.heap.size := (Array.getElem?_eq_some_iff.1 h.1).1

theorem DIn.set {w wl : World} {vb : Nat} {K N : Int} {S : List UInt8} {v : Value} {acc : List Vl} (h : DIn w vb K N S v acc wl) (N' : Int) : DIn w vb K N' S v acc (wl.setCell ⟨vb, 1, none⟩ (.int .i64 N')) := by
  obtain ⟨h1, h2, h3, h4, h5⟩ := h
  refine ⟨heap_setCell_same wl vb 1 _ 36 _ h1, ?_, h3.setCell (p := ⟨vb, 1, none⟩) h4 _, h4, h5⟩
  exact h2.kept (grown_set wl vb 1 _) (by right; exact h5)
theorem DIn.setS {w wl : World} {vb : Nat} {K N : Int} {S : List UInt8} {v : Value} {acc : List Vl} (h : DIn w vb K N S v acc wl) (S' : List UInt8) : DIn w vb K N S' v acc (wl.setCell ⟨vb, 2, none⟩ (.string ⟨S'.toArray⟩)) := by
  obtain ⟨h1, h2, h3, h4, h5⟩ := h
  refine ⟨heap_setCell_same wl vb 2 _ 36 _ h1, ?_, h3.setCell (p := ⟨vb, 2, none⟩) h4 _, h4, h5⟩
  exact h2.kept (grown_set wl vb 2 _) (by right; exact h5)
theorem DIn.setX {w wl : World} {vb : Nat} {K N : Int} {S : List UInt8} {v : Value} {acc : List Vl} (h : DIn w vb K N S v acc wl) (X : ByteArray) : DIn w vb K N X.data.toList v acc (wl.setCell ⟨vb, 2, none⟩ (.string X)) := h.setS X.data.toList
theorem DIn.drew {w wl : World} {vb : Nat} {K N : Int} {S : List UInt8} {v : Value} {acc : List Vl} (h : DIn w vb K N S v acc wl) : DIn w vb K N S v acc wl.drew := by
  obtain ⟨h1, h2, h3, h4, h5⟩ := h
  exact ⟨h1, h2, h3.drew, h4, h5⟩

set_option maxRecDepth 100000 in
set_option maxHeartbeats 400000 in
theorem dof_empty (s : ByteArray) (w : World) (h0 : s.size = 0) : Calls Try.prog 9 #[.string s] w fun e w' => DecPost w s.data.toList e w' := by
  have e : s.data.toList = [] := List.eq_nil_of_length_eq_zero (by rw [Array.length_toList]; exact h0)
  have hq : s.toList.isEmpty = true := by rw [Lib.toList_data, e]; rfl
  have HP := hide (post_none w w s.data.toList (by rw [e]; rfl) (Below.refl _ _))
  clear e h0
  go_enter Try.func9, Try.ntmps9
  go_wp2
  go_ret2
  exact HP.out

set_option maxRecDepth 100000 in
set_option maxHeartbeats 3200000 in
theorem dof_some (s : ByteArray) (w : World) (h0 : 0 < s.size) (hs : s.size ≤ 140737488355328) : Calls Try.prog 9 #[.string s] w fun e w' => DecPost w s.data.toList e w' := by
  obtain ⟨i0, hi, hz0, hz1, hz2⟩ := info_parts Try.info_val
  have hq : s.toList.isEmpty = false := by
    rw [Lib.toList_data]
    cases e : s.data.toList with
    | nil => have : s.data.toList.length = s.size := Array.length_toList; rw [e] at this; simp at this; omega
    | cons => rfl
  have hd := drop_at s 0 h0
  rw [List.drop_zero] at hd
  have HV : Hid (valsOf s.data.toList = valsP s[0].toNat (s.data.toList.drop 1)) := by show _ = _; rw [hd]; rfl
  have hc255 := s[0].toNat_lt
  clear hd
  go_enter Try.func9, Try.ntmps9
  go_wp2_with fail
  go_loopw [4, 5, 6] (fun v ta ti wl => ∃ (k a : Nat) (acc : List Vl), ti = .int .i64 k ∧ ta = .int .i64 a ∧ DofAt w s s[0].toNat v k a acc wl) (fun _ _ i _ => s[0].toNat - (intOf i).toNat)
  case atStart => exact ⟨0, 1, [], rfl, rfl, by omega, by omega, by omega, World.ownsRow_nil _ _ _ _, Below.refl _ _, Nat.le_refl _, by show _ = _; rw [HV.out]; simp, fun x hx => by cases hx⟩
  case round =>
    obtain ⟨k, a, acc, rfl, rfl, hk, ha, ha1, hown, hnx, hacc, HE, HZ⟩ := hrel
    clear HV
    have hsz := hnx.size
    by_cases hlt : k < s[0].toNat
    · have hlt' : (k : Int) < (s[0].toNat : Int) := by omega
      obtain ⟨m, hm⟩ : ∃ m, s[0].toNat - k = m + 1 := ⟨s[0].toNat - k - 1, by omega⟩
      have hm2 : s[0].toNat - (k + 1) = m := by omega
      rw [Hid, hm] at HE
      replace HE : Hid (valsOf s.data.toList = (valsP (m + 1) (s.data.toList.drop a)).map fun q => (acc ++ q.1, q.2)) := HE
      have Hm2 := hide hm2
      clear hm hm2
      by_cases hal : a < s.size
      · have hal' : ¬ ((s.size : Int) ≤ (a : Int)) := by omega
        have hda := drop_at s a hal
        by_cases c0 : s[a] = 0
        · have HV2 := hide (vals_good _ _ _ _ _ _ HE.out (show valP (s.data.toList.drop a) = some (⟨0, 0, []⟩, s.data.toList.drop (a + 1)) by rw [hda, c0]; rfl))
          have D0 := DIn.start hown hnx 0 0 []
          clear HE hda hown
          go_wp2_with fail
          generalize wr.heap.size = vb at D0 ⊢
          go_loopw [9, 10] (fun t i wl => t = .int .i64 1 ∧ i = .int .i64 0 ∧ DIn w vb 0 0 [] u4 acc wl) (fun _ _ _ => 0)
          case atStart => exact ⟨rfl, rfl, D0⟩
          case round =>
            obtain ⟨rfl, rfl, D1⟩ := hrel
            clear D0
            obtain ⟨d0, hown2, hb2, hvb, hvo⟩ := D1
            obtain ⟨⟨x0, x1, x2⟩, -⟩ := three d0
            have hown3 := hown2.alloc (.cells #[.int .i64 0, .int .i64 0, .string ⟨#[]⟩] 36)
            have hlt5 := hown3.lt
            have hz2' := hb2.size
            go_wp2_with (at_builtin; refine wpList_append_own _ rfl _ _ 22 rfl w.heap.size 36 i0 (.agg #[.int .i64 0, .int .i64 0, .string ⟨#[]⟩]) 3 32 Try.underlying22 hi hz0 hz1 hz2 rfl (by decide) _ _ _ rfl hown3 ⟨wr.heap.size, 0, none⟩ 1 1 [.int .i64 0, .int .i64 0, .string ⟨#[]⟩] rfl rfl ?c1 ?c2 ?c3 ?c4 ?c5 ?_)
            case c1 =>
              intro j u hj
              match j, hj with
                | 0, hj => simp at hj; subst hj; simp [Addr.add]
                | 1, hj => simp at hj; subst hj; simp [Addr.add]
                | 2, hj => simp at hj; subst hj; simp [Addr.add]
            case c2 => intro u hu; simp at hu; rcases hu with rfl | rfl | rfl <;> rfl
            case c3 => unfold maxLen; omega
            case c4 => omega
            case c5 => simp; omega
            intro v' w3 hown' hgrow _
            have hB3 : Below w.heap.size w w3 := (hb2.alloc hz2' _).grown hgrow (by simp; omega) (fun j hj => (hlt5 j hj).1)
            have R3 : w3.ownsRow w.heap.size 36 3 v' (acc ++ [(⟨0, 0, []⟩ : Vl)]).length ((acc ++ [(⟨0, 0, []⟩ : Vl)]).flatMap vlC) := by
              rw [List.length_append, List.flatMap_append]
              have e1 : [(⟨0, 0, []⟩ : Vl)].flatMap vlC = vlC ⟨0, 0, []⟩ := by simp
              rw [e1]; exact hown'
            clear hown' hgrow hown3 hown2 hlt5
            go_wp2
            go_roundw
            case rel =>
              refine ⟨k + 1, a + 1, acc ++ [⟨0, 0, []⟩], by go_num, by go_num, by omega, by omega, by omega, R3, hB3, by simp; omega, ?_, ?_⟩
              · rw [Hm2.out]; exact HV2
              · intro x hx
                rcases List.mem_append.1 hx with hx | hx
                · exact HZ.out x hx
                · rw [List.mem_singleton.1 hx]; exact (by simp)
            case measure => simp [intOf]; omega
        by_cases c1 : s[a] = 1
        · have hrl : (s.data.toList.drop (a + 1)).length = s.size - (a + 1) := by rw [List.length_drop, Array.length_toList]; rfl
          by_cases hnd : s.size < a + 1 + 4
          · have hnd' : (s.size : Int) - ((a : Int) + 1) < 4 := by omega
            have HP := hide (fun wl (hb : Below w.heap.size w wl) => post_none w wl s.data.toList (vals_bad _ _ _ _ HE.out (by rw [hda, c1]; exact valF_1 _ (by omega))) hb)
            obtain ⟨ao, cap, ev⟩ := owns_slice hown
            subst ev
            clear HE hown HZ hda
            go_wp2
            go_ret2
            exact HP.out _ (hnx.alloc hsz _)
          · have hnd' : ¬ ((s.size : Int) - ((a : Int) + 1) < 4) := by omega
            have HV2 := hide (vals_good _ _ _ _ _ _ HE.out (show valP (s.data.toList.drop a) = some (⟨1, (numL ((s.data.toList.drop (a + 1)).take 4) : Nat) - 999999999, []⟩, s.data.toList.drop (a + 1 + 4)) by rw [hda, c1, valT_1 _ (by omega), List.drop_drop]))
            have D0 := DIn.start hown hnx 1 0 []
            have hN4 := numL_lt ((s.data.toList.drop (a + 1)).take 4)
            obtain ⟨F, HF⟩ : ∃ F : Nat → Nat, Hid (∀ j, F j = numL ((s.data.toList.drop (a + 1)).take j)) := ⟨_, fun _ => rfl⟩
            have HF0 : F 0 = 0 := by rw [HF.out]; rfl
            obtain ⟨T, HT⟩ : ∃ T : Nat → Nat, Hid (∀ j, T j = 256 ^ j) := ⟨_, fun _ => rfl⟩
            have HT0 : Hid ((1 : Int) = ((T 0 : Nat) : Int)) := by show _ = _; rw [HT.out]; rfl
            have HFs : Hid (∀ j (h : a + 1 + j < s.size), j < 4 → F (j + 1) = F j + (s[a + 1 + j]'h).toNat * 256 ^ j) := by
              intro j h _
              rw [HF.out, HF.out]
              refine numL_at _ j _ ?_
              rw [List.getElem?_drop, List.getElem?_eq_getElem (by rw [Array.length_toList]; exact h)]; rfl
            have HFb : ∀ j, j ≤ 4 → F j < 256 ^ j := by
              intro j hj
              rw [HF.out]
              have := numL_lt ((s.data.toList.drop (a + 1)).take j)
              rw [List.length_take, hrl, Nat.min_eq_left (by omega)] at this
              exact this
            rw [← HF.out 4] at HV2
            replace HV2 := hide HV2
            clear HE hda hown hN4 HF
            go_wp2_with fail
            generalize wr.heap.size = vb at D0 ⊢
            go_loopw [9, 10] (fun t i wl => ∃ j : Nat, j ≤ 4 ∧ t = .int .i64 ((T j : Nat) : Int) ∧ i = .int .i64 (j : Int) ∧ DIn w vb 1 (F j : Nat) [] u4 acc wl) (fun _ i _ => 4 - (intOf i).toNat)
            case atStart => exact ⟨0, by omega, by rw [← HT0.out], rfl, by rw [HF0]; exact D0⟩
            case round =>
              obtain ⟨j, hj, rfl, rfl, D1⟩ := hrel
              clear D0 HF0
              have hFj := HFb j hj
              by_cases hjn : j < 4
              · have hjn' : (j : Int) < 4 := by omega
                have hix : a + 1 + j < s.size := by omega
                have hix' : (a : Int) + 1 + (j : Int) < (s.size : Int) := by omega
                have hi0 : 0 ≤ (a : Int) + 1 + (j : Int) := by omega
                have hin : ((a : Int) + 1 + (j : Int)).toNat = a + 1 + j := by omega
                have HS := hide (HFs.out j hix hjn)
                have hcb := (s[a + 1 + j]'hix).toNat_lt
                obtain ⟨⟨x0, x1, x2⟩, f0, f1, f2⟩ := three D1.1
                have DD := hide D1
                clear D1 HV2 HFb HFs
                generalize F j = fj at *
                have HW : Hid (wrap64 ((fj : Int) + wrap64 ((s[a + 1 + j].toNat : Int) * (T j : Int))) = ((F (j + 1) : Nat) : Int)) := by
                  show _ = _
                  have e : ((T j : Nat) : Int) = 256 ^ j := by rw [HT.out]; simp
                  rw [HS.out, e]
                  exact wrap_sum fj s[a + 1 + j].toNat j (by omega) hcb hFj
                have HT2 : Hid (wrap64 ((T j : Int) * 256) = ((T (j + 1) : Nat) : Int)) := by
                  show _ = _
                  have e : ((T j : Nat) : Int) = 256 ^ j := by rw [HT.out]; simp
                  rw [e, wrap_pow j (by omega), HT.out]
                clear hFj
                go_wp2_with fail
                go_region
                have D2 := (DD.out.set (wrap64 ((fj : Int) + wrap64 ((s[a + 1 + j].toNat : Int) * (T j : Int))))).drew
                rw [HW.out] at D2
                replace D2 := hide D2
                clear x0 x1 x2 f0 f1 f2 DD
                go_wp2
                go_roundw
                case rel =>
                  refine ⟨j + 1, by omega, by rw [HT2.out], by go_num, ?_⟩
                  rw [HW.out]; exact D2.out
                case measure => simp [intOf]; omega
              · obtain rfl : j = 4 := by omega
                have hF4 := HFb 4 (Nat.le_refl _)
                generalize F 4 = n at D1 HV2 hF4
                have HW4 : Hid (wrap64 ((n : Int) - 999999999) = (n : Int) - 999999999) := by
                  have h9 : (256 : Nat) ^ 4 = 4294967296 := by decide
                  show _ = _
                  unfold wrap64; omega
                replace HV2 := HV2.out.out
                rw [← HW4.out] at HV2
                replace HV2 := hide HV2
                clear HFb HFs hFj hF4 HW4
                obtain ⟨⟨x0, x1, x2⟩, f0, f1, f2⟩ := three D1.1
                obtain ⟨-, hown2, hb2, hvb, hvo⟩ := D1.set (wrap64 ((n : Int) - 999999999))
                have hown3 := hown2.alloc (.cells #[.int .i64 1, .int .i64 (wrap64 ((n : Int) - 999999999)), .string ⟨#[]⟩] 36)
                have hlt5 := hown3.lt
                have hz2' := hb2.size
                rw [size_set] at hz2'
                go_wp2_with (at_builtin; refine wpList_append_own _ rfl _ _ 22 rfl w.heap.size 36 i0 (.agg #[.int .i64 0, .int .i64 0, .string ⟨#[]⟩]) 3 32 Try.underlying22 hi hz0 hz1 hz2 rfl (by decide) _ _ _ rfl hown3 ⟨wr.heap.size, 0, none⟩ 1 1 [.int .i64 1, .int .i64 (wrap64 ((n : Int) - 999999999)), .string ⟨#[]⟩] rfl rfl ?q1c1 ?q1c2 ?q1c3 ?q1c4 ?q1c5 ?_)
                try (case q1c1 => exact new_three _ _ _ _ _ (size_set _ _ _).symm)
                case q1c2 => intro u hu; simp at hu; rcases hu with rfl | rfl | rfl <;> rfl
                case q1c3 => unfold maxLen; omega
                case q1c4 => omega
                case q1c5 => simp; omega
                intro v' w3 hown' hgrow _
                have hB3 : Below w.heap.size w w3 := (hb2.alloc hb2.size _).grown hgrow (by simp; omega) (fun j hj => (hlt5 j hj).1)
                have R3 : w3.ownsRow w.heap.size 36 3 v' (acc ++ [(⟨1, (wrap64 ((n : Int) - 999999999)), []⟩ : Vl)]).length ((acc ++ [(⟨1, (wrap64 ((n : Int) - 999999999)), []⟩ : Vl)]).flatMap vlC) := by
                  rw [List.length_append, List.flatMap_append]
                  have e1 : [(⟨1, (wrap64 ((n : Int) - 999999999)), []⟩ : Vl)].flatMap vlC = vlC ⟨1, (wrap64 ((n : Int) - 999999999)), []⟩ := by simp
                  rw [e1]; exact hown'
                clear hown' hgrow hown3 hown2 hlt5
                go_wp2
                go_roundw
                case rel =>
                  refine ⟨k + 1, a + 1 + 4, acc ++ [⟨1, (wrap64 ((n : Int) - 999999999)), []⟩], by go_num, by go_num, by omega, by omega, by omega, R3, hB3, by simp; omega, ?_, ?_⟩
                  · rw [Hm2.out]; exact HV2
                  · intro x hx
                    rcases List.mem_append.1 hx with hx | hx
                    · exact HZ.out x hx
                    · rw [List.mem_singleton.1 hx]; exact (by simp)
                case measure => simp [intOf]; omega
        by_cases c3 : s[a] = 3
        · have hrl : (s.data.toList.drop (a + 1)).length = s.size - (a + 1) := by rw [List.length_drop, Array.length_toList]; rfl
          by_cases hnd : s.size < a + 1 + 1
          · have hnd' : (s.size : Int) - ((a : Int) + 1) < 1 := by omega
            have HP := hide (fun wl (hb : Below w.heap.size w wl) => post_none w wl s.data.toList (vals_bad _ _ _ _ HE.out (by rw [hda, c3]; exact valF_3 _ (by omega))) hb)
            obtain ⟨ao, cap, ev⟩ := owns_slice hown
            subst ev
            clear HE hown HZ hda
            go_wp2
            go_ret2
            exact HP.out _ (hnx.alloc hsz _)
          · have hnd' : ¬ ((s.size : Int) - ((a : Int) + 1) < 1) := by omega
            have HV2 := hide (vals_good _ _ _ _ _ _ HE.out (show valP (s.data.toList.drop a) = some (⟨3, (numL ((s.data.toList.drop (a + 1)).take 1) : Nat), []⟩, s.data.toList.drop (a + 1 + 1)) by rw [hda, c3, valT_3 _ (by omega), List.drop_drop]))
            have D0 := DIn.start hown hnx 3 0 []
            have hN4 := numL_lt ((s.data.toList.drop (a + 1)).take 1)
            obtain ⟨F, HF⟩ : ∃ F : Nat → Nat, Hid (∀ j, F j = numL ((s.data.toList.drop (a + 1)).take j)) := ⟨_, fun _ => rfl⟩
            have HF0 : F 0 = 0 := by rw [HF.out]; rfl
            obtain ⟨T, HT⟩ : ∃ T : Nat → Nat, Hid (∀ j, T j = 256 ^ j) := ⟨_, fun _ => rfl⟩
            have HT0 : Hid ((1 : Int) = ((T 0 : Nat) : Int)) := by show _ = _; rw [HT.out]; rfl
            have HFs : Hid (∀ j (h : a + 1 + j < s.size), j < 1 → F (j + 1) = F j + (s[a + 1 + j]'h).toNat * 256 ^ j) := by
              intro j h _
              rw [HF.out, HF.out]
              refine numL_at _ j _ ?_
              rw [List.getElem?_drop, List.getElem?_eq_getElem (by rw [Array.length_toList]; exact h)]; rfl
            have HFb : ∀ j, j ≤ 1 → F j < 256 ^ j := by
              intro j hj
              rw [HF.out]
              have := numL_lt ((s.data.toList.drop (a + 1)).take j)
              rw [List.length_take, hrl, Nat.min_eq_left (by omega)] at this
              exact this
            rw [← HF.out 1] at HV2
            replace HV2 := hide HV2
            clear HE hda hown hN4 HF
            go_wp2_with fail
            generalize wr.heap.size = vb at D0 ⊢
            go_loopw [9, 10] (fun t i wl => ∃ j : Nat, j ≤ 1 ∧ t = .int .i64 ((T j : Nat) : Int) ∧ i = .int .i64 (j : Int) ∧ DIn w vb 3 (F j : Nat) [] u4 acc wl) (fun _ i _ => 1 - (intOf i).toNat)
            case atStart => exact ⟨0, by omega, by rw [← HT0.out], rfl, by rw [HF0]; exact D0⟩
            case round =>
              obtain ⟨j, hj, rfl, rfl, D1⟩ := hrel
              clear D0 HF0
              have hFj := HFb j hj
              by_cases hjn : j < 1
              · have hjn' : (j : Int) < 1 := by omega
                have hix : a + 1 + j < s.size := by omega
                have hix' : (a : Int) + 1 + (j : Int) < (s.size : Int) := by omega
                have hi0 : 0 ≤ (a : Int) + 1 + (j : Int) := by omega
                have hin : ((a : Int) + 1 + (j : Int)).toNat = a + 1 + j := by omega
                have HS := hide (HFs.out j hix hjn)
                have hcb := (s[a + 1 + j]'hix).toNat_lt
                obtain ⟨⟨x0, x1, x2⟩, f0, f1, f2⟩ := three D1.1
                have DD := hide D1
                clear D1 HV2 HFb HFs
                generalize F j = fj at *
                have HW : Hid (wrap64 ((fj : Int) + wrap64 ((s[a + 1 + j].toNat : Int) * (T j : Int))) = ((F (j + 1) : Nat) : Int)) := by
                  show _ = _
                  have e : ((T j : Nat) : Int) = 256 ^ j := by rw [HT.out]; simp
                  rw [HS.out, e]
                  exact wrap_sum fj s[a + 1 + j].toNat j (by omega) hcb hFj
                have HT2 : Hid (wrap64 ((T j : Int) * 256) = ((T (j + 1) : Nat) : Int)) := by
                  show _ = _
                  have e : ((T j : Nat) : Int) = 256 ^ j := by rw [HT.out]; simp
                  rw [e, wrap_pow j (by omega), HT.out]
                clear hFj
                go_wp2_with fail
                go_region
                have D2 := (DD.out.set (wrap64 ((fj : Int) + wrap64 ((s[a + 1 + j].toNat : Int) * (T j : Int))))).drew
                rw [HW.out] at D2
                replace D2 := hide D2
                clear x0 x1 x2 f0 f1 f2 DD
                go_wp2
                go_roundw
                case rel =>
                  refine ⟨j + 1, by omega, by rw [HT2.out], by go_num, ?_⟩
                  rw [HW.out]; exact D2.out
                case measure => simp [intOf]; omega
              · obtain rfl : j = 1 := by omega
                generalize F 1 = n at D1 HV2
                clear HFb HFs hFj
                obtain ⟨d0, hown2, hb2, hvb, hvo⟩ := D1
                obtain ⟨⟨x0, x1, x2⟩, -⟩ := three d0
                have hown3 := hown2.alloc (.cells #[.int .i64 3, .int .i64 (n : Int), .string ⟨#[]⟩] 36)
                have hlt5 := hown3.lt
                have hz2' := hb2.size
                go_wp2_with (at_builtin; refine wpList_append_own _ rfl _ _ 22 rfl w.heap.size 36 i0 (.agg #[.int .i64 0, .int .i64 0, .string ⟨#[]⟩]) 3 32 Try.underlying22 hi hz0 hz1 hz2 rfl (by decide) _ _ _ rfl hown3 ⟨wr.heap.size, 0, none⟩ 1 1 [.int .i64 3, .int .i64 (n : Int), .string ⟨#[]⟩] rfl rfl ?q3c1 ?q3c2 ?q3c3 ?q3c4 ?q3c5 ?_)
                case q3c1 =>
                  intro j u hj
                  match j, hj with
                    | 0, hj => simp at hj; subst hj; simp [Addr.add]
                    | 1, hj => simp at hj; subst hj; simp [Addr.add]
                    | 2, hj => simp at hj; subst hj; simp [Addr.add]
                case q3c2 => intro u hu; simp at hu; rcases hu with rfl | rfl | rfl <;> rfl
                case q3c3 => unfold maxLen; omega
                case q3c4 => omega
                case q3c5 => simp; omega
                intro v' w3 hown' hgrow _
                have hB3 : Below w.heap.size w w3 := (hb2.alloc hz2' _).grown hgrow (by simp; omega) (fun j hj => (hlt5 j hj).1)
                have R3 : w3.ownsRow w.heap.size 36 3 v' (acc ++ [(⟨3, (n : Int), []⟩ : Vl)]).length ((acc ++ [(⟨3, (n : Int), []⟩ : Vl)]).flatMap vlC) := by
                  rw [List.length_append, List.flatMap_append]
                  have e1 : [(⟨3, (n : Int), []⟩ : Vl)].flatMap vlC = vlC ⟨3, (n : Int), []⟩ := by simp
                  rw [e1]; exact hown'
                clear hown' hgrow hown3 hown2 hlt5
                go_wp2
                go_roundw
                case rel =>
                  refine ⟨k + 1, a + 1 + 1, acc ++ [⟨3, (n : Int), []⟩], by go_num, by go_num, by omega, by omega, by omega, R3, hB3, by simp; omega, ?_, ?_⟩
                  · rw [Hm2.out]; exact HV2
                  · intro x hx
                    rcases List.mem_append.1 hx with hx | hx
                    · exact HZ.out x hx
                    · rw [List.mem_singleton.1 hx]; exact (by simp)
                case measure => simp [intOf]; omega
        by_cases c2 : s[a] = 2
        · by_cases h1a : a + 1 < s.size
          · have h1a' : ¬ ((s.size : Int) ≤ (a : Int) + 1) := by omega
            have hdb := drop_at s (a + 1) h1a
            have hmb := s[a + 1].toNat_lt
            have hrl : (s.data.toList.drop (a + 1 + 1)).length = s.size - (a + 1 + 1) := by rw [List.length_drop, Array.length_toList]; rfl
            by_cases hnd : s.size < a + 1 + 1 + s[a + 1].toNat
            · have hnd' : (s.size : Int) - ((a : Int) + 1 + 1) < (s[a + 1].toNat : Int) := by omega
              have HP := hide (fun wl (hb : Below w.heap.size w wl) => post_none w wl s.data.toList (vals_bad _ _ _ _ HE.out (by rw [hda, c2, hdb]; exact valF_2 _ _ (by omega))) hb)
              obtain ⟨ao, cap, ev⟩ := owns_slice hown
              subst ev
              clear HE hown HZ hda hdb
              go_wp2
              go_ret2
              exact HP.out _ (hnx.alloc hsz _)
            · have hnd' : ¬ ((s.size : Int) - ((a : Int) + 1 + 1) < (s[a + 1].toNat : Int)) := by omega
              have HV2 := hide (vals_good _ _ _ _ _ _ HE.out (show valP (s.data.toList.drop a) = some (⟨2, 0, (s.extract (a + 1 + 1) (a + 1 + 1 + s[a + 1].toNat)).data.toList⟩, s.data.toList.drop (a + 1 + 1 + s[a + 1].toNat)) by rw [hda, c2, hdb, valT_2 _ _ (by omega), List.drop_drop, Lib.extract_data, Nat.add_sub_cancel_left]))
              have D0 := DIn.start hown hnx 2 0 []
              clear HE hda hown hdb
              go_wp2_with fail
              generalize wr.heap.size = vb at D0 ⊢
              go_loopw [9, 10] (fun t i wl => ∃ j : Nat, j ≤ s[a + 1].toNat ∧ t = .int .i64 1 ∧ i = .int .i64 (j : Int) ∧ DIn w vb 2 0 [] u4 acc wl) (fun _ i _ => s[a + 1].toNat - (intOf i).toNat)
              case atStart => exact ⟨0, by omega, rfl, rfl, D0⟩
              case round =>
                obtain ⟨j, hj, rfl, rfl, D1⟩ := hrel
                clear D0
                by_cases hjn : j < s[a + 1].toNat
                · have hjn' : (j : Int) < (s[a + 1].toNat : Int) := by omega
                  obtain ⟨⟨x0, x1, x2⟩, -⟩ := three D1.1
                  go_wp2
                  go_roundw
                  case rel => exact ⟨j + 1, by omega, rfl, by go_num, D1⟩
                  case measure => simp [intOf]; omega
                · have hjn' : ¬ (j : Int) < (s[a + 1].toNat : Int) := by omega
                  obtain ⟨⟨x0, x1, x2⟩, f0, f1, f2⟩ := three D1.1
                  obtain ⟨-, hown2, hb2, hvb, hvo⟩ := D1.setX (s.extract (a + 1 + 1) (a + 1 + 1 + s[a + 1].toNat))
                  have hown3 := hown2.alloc (.cells #[.int .i64 2, .int .i64 0, .string (s.extract (a + 1 + 1) (a + 1 + 1 + s[a + 1].toNat))] 36)
                  have hlt5 := hown3.lt
                  have hz2' := hb2.size
                  rw [size_set] at hz2'
                  go_wp2_with (at_builtin; refine wpList_append_own _ rfl _ _ 22 rfl w.heap.size 36 i0 (.agg #[.int .i64 0, .int .i64 0, .string ⟨#[]⟩]) 3 32 Try.underlying22 hi hz0 hz1 hz2 rfl (by decide) _ _ _ rfl hown3 ⟨wr.heap.size, 0, none⟩ 1 1 [.int .i64 2, .int .i64 0, .string (s.extract (a + 1 + 1) (a + 1 + 1 + s[a + 1].toNat))] rfl rfl ?q2c1 ?q2c2 ?q2c3 ?q2c4 ?q2c5 ?_)
                  try (case q2c1 => exact new_three _ _ _ _ _ (size_set _ _ _).symm)
                  case q2c2 => first | exact ⟨rfl, rfl, rfl⟩ | (intro u hu; simp at hu; rcases hu with rfl | rfl | rfl <;> rfl)
                  case q2c3 => unfold maxLen; omega
                  case q2c4 => omega
                  case q2c5 => first | omega | (simp; omega)
                  intro v' w3 hown' hgrow _
                  have hB3 : Below w.heap.size w w3 := (hb2.alloc hb2.size _).grown hgrow (by simp; omega) (fun j hj => (hlt5 j hj).1)
                  have R3 : w3.ownsRow w.heap.size 36 3 v' (acc ++ [(⟨2, 0, (s.extract (a + 1 + 1) (a + 1 + 1 + s[a + 1].toNat)).data.toList⟩ : Vl)]).length ((acc ++ [(⟨2, 0, (s.extract (a + 1 + 1) (a + 1 + 1 + s[a + 1].toNat)).data.toList⟩ : Vl)]).flatMap vlC) := by
                    rw [List.length_append, List.flatMap_append]
                    have e1 : [(⟨2, 0, (s.extract (a + 1 + 1) (a + 1 + 1 + s[a + 1].toNat)).data.toList⟩ : Vl)].flatMap vlC = vlC ⟨2, 0, (s.extract (a + 1 + 1) (a + 1 + 1 + s[a + 1].toNat)).data.toList⟩ := by simp
                    rw [e1]; exact hown'
                  clear hown' hgrow hown3 hown2 hlt5
                  go_wp2
                  go_roundw
                  case rel =>
                    refine ⟨k + 1, a + 1 + 1 + s[a + 1].toNat, acc ++ [⟨2, 0, (s.extract (a + 1 + 1) (a + 1 + 1 + s[a + 1].toNat)).data.toList⟩], by go_num, by go_num, by omega, by omega, by omega, R3, hB3, by simp; omega, ?_, ?_⟩
                    · rw [Hm2.out]; exact HV2
                    · intro x hx
                      rcases List.mem_append.1 hx with hx | hx
                      · exact HZ.out x hx
                      · rw [List.mem_singleton.1 hx]; exact (by have h9 := s[a + 1].toNat_lt; rw [Array.length_toList]; show (s.extract _ _).size ≤ _; rw [ByteArray.size_extract]; omega)
                  case measure => simp [intOf]; omega
          · have h1a' : (s.size : Int) ≤ (a : Int) + 1 := by omega
            have HP := hide (fun wl (hb : Below w.heap.size w wl) => post_none w wl s.data.toList (vals_bad _ _ _ _ HE.out (by rw [hda, c2, List.drop_eq_nil_of_le (by rw [Array.length_toList]; exact Nat.le_of_not_lt h1a)]; rfl)) hb)
            obtain ⟨ao, cap, ev⟩ := owns_slice hown
            subst ev
            clear HE hown HZ hda
            go_wp2
            go_ret2
            exact HP.out _ (hnx.alloc hsz _)
        have hne : ∀ d : UInt8, s[a] ≠ d → ((s[a].toNat : Int) == (d.toNat : Int)) = false := by
          intro d hd
          rw [beq_eq_false_iff_ne]
          intro e
          exact hd (UInt8.toNat_inj.1 (by omega))
        have hcb : (s[a].toNat : Int) ≤ 255 := by have := s[a].toNat_lt; omega
        have n0 : ((s[a].toNat : Int) == 0) = false := hne 0 c0
        have n1 : ((s[a].toNat : Int) == 1) = false := hne 1 c1
        have n2 : ((s[a].toNat : Int) == 2) = false := hne 2 c2
        have n3 : ((s[a].toNat : Int) == 3) = false := hne 3 c3
        clear hne
        have HP := hide (fun wl (hb : Below w.heap.size w wl) => post_none w wl s.data.toList (vals_bad _ _ _ _ HE.out (by rw [hda]; simp only [valP]; rw [if_neg c0, if_neg c1, if_neg c2, if_neg c3])) hb)
        obtain ⟨ao, cap, ev⟩ := owns_slice hown
        subst ev
        clear HE hown HZ hda c0 c1 c2 c3
        go_wp2
        go_ret2
        exact HP.out _ (hnx.alloc hsz _)
      · have hal' : (s.size : Int) ≤ (a : Int) := by omega
        have HP := hide (fun wl (hb : Below w.heap.size w wl) => post_none w wl s.data.toList (vals_bad _ _ _ _ HE.out (by rw [List.drop_eq_nil_of_le (by rw [Array.length_toList]; exact Nat.le_of_not_lt hal)]; rfl)) hb)
        obtain ⟨ao, cap, ev⟩ := owns_slice hown
        subst ev
        clear HE hown HZ
        go_wp2
        go_ret2
        exact HP.out _ hnx
    · have hlt' : ¬ ((k : Int) < (s[0].toNat : Int)) := by omega
      have hvs : valsOf s.data.toList = some (acc, s.data.toList.drop a) := by rw [HE.out, show s[0].toNat - k = 0 by omega]; simp [valsP]
      have hdp := decP_vals s.data.toList
      rw [hvs] at hdp
      by_cases hal : a < s.size
      · have hal' : (a : Int) < (s.size : Int) := by omega
        rw [drop_at s a hal] at hdp
        simp only at hdp
        have e1 : decE s.data.toList = 1 := by unfold decE; rw [hdp]
        have e2 : decR s.data.toList = [] := decR_none _ (by rw [e1]; decide)
        have E1 := hide e1
        have E2 := hide e2
        obtain ⟨ao, cap, ev⟩ := owns_slice hown
        subst ev
        clear hdp hvs e1 e2 hown HE HZ
        go_wp2_with fail
        go_ret2
        exact ⟨.slice none 0 0, by rw [E1.out]; rfl, by rw [E2.out]; exact World.ownsRow_nil _ _ _ _, hnx, by rw [E2.out]; decide, by rw [E2.out]; intro x hx; cases hx⟩
      · have hal' : ¬ ((a : Int) < (s.size : Int)) := by omega
        rw [List.drop_eq_nil_of_le (by rw [Array.length_toList]; exact Nat.le_of_not_lt hal)] at hdp
        simp only at hdp
        have e1 : decE s.data.toList = chkL acc := by unfold decE; rw [hdp]
        have e2 : decR s.data.toList = if chkL acc = 0 then acc else [] := by unfold decR; rw [e1, hdp]; rfl
        have E1 := hide e1
        have E2 := hide e2
        have hf := ckvs_any acc _ wr (vs_of_own hown (by omega) fun x hx => by have := HZ.out x hx; omega)
        have Hown := hide hown
        obtain ⟨ao, cap, ev⟩ := owns_slice hown
        subst ev
        clear hdp hvs e1 e2 hown HE
        by_cases h9 : chkL acc = 0
        · have H9 := hide h9
          rw [h9] at hf
          clear h9
          go_wp2_with (go_at_call 7; refine hf.mono ?_; rintro e w2 ⟨rfl, b2⟩)
          go_ret2
          refine ⟨.slice ao acc.length cap, by rw [E1.out, H9.out]; rfl, ?_, hnx.trans (b2.mono hnx.size), ?_, ?_⟩
          · rw [E2.out, if_pos H9.out]; exact owns_below Hown.out b2
          · rw [E2.out, if_pos H9.out]; omega
          · rw [E2.out, if_pos H9.out]; exact HZ.out
        · have h9' : (((chkL acc : Nat) : Int) != 0) = true := by simpa using h9
          have H9 := hide h9
          clear h9
          generalize chkL acc = c at hf h9' E1 E2 H9
          go_wp2_with (go_at_call 7; refine hf.mono ?_; rintro e w2 ⟨rfl, b2⟩)
          go_ret2
          refine ⟨.slice none 0 0, by rw [E1.out]; rfl, ?_, hnx.trans (b2.mono hnx.size), ?_, ?_⟩
          · rw [E2.out, if_neg H9.out]; exact World.ownsRow_nil _ _ _ _
          · rw [E2.out, if_neg H9.out]; decide
          · rw [E2.out, if_neg H9.out]; intro x hx; cases hx

theorem dof_any (s : ByteArray) (w : World) (hs : s.size ≤ 140737488355328) : Calls Try.prog 9 #[.string s] w fun e w' => DecPost w s.data.toList e w' := by
  rcases Nat.eq_zero_or_pos s.size with h | h
  · exact dof_empty s w h
  · exact dof_some s w h hs

end Go.Proofs.Ytkpeklealgicpac
