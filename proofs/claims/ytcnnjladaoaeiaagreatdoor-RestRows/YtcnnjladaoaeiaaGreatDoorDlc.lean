/-
  slices.Delete of one value out of a row of one's own: the walk.
-/
import Derived.Test.YtcnnjladaoaeiaaGreatDoorDlb
namespace Go.Proofs.YtcnnjladaoaeiaaGreatDoor
open Go.RowKit

set_option maxRecDepth 100000 in
set_option maxHeartbeats 4000000 in
theorem delete_any (B : Nat) (u : Value) (L : List Vl) (i j : Nat) (hj : j = i + 1) (hi : i < L.length) (w : World) (h : Own w B u L) (hlen : L.length ≤ 1000) :
    Calls Tryz.prog 125 #[u, .int .i64 i, .int .i64 j] w fun e w' => ∃ v, e = .returned v ∧ Own w' B v (L.eraseIdx i) ∧ Below B w w' := by
  obtain ⟨i0, hi0, hz0, hz1, hz2⟩ := info_parts Tryz.info_val
  obtain ⟨hxl, hh⟩ := h
  rcases hh with ⟨-, h0⟩ | ⟨g, cap, cur, rfl, hBg, hg, hnc, hcm, hcs, htake⟩
  · omega
  obtain ⟨n, hn⟩ : ∃ n, L.length = n := ⟨_, rfl⟩
  obtain ⟨news, hnews⟩ : ∃ news, news = (L.drop j).flatMap vlC := ⟨_, rfl⟩
  have hnl : news.length = (n - j) * 3 := by rw [hnews, flatV_len, List.length_drop, hn]
  have hm : maxLen = 9223372036854775807 := by rfl
  rw [hn] at hxl hi hlen hnc htake ⊢
  have hcell : ∀ t, t < cap * 3 → ∃ x, w.cell? ⟨g, t, none⟩ = some x := by
    intro t ht
    have := Lib.cell_of_heap hg t
    rw [this]
    exact ⟨cur[t], Array.getElem?_eq_getElem (by omega)⟩
  obtain ⟨A, hA, hsrc⟩ : ∃ A : Addr, (if cap = j then some (⟨g, 0, none⟩ : Addr) else some ⟨g, j * 3, none⟩) = some A ∧ Hid (∀ t x, news[t]? = some x → w.drew.cell? (A.add t) = some x) := by
    by_cases h : cap = j
    · refine ⟨⟨g, 0, none⟩, by simp [h], fun t x hx => ?_⟩
      have h0 : news.length = 0 := by rw [hnl]; omega
      rw [List.length_eq_zero_iff.1 h0] at hx
      simp at hx
    · refine ⟨⟨g, j * 3, none⟩, by simp [h], fun t x hx => ?_⟩
      have ht := (List.getElem?_eq_some_iff.1 hx).1
      rw [hnl] at ht
      rw [Go.WideShapes.add_plain]
      show w.cell? ⟨g, j * 3 + t, none⟩ = some x
      rw [Lib.cell_of_heap hg]
      rw [hnews, flatV_drop, List.getElem?_drop, ← htake, List.getElem?_take, if_pos (by omega)] at hx
      simpa using hx
  have s1 : Hid (news.length = (n - j) * 3) := hnl
  have s2 : Hid (∀ x ∈ news, x.oneCell' = true) := by rw [hnews]; exact flatV_one _
  have s3 : Hid (∀ t, t < news.length → (w.drew.cell? ⟨g, 0 + i * 3 + t, none⟩).isSome = true ∧ w.drew.frozen? ⟨g, 0 + i * 3 + t, none⟩ = false) := by
    intro t ht
    rw [hnl] at ht
    refine ⟨?_, ?_⟩
    · show (w.cell? ⟨g, 0 + i * 3 + t, none⟩).isSome = true
      obtain ⟨x, hx⟩ := hcell (0 + i * 3 + t) (by omega)
      rw [hx]; rfl
    · exact Lib.frozen_of_heap (w := w.drew) hg _
  obtain ⟨W1, hW1⟩ : ∃ W1, W1 = w.drew.setCells g (0 + i * 3) news := ⟨_, rfl⟩
  obtain ⟨cur1, hg1, hc1⟩ := heap_setCells g 49 news (0 + i * 3) w.drew cur hg (by omega)
  rw [← hW1] at hg1
  have hcl1 : cur1.toList.length = cap * 3 := by
    rw [hc1]; simp; omega
  have hq : n - (i + (n - j)) = 1 := by omega
  have hcl : ∀ ty, (Builtin.clear_ #[41] ty #[.slice (some ⟨g, (i + (n - j)) * 3, none⟩) 1 (cap - (i + (n - j)))]).run Tryz.prog W1 = .ok (.tuple #[]) (W1.setCells g ((i + (n - j)) * 3) z3) := by
    intro ty
    refine clear_one W1 ty g _ _ (fun t ht => ?_) (fun t _ => Lib.frozen_of_heap hg1 _)
    rw [Lib.cell_of_heap hg1]
    rw [Array.getElem?_eq_getElem (by rw [← Array.length_toList]; omega)]; rfl
  obtain ⟨cur2, hg2, hc2⟩ := heap_setCells g 49 z3 ((i + (n - j)) * 3) W1 cur1 hg1 (by rw [← Array.length_toList, hcl1]; simp only [z3, List.length_cons, List.length_nil]; omega)
  have b1 : Below B w W1 := by rw [hW1]; exact below_cells g hBg _ _ _ (Below.refl _ _).drew
  have b2 : Below B w (W1.setCells g ((i + (n - j)) * 3) z3) := below_cells g hBg _ _ _ b1
  have hfin : Own (W1.setCells g ((i + (n - j)) * 3) z3) B (.slice (some ⟨g, 0, none⟩) (i + (n - j)) cap) (L.eraseIdx i) := by
    have hel : (L.eraseIdx i).length = i + (n - j) := by rw [List.length_eraseIdx, if_pos (by omega)]; omega
    have hfl : (L.eraseIdx i).flatMap vlC = (L.flatMap vlC).take (i * 3) ++ news := by
      rw [List.eraseIdx_eq_take_drop_succ, flatV_append, flatV_take, hnews, hj]
    have hc2l : cur2.toList.length = cap * 3 := by rw [hc2, List.length_append, List.length_append, List.length_take, List.length_drop, hcl1]; simp only [z3, List.length_cons, List.length_nil]; omega
    refine ⟨by rw [flatV_len], .inr ⟨g, cap, cur2, by rw [hel], hBg, hg2, by omega, hcm, by rw [← Array.length_toList]; exact hc2l, ?_⟩⟩
    rw [hel, hfl, hc2, hc1, Nat.zero_add]
    have l1 : (cur.toList.take (i * 3)).length = i * 3 := by rw [List.length_take, Array.length_toList]; omega
    have e1 : cur.toList.take (i * 3) = (L.flatMap vlC).take (i * 3) := by
      rw [← htake, List.take_take, Nat.min_eq_left (by omega)]
    have e2 : (cur.toList.take (i * 3) ++ news ++ cur.toList.drop (i * 3 + news.length)).take ((i + (n - j)) * 3) = cur.toList.take (i * 3) ++ news := by
      rw [List.take_append_of_le_length (by rw [List.length_append, l1, hnl]; omega), List.take_of_length_le (by rw [List.length_append, l1, hnl]; omega)]
    rw [e2, List.append_assoc, List.take_append_of_le_length (by rw [List.length_append, l1, hnl]; omega), List.take_of_length_le (by rw [List.length_append, l1, hnl]; omega), e1]
  have hW : Hid (W1 = w.drew.setCells g (0 + i * 3) news) := hW1
  have HF := hide hfin
  have hic : i ≤ cap := by omega
  have hjc : j ≤ cap := by omega
  have hij : i ≤ j := by omega
  have hjn : j ≤ n := by omega
  have hne : ((i : Int) == (j : Int)) = false := by simp; omega
  clear hW1 hfin hg1 hg2 hc1 hc2 hcl1 hcell hg hcs htake hnews hnl b1 hxl hi hj
  go_enter Tryz.func125, Tryz.ntmps125
  go_wp2_with fail
  go_region_law (refine step_append_room rfl (.tmp 22) (.tmp 25) 41 rfl 49 i0 3 Tryz.underlying41 hi0 hz1 g 0 i cap (by simp [Act.eval, Act.put]) A (n - j) (cap - j) news (by simp [Act.eval, Act.put]) s1.out hsrc.out s2.out (by omega) s3.out ?_; rw [← hW.out])
  go_wp2
  go_ret
  exact ⟨_, rfl, HF.out, b2⟩

end Go.Proofs.YtcnnjladaoaeiaaGreatDoor
