/-
  slices.Clone of values, and what 'append' makes of a row of one's own.
-/
import Derived.Test.YtcnnjladaoaeiaaGreatDoorDck
import Derived.Lib.SliceRun
namespace Go.Proofs.YtcnnjladaoaeiaaGreatDoor
open Go.RowKit

theorem Tryz.info_val : (Tryz.prog.info? 49).map (fun i => (i.zero, i.size, i.bytes)) = some (some (.agg #[.int .i64 0, .int .i64 0, .string ⟨#[]⟩]), 3, 32) := by kernel_rfl

/-- values in a row of one's own -/
abbrev Own (w : World) (B : Nat) (u : Value) (L : List Vl) : Prop := w.ownsRow B 49 3 u L.length (L.flatMap vlC)

theorem flatV_len (L : List Vl) : (L.flatMap vlC).length = L.length * 3 := by
  induction L with
  | nil => rfl
  | cons x r ih => rw [List.flatMap_cons, List.length_append, ih, List.length_cons]; simp only [vlC, List.length_cons, List.length_nil]; omega

theorem flatV_one (L : List Vl) : ∀ u ∈ L.flatMap vlC, u.oneCell' = true := by
  intro u hu
  obtain ⟨p, _, hup⟩ := List.mem_flatMap.1 hu
  simp only [vlC, List.mem_cons, List.not_mem_nil, or_false] at hup
  rcases hup with rfl | rfl | rfl <;> rfl

theorem flatV_get (L : List Vl) (i : Nat) (x : Vl) (h : L[i]? = some x) : (L.flatMap vlC)[i * 3]? = some (.int .i64 x.k) ∧ (L.flatMap vlC)[i * 3 + 1]? = some (.int .i64 x.n) ∧ (L.flatMap vlC)[i * 3 + 2]? = some (.string ⟨x.s.toArray⟩) := by
  induction L generalizing i with
  | nil => cases h
  | cons y r ih =>
    cases i with
    | zero => cases h; exact ⟨rfl, rfl, rfl⟩
    | succ i =>
      have := ih i (by simpa using h)
      rw [List.flatMap_cons]
      have e : ∀ j, (vlC y ++ r.flatMap vlC)[(i + 1) * 3 + j]? = (r.flatMap vlC)[i * 3 + j]? := by
        intro j
        rw [List.getElem?_append_right (by simp [vlC]; omega)]
        congr 1
        simp [vlC]; omega
      exact ⟨(e 0).trans this.1, (e 1).trans this.2.1, (e 2).trans this.2.2⟩

/-- what cells of a row are, by number -/
theorem VsAt.cells {w : World} {L : List Vl} {g o : Nat} (hc : ∀ i x, L[i]? = some x → w.cell? ⟨g, o + i * 3, none⟩ = some (.int .i64 x.k) ∧ w.cell? ⟨g, o + i * 3 + 1, none⟩ = some (.int .i64 x.n) ∧ w.cell? ⟨g, o + i * 3 + 2, none⟩ = some (.string ⟨x.s.toArray⟩)) :
    ∀ j u, (L.flatMap vlC)[j]? = some u → w.cell? ⟨g, o + j, none⟩ = some u := by
  intro j u hj
  have hl := (List.getElem?_eq_some_iff.1 hj).1
  rw [flatV_len] at hl
  obtain ⟨x, hx⟩ : ∃ x, L[j / 3]? = some x := ⟨L[j / 3], List.getElem?_eq_getElem (by omega)⟩
  obtain ⟨f0, f1, f2⟩ := flatV_get L _ x hx
  obtain ⟨c0, c1, c2⟩ := hc _ x hx
  have hm : j % 3 = 0 ∨ j % 3 = 1 ∨ j % 3 = 2 := by omega
  rcases hm with h | h | h
  · have e : j = j / 3 * 3 := by omega
    rw [e] at hj ⊢
    rw [f0] at hj; cases hj; exact c0
  · have e : j = j / 3 * 3 + 1 := by omega
    rw [e] at hj ⊢
    rw [f1] at hj; cases hj
    rw [← Nat.add_assoc]; exact c1
  · have e : j = j / 3 * 3 + 2 := by omega
    rw [e] at hj ⊢
    rw [f2] at hj; cases hj
    rw [← Nat.add_assoc]; exact c2

set_option maxRecDepth 100000 in
set_option maxHeartbeats 1600000 in
theorem clone_any (L : List Vl) (u : Value) (w : World) (h : VsAt w u L) (hz : ∀ ao cap, u = .slice ao 0 cap → ao = none → cap = 0) : Calls Tryz.prog 76 #[u] w fun e w' => ∃ v, e = .returned v ∧ Own w' w.heap.size v L ∧ Below w.heap.size w w' := by
  obtain ⟨i0, hi, hz0, hz1, hz2⟩ := info_parts Tryz.info_val
  obtain ⟨ao, cap, rfl, hl, hs, hc⟩ := h
  obtain ⟨n, hn⟩ : ∃ n, L.length = n := ⟨_, rfl⟩
  have q22 : ∀ (w : World) (a : Option Addr) (n c n' c' : Nat), (binOp .eql 41 (.slice a n c) (.slice none n' c')).run Tryz.prog w = .ok (.bool a.isNone) w := fun w a n c n' c' => Lib.run_eql_slice_nil w _ _ a n c n' c' Tryz.underlying41
  cases ao with
  | none =>
    have h0 : L = [] := by
      rcases Classical.em (L = []) with h | h
      · exact h
      · obtain ⟨g, o, e, -⟩ := hc h; cases e
    subst h0
    obtain rfl := hz none cap rfl rfl
    clear hc
    go_enter Tryz.func76, Tryz.ntmps76
    go_wp2
    go_ret
    exact ⟨_, rfl, World.ownsRow_nil _ _ _ _, Below.refl _ _⟩
  | some ad =>
    have hnews : ∀ j x, (L.flatMap vlC)[j]? = some x → (w.alloc (.cells #[] 49)).cell? (ad.add j) = some x := by
      rcases Classical.em (L = []) with h | h
      · intro j x hj; rw [h] at hj; simp at hj
      · obtain ⟨g, o, e, hg, hcc⟩ := hc h
        cases e
        intro j x hj
        rw [Go.WideShapes.add_plain]
        exact (((Below.refl w.heap.size w).alloc (Nat.le_refl _) _).cell (p := ⟨g, o + j, none⟩) hg).trans (VsAt.cells hcc j x hj)
    have hnl := flatV_len L
    have h1 := flatV_one L
    have b0 := (Below.refl w.heap.size w).alloc (Nat.le_refl _) (.cells #[] 49)
    unfold Own
    generalize L.flatMap vlC = news at hnews hnl h1 ⊢
    rw [hn] at hl hnl ⊢
    clear hc hs
    go_enter Tryz.func76, Tryz.ntmps76
    go_wp2_with (at_builtin; refine wpList_append_own _ rfl _ _ 41 rfl w.heap.size 49 i0 (.agg #[.int .i64 0, .int .i64 0, .string ⟨#[]⟩]) 3 32 Tryz.underlying41 hi hz0 hz1 hz2 rfl (by decide) _ _ _ rfl (World.ownsRow_made w #[] 0 (Nat.le_refl _) (Nat.zero_le _) rfl) ad n cap news rfl hnl hnews h1 ?c3 ?c4 ?c5 ?_)
    case c3 => unfold maxLen; omega
    case c4 => omega
    case c5 => simp
    intro v' w' hown hgrow _
    have hb := b0.grown hgrow (by simp) (fun j hj => by cases hj; exact Nat.le_refl _)
    clear hnews
    go_wp2
    go_ret
    exact ⟨_, rfl, by simpa using hown, hb⟩

end Go.Proofs.YtcnnjladaoaeiaaGreatDoor
