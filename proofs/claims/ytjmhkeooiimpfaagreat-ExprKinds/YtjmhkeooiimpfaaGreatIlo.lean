/-
  'isLong' of package expr.
-/
import Derived.Test.YtjmhkeooiimpfaaGreatShf
namespace Go.Proofs.YtjmhkeooiimpfaaGreat
open Go.RowKit

/-- the command that is asked: of no kind, its condition the expression -/
def cmOf (x : Ex) : Cm := { kind := 0, name := [], other := [], column := [], cols := [], ty := 0, val := vl0, vals := [], fields := [], expr := .mk 0 vl0 [] [], all := false, wh := x, order := [], limit := 0 }

theorem manyC_of (x : Ex) : manyC (cmOf x) = decide (15 < sizeE x) := by
  rw [Bool.eq_iff_iff]; simp [manyC, cmOf, sizeE, sizeL]; exact decide_eq_true_iff

theorem fit_nil : Fit (.mk 0 vl0 [] []) := .mk 0 vl0 [] [] (by simp [vl0]) (by simp) (by simp) (by simp)

set_option maxRecDepth 100000 in
set_option maxHeartbeats 1600000 in
theorem islong_any {w : World} {u : Value} {x : Ex} (h : ExAt 0 w u x) (hf : Fit x) :
    Calls Tryz.prog 13 #[u] w fun e w' => e = .returned (.bool (decide (15 < sizeE x))) ∧ Below w.heap.size w w' := by
  obtain ⟨ao, ca, rfl⟩ := h.len
  have H : ∀ W : World, Below w.heap.size w W → Calls Tryz.prog 22 #[.agg (cmL (cmOf x) (.slice none 0 0) (.slice none 0 0) (.slice none 0 0) (.slice none 0 0) (.slice ao x.args.length ca)).toArray] W fun e w' => e = .returned (.int .i64 (chkC (decide (15 < sizeE x)) false)) ∧ Below W.heap.size W w' := by
    intro W hW
    refine checkC_any (w := W) (cmOf x) (.slice none 0 0) (.slice none 0 0) (.slice none 0 0) (.slice none 0 0) (.slice ao x.args.length ca) _ _ (fun W' hW' => ?_) (fun W' hW' => ?_)
    · rw [← manyC_of]
      exact hasMany_any (w := W') (cmOf x) none none none none ao 0 0 0 0 ca (.nil 0 vl0 [] none 0 (fun _ => rfl)) ((h.under hW).under hW') fit_nil hf
    · exact isRight_out (cmOf x) _ _ _ _ _ (by simp [cmOf])
  have e : (cmL (cmOf x) (.slice none 0 0) (.slice none 0 0) (.slice none 0 0) (.slice none 0 0) (.slice ao x.args.length ca)).toArray = #[.int .i64 0, .string ⟨#[]⟩, .string ⟨#[]⟩, .string ⟨#[]⟩, .slice none 0 0, .int .i64 0, .int .i64 0, .int .i64 0, .string ⟨#[]⟩, .slice none 0 0, .slice none 0 0,
      .int .i64 0, .int .i64 0, .int .i64 0, .string ⟨#[]⟩, .string ⟨#[]⟩, .slice none 0 0, .bool false, .int .i64 x.k, .int .i64 x.v.k, .int .i64 x.v.n, .string ⟨x.v.s.toArray⟩, .string ⟨x.nm.toArray⟩, .slice ao x.args.length ca, .string ⟨#[]⟩, .int .i64 0] := rfl
  rw [e] at H
  have b0 := (Below.refl w.heap.size w).alloc (Nat.le_refl _) (.cells #[.int .i64 x.k, .int .i64 x.v.k, .int .i64 x.v.n, .string ⟨x.v.s.toArray⟩, .string ⟨x.nm.toArray⟩, .slice ao x.args.length ca] 28)
  have H1 := H _ b0
  simp only [exV]
  generalize decide (15 < sizeE x) = M at H1 ⊢
  clear H e h hf
  go_enter Tryz.func13, Tryz.ntmps13
  go_wp2_with fail
  refine H1.mono ?_
  rintro e w1 ⟨rfl, b1⟩
  have q1 : Below w.heap.size w w1 := b0.trans (b1.mono (by simp))
  clear H1 b0 b1
  cases M
  · go_wp2
    go_ret
    exact ⟨rfl, q1⟩
  · go_wp2
    go_ret
    exact ⟨rfl, q1⟩

end Go.Proofs.YtjmhkeooiimpfaaGreat
