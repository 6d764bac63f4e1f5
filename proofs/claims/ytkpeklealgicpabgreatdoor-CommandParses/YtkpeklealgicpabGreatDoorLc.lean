/-
  'isExpr' of package command, whole.
  'areColumns', 'areValues', 'isWhere', 'namedBy' of package command.
  'isWhere', what 'namedBy' answers of no kind, and the choice in 'isRight'.
  'isLong' of package command.
  'isLong' of package command: the loop.
  'hasMany' of package command.
  What Check takes, and what the document's Check takes: they are the same.
  Regions that draw their order, of which nothing is wanted any more: whatever the order, each slot that is not guarded holds false.
  'isRight' of package command.
  'Check' of package command, out of what 'hasMany' and 'isRight' answer.
  Regions that draw their order, with calls: what each operation leaves is known beforehand; whatever the order, that is what is left.
  The region of 'isRight', and what its operations do one by one.
  What the operations of isRight's region do.
  Regions that draw their order, with guards and calls: what a program needs that writes their walks.
  A region that keeps its order, with guards and calls, on any frame; what some more operations do.
  Regions with guards and calls, an operation a row.
  isRight: its region.
  isRight, of any kind.
  Check, whole: 2 where a count is past its limit, 0 where the command is right, else 1.
  What is true of every token that is scanned.
  The document's reader, without memory.
  The document's reader, without memory, on.
  The program's parser is the document's reader, on whatever is scanned.
  The document's reader, as it goes on whether it has failed or not: where it is, and whether it has.
  The document's own small functions (package overhaulref), as the laws call them: they answer the same plain functions.
  The document's 'TokenWrong' and 'ScanOf' (package overhaulref): they answer the same plain functions as the program's.
  The document's 'IsToken' (package overhaulref): it is what 'alone' asks.
  What is parsed is never long.
  Parse: where the scan fails.
-/
import Derived.Laws.AppendOwnNone
import Derived.Deep.RegionHeld3
import Derived.Test.YtkpeklealgicpabGreatDoorLb

set_option maxRecDepth 100000
set_option maxHeartbeats 8000000
namespace Go.Proofs.YtkpeklealgicpabGreatDoor
open Go.RowKit
mutual
def rightE : Ex → Bool
  | .mk k v nm args =>
    if k = 1 then valB v && decide (nm = []) && decide (args.length = 0)
    else if k = 2 then noneV v && nameW nm && decide (args.length = 0)
    else noneV v && decide (nm = []) && decide (0 < args.length) && decide (args.length = argsN k) && rightL args
def rightL : List Ex → Bool
  | [] => true
  | x :: xs => rightE x && rightL xs
end
theorem rightL_all : ∀ l : List Ex, rightL l = l.all rightE := by
  intro l
  induction l with
  | nil => rw [rightL]; rfl
  | cons x xs ih => rw [rightL, ih]; rfl
inductive Fit : Ex → Prop where
  | mk (k : Int) (v : Vl) (nm : List UInt8) (args : List Ex) (hv : v.s.length ≤ 140737488355328) (hn : nm.length ≤ 140737488355328) (ha : args.length * 80 ≤ 140737488351232) (h : ∀ y ∈ args, Fit y) : Fit (.mk k v nm args)
theorem isExpr_any {B : Nat} {w0 : World} {u : Value} {x : Ex} (h : ExAt B w0 u x) : Fit x → ∀ W : World, Below w0.heap.size w0 W → Laid W →
    Calls Tryz.prog 78 #[u] W fun e w' => e = .returned (.bool (rightE x)) ∧ Below W.heap.size W w' := by
  induction h with
  | nil k v nm ao cap _ =>
    intro hf W hb hl
    cases hf with
    | mk _ _ _ _ hv hn ha hh =>
    rw [rightE, exV]
    by_cases h1 : k = 1
    · rw [if_pos h1]
      exact isExpr_1 k v nm ao 0 cap W h1 hv
    rw [if_neg h1]
    by_cases h2 : k = 2
    · rw [if_pos h2]
      exact isExpr_2 k v nm ao 0 cap W h2 hn hl
    rw [if_neg h2]
    have := isExpr_o k v nm ao 0 cap W (by simpa using h1) (by simpa using h2) _ _ rfl rfl (.inr (.inr rfl))
    simpa using this
  | args k v nm b off cap xs us hx hB hsz hc h ih =>
    intro hf W hb hl
    cases hf with
    | mk _ _ _ _ hv hn ha hh =>
    have hpos : 0 < xs.length := List.length_pos_iff.2 hx
    rw [rightE, exV]
    by_cases h1 : k = 1
    · rw [if_pos h1]
      exact isExpr_1 k v nm _ xs.length cap W h1 hv
    rw [if_neg h1]
    by_cases h2 : k = 2
    · rw [if_pos h2]
      exact isExpr_2 k v nm _ xs.length cap W h2 hn hl
    rw [if_neg h2]
    have q1 : (k == 1) = false := by simpa using h1
    have q2 : (k == 2) = false := by simpa using h2
    have hs := same0 v
    have hne : nm.isEmpty = decide (nm = []) := by cases nm <;> simp
    cases hN : noneV v
    · rw [hN] at hs
      have := isExpr_o k v nm (some ⟨b, off, none⟩) xs.length cap W q1 q2 false _ hs rfl (.inl rfl)
      simpa using this
    rw [hN] at hs
    by_cases hm : nm = []
    · have hne' : nm.isEmpty = true := by rw [hne]; simp [hm]
      by_cases hr : xs.length = argsN k
      · have hall : ∀ W', Below W.heap.size W W' → Calls Tryz.prog 129 #[.slice (some ⟨b, off, none⟩) xs.length cap, .func (.func 78) #[] #[]] W' fun e w' => e = .returned (.bool (xs.all rightE)) ∧ Below W'.heap.size W' w' := by
          intro W' hW'
          have hb' : Below w0.heap.size w0 W' := hb.trans (hW'.mono hb.size)
          have hform : ∀ i : Nat, ∃ p : Option Addr × Nat × Nat, ∀ y, xs[i]? = some y → us i = exV y.k y.v y.nm (.slice p.1 p.2.1 p.2.2) := by
            intro i
            cases hi : xs[i]? with
            | none => exact ⟨(none, 0, 0), fun y hy => by cases hy⟩
            | some z =>
              obtain ⟨k', v', nm', ao, n, ca, e⟩ := (h i z hi).form
              have hp := ExAt.parts (e ▸ h i z hi)
              refine ⟨(ao, n, ca), fun y hy => ?_⟩
              cases hy
              rw [e, hp.1, hp.2.1, hp.2.2]
          have hf := fun i => Classical.choose_spec (hform i)
          refine all_exp (fun i => (Classical.choose (hform i)).1) (fun i => (Classical.choose (hform i)).2.1) (fun i => (Classical.choose (hform i)).2.2) rightE b off cap xs W' (Nat.lt_of_lt_of_le hsz hb'.size) (by omega) ?_ ?_
          · intro i y hy
            obtain ⟨k', v', nm', a', e, c0, c1, c2, c3, c4, c5⟩ := hc i (List.getElem?_eq_some_iff.1 hy).1
            have e2 := e.symm.trans (hf i y hy)
            simp only [exV, Value.agg.injEq, Array.mk.injEq, List.cons.injEq, and_true] at e2
            obtain ⟨r0, r1, r2, r3, r4, r5⟩ := e2
            have cl : ∀ o, W'.cell? ⟨b, o, none⟩ = w0.cell? ⟨b, o, none⟩ := fun o => hb'.cell (p := ⟨b, o, none⟩) hsz
            rw [Nat.mul_comm i 6]
            exact ⟨(cl _).trans (c0.trans (congrArg some r0)), (cl _).trans (c1.trans (congrArg some r1)), (cl _).trans (c2.trans (congrArg some r2)), (cl _).trans (c3.trans (congrArg some r3)), (cl _).trans (c4.trans (congrArg some r4)), (cl _).trans (c5.trans (congrArg some r5))⟩
          · intro i y hy W2 hW2
            have := ih i y hy (hh y (List.mem_of_getElem? hy)) W2 (hb'.trans (hW2.mono hb'.size)) ((hl.below hW').below hW2)
            rw [hf i y hy] at this
            exact this
        have := isExpr_e k v nm (some ⟨b, off, none⟩) xs.length cap W q1 q2 hs hne' hpos (xs.all rightE) (fun W' => by have := argsOf_any k W'; rw [← hr] at this; exact this) hall
        rw [rightL_all, decide_eq_true hm, decide_eq_true hpos, decide_eq_true hr]
        simpa only [Bool.true_and] using this
      · have := isExpr_n k v nm (some ⟨b, off, none⟩) xs.length cap W q1 q2 hs hne' hpos (argsN k) (by rw [beq_eq_false_iff_ne]; omega) (fun W' => argsOf_any k W')
        simpa [hr] using this
    · have hne' : nm.isEmpty = false := by rw [hne]; simp [hm]
      have := isExpr_o k v nm (some ⟨b, off, none⟩) xs.length cap W q1 q2 true false hs hne' (.inr (.inl rfl))
      simpa [hm] using this
theorem flat_get {α : Type} (cf : α → List Value) (sz : Nat) (hsz : ∀ x, (cf x).length = sz) : ∀ (l : List α) (k : Nat) (x : α), l[k]? = some x → ∀ q, q < sz → (l.flatMap cf)[k * sz + q]? = (cf x)[q]? := by
  intro l
  induction l with
  | nil => intro k x h; simp at h
  | cons y r ih =>
    intro k x h q hq
    rw [List.flatMap_cons]
    cases k with
    | zero =>
      simp only [List.getElem?_cons_zero, Option.some.injEq] at h
      subst h
      rw [Nat.zero_mul, Nat.zero_add, List.getElem?_append_left (by rw [hsz]; exact hq)]
    | succ k =>
      have e : (k + 1) * sz + q = (cf y).length + (k * sz + q) := by rw [hsz, Nat.succ_mul]; omega
      rw [e, List.getElem?_append_right (by omega), Nat.add_sub_cancel_left]
      exact ih k x (by simpa using h) q hq
def areCols (l : List Cl) : Bool := decide (0 < l.length) && l.all colB
def areVals (l : List Vl) : Bool := decide (0 < l.length) && l.all valB
theorem cols_any {B : Nat} {u : Value} (l : List Cl) (w : World) (h : RowAt B w u l.length (l.flatMap clC)) (hn : l.length ≤ 1000000000000000) (hs : ∀ x ∈ l, x.name.length ≤ 140737488355328) (hl : Laid w) :
    Calls Tryz.prog 73 #[u] w fun e w' => e = .returned (.bool (areCols l)) ∧ Below w.heap.size w w' := by
  unfold areCols
  rcases h with ⟨h0, ao, cap, rfl⟩ | ⟨b, off, cap, rfl, hB, hlt, hc⟩
  · rw [h0]
    go_enter Tryz.func73, Tryz.ntmps73
    go_wp2
    go_ret
    exact ⟨rfl, Below.refl _ _⟩
  · have ha := all_col b off cap l w hlt hn (fun k x hx => ?_) (fun k x hx W hW => isColumn_any x W (hs x (List.mem_of_getElem? hx)) (hl.below hW))
    rotate_left
    · have g := flat_get clC 2 (fun _ => rfl) l k x hx
      exact ⟨hc _ _ (g 0 (by decide)), hc _ _ (g 1 (by decide))⟩
    by_cases hp : 0 < l.length
    · have hp' : (0 : Int) < (l.length : Int) := by omega
      rw [decide_eq_true hp, Bool.true_and]
      generalize l.all colB = A at ha ⊢
      generalize l.length = n at ha hp hp' ⊢
      go_enter Tryz.func73, Tryz.ntmps73
      go_wp2_with (go_at_call 121; refine ha.mono ?_; rintro e w1 ⟨rfl, b1⟩)
      go_ret
      exact ⟨rfl, b1⟩
    · have h0 : l.length = 0 := by omega
      rw [h0]
      clear ha
      go_enter Tryz.func73, Tryz.ntmps73
      go_wp2
      go_ret
      exact ⟨rfl, Below.refl _ _⟩
theorem vals_any {B : Nat} {u : Value} (l : List Vl) (w : World) (h : RowAt B w u l.length (l.flatMap vlC)) (hn : l.length ≤ 1000000000000000) (hs : ∀ x ∈ l, x.s.length ≤ 140737488355328) :
    Calls Tryz.prog 76 #[u] w fun e w' => e = .returned (.bool (areVals l)) ∧ Below w.heap.size w w' := by
  unfold areVals
  rcases h with ⟨h0, ao, cap, rfl⟩ | ⟨b, off, cap, rfl, hB, hlt, hc⟩
  · rw [h0]
    go_enter Tryz.func76, Tryz.ntmps76
    go_wp2
    go_ret
    exact ⟨rfl, Below.refl _ _⟩
  · have ha := all_val b off cap l w hlt hn (fun k x hx => ?_) (fun k x hx W hW => isValue_any x W (hs x (List.mem_of_getElem? hx)))
    rotate_left
    · have g := flat_get vlC 3 (fun _ => rfl) l k x hx
      exact ⟨hc _ _ (g 0 (by decide)), hc _ _ (g 1 (by decide)), hc _ _ (g 2 (by decide))⟩
    by_cases hp : 0 < l.length
    · have hp' : (0 : Int) < (l.length : Int) := by omega
      rw [decide_eq_true hp, Bool.true_and]
      generalize l.all valB = A at ha ⊢
      generalize l.length = n at ha hp hp' ⊢
      go_enter Tryz.func76, Tryz.ntmps76
      go_wp2_with (go_at_call 125; refine ha.mono ?_; rintro e w1 ⟨rfl, b1⟩)
      go_ret
      exact ⟨rfl, b1⟩
    · have h0 : l.length = 0 := by omega
      rw [h0]
      clear ha
      go_enter Tryz.func76, Tryz.ntmps76
      go_wp2
      go_ret
      exact ⟨rfl, Below.refl _ _⟩
def maskN (k : Int) : Nat := if k = 1 then 9 else if k = 2 ∨ k = 9 then 1 else if k = 3 then 53 else if k = 4 then 5 else if k = 5 ∨ k = 8 then 7 else if k = 6 then 21 else if k = 7 then 3 else if k = 10 then 65 else if k = 11 then 513 else if k = 12 then 773 else if k = 13 then 3713 else 0
def kindB (k : Int) : Bool := decide (1 ≤ k ∧ k ≤ 16)
theorem namedBy_in (w : World) : ∀ k : Nat, 1 ≤ k → k ≤ 16 → Calls Tryz.prog 70 #[.int .i64 (k : Int)] w fun e w' => e = .returned (.tuple #[.int .i64 (maskN k : Nat), .bool true]) ∧ w' = w := by
  intro k h1 h2
  obtain rfl | rfl | rfl | rfl | rfl | rfl | rfl | rfl | rfl | rfl | rfl | rfl | rfl | rfl | rfl | rfl : k = 1 ∨ k = 2 ∨ k = 3 ∨ k = 4 ∨ k = 5 ∨ k = 6 ∨ k = 7 ∨ k = 8 ∨ k = 9 ∨ k = 10 ∨ k = 11 ∨ k = 12 ∨ k = 13 ∨ k = 14 ∨ k = 15 ∨ k = 16 := by omega
  all_goals
    go_enter Tryz.func70, Tryz.ntmps70
    go_wp2
    go_ret2
    exact ⟨rfl, rfl⟩
theorem ExAt.len {B : Nat} {w : World} {u : Value} {x : Ex} (h : ExAt B w u x) : ∃ ao ca, u = exV x.k x.v x.nm (.slice ao x.args.length ca) := by
  cases h with
  | nil k v nm ao cap _ => exact ⟨_, _, rfl⟩
  | args k v nm b off cap xs us => exact ⟨_, _, rfl⟩
def whereB (all : Bool) (x : Ex) : Bool := if all = true then noneE x else rightE x
theorem isWhere_any {B : Nat} {w : World} {u : Value} {x : Ex} (all : Bool) (h : ExAt B w u x) (hf : Fit x) (hl : Laid w) :
    Calls Tryz.prog 80 #[.bool all, u] w fun e w' => e = .returned (.bool (whereB all x)) ∧ Below w.heap.size w w' := by
  obtain ⟨ao, ca, rfl⟩ := h.len
  have hx := isExpr_any h hf
  rw [exV] at hx ⊢
  have b0 := (Below.refl w.heap.size w).alloc (Nat.le_refl _) (.cells #[.int .i64 x.k, .int .i64 x.v.k, .int .i64 x.v.n, .string ⟨x.v.s.toArray⟩, .string ⟨x.nm.toArray⟩, .slice ao x.args.length ca] 29)
  have h1 := hx _ b0 (hl.below b0)
  have h2 := isNone_any x ao ca (w.alloc (.cells #[.int .i64 x.k, .int .i64 x.v.k, .int .i64 x.v.n, .string ⟨x.v.s.toArray⟩, .string ⟨x.nm.toArray⟩, .slice ao x.args.length ca] 29))
  clear hx h hf
  unfold whereB
  cases all
  · simp only [Bool.false_eq_true, if_false]
    generalize rightE x = R at h1 ⊢
    go_enter Tryz.func80, Tryz.ntmps80
    go_wp2_with (go_at_call 78; refine h1.mono ?_; rintro e w1 ⟨rfl, b1⟩)
    go_ret
    exact ⟨rfl, b0.trans (b1.mono (by simp))⟩
  · simp only [if_true]
    generalize noneE x = R at h2 ⊢
    go_enter Tryz.func80, Tryz.ntmps80
    go_wp2_with (go_at_call 79; refine h2.mono ?_; rintro e w1 ⟨rfl, b1⟩)
    go_ret
    exact ⟨rfl, b0.trans (b1.mono (by simp))⟩
theorem namedBy_out (w : World) (k : Int) (h : ¬ (1 ≤ k ∧ k ≤ 16)) : Calls Tryz.prog 70 #[.int .i64 k] w fun e w' => e = .returned (.tuple #[.int .i64 0, .bool false]) ∧ w' = w := by
  have q : ∀ j : Int, 1 ≤ j → j ≤ 16 → (k == j) = false := fun j h1 h2 => by rw [beq_eq_false_iff_ne]; omega
  have a1 := q 1 (by decide) (by decide)
  have a2 := q 2 (by decide) (by decide)
  have a3 := q 3 (by decide) (by decide)
  have a4 := q 4 (by decide) (by decide)
  have a5 := q 5 (by decide) (by decide)
  have a6 := q 6 (by decide) (by decide)
  have a7 := q 7 (by decide) (by decide)
  have a8 := q 8 (by decide) (by decide)
  have a9 := q 9 (by decide) (by decide)
  have a10 := q 10 (by decide) (by decide)
  have a11 := q 11 (by decide) (by decide)
  have a12 := q 12 (by decide) (by decide)
  have a13 := q 13 (by decide) (by decide)
  have a14 := q 14 (by decide) (by decide)
  have a15 := q 15 (by decide) (by decide)
  have a16 := q 16 (by decide) (by decide)
  clear q h
  go_enter Tryz.func70, Tryz.ntmps70
  go_wp2
  go_ret2
  exact ⟨rfl, rfl⟩
def hasB (m o : Int) : Bool := bits BinOp.and IntKind.i64 m o != 0
theorem is_any (m o : Int) (r e : Bool) (nb : Nat) (w : World) (hc : w.cell? ⟨nb, 0, none⟩ = some (.int .i64 m)) :
    Calls Tryz.prog 71 #[.int .i64 o, .bool r, .bool e, .pointer (some ⟨nb, 0, none⟩)] w fun e' w' => e' = .returned (.bool (if hasB m o = true then r else e)) ∧ w' = w := by
  have hh : hasB m o = (bits BinOp.and IntKind.i64 m o != 0) := rfl
  cases hq : (bits BinOp.and IntKind.i64 m o != 0)
  · rw [hh, hq]
    simp only [Bool.false_eq_true, if_false]
    clear hh
    go_enter Tryz.func71, Tryz.ntmps71
    go_wp2
    go_ret
    exact ⟨rfl, rfl⟩
  · rw [hh, hq]
    simp only [if_true]
    clear hh
    go_enter Tryz.func71, Tryz.ntmps71
    go_wp2
    go_ret
    exact ⟨rfl, rfl⟩
mutual
def sizeE : Ex → Nat
  | .mk _ _ _ args => sizeL args + 1
def sizeL : List Ex → Nat
  | [] => 0
  | x :: xs => sizeE x + sizeL xs
end
theorem sizeL_append (a b : List Ex) : sizeL (a ++ b) = sizeL a + sizeL b := by
  induction a with
  | nil => rw [List.nil_append, sizeL, Nat.zero_add]
  | cons x r ih => rw [List.cons_append, sizeL, sizeL, ih]; omega
theorem sizeE_pos (x : Ex) : 1 ≤ sizeE x := by
  cases x; rw [sizeE]; omega
theorem sizeL_len (l : List Ex) : l.length ≤ sizeL l := by
  induction l with
  | nil => rw [sizeL]; exact Nat.le_refl _
  | cons x r ih => rw [sizeL, List.length_cons]; have := sizeE_pos x; omega
theorem sizeE_args (x : Ex) : sizeE x = sizeL x.args + 1 := by cases x; rw [sizeE]; rfl
def exC (p : Ex × Value) : List Value := [.int .i64 p.1.k, .int .i64 p.1.v.k, .int .i64 p.1.v.n, .string ⟨p.1.v.s.toArray⟩, .string ⟨p.1.nm.toArray⟩, p.2]
theorem flatC_len (l : List (Ex × Value)) : (l.flatMap exC).length = l.length * 6 := by
  induction l with
  | nil => rfl
  | cons x r ih => rw [List.flatMap_cons, List.length_append, ih, List.length_cons]; simp only [exC, List.length_cons, List.length_nil]; omega
theorem ExAt.pairs {B : Nat} {w : World} {x : Ex} {a : Value} (h : ExAt B w (exV x.k x.v x.nm a) x) :
    ∃ (ao : Option Addr) (ca : Nat) (ps : List (Ex × Value)), a = .slice ao x.args.length ca ∧ ps.map (·.1) = x.args ∧ (∀ p ∈ ps, ExAt B w (exV p.1.k p.1.v p.1.nm p.2) p.1) ∧ (x.args = [] → ao = none → ca = 0) ∧
      (x.args ≠ [] → ∃ b off, ao = some ⟨b, off, none⟩ ∧ b < w.heap.size ∧ ∀ j u, (ps.flatMap exC)[j]? = some u → w.cell? ⟨b, off + j, none⟩ = some u) := by
  have go : ∀ u, ExAt B w u x → u = exV x.k x.v x.nm a → ∃ (ao : Option Addr) (ca : Nat) (ps : List (Ex × Value)), a = .slice ao x.args.length ca ∧ ps.map (·.1) = x.args ∧ (∀ p ∈ ps, ExAt B w (exV p.1.k p.1.v p.1.nm p.2) p.1) ∧ (x.args = [] → ao = none → ca = 0) ∧
      (x.args ≠ [] → ∃ b off, ao = some ⟨b, off, none⟩ ∧ b < w.heap.size ∧ ∀ j u, (ps.flatMap exC)[j]? = some u → w.cell? ⟨b, off + j, none⟩ = some u) := by
    intro u hu e
    cases hu with
    | nil k v nm ao cap hz =>
      simp only [exV, Value.agg.injEq, Array.mk.injEq, List.cons.injEq, and_true] at e
      exact ⟨ao, cap, [], e.2.2.2.2.2.symm, rfl, (by intro p hp; cases hp), fun _ => hz, fun hh => absurd rfl hh⟩
    | args k v nm b off cap xs us hx hB hs hc hh =>
      simp only [exV, Value.agg.injEq, Array.mk.injEq, List.cons.injEq, and_true] at e
      have hform : ∀ i : Nat, ∃ s : Value, ∀ y, xs[i]? = some y → us i = exV y.k y.v y.nm s := by
        intro i
        cases hi : xs[i]? with
        | none => exact ⟨undef, fun y hy => by cases hy⟩
        | some z =>
          obtain ⟨k', v', nm', ao, n, ca, e⟩ := (hh i z hi).form
          have hp := ExAt.parts (e ▸ hh i z hi)
          refine ⟨.slice ao n ca, fun y hy => ?_⟩
          cases hy
          rw [e, hp.1, hp.2.1, hp.2.2]
      have hf := fun i => Classical.choose_spec (hform i)
      generalize hS : (fun i => Classical.choose (hform i)) = S at hf
      have hf' : ∀ i y, xs[i]? = some y → us i = exV y.k y.v y.nm (S i) := fun i y hy => by have := hf i y hy; rw [← hS]; exact this
      let ps : List (Ex × Value) := xs.mapIdx fun i y => (y, S i)
      have hget : ∀ i : Nat, ps[i]? = (xs[i]?).map fun y => (y, S i) := fun i => List.getElem?_mapIdx
      refine ⟨some ⟨b, off, none⟩, cap, ps, e.2.2.2.2.2.symm, ?_, ?_, (fun _ hh => by cases hh), fun _ => ⟨b, off, rfl, hs, ?_⟩⟩
      · apply List.ext_getElem?
        intro i
        rw [List.getElem?_map, hget, Option.map_map]
        show Option.map _ xs[i]? = xs[i]?
        cases xs[i]? <;> rfl
      · intro p hp
        obtain ⟨i, hi⟩ := List.mem_iff_getElem?.1 hp
        rw [hget] at hi
        obtain ⟨y, hy, rfl⟩ := Option.map_eq_some_iff.1 hi
        have := hh i y hy
        rw [hf' i y hy] at this
        exact this
      · intro j u hj
        have hjl := (List.getElem?_eq_some_iff.1 hj).1
        rw [flatC_len] at hjl
        have hq : j % 6 < 6 := Nat.mod_lt _ (by decide)
        have hjk : j = (j / 6) * 6 + j % 6 := by omega
        have hk : j / 6 < ps.length := by omega
        have hx' : ps[j / 6]? = some ps[j / 6] := List.getElem?_eq_getElem hk
        have hfg := flat_get exC 6 (fun _ => rfl) ps (j / 6) _ hx' (j % 6) hq
        rw [← hjk] at hfg
        rw [hfg] at hj
        rw [hget] at hx'
        obtain ⟨y, hy, hyp⟩ := Option.map_eq_some_iff.1 hx'
        rw [← hyp] at hj
        obtain ⟨k', v', nm', a', e', c0, c1, c2, c3, c4, c5⟩ := hc (j / 6) (List.getElem?_eq_some_iff.1 hy).1
        have e2 := e'.symm.trans (hf' (j / 6) y hy)
        simp only [exV, Value.agg.injEq, Array.mk.injEq, List.cons.injEq, and_true] at e2
        obtain ⟨r0, r1, r2, r3, r4, r5⟩ := e2
        have hoff : off + j = off + 6 * (j / 6) + j % 6 := by omega
        rw [hoff]
        generalize j % 6 = q at hj hq
        match q, hq, hj with
        | 0, _, hj => exact c0.trans ((congrArg some r0).trans hj)
        | 1, _, hj => exact c1.trans ((congrArg some r1).trans hj)
        | 2, _, hj => exact c2.trans ((congrArg some r2).trans hj)
        | 3, _, hj => exact c3.trans ((congrArg some r3).trans hj)
        | 4, _, hj => exact c4.trans ((congrArg some r4).trans hj)
        | 5, _, hj => exact c5.trans ((congrArg some r5).trans hj)
  exact go _ h rfl
theorem Tryz.info_ex : (Tryz.prog.info? 29).map (fun i => (i.zero, i.size, i.bytes)) = some (some (.agg #[.int .i64 0, .int .i64 0, .int .i64 0, .string ⟨#[]⟩, .string ⟨#[]⟩, .slice none 0 0]), 6, 80) := by kernel_rfl
theorem Fit.args {x : Ex} (h : Fit x) : x.args.length * 80 ≤ 140737488351232 ∧ ∀ y ∈ x.args, Fit y := by
  cases h with
  | mk k v nm args hv hn ha hh => exact ⟨ha, hh⟩
theorem isLong_any {w : World} {u : Value} {x : Ex} (h : ExAt 0 w u x) (hf : Fit x) :
    Calls Tryz.prog 69 #[u] w fun e w' => e = .returned (.bool (decide (15 < sizeE x))) ∧ Below w.heap.size w w' := by
  obtain ⟨i0, hi, hz0, hz1, hz2⟩ := info_parts Tryz.info_ex
  obtain ⟨ao, ca, rfl⟩ := h.len
  have hx0 : ExAt 0 w (exV x.k x.v x.nm (.slice ao x.args.length ca)) x := h
  rw [exV]
  have b0 := (Below.refl w.heap.size w).alloc (Nat.le_refl _) (.cells #[.int .i64 x.k, .int .i64 x.v.k, .int .i64 x.v.n, .string ⟨x.v.s.toArray⟩, .string ⟨x.nm.toArray⟩, .slice ao x.args.length ca] 29)
  have b1 := b0.alloc (by simp) (.cells #[.int .i64 x.k, .int .i64 x.v.k, .int .i64 x.v.n, .string ⟨x.v.s.toArray⟩, .string ⟨x.nm.toArray⟩, .slice ao x.args.length ca] 29)
  have ow := owns_new (w.alloc (.cells #[.int .i64 x.k, .int .i64 x.v.k, .int .i64 x.v.n, .string ⟨x.v.s.toArray⟩, .string ⟨x.nm.toArray⟩, .slice ao x.args.length ca] 29)) w.heap.size 29 6 #[.int .i64 x.k, .int .i64 x.v.k, .int .i64 x.v.n, .string ⟨x.v.s.toArray⟩, .string ⟨x.nm.toArray⟩, .slice ao x.args.length ca] rfl (by simp)
  have hpl : (w.alloc (.cells #[.int .i64 x.k, .int .i64 x.v.k, .int .i64 x.v.n, .string ⟨x.v.s.toArray⟩, .string ⟨x.nm.toArray⟩, .slice ao x.args.length ca] 29)).heap.size = w.heap.size + 1 := by simp
  rw [hpl] at ow
  have HS : Hid (sizeE x = 0 + sizeL (([(x, Value.slice ao x.args.length ca)].drop 0).map (·.1))) := by show _ = _; simp [sizeL]
  go_enter Tryz.func69, Tryz.ntmps69
  go_wp2
  go_loopw [3, 4] (fun v i wr => ∃ (ps : List (Ex × Value)) (k : Nat), i = .int .i64 (k : Int) ∧ wr.ownsRow w.heap.size 29 6 v ps.length (ps.flatMap exC) ∧ Below w.heap.size w wr ∧ k ≤ ps.length ∧ Hid (∀ p ∈ ps, ExAt 0 w (exV p.1.k p.1.v p.1.nm p.2) p.1 ∧ Fit p.1) ∧ ps.length ≤ 2000000000000 ∧
      Hid (sizeE x = k + sizeL ((ps.drop k).map (·.1)))) (fun _ i _ => 16 - (intOf i).toNat)
  case atStart =>
    exact ⟨[(x, .slice ao x.args.length ca)], 0, rfl, ow, b1, by simp, (by intro p hp; simp at hp; subst hp; exact ⟨hx0, hf⟩), by simp, HS⟩
  case round =>
    obtain ⟨ps, k, rfl, hown, hnx, hk, HP, hlen, HE⟩ := hrel
    clear ow HS b0 b1 hpl h
    by_cases hlt : k < ps.length
    · obtain ⟨g, cap', hv, hg1, hg2⟩ := owns_some hown (by omega)
      subst hv
      by_cases h15 : ps.length ≤ 15
      · obtain ⟨⟨y, s⟩, hy⟩ : ∃ p, ps[k]? = some p := ⟨ps[k], List.getElem?_eq_getElem hlt⟩
        obtain ⟨hye, hyf⟩ := HP.out _ (List.mem_of_getElem? hy)
        obtain ⟨ao2, ca2, qs, hs, hmap, hall, hnil, hcells⟩ := ExAt.pairs hye
        have hs : s = .slice ao2 y.args.length ca2 := hs
        have hmap : qs.map (·.1) = y.args := hmap
        have hql : qs.length = y.args.length := by rw [← hmap, List.length_map]
        have hfl := flat_get exC 6 (fun _ => rfl) ps k _ hy 5 (by decide)
        have a5 : wr.cell? ⟨g, k * 6 + 5, none⟩ = some (.slice ao2 y.args.length ca2) := (owned_at hown _ s (hfl.trans rfl)).trans (by rw [hs])
        have hd1 : (k : Int) < (ps.length : Int) := by omega
        have hd2 : (ps.length : Int) ≤ 15 := by omega
        have hfit := hyf.args.1
        have HP2 : Hid (∀ p ∈ ps ++ qs, ExAt 0 w (exV p.1.k p.1.v p.1.nm p.2) p.1 ∧ Fit p.1) := by
          intro p hp
          rcases List.mem_append.1 hp with hp | hp
          · exact HP.out p hp
          · refine ⟨hall p hp, hyf.args.2 p.1 ?_⟩
            rw [← hmap]; exact List.mem_map.2 ⟨p, hp, rfl⟩
        have HE2 : Hid (sizeE x = (k + 1) + sizeL (((ps ++ qs).drop (k + 1)).map (·.1))) := by
          show _ = _
          rw [HE.out, List.drop_eq_getElem_cons hlt, List.map_cons, sizeL]
          have e1 : ps[k] = (y, s) := (List.getElem?_eq_some_iff.1 hy).2
          rw [e1, sizeE_args, List.drop_append_of_le_length (by omega), List.map_append, sizeL_append, hmap]
          dsimp only
          omega
        have hR : ∀ {v' : Value} {w' : World}, w'.ownsRow w.heap.size 29 6 v' (ps.length + y.args.length) (ps.flatMap exC ++ qs.flatMap exC) → w'.ownsRow w.heap.size 29 6 v' (ps ++ qs).length ((ps ++ qs).flatMap exC) := by
          intro v' w' hh
          rw [List.length_append, List.flatMap_append, hql]; exact hh
        have hsz := hnx.size
        have hlt5 := hown.lt
        have hnone : ∀ u ∈ qs.flatMap exC, u.oneCell' = true := by
          intro u hu
          obtain ⟨p, hp, hup⟩ := List.mem_flatMap.1 hu
          have hone := (hall p hp).one
          simp only [exC, List.mem_cons, List.not_mem_nil, or_false] at hup
          rcases hup with rfl | rfl | rfl | rfl | rfl | rfl <;> first | rfl | exact hone
        clear HP HE hye hfl hy
        cases ao2 with
        | none =>
          have hy0 : y.args = [] := by
            rcases Classical.em (y.args = []) with h | h
            · exact h
            · obtain ⟨b, off, hh, -⟩ := hcells h; cases hh
          have hc0 := hnil hy0 rfl
          subst hc0
          have hq0 : qs = [] := by rw [hy0] at hql; exact List.length_eq_zero_iff.1 hql
          rw [hy0] at a5
          simp only [List.length_nil] at a5
          go_wp2_with (at_builtin; refine wpList_append_own_none rfl _ _ 27 rfl w.heap.size 29 i0 6 Tryz.underlying27 hi _ _ _ rfl hown rfl ?_)
          go_roundw
          case rel => exact ⟨ps, k + 1, by go_num, hown, hnx, by omega, (by have := HP2; rw [hq0, List.append_nil] at this; exact this), hlen, (by have := HE2; rw [hq0, List.append_nil] at this; exact this)⟩
          case measure => simp [intOf]; omega
        | some ad =>
          have hnews : ∀ j u, (qs.flatMap exC)[j]? = some u → wr.cell? (ad.add j) = some u := by
            rcases Classical.em (y.args = []) with h | h
            · intro j u hj
              have hq0 : qs = [] := by rw [h] at hql; exact List.length_eq_zero_iff.1 hql
              rw [hq0] at hj; simp at hj
            · obtain ⟨b, off, hh, hb, hc⟩ := hcells h
              intro j u hj
              cases hh
              rw [Addr.add_mid]
              exact (hnx.cell (p := ⟨b, off + j, none⟩) hb).trans (hc j u hj)
          have hnl : (qs.flatMap exC).length = y.args.length * 6 := by rw [flatC_len, hql]
          clear hcells hall hnil
          go_wp2_with (at_builtin; refine wpList_append_own _ rfl _ _ 27 rfl w.heap.size 29 i0 (.agg #[.int .i64 0, .int .i64 0, .int .i64 0, .string ⟨#[]⟩, .string ⟨#[]⟩, .slice none 0 0]) 6 80 Tryz.underlying27 hi hz0 hz1 hz2 rfl (by decide) _ _ _ rfl hown ad y.args.length ca2 (qs.flatMap exC) rfl hnl hnews hnone ?c3 ?c4 ?c5 ?_)
          case c3 => unfold maxLen; omega
          case c4 => omega
          intro v' w3 hown' hgrow _
          have hB3 : Below w.heap.size w w3 := hnx.grown hgrow hsz (fun j hj => (hlt5 j hj).1)
          have R3 := hR hown'
          clear hown' hgrow hown hlt5 hnews
          go_wp2
          go_roundw
          case rel => exact ⟨ps ++ qs, k + 1, by go_num, R3, hB3, by simp; omega, HP2, by simp; omega, HE2⟩
          case measure => simp [intOf]; omega
      · have hd1 : (k : Int) < (ps.length : Int) := by omega
        have HZ : Hid (15 < sizeE x) := by
          show _ < _
          rw [HE.out]
          have := sizeL_len ((ps.drop k).map (·.1))
          rw [List.length_map, List.length_drop] at this
          omega
        have hd2 : decide ((ps.length : Int) ≤ 15) = false := by simp; omega
        have hd3 : decide (ps.length ≤ 15) = false := by simp; omega
        have hd4 : (15 : Int) < (ps.length : Int) := by omega
        clear HE HP
        go_wp2
        go_ret
        exact ⟨ret_bool (by simp [HZ.out]), hnx⟩
    · obtain ⟨ao', cap', hv⟩ := owns_slice hown
      subst hv
      have hkn : k = ps.length := by omega
      have HZ : Hid (sizeE x = ps.length) := by
        show _ = _
        rw [HE.out, hkn, List.drop_length]
        simp [sizeL]
      have hd0 : decide ((k : Int) < (ps.length : Int)) = false := by simp; omega
      clear HE HP
      go_wp2
      go_ret
      exact ⟨ret_bool (by rw [HZ.out, Bool.eq_iff_iff]; simp; omega), hnx⟩
def manyC (c : Cm) : Bool := decide (5 < c.cols.length ∨ 5 < c.vals.length ∨ 5 < c.fields.length) || decide (15 < sizeE c.expr) || decide (15 < sizeE c.wh)
theorem hasMany_any {w : World} (c : Cm) (a1 a2 a3 a4 a5 : Option Addr) (c1 c2 c3 c4 c5 : Nat) (he : ExAt 0 w (exV c.expr.k c.expr.v c.expr.nm (.slice a4 c.expr.args.length c4)) c.expr) (hw : ExAt 0 w (exV c.wh.k c.wh.v c.wh.nm (.slice a5 c.wh.args.length c5)) c.wh) (fe : Fit c.expr) (fw : Fit c.wh) :
    Calls Tryz.prog 28 #[.agg (cmL c (.slice a1 c.cols.length c1) (.slice a2 c.vals.length c2) (.slice a3 c.fields.length c3) (.slice a4 c.expr.args.length c4) (.slice a5 c.wh.args.length c5)).toArray] w fun e w' => e = .returned (.bool (manyC c)) ∧ Below w.heap.size w w' := by
  have b0 := (Below.refl w.heap.size w).alloc (Nat.le_refl _) (.cells (cmL c (.slice a1 c.cols.length c1) (.slice a2 c.vals.length c2) (.slice a3 c.fields.length c3) (.slice a4 c.expr.args.length c4) (.slice a5 c.wh.args.length c5)).toArray 31)
  have d4 : (w.alloc (.cells (cmL c (.slice a1 c.cols.length c1) (.slice a2 c.vals.length c2) (.slice a3 c.fields.length c3) (.slice a4 c.expr.args.length c4) (.slice a5 c.wh.args.length c5)).toArray 31)).cell? ⟨w.heap.size, 4, none⟩ = some (.slice a1 c.cols.length c1) := (Lib.cell_of_heap (heap_alloc_new w (.cells (cmL c (.slice a1 c.cols.length c1) (.slice a2 c.vals.length c2) (.slice a3 c.fields.length c3) (.slice a4 c.expr.args.length c4) (.slice a5 c.wh.args.length c5)).toArray 31)) 4).trans rfl
  have d9 : (w.alloc (.cells (cmL c (.slice a1 c.cols.length c1) (.slice a2 c.vals.length c2) (.slice a3 c.fields.length c3) (.slice a4 c.expr.args.length c4) (.slice a5 c.wh.args.length c5)).toArray 31)).cell? ⟨w.heap.size, 9, none⟩ = some (.slice a2 c.vals.length c2) := (Lib.cell_of_heap (heap_alloc_new w (.cells (cmL c (.slice a1 c.cols.length c1) (.slice a2 c.vals.length c2) (.slice a3 c.fields.length c3) (.slice a4 c.expr.args.length c4) (.slice a5 c.wh.args.length c5)).toArray 31)) 9).trans rfl
  have d10 : (w.alloc (.cells (cmL c (.slice a1 c.cols.length c1) (.slice a2 c.vals.length c2) (.slice a3 c.fields.length c3) (.slice a4 c.expr.args.length c4) (.slice a5 c.wh.args.length c5)).toArray 31)).cell? ⟨w.heap.size, 10, none⟩ = some (.slice a3 c.fields.length c3) := (Lib.cell_of_heap (heap_alloc_new w (.cells (cmL c (.slice a1 c.cols.length c1) (.slice a2 c.vals.length c2) (.slice a3 c.fields.length c3) (.slice a4 c.expr.args.length c4) (.slice a5 c.wh.args.length c5)).toArray 31)) 10).trans rfl
  have d11 : (w.alloc (.cells (cmL c (.slice a1 c.cols.length c1) (.slice a2 c.vals.length c2) (.slice a3 c.fields.length c3) (.slice a4 c.expr.args.length c4) (.slice a5 c.wh.args.length c5)).toArray 31)).cell? ⟨w.heap.size, 11, none⟩ = some (.int .i64 c.expr.k) := (Lib.cell_of_heap (heap_alloc_new w (.cells (cmL c (.slice a1 c.cols.length c1) (.slice a2 c.vals.length c2) (.slice a3 c.fields.length c3) (.slice a4 c.expr.args.length c4) (.slice a5 c.wh.args.length c5)).toArray 31)) 11).trans rfl
  have d12 : (w.alloc (.cells (cmL c (.slice a1 c.cols.length c1) (.slice a2 c.vals.length c2) (.slice a3 c.fields.length c3) (.slice a4 c.expr.args.length c4) (.slice a5 c.wh.args.length c5)).toArray 31)).cell? ⟨w.heap.size, 12, none⟩ = some (.int .i64 c.expr.v.k) := (Lib.cell_of_heap (heap_alloc_new w (.cells (cmL c (.slice a1 c.cols.length c1) (.slice a2 c.vals.length c2) (.slice a3 c.fields.length c3) (.slice a4 c.expr.args.length c4) (.slice a5 c.wh.args.length c5)).toArray 31)) 12).trans rfl
  have d13 : (w.alloc (.cells (cmL c (.slice a1 c.cols.length c1) (.slice a2 c.vals.length c2) (.slice a3 c.fields.length c3) (.slice a4 c.expr.args.length c4) (.slice a5 c.wh.args.length c5)).toArray 31)).cell? ⟨w.heap.size, 13, none⟩ = some (.int .i64 c.expr.v.n) := (Lib.cell_of_heap (heap_alloc_new w (.cells (cmL c (.slice a1 c.cols.length c1) (.slice a2 c.vals.length c2) (.slice a3 c.fields.length c3) (.slice a4 c.expr.args.length c4) (.slice a5 c.wh.args.length c5)).toArray 31)) 13).trans rfl
  have d14 : (w.alloc (.cells (cmL c (.slice a1 c.cols.length c1) (.slice a2 c.vals.length c2) (.slice a3 c.fields.length c3) (.slice a4 c.expr.args.length c4) (.slice a5 c.wh.args.length c5)).toArray 31)).cell? ⟨w.heap.size, 14, none⟩ = some (.string ⟨c.expr.v.s.toArray⟩) := (Lib.cell_of_heap (heap_alloc_new w (.cells (cmL c (.slice a1 c.cols.length c1) (.slice a2 c.vals.length c2) (.slice a3 c.fields.length c3) (.slice a4 c.expr.args.length c4) (.slice a5 c.wh.args.length c5)).toArray 31)) 14).trans rfl
  have d15 : (w.alloc (.cells (cmL c (.slice a1 c.cols.length c1) (.slice a2 c.vals.length c2) (.slice a3 c.fields.length c3) (.slice a4 c.expr.args.length c4) (.slice a5 c.wh.args.length c5)).toArray 31)).cell? ⟨w.heap.size, 15, none⟩ = some (.string ⟨c.expr.nm.toArray⟩) := (Lib.cell_of_heap (heap_alloc_new w (.cells (cmL c (.slice a1 c.cols.length c1) (.slice a2 c.vals.length c2) (.slice a3 c.fields.length c3) (.slice a4 c.expr.args.length c4) (.slice a5 c.wh.args.length c5)).toArray 31)) 15).trans rfl
  have d16 : (w.alloc (.cells (cmL c (.slice a1 c.cols.length c1) (.slice a2 c.vals.length c2) (.slice a3 c.fields.length c3) (.slice a4 c.expr.args.length c4) (.slice a5 c.wh.args.length c5)).toArray 31)).cell? ⟨w.heap.size, 16, none⟩ = some (.slice a4 c.expr.args.length c4) := (Lib.cell_of_heap (heap_alloc_new w (.cells (cmL c (.slice a1 c.cols.length c1) (.slice a2 c.vals.length c2) (.slice a3 c.fields.length c3) (.slice a4 c.expr.args.length c4) (.slice a5 c.wh.args.length c5)).toArray 31)) 16).trans rfl
  have d18 : (w.alloc (.cells (cmL c (.slice a1 c.cols.length c1) (.slice a2 c.vals.length c2) (.slice a3 c.fields.length c3) (.slice a4 c.expr.args.length c4) (.slice a5 c.wh.args.length c5)).toArray 31)).cell? ⟨w.heap.size, 18, none⟩ = some (.int .i64 c.wh.k) := (Lib.cell_of_heap (heap_alloc_new w (.cells (cmL c (.slice a1 c.cols.length c1) (.slice a2 c.vals.length c2) (.slice a3 c.fields.length c3) (.slice a4 c.expr.args.length c4) (.slice a5 c.wh.args.length c5)).toArray 31)) 18).trans rfl
  have d19 : (w.alloc (.cells (cmL c (.slice a1 c.cols.length c1) (.slice a2 c.vals.length c2) (.slice a3 c.fields.length c3) (.slice a4 c.expr.args.length c4) (.slice a5 c.wh.args.length c5)).toArray 31)).cell? ⟨w.heap.size, 19, none⟩ = some (.int .i64 c.wh.v.k) := (Lib.cell_of_heap (heap_alloc_new w (.cells (cmL c (.slice a1 c.cols.length c1) (.slice a2 c.vals.length c2) (.slice a3 c.fields.length c3) (.slice a4 c.expr.args.length c4) (.slice a5 c.wh.args.length c5)).toArray 31)) 19).trans rfl
  have d20 : (w.alloc (.cells (cmL c (.slice a1 c.cols.length c1) (.slice a2 c.vals.length c2) (.slice a3 c.fields.length c3) (.slice a4 c.expr.args.length c4) (.slice a5 c.wh.args.length c5)).toArray 31)).cell? ⟨w.heap.size, 20, none⟩ = some (.int .i64 c.wh.v.n) := (Lib.cell_of_heap (heap_alloc_new w (.cells (cmL c (.slice a1 c.cols.length c1) (.slice a2 c.vals.length c2) (.slice a3 c.fields.length c3) (.slice a4 c.expr.args.length c4) (.slice a5 c.wh.args.length c5)).toArray 31)) 20).trans rfl
  have d21 : (w.alloc (.cells (cmL c (.slice a1 c.cols.length c1) (.slice a2 c.vals.length c2) (.slice a3 c.fields.length c3) (.slice a4 c.expr.args.length c4) (.slice a5 c.wh.args.length c5)).toArray 31)).cell? ⟨w.heap.size, 21, none⟩ = some (.string ⟨c.wh.v.s.toArray⟩) := (Lib.cell_of_heap (heap_alloc_new w (.cells (cmL c (.slice a1 c.cols.length c1) (.slice a2 c.vals.length c2) (.slice a3 c.fields.length c3) (.slice a4 c.expr.args.length c4) (.slice a5 c.wh.args.length c5)).toArray 31)) 21).trans rfl
  have d22 : (w.alloc (.cells (cmL c (.slice a1 c.cols.length c1) (.slice a2 c.vals.length c2) (.slice a3 c.fields.length c3) (.slice a4 c.expr.args.length c4) (.slice a5 c.wh.args.length c5)).toArray 31)).cell? ⟨w.heap.size, 22, none⟩ = some (.string ⟨c.wh.nm.toArray⟩) := (Lib.cell_of_heap (heap_alloc_new w (.cells (cmL c (.slice a1 c.cols.length c1) (.slice a2 c.vals.length c2) (.slice a3 c.fields.length c3) (.slice a4 c.expr.args.length c4) (.slice a5 c.wh.args.length c5)).toArray 31)) 22).trans rfl
  have d23 : (w.alloc (.cells (cmL c (.slice a1 c.cols.length c1) (.slice a2 c.vals.length c2) (.slice a3 c.fields.length c3) (.slice a4 c.expr.args.length c4) (.slice a5 c.wh.args.length c5)).toArray 31)).cell? ⟨w.heap.size, 23, none⟩ = some (.slice a5 c.wh.args.length c5) := (Lib.cell_of_heap (heap_alloc_new w (.cells (cmL c (.slice a1 c.cols.length c1) (.slice a2 c.vals.length c2) (.slice a3 c.fields.length c3) (.slice a4 c.expr.args.length c4) (.slice a5 c.wh.args.length c5)).toArray 31)) 23).trans rfl
  have he1 := isLong_any (he.under b0) fe
  have hw1 := fun (W : World) (hW : Below w.heap.size w W) => isLong_any (hw.under hW) fw
  rw [exV] at he1
  simp only [exV] at hw1
  unfold manyC
  generalize decide (15 < sizeE c.expr) = E at he1 ⊢
  generalize decide (15 < sizeE c.wh) = F at hw1 ⊢
  clear he hw fe fw
  by_cases hm : 5 < c.cols.length ∨ 5 < c.vals.length ∨ 5 < c.fields.length
  · have hd : (5 : Int) < max (max (c.cols.length : Int) (c.vals.length : Int)) (c.fields.length : Int) := by omega
    rw [decide_eq_true hm]
    clear hm he1 hw1
    go_enter Tryz.func28, Tryz.ntmps28
    go_wp2_with fail
    all_goals go_ret
    all_goals exact ⟨rfl, b0⟩
  · have hd : ¬ (5 : Int) < max (max (c.cols.length : Int) (c.vals.length : Int)) (c.fields.length : Int) := by omega
    have l1 : ¬ 5 < c.cols.length := by omega
    have l2 : ¬ 5 < c.vals.length := by omega
    have l3 : ¬ 5 < c.fields.length := by omega
    rw [decide_eq_false hm, Bool.false_or]
    clear hm
    cases E
    · rw [Bool.false_or]
      go_enter Tryz.func28, Tryz.ntmps28
      go_wp2_with fail
      all_goals
        refine he1.mono ?_
        rintro e w1 ⟨rfl, b1⟩
        have f18 := (b1.cell (p := ⟨w.heap.size, 18, none⟩) (by simp)).trans d18; have f19 := (b1.cell (p := ⟨w.heap.size, 19, none⟩) (by simp)).trans d19; have f20 := (b1.cell (p := ⟨w.heap.size, 20, none⟩) (by simp)).trans d20; have f21 := (b1.cell (p := ⟨w.heap.size, 21, none⟩) (by simp)).trans d21; have f22 := (b1.cell (p := ⟨w.heap.size, 22, none⟩) (by simp)).trans d22; have f23 := (b1.cell (p := ⟨w.heap.size, 23, none⟩) (by simp)).trans d23
        have q1 : Below w.heap.size w w1 := b0.trans (b1.mono (by simp))
        go_wp2_with fail
        refine (hw1 _ q1).mono ?_
        rintro e w2 ⟨rfl, b2⟩
        go_wp2
        go_ret
        exact ⟨ret_bool (by cases F <;> simp <;> omega), q1.trans (b2.mono q1.size)⟩
    · rw [Bool.true_or]
      clear hw1
      go_enter Tryz.func28, Tryz.ntmps28
      go_wp2_with fail
      all_goals
        refine he1.mono ?_
        rintro e w1 ⟨rfl, b1⟩
        go_wp2
        go_ret
        exact ⟨rfl, b0.trans (b1.mono (by simp))⟩
theorem hb_0_1 : hasB ((0 : Nat) : Int) 1 = false := by decide
theorem hb_0_2 : hasB ((0 : Nat) : Int) 2 = false := by decide
theorem hb_0_4 : hasB ((0 : Nat) : Int) 4 = false := by decide
theorem hb_0_8 : hasB ((0 : Nat) : Int) 8 = false := by decide
theorem hb_0_16 : hasB ((0 : Nat) : Int) 16 = false := by decide
theorem hb_0_32 : hasB ((0 : Nat) : Int) 32 = false := by decide
theorem hb_0_64 : hasB ((0 : Nat) : Int) 64 = false := by decide
theorem hb_0_128 : hasB ((0 : Nat) : Int) 128 = false := by decide
theorem hb_0_256 : hasB ((0 : Nat) : Int) 256 = false := by decide
theorem hb_0_512 : hasB ((0 : Nat) : Int) 512 = false := by decide
theorem hb_0_1024 : hasB ((0 : Nat) : Int) 1024 = false := by decide
theorem hb_0_2048 : hasB ((0 : Nat) : Int) 2048 = false := by decide
theorem hb_1_1 : hasB ((1 : Nat) : Int) 1 = true := by decide
theorem hb_1_2 : hasB ((1 : Nat) : Int) 2 = false := by decide
theorem hb_1_4 : hasB ((1 : Nat) : Int) 4 = false := by decide
theorem hb_1_8 : hasB ((1 : Nat) : Int) 8 = false := by decide
theorem hb_1_16 : hasB ((1 : Nat) : Int) 16 = false := by decide
theorem hb_1_32 : hasB ((1 : Nat) : Int) 32 = false := by decide
theorem hb_1_64 : hasB ((1 : Nat) : Int) 64 = false := by decide
theorem hb_1_128 : hasB ((1 : Nat) : Int) 128 = false := by decide
theorem hb_1_256 : hasB ((1 : Nat) : Int) 256 = false := by decide
theorem hb_1_512 : hasB ((1 : Nat) : Int) 512 = false := by decide
theorem hb_1_1024 : hasB ((1 : Nat) : Int) 1024 = false := by decide
theorem hb_1_2048 : hasB ((1 : Nat) : Int) 2048 = false := by decide
theorem hb_3_1 : hasB ((3 : Nat) : Int) 1 = true := by decide
theorem hb_3_2 : hasB ((3 : Nat) : Int) 2 = true := by decide
theorem hb_3_4 : hasB ((3 : Nat) : Int) 4 = false := by decide
theorem hb_3_8 : hasB ((3 : Nat) : Int) 8 = false := by decide
theorem hb_3_16 : hasB ((3 : Nat) : Int) 16 = false := by decide
theorem hb_3_32 : hasB ((3 : Nat) : Int) 32 = false := by decide
theorem hb_3_64 : hasB ((3 : Nat) : Int) 64 = false := by decide
theorem hb_3_128 : hasB ((3 : Nat) : Int) 128 = false := by decide
theorem hb_3_256 : hasB ((3 : Nat) : Int) 256 = false := by decide
theorem hb_3_512 : hasB ((3 : Nat) : Int) 512 = false := by decide
theorem hb_3_1024 : hasB ((3 : Nat) : Int) 1024 = false := by decide
theorem hb_3_2048 : hasB ((3 : Nat) : Int) 2048 = false := by decide
theorem hb_5_1 : hasB ((5 : Nat) : Int) 1 = true := by decide
theorem hb_5_2 : hasB ((5 : Nat) : Int) 2 = false := by decide
theorem hb_5_4 : hasB ((5 : Nat) : Int) 4 = true := by decide
theorem hb_5_8 : hasB ((5 : Nat) : Int) 8 = false := by decide
theorem hb_5_16 : hasB ((5 : Nat) : Int) 16 = false := by decide
theorem hb_5_32 : hasB ((5 : Nat) : Int) 32 = false := by decide
theorem hb_5_64 : hasB ((5 : Nat) : Int) 64 = false := by decide
theorem hb_5_128 : hasB ((5 : Nat) : Int) 128 = false := by decide
theorem hb_5_256 : hasB ((5 : Nat) : Int) 256 = false := by decide
theorem hb_5_512 : hasB ((5 : Nat) : Int) 512 = false := by decide
theorem hb_5_1024 : hasB ((5 : Nat) : Int) 1024 = false := by decide
theorem hb_5_2048 : hasB ((5 : Nat) : Int) 2048 = false := by decide
theorem hb_7_1 : hasB ((7 : Nat) : Int) 1 = true := by decide
theorem hb_7_2 : hasB ((7 : Nat) : Int) 2 = true := by decide
theorem hb_7_4 : hasB ((7 : Nat) : Int) 4 = true := by decide
theorem hb_7_8 : hasB ((7 : Nat) : Int) 8 = false := by decide
theorem hb_7_16 : hasB ((7 : Nat) : Int) 16 = false := by decide
theorem hb_7_32 : hasB ((7 : Nat) : Int) 32 = false := by decide
theorem hb_7_64 : hasB ((7 : Nat) : Int) 64 = false := by decide
theorem hb_7_128 : hasB ((7 : Nat) : Int) 128 = false := by decide
theorem hb_7_256 : hasB ((7 : Nat) : Int) 256 = false := by decide
theorem hb_7_512 : hasB ((7 : Nat) : Int) 512 = false := by decide
theorem hb_7_1024 : hasB ((7 : Nat) : Int) 1024 = false := by decide
theorem hb_7_2048 : hasB ((7 : Nat) : Int) 2048 = false := by decide
theorem hb_9_1 : hasB ((9 : Nat) : Int) 1 = true := by decide
theorem hb_9_2 : hasB ((9 : Nat) : Int) 2 = false := by decide
theorem hb_9_4 : hasB ((9 : Nat) : Int) 4 = false := by decide
theorem hb_9_8 : hasB ((9 : Nat) : Int) 8 = true := by decide
theorem hb_9_16 : hasB ((9 : Nat) : Int) 16 = false := by decide
theorem hb_9_32 : hasB ((9 : Nat) : Int) 32 = false := by decide
theorem hb_9_64 : hasB ((9 : Nat) : Int) 64 = false := by decide
theorem hb_9_128 : hasB ((9 : Nat) : Int) 128 = false := by decide
theorem hb_9_256 : hasB ((9 : Nat) : Int) 256 = false := by decide
theorem hb_9_512 : hasB ((9 : Nat) : Int) 512 = false := by decide
theorem hb_9_1024 : hasB ((9 : Nat) : Int) 1024 = false := by decide
theorem hb_9_2048 : hasB ((9 : Nat) : Int) 2048 = false := by decide
theorem hb_21_1 : hasB ((21 : Nat) : Int) 1 = true := by decide
theorem hb_21_2 : hasB ((21 : Nat) : Int) 2 = false := by decide
theorem hb_21_4 : hasB ((21 : Nat) : Int) 4 = true := by decide
theorem hb_21_8 : hasB ((21 : Nat) : Int) 8 = false := by decide
theorem hb_21_16 : hasB ((21 : Nat) : Int) 16 = true := by decide
theorem hb_21_32 : hasB ((21 : Nat) : Int) 32 = false := by decide
theorem hb_21_64 : hasB ((21 : Nat) : Int) 64 = false := by decide
theorem hb_21_128 : hasB ((21 : Nat) : Int) 128 = false := by decide
theorem hb_21_256 : hasB ((21 : Nat) : Int) 256 = false := by decide
theorem hb_21_512 : hasB ((21 : Nat) : Int) 512 = false := by decide
theorem hb_21_1024 : hasB ((21 : Nat) : Int) 1024 = false := by decide
theorem hb_21_2048 : hasB ((21 : Nat) : Int) 2048 = false := by decide
theorem hb_53_1 : hasB ((53 : Nat) : Int) 1 = true := by decide
theorem hb_53_2 : hasB ((53 : Nat) : Int) 2 = false := by decide
theorem hb_53_4 : hasB ((53 : Nat) : Int) 4 = true := by decide
theorem hb_53_8 : hasB ((53 : Nat) : Int) 8 = false := by decide
theorem hb_53_16 : hasB ((53 : Nat) : Int) 16 = true := by decide
theorem hb_53_32 : hasB ((53 : Nat) : Int) 32 = true := by decide
theorem hb_53_64 : hasB ((53 : Nat) : Int) 64 = false := by decide
theorem hb_53_128 : hasB ((53 : Nat) : Int) 128 = false := by decide
theorem hb_53_256 : hasB ((53 : Nat) : Int) 256 = false := by decide
theorem hb_53_512 : hasB ((53 : Nat) : Int) 512 = false := by decide
theorem hb_53_1024 : hasB ((53 : Nat) : Int) 1024 = false := by decide
theorem hb_53_2048 : hasB ((53 : Nat) : Int) 2048 = false := by decide
theorem hb_65_1 : hasB ((65 : Nat) : Int) 1 = true := by decide
theorem hb_65_2 : hasB ((65 : Nat) : Int) 2 = false := by decide
theorem hb_65_4 : hasB ((65 : Nat) : Int) 4 = false := by decide
theorem hb_65_8 : hasB ((65 : Nat) : Int) 8 = false := by decide
theorem hb_65_16 : hasB ((65 : Nat) : Int) 16 = false := by decide
theorem hb_65_32 : hasB ((65 : Nat) : Int) 32 = false := by decide
theorem hb_65_64 : hasB ((65 : Nat) : Int) 64 = true := by decide
theorem hb_65_128 : hasB ((65 : Nat) : Int) 128 = false := by decide
theorem hb_65_256 : hasB ((65 : Nat) : Int) 256 = false := by decide
theorem hb_65_512 : hasB ((65 : Nat) : Int) 512 = false := by decide
theorem hb_65_1024 : hasB ((65 : Nat) : Int) 1024 = false := by decide
theorem hb_65_2048 : hasB ((65 : Nat) : Int) 2048 = false := by decide
theorem hb_513_1 : hasB ((513 : Nat) : Int) 1 = true := by decide
theorem hb_513_2 : hasB ((513 : Nat) : Int) 2 = false := by decide
theorem hb_513_4 : hasB ((513 : Nat) : Int) 4 = false := by decide
theorem hb_513_8 : hasB ((513 : Nat) : Int) 8 = false := by decide
theorem hb_513_16 : hasB ((513 : Nat) : Int) 16 = false := by decide
theorem hb_513_32 : hasB ((513 : Nat) : Int) 32 = false := by decide
theorem hb_513_64 : hasB ((513 : Nat) : Int) 64 = false := by decide
theorem hb_513_128 : hasB ((513 : Nat) : Int) 128 = false := by decide
theorem hb_513_256 : hasB ((513 : Nat) : Int) 256 = false := by decide
theorem hb_513_512 : hasB ((513 : Nat) : Int) 512 = true := by decide
theorem hb_513_1024 : hasB ((513 : Nat) : Int) 1024 = false := by decide
theorem hb_513_2048 : hasB ((513 : Nat) : Int) 2048 = false := by decide
theorem hb_773_1 : hasB ((773 : Nat) : Int) 1 = true := by decide
theorem hb_773_2 : hasB ((773 : Nat) : Int) 2 = false := by decide
theorem hb_773_4 : hasB ((773 : Nat) : Int) 4 = true := by decide
theorem hb_773_8 : hasB ((773 : Nat) : Int) 8 = false := by decide
theorem hb_773_16 : hasB ((773 : Nat) : Int) 16 = false := by decide
theorem hb_773_32 : hasB ((773 : Nat) : Int) 32 = false := by decide
theorem hb_773_64 : hasB ((773 : Nat) : Int) 64 = false := by decide
theorem hb_773_128 : hasB ((773 : Nat) : Int) 128 = false := by decide
theorem hb_773_256 : hasB ((773 : Nat) : Int) 256 = true := by decide
theorem hb_773_512 : hasB ((773 : Nat) : Int) 512 = true := by decide
theorem hb_773_1024 : hasB ((773 : Nat) : Int) 1024 = false := by decide
theorem hb_773_2048 : hasB ((773 : Nat) : Int) 2048 = false := by decide
theorem hb_3713_1 : hasB ((3713 : Nat) : Int) 1 = true := by decide
theorem hb_3713_2 : hasB ((3713 : Nat) : Int) 2 = false := by decide
theorem hb_3713_4 : hasB ((3713 : Nat) : Int) 4 = false := by decide
theorem hb_3713_8 : hasB ((3713 : Nat) : Int) 8 = false := by decide
theorem hb_3713_16 : hasB ((3713 : Nat) : Int) 16 = false := by decide
theorem hb_3713_32 : hasB ((3713 : Nat) : Int) 32 = false := by decide
theorem hb_3713_64 : hasB ((3713 : Nat) : Int) 64 = false := by decide
theorem hb_3713_128 : hasB ((3713 : Nat) : Int) 128 = true := by decide
theorem hb_3713_256 : hasB ((3713 : Nat) : Int) 256 = false := by decide
theorem hb_3713_512 : hasB ((3713 : Nat) : Int) 512 = true := by decide
theorem hb_3713_1024 : hasB ((3713 : Nat) : Int) 1024 = true := by decide
theorem hb_3713_2048 : hasB ((3713 : Nat) : Int) 2048 = true := by decide
def selB (k : Int) (o : Int) (r e : Bool) : Bool := if hasB (maskN k : Nat) o = true then r else e
def rightC (c : Cm) : Bool :=
  kindB c.kind && selB c.kind 1 (nameW c.name) (decide (c.name = [])) && selB c.kind 2 (nameW c.other) (decide (c.other = [])) && selB c.kind 4 (nameW c.column) (decide (c.column = [])) &&
  selB c.kind 8 (areCols c.cols) (decide (c.cols.length = 0)) && selB c.kind 16 (typeB c.ty) (decide (c.ty = 0)) && selB c.kind 32 (valB c.val) (noneV c.val) &&
  selB c.kind 64 (areVals c.vals) (decide (c.vals.length = 0)) && selB c.kind 128 (c.fields.all nameW) (decide (c.fields.length = 0)) && selB c.kind 256 (rightE c.expr) (noneE c.expr) &&
  selB c.kind 512 (whereB c.all c.wh) (!c.all && noneE c.wh) && selB c.kind 1024 (decide (c.order = []) || nameW c.order) (decide (c.order = [])) &&
  selB c.kind 2048 (decide (-1 ≤ c.limit ∧ c.limit ≤ 999999999)) (decide (c.limit = 0))
def argsR (k : Int) : Int := if k < 1 ∨ 11 < k then -1 else if k ≤ 2 then 0 else if k ≤ 4 then 1 else 2
def plainK (k : Int) (v : Vl) (nm : List UInt8) (n : Nat) : Bool := decide ((n : Int) = argsR k) && (decide (k = 2) || decide (nm = [])) && (decide (k = 1) || noneV v)
mutual
def exR : Ex → Bool
  | .mk k v nm args => plainK k v nm args.length && !(decide (k = 2) && !nameW nm) && valB v && exRL args
def exRL : List Ex → Bool
  | [] => true
  | x :: xs => exR x && exRL xs
end
def nameIs (s : List UInt8) (b : Bool) : Bool := if b = true then nameW s else decide (s = [])
def betw (n a b : Int) : Bool := decide (a ≤ n) && decide (n ≤ b)
def refC (c : Cm) : Bool :=
  (betw c.kind 1 16 && nameIs c.name (decide (c.kind ≤ 13)) && nameIs c.other (decide (c.kind = 5) || decide (c.kind = 7) || decide (c.kind = 8)) && nameIs c.column (betw c.kind 3 6 || decide (c.kind = 8) || decide (c.kind = 12))) &&
  (if c.kind = 3 ∨ c.kind = 6 then betw c.ty 1 3 else decide (c.ty = 0)) &&
  (valB c.val && (decide (c.kind = 3) || noneV c.val)) &&
  (decide (c.kind = 1) == decide (0 < c.cols.length) && decide (c.kind = 10) == decide (0 < c.vals.length) && (decide (c.kind = 13) || (decide (c.fields.length = 0) && decide (c.order = []) && decide (c.limit = 0)))) &&
  c.cols.all (fun x => nameW x.name && betw x.ty 1 3) && c.vals.all valB && c.fields.all nameW &&
  (if c.kind = 13 then betw c.limit (-1) 999999999 && (decide (c.order = []) || nameW c.order) else true) &&
  (if c.kind = 12 then exR c.expr else noneE c.expr) &&
  (if (betw c.kind 11 13 && !c.all) = true then exR c.wh else noneE c.wh && (betw c.kind 11 13 || !c.all))
theorem noneV_val (v : Vl) (h : noneV v = true) : valB v = true := by
  obtain ⟨k, n, s⟩ := v
  simp only [noneV, Bool.and_eq_true, decide_eq_true_eq] at h
  obtain ⟨⟨rfl, rfl⟩, rfl⟩ := h
  decide
theorem typeB_iff (k : Int) : typeB k = betw k 1 3 := by
  unfold typeB betw
  by_cases h1 : k < 0
  · have e : atL typesL k = [] := by simp [atL, h1]
    rw [e]
    have : ¬ 1 ≤ k := by omega
    simp [this]
  · obtain ⟨n, rfl⟩ := Int.eq_ofNat_of_zero_le (show 0 ≤ k by omega)
    by_cases h4 : 4 ≤ n
    · have e : atL typesL (n : Int) = [] := by
        have : ¬ ((n : Int) < 0) := by omega
        simp only [atL, this, if_false, Int.toNat_natCast]
        simp only [List.getD]
        rw [List.getElem?_eq_none (by simp [typesL]; omega)]; rfl
      rw [e]
      have : ¬ ((n : Int) ≤ 3) := by omega
      simp [this]
    · match n, h4 with
      | 0, _ => decide
      | 1, _ => decide
      | 2, _ => decide
      | 3, _ => decide
      | n + 4, h => omega
theorem argsN_iff (k : Int) (h : 3 ≤ k) (h' : k ≤ 11) : (argsN k : Int) = argsR k ∧ 0 < argsN k := by
  have hc : k = 3 ∨ k = 4 ∨ k = 5 ∨ k = 6 ∨ k = 7 ∨ k = 8 ∨ k = 9 ∨ k = 10 ∨ k = 11 := by omega
  rcases hc with rfl | rfl | rfl | rfl | rfl | rfl | rfl | rfl | rfl <;> decide
theorem argsN_out (k : Int) (h : k < 1 ∨ 11 < k) : argsN k = 0 := by
  have h3 : ¬ (k = 3 ∨ k = 4) := by omega
  have e : atL opersL k = [] := by
    unfold atL
    by_cases h1 : k < 0
    · rw [if_pos h1]
    · rw [if_neg h1]
      obtain ⟨n, rfl⟩ := Int.eq_ofNat_of_zero_le (show 0 ≤ k by omega)
      rw [Int.toNat_natCast]
      by_cases h0 : n = 0
      · subst h0; rfl
      · simp only [List.getD]
        rw [List.getElem?_eq_none (by simp [opersL]; omega)]; rfl
  unfold argsN
  rw [if_neg h3, e]; rfl
mutual
theorem rightE_iff : ∀ x : Ex, rightE x = exR x
  | .mk k v nm args => by
    have ih := rightL_iff args
    rw [rightE, exR, plainK]
    by_cases h1 : k = 1
    · subst h1
      have e : argsR 1 = 0 := by decide
      rw [if_pos rfl, e]
      cases args with
      | nil => rw [exRL]; simp; cases valB v <;> simp
      | cons y r =>
        have : ¬ ((List.length r : Int) + 1 = 0) := by omega
        simp [this]
    rw [if_neg h1]
    by_cases h2 : k = 2
    · subst h2
      have e : argsR 2 = 0 := by decide
      rw [if_pos rfl, e]
      cases args with
      | nil =>
        rw [exRL]
        cases hv : noneV v
        · simp
        · rw [noneV_val v hv]; simp
      | cons y r =>
        have : ¬ ((List.length r : Int) + 1 = 0) := by omega
        simp [this]
    rw [if_neg h2]
    by_cases h3 : 3 ≤ k ∧ k ≤ 11
    · obtain ⟨e1, e2⟩ := argsN_iff k h3.1 h3.2
      rw [← e1, ih]
      cases hv : noneV v
      · simp [h1]
      · rw [noneV_val v hv]
        by_cases hn : args.length = argsN k
        · have : 0 < args.length := by omega
          have hi : (args.length : Int) = (argsN k : Int) := by omega
          simp [h1, h2, hn, e2]
        · have hi : ¬ ((args.length : Int) = (argsN k : Int)) := by omega
          simp [hn, hi]
    · have h4 : k < 1 ∨ 11 < k := by omega
      have e : argsR k = -1 := by rw [argsR, if_pos h4]
      rw [argsN_out k h4, e]
      have hi : ¬ ((args.length : Int) = -1) := by omega
      by_cases hz : args.length = 0
      · simp [hz]
      · simp [hz, hi]
theorem rightL_iff : ∀ l : List Ex, rightL l = exRL l
  | [] => by rw [rightL, exRL]
  | x :: xs => by rw [rightL, exRL, rightE_iff x, rightL_iff xs]
end
theorem cols_iff (l : List Cl) : l.all (fun x => nameW x.name && betw x.ty 1 3) = l.all colB := by
  congr 1
  funext x
  rw [← typeB_iff]; rfl
theorem len_zero {α : Type} (l : List α) : decide (0 < l.length) = !decide (l.length = 0) := by
  cases l <;> simp
theorem rightC_iff (c : Cm) : rightC c = refC c := by
  obtain ⟨k, name, other, column, cols, ty, val, vals, fields, expr, all, wh, order, limit⟩ := c
  simp only [rightC, refC, nameIs]
  rw [cols_iff]
  by_cases hk : 1 ≤ k ∧ k ≤ 16
  · obtain ⟨h1, h2⟩ := hk
    have hc : k = 1 ∨ k = 2 ∨ k = 3 ∨ k = 4 ∨ k = 5 ∨ k = 6 ∨ k = 7 ∨ k = 8 ∨ k = 9 ∨ k = 10 ∨ k = 11 ∨ k = 12 ∨ k = 13 ∨ k = 14 ∨ k = 15 ∨ k = 16 := by omega
    have hcol : cols.length = 0 → cols.all colB = true := by intro h; rw [List.eq_nil_of_length_eq_zero h]; rfl
    have hval : vals.length = 0 → vals.all valB = true := by intro h; rw [List.eq_nil_of_length_eq_zero h]; rfl
    have hfld : fields.length = 0 → fields.all nameW = true := by intro h; rw [List.eq_nil_of_length_eq_zero h]; rfl
    have hnv := noneV_val val
    have hty := typeB_iff ty
    have hex := rightE_iff expr
    have hwx := rightE_iff wh
    have hac : areCols cols = (decide (0 < cols.length) && cols.all colB) := rfl
    have hav : areVals vals = (decide (0 < vals.length) && vals.all valB) := rfl
    have hwh : whereB all wh = if all = true then noneE wh else exR wh := by rw [whereB, hwx]
    have hlim : decide (-1 ≤ limit ∧ limit ≤ 999999999) = betw limit (-1) 999999999 := by unfold betw; rw [Bool.eq_iff_iff]; simp
    have hcl := len_zero cols
    have hvl := len_zero vals
    have hfl := len_zero fields
    rw [hac, hav, hwh, hty, hex, hlim, hcl, hvl]
    generalize cols.all colB = C1 at *
    generalize vals.all valB = V1 at *
    generalize fields.all nameW = F1 at *
    generalize betw ty 1 3 = T1 at *
    generalize exR expr = X1 at *
    generalize exR wh = X2 at *
    generalize noneE expr = N1 at *
    generalize noneE wh = N2 at *
    generalize valB val = V2 at *
    generalize noneV val = V3 at *
    generalize nameW name = A1 at *
    generalize nameW other = A2 at *
    generalize nameW column = A3 at *
    generalize nameW order = A4 at *
    generalize betw limit (-1) 999999999 = L1 at *
    have e1 : cols.length = 0 ↔ decide (cols.length = 0) = true := by simp
    have e2 : vals.length = 0 ↔ decide (vals.length = 0) = true := by simp
    have e3 : fields.length = 0 ↔ decide (fields.length = 0) = true := by simp
    rw [e1] at hcol
    rw [e2] at hval
    rw [e3] at hfld
    generalize decide (cols.length = 0) = C0 at *
    generalize decide (vals.length = 0) = V0 at *
    generalize decide (fields.length = 0) = F0 at *
    generalize decide (name = []) = M1 at *
    generalize decide (other = []) = M2 at *
    generalize decide (column = []) = M3 at *
    generalize decide (order = []) = M4 at *
    generalize decide (ty = 0) = T0 at *
    generalize decide (limit = 0) = L0 at *
    clear hac hav hwh hty hex hwx hlim hcl hvl hfl e1 e2 e3 h1 h2
    rcases hc with rfl | rfl | rfl | rfl | rfl | rfl | rfl | rfl | rfl | rfl | rfl | rfl | rfl | rfl | rfl | rfl
    all_goals
      simp only [selB, show maskN 1 = 9 from rfl, show maskN 2 = 1 from rfl, show maskN 3 = 53 from rfl, show maskN 4 = 5 from rfl, show maskN 5 = 7 from rfl, show maskN 6 = 21 from rfl, show maskN 7 = 3 from rfl, show maskN 8 = 7 from rfl, show maskN 9 = 1 from rfl, show maskN 10 = 65 from rfl, show maskN 11 = 513 from rfl, show maskN 12 = 773 from rfl, show maskN 13 = 3713 from rfl, show maskN 14 = 0 from rfl, show maskN 15 = 0 from rfl, show maskN 16 = 0 from rfl]
      simp only [hb_0_1, hb_0_2, hb_0_4, hb_0_8, hb_0_16, hb_0_32, hb_0_64, hb_0_128, hb_0_256, hb_0_512, hb_0_1024, hb_0_2048, hb_1_1, hb_1_2, hb_1_4, hb_1_8, hb_1_16, hb_1_32, hb_1_64, hb_1_128, hb_1_256, hb_1_512, hb_1_1024, hb_1_2048, hb_3_1, hb_3_2, hb_3_4, hb_3_8, hb_3_16, hb_3_32, hb_3_64, hb_3_128, hb_3_256, hb_3_512, hb_3_1024, hb_3_2048, hb_5_1, hb_5_2, hb_5_4, hb_5_8, hb_5_16, hb_5_32, hb_5_64, hb_5_128, hb_5_256, hb_5_512, hb_5_1024, hb_5_2048, hb_7_1, hb_7_2, hb_7_4, hb_7_8, hb_7_16, hb_7_32, hb_7_64, hb_7_128, hb_7_256, hb_7_512, hb_7_1024, hb_7_2048, hb_9_1, hb_9_2, hb_9_4, hb_9_8, hb_9_16, hb_9_32, hb_9_64, hb_9_128, hb_9_256, hb_9_512, hb_9_1024, hb_9_2048, hb_21_1, hb_21_2, hb_21_4, hb_21_8, hb_21_16, hb_21_32, hb_21_64, hb_21_128, hb_21_256, hb_21_512, hb_21_1024, hb_21_2048, hb_53_1, hb_53_2, hb_53_4, hb_53_8, hb_53_16, hb_53_32, hb_53_64, hb_53_128, hb_53_256, hb_53_512, hb_53_1024, hb_53_2048, hb_65_1, hb_65_2, hb_65_4, hb_65_8, hb_65_16, hb_65_32, hb_65_64, hb_65_128, hb_65_256, hb_65_512, hb_65_1024, hb_65_2048, hb_513_1, hb_513_2, hb_513_4, hb_513_8, hb_513_16, hb_513_32, hb_513_64, hb_513_128, hb_513_256, hb_513_512, hb_513_1024, hb_513_2048, hb_773_1, hb_773_2, hb_773_4, hb_773_8, hb_773_16, hb_773_32, hb_773_64, hb_773_128, hb_773_256, hb_773_512, hb_773_1024, hb_773_2048, hb_3713_1, hb_3713_2, hb_3713_4, hb_3713_8, hb_3713_16, hb_3713_32, hb_3713_64, hb_3713_128, hb_3713_256, hb_3713_512, hb_3713_1024, hb_3713_2048, betw, kindB]
      simp
      cases C0 <;> cases V0 <;> cases F0 <;> cases V3 <;> simp_all
      all_goals
        rw [Bool.eq_iff_iff]
        simp only [Bool.and_eq_true, Bool.or_eq_true]
        try (cases all <;> simp)
        all_goals try (constructor <;> (intro h; simp_all))
  · have e1 : kindB k = false := by simp only [kindB, decide_eq_false_iff_not]; exact hk
    have e2 : betw k 1 16 = false := by
      unfold betw
      rw [Bool.and_eq_false_iff, decide_eq_false_iff_not, decide_eq_false_iff_not]; omega
    rw [e1, e2]; simp
theorem count_less (p : Nat → Bool) (i : Nat) (hp : p i = true) : ∀ l : List Nat, i ∈ l → l.countP (fun j => p j && j != i) + 1 ≤ l.countP p := by
  intro l
  induction l with
  | nil => intro h; cases h
  | cons x l ih =>
    intro h
    have mono : l.countP (fun j => p j && j != i) ≤ l.countP p := List.countP_mono_left fun j _ hj => by simp at hj; exact hj.1
    by_cases hx : x = i
    · subst hx
      simp [hp]
      exact mono
    · have hm : i ∈ l := by
        rcases List.mem_cons.1 h with e | e
        · exact absurd e.symm hx
        · exact e
      have := ih hm
      simp only [List.countP_cons]
      have e : (x != i) = true := by simpa using hx
      rw [e, Bool.and_true]
      omega
def left (ops : Array Oper) (listed : Array Bool) : Nat := (List.range ops.size).countP fun j => !listed.getD j true
section
variable (md : Region.Mode) (ops : Array Oper) (L0 : Array Bool) (a0 : Act)
end
def noneB (ops : Array Oper) (L0 : Array Bool) (s : Nat) : Bool := (List.range ops.size).all fun j => L0.getD j true || (ops[j]?).all fun p => p.dst != some s
theorem listed_true {listed : Array Bool} {i : Nat} (h : listed.getD i false = true) : listed.getD i true = true := by
  simp only [Array.getD] at h ⊢
  split at h
  · rename_i hi; rw [dif_pos hi]; exact h
  · cases h
structure CmFit (c : Cm) : Prop where
  name : c.name.length ≤ 140737488355328
  other : c.other.length ≤ 140737488355328
  column : c.column.length ≤ 140737488355328
  order : c.order.length ≤ 140737488355328
  val : c.val.s.length ≤ 140737488355328
  cols : c.cols.length ≤ 1000000000000000
  vals : c.vals.length ≤ 1000000000000000
  fields : c.fields.length ≤ 1000000000000000
  colsN : ∀ x ∈ c.cols, x.name.length ≤ 140737488355328
  valsN : ∀ x ∈ c.vals, x.s.length ≤ 140737488355328
  fieldsN : ∀ x ∈ c.fields, x.length ≤ 140737488355328
  expr : Fit c.expr
  wh : Fit c.wh
def Held (w : World) (c : Cm) (cv vv fv ea wa : Value) (m : Int) (W : World) : Prop :=
  (∀ o x, (cmL c cv vv fv ea wa)[o]? = some x → W.cell? ⟨w.heap.size, o, none⟩ = some x) ∧ W.cell? ⟨w.heap.size + 1, 0, none⟩ = some (.int .i64 m) ∧ Below w.heap.size w W ∧ w.heap.size + 2 ≤ W.heap.size
theorem Held.start (w : World) (c : Cm) (cv vv fv ea wa : Value) (m : Int) :
    Held w c cv vv fv ea wa m ((w.alloc (.cells (cmL c cv vv fv ea wa).toArray 31)).alloc (.cells #[.int .i64 m] 3)) := by
  have hz : (w.alloc (.cells (cmL c cv vv fv ea wa).toArray 31)).heap.size = w.heap.size + 1 := by simp
  have h1 : ((w.alloc (.cells (cmL c cv vv fv ea wa).toArray 31)).alloc (.cells #[.int .i64 m] 3)).heap[w.heap.size]? = some (.cells (cmL c cv vv fv ea wa).toArray 31) :=
    (Below.heap_alloc _ _ _ (by omega)).trans (heap_alloc_new _ _)
  refine ⟨fun o x hx => ?_, ?_, ((Below.refl _ _).alloc (Nat.le_refl _) _).alloc (by simp) _, by simp⟩
  · rw [Lib.cell_of_heap h1]; simpa using hx
  · have h2 : ((w.alloc (.cells (cmL c cv vv fv ea wa).toArray 31)).alloc (.cells #[.int .i64 m] 3)).heap[w.heap.size + 1]? = some (.cells #[.int .i64 m] 3) := by rw [← hz]; exact heap_alloc_new _ _
    rw [Lib.cell_of_heap h2]; rfl
theorem Held.below {w : World} {c : Cm} {cv vv fv ea wa : Value} {m : Int} {W W' : World} (h : Held w c cv vv fv ea wa m W) (hb : Below W.heap.size W W') : Held w c cv vv fv ea wa m W' := by
  obtain ⟨h1, h2, h3, h4⟩ := h
  exact ⟨fun o x hx => (hb.cell (p := ⟨w.heap.size, o, none⟩) (by show w.heap.size < _; omega)).trans (h1 o x hx), (hb.cell (p := ⟨w.heap.size + 1, 0, none⟩) (by show w.heap.size + 1 < _; omega)).trans h2, h3.trans (hb.mono h3.size), Nat.le_trans h4 hb.size⟩
theorem fields_any {w : World} (c : Cm) (fv : Value) (h : RowAt 0 w fv c.fields.length (c.fields.flatMap stC)) (hn : c.fields.length ≤ 1000000000000000) (hs : ∀ x ∈ c.fields, x.length ≤ 140737488355328) (hl : Laid w) :
    Calls Tryz.prog 77 #[fv, .func (.func 72) #[] #[]] w fun e w' => e = .returned (.bool (c.fields.all nameW)) ∧ Below w.heap.size w w' := by
  rcases h with ⟨h0, ao, cap, rfl⟩ | ⟨b, off, cap, rfl, hB, hlt, hc⟩
  · have e : c.fields = [] := List.eq_nil_of_length_eq_zero h0
    rw [e]
    exact allN_str ao cap _ w
  · refine all_str b off cap c.fields w hlt hn (fun k x hx => ?_) (fun k x hx W hW => ?_)
    · have g := flat_get stC 1 (fun _ => rfl) c.fields k x hx 0 (by decide)
      rw [Nat.mul_one, Nat.add_zero] at g
      exact hc _ _ g
    · have := isName_any ⟨x.toArray⟩ W (by rw [size_mk]; exact hs x (List.mem_of_getElem? hx)) (hl.below hW)
      have e0 : (⟨x.toArray⟩ : ByteArray).data.toList = x := by simp
      rw [e0] at this
      exact this
theorem cname_any {w : World} (x : List UInt8) (hs : x.length ≤ 140737488355328) (hl : Laid w) : Calls Tryz.prog 72 #[.string ⟨x.toArray⟩] w fun e w' => e = .returned (.bool (nameW x)) ∧ Below w.heap.size w w' := by
  have := isName_any ⟨x.toArray⟩ w (by rw [size_mk]; exact hs) hl
  have e0 : (⟨x.toArray⟩ : ByteArray).data.toList = x := by simp
  rw [e0] at this
  exact this
def chkC (M R : Bool) : Int := if M = true then 2 else if R = true then 0 else 1
theorem checkC_any {w : World} (c : Cm) (cv vv fv ea wa : Value) (M R : Bool)
    (hm : ∀ W : World, Below w.heap.size w W → Calls Tryz.prog 28 #[.agg (cmL c cv vv fv ea wa).toArray] W fun e w' => e = .returned (.bool M) ∧ Below W.heap.size W w')
    (hr : ∀ W : World, Below w.heap.size w W → Calls Tryz.prog 29 #[.agg (cmL c cv vv fv ea wa).toArray] W fun e w' => e = .returned (.bool R) ∧ Below W.heap.size W w') :
    Calls Tryz.prog 12 #[.agg (cmL c cv vv fv ea wa).toArray] w fun e w' => e = .returned (.int .i64 (chkC M R)) ∧ Below w.heap.size w w' := by
  have b0 := (Below.refl w.heap.size w).alloc (Nat.le_refl _) (.cells (cmL c cv vv fv ea wa).toArray 31)
  have k0 : (w.alloc (.cells (cmL c cv vv fv ea wa).toArray 31)).heap[w.heap.size]? = some (.cells (cmL c cv vv fv ea wa).toArray 31) := heap_alloc_new _ _
  have hl : (cmL c cv vv fv ea wa).length = 26 := rfl
  generalize cmL c cv vv fv ea wa = cs at hm hr b0 k0 hl ⊢
  have hsz : (Tryz.prog.info? 31).map (·.size) = some cs.length := by rw [hl]; exact Tryz.size31
  cases M with
  | true =>
    go_enter Tryz.func12, Tryz.ntmps12
    go_wp2_with (refine wpList_load_whole 31 _ rfl rfl _ cs 31 _ rfl (by exact k0) Tryz.underlying31 rfl hsz ?_)
    refine (hm _ b0).mono ?_
    rintro e w1 ⟨rfl, b1⟩
    go_wp2
    go_ret
    exact ⟨rfl, b0.trans (b1.mono (by simp))⟩
  | false =>
    go_enter Tryz.func12, Tryz.ntmps12
    go_wp2_with (refine wpList_load_whole 31 _ rfl rfl _ cs 31 _ rfl (by exact k0) Tryz.underlying31 rfl hsz ?_)
    refine (hm _ b0).mono ?_
    rintro e w1 ⟨rfl, b1⟩
    have k1 := (b1.block w.heap.size (by simp)).trans k0
    have q1 : Below w.heap.size w w1 := b0.trans (b1.mono (by simp))
    clear k0 b0 b1 hm
    go_wp2_with (refine wpList_load_whole 31 _ rfl rfl _ cs 31 _ rfl (by exact k1) Tryz.underlying31 rfl hsz ?_)
    refine (hr _ q1).mono ?_
    rintro e w2 ⟨rfl, b2⟩
    have q2 : Below w.heap.size w w2 := q1.trans (b2.mono q1.size)
    cases R with
    | true =>
      go_wp2
      go_ret
      exact ⟨rfl, q2⟩
    | false =>
      go_wp2
      go_ret
      exact ⟨rfl, q2⟩
section
variable (ops : Array Oper) (L0 : Array Bool) (a0 : Act) (V : Nat → Value)
structure RunAt (listed : Array Bool) (a : Act) : Prop where
  size : listed.size = ops.size
  defers : a.defers = a0.defers
  more : ∀ j, L0.getD j true = true → listed.getD j true = true
  new : ∀ j o d, ops[j]? = some o → L0.getD j true = false → listed.getD j true = true → o.dst = some d → a.tmps[d]? = some (V j)
  old : ∀ d, (∀ j o, ops[j]? = some o → L0.getD j true = false → o.dst ≠ some d) → a.tmps[d]? = a0.tmps[d]?
  frame : a.tmps.size = a0.tmps.size
structure RunOk (P : Program) (md : Region.Mode) (Q : Exit → Act → World → Prop) (S : World → Prop) : Prop where
  size : L0.size = ops.size
  back : ∀ j o, ops[j]? = some o → L0.getD j true = false → ∀ e ∈ o.after, e.on < j
  dst : ∀ j o, ops[j]? = some o → L0.getD j true = false → ∃ d, o.dst = some d ∧ d < a0.tmps.size
  one : ∀ j k o p d, ops[j]? = some o → ops[k]? = some p → L0.getD j true = false → L0.getD k true = false → o.dst = some d → p.dst = some d → j = k
  runs : ∀ j o listed a w, ops[j]? = some o → L0.getD j true = false → RunAt ops L0 a0 V listed a → (∀ e ∈ o.after, Region.binds md e = true → listed.getD e.on false = true) → S w →
    ∀ K : Act → World → Prop, (∀ w', S w' → K (a.put o.dst (V j)) w') → wpOp P ops Q j K a w
end
theorem run_done {ops : Array Oper} {L0 listed : Array Bool} {a0 a : Act} {V : Nat → Value} {md : Region.Mode} (back : ∀ j o, ops[j]? = some o → L0.getD j true = false → ∀ e ∈ o.after, e.on < j) (hd : RunAt ops L0 a0 V listed a) (hr : Region.ready md ops listed = []) : ∀ j, j < ops.size → listed.getD j true = true := by
  intro j
  induction j using Nat.strongRecOn with
  | _ j ih =>
    intro hj
    apply Classical.byContradiction
    intro hn
    have hn' : listed.getD j true = false := by simpa using hn
    have h0 : L0.getD j true = false := by
      cases e : L0.getD j true
      · rfl
      · rw [hd.more j e] at hn'; cases hn'
    obtain ⟨o, ho⟩ : ∃ o, ops[j]? = some o := ⟨ops[j], Array.getElem?_eq_getElem hj⟩
    have hin : j ∈ Region.ready md ops listed := by
      unfold Region.ready
      rw [List.mem_filter]
      refine ⟨List.mem_range.2 hj, ?_⟩
      rw [hn', ho]
      simp only [Bool.not_false, Bool.true_and, Option.map_some, Option.getD_some, Array.all_eq_true_iff_forall_mem]
      intro e he
      have hlt := back j o ho h0 e he
      have hl := ih e.on hlt (by omega)
      have hs := hd.size
      have : listed.getD e.on false = true := by
        simp only [Array.getD, show e.on < listed.size by omega, dif_pos] at hl ⊢
        exact hl
      rw [this]; simp
    rw [hr] at hin
    cases hin
theorem wp_region_as {P : Program} {Q : Exit → Act → World → Prop} {a : Act} {w : World} {id : Nat} {ops : Array Oper} (ops' : Array Oper) {b : Bool} (e : ops = ops') (h : (Code.region id ops' b).wp P Q a w) : (Code.region id ops b).wp P Q a w := by
  rw [e]; exact h
theorem run_quiet {P : Program} {ops : Array Oper} {Q : Exit → Act → World → Prop} {S : World → Prop} {j : Nat} {o : Oper} {v : Value} {a : Act} {w : World} {K : Act → World → Prop} (hj : ops[j]? = some o) (hy : YieldsIf P ops S o v a) (hS : S w) (hK : ∀ w', S w' → K (a.put o.dst v) w') : wpOp P ops Q j K a w :=
  hy.wpOp hj hS (hK w hS)
theorem run_call {P : Program} {ops : Array Oper} {Q : Exit → Act → World → Prop} {S : World → Prop} {j : Nat} {o : Oper} {v : Value} {a : Act} {w : World} {K : Act → World → Prop} (f : FuncId) (args : Array Value) (hj : ops[j]? = some o) (hw : Region.wanted o (yielded ops a.tmps) = true)
    (he : (execOp a.eval o).run P w = .ok (.enter f args) w) (hc : Calls P f args w fun e w' => e = .returned v ∧ S w') (hK : ∀ w', S w' → K (a.put o.dst v) w') : wpOp P ops Q j K a w := by
  unfold wpOp
  rw [hj]
  simp only [hw, if_true]
  left
  unfold Oper.wp
  rw [he, Oper.upon_enter]
  refine hc.mono ?_
  rintro e w' ⟨rfl, hS⟩
  exact hK w' hS
theorem RunAt.slot {ops : Array Oper} {L0 listed : Array Bool} {a0 a : Act} {V : Nat → Value} {md : Region.Mode} {o : Oper} (hd : RunAt ops L0 a0 V listed a) (hl : ∀ e ∈ o.after, Region.binds md e = true → listed.getD e.on false = true) (k s : Nat)
    (hk : o.after.any (fun e => Region.binds md e && e.on == k) = true) (h0 : L0.getD k true = false) (hs : ((ops[k]?).bind (·.dst)) = some s) : a.tmps[s]? = some (V k) := by
  obtain ⟨e, he, hb⟩ := Array.any_eq_true'.1 hk
  rw [Bool.and_eq_true, beq_iff_eq] at hb
  have h1 := hl e he hb.1
  rw [hb.2] at h1
  cases hp : ops[k]? with
  | none => rw [hp] at hs; cases hs
  | some p =>
    rw [hp] at hs
    exact hd.new k p s hp h0 (listed_true h1) hs
theorem RunAt.base {ops : Array Oper} {L0 listed : Array Bool} {a0 a : Act} {V : Nat → Value} (hd : RunAt ops L0 a0 V listed a) (s : Nat) (h : noneB ops L0 s = true) : a.tmps[s]? = a0.tmps[s]? := by
  refine hd.old s fun j o hj h0 => ?_
  have hlt := (ltS hj)
  have := List.all_eq_true.1 h j (List.mem_range.2 hlt)
  rw [h0, hj] at this
  simpa using this
def regionOf (id : Nat) : Code → Option (Array Oper)
  | .region i ops _ => if i = id then some ops else none
  | .seq a b => (regionOf id a).or (regionOf id b)
  | .cond _ a b => (regionOf id a).or (regionOf id b)
  | .block _ a => regionOf id a
  | .loop a => regionOf id a
  | .scope a => regionOf id a
  | _ => none
section
variable {P : Program} {ρ : Operand → Value} {o : Oper} {W : World}
theorem ex_move {x : Operand} (ho : o.op = .move x) {v : Value} (hx : ρ x = v) : (execOp ρ o).run P W = .ok (.value v) W := by simp [execOp, ho, hx]
theorem ex_assign {x : Operand} (ho : o.op = .assign x) {v : Value} (hx : ρ x = v) : (execOp ρ o).run P W = .ok (.value v) W := by simp [execOp, ho, hx]
theorem ex_pick {c x y : Operand} (ho : o.op = .pick c x y) {b : Bool} (hc : ρ c = .bool b) : (execOp ρ o).run P W = .ok (.value (if b = true then ρ x else ρ y)) W := by simp [execOp, ho, hc, asBool]
theorem ex_load {t : TypeId} {x : Operand} (ho : o.op = .load t x) {p v : Value} (hx : ρ x = p) (hr : (Instr.loadAt t p).run P W = .ok v W) : (execOp ρ o).run P W = .ok (.value v) W := by simp [execOp, ho, hx, hr]
theorem ex_bin {op : BinOp} {t u : TypeId} {x y : Operand} (ho : o.op = .binOp op t x y u) {p q v : Value} (hx : ρ x = p) (hy : ρ y = q) (hr : (do eqGuard op t x y p q; binOp op t p q : Sem Value).run P W = .ok v W) : (execOp ρ o).run P W = .ok (.value v) W := by
  have e : execOp ρ o = (do pure (.value (← (do eqGuard op t x y p q; binOp op t p q : Sem Value)))) := by simp only [execOp, ho, hx, hy]
  rw [e, Sem.run_bind, hr]; rfl
theorem ex_un {op : UnOp} {t : TypeId} {x : Operand} (ho : o.op = .unOp op t x) {p v : Value} (hx : ρ x = p) (hr : (Op.unary op p).run P W = .ok v W) : (execOp ρ o).run P W = .ok (.value v) W := by simp [execOp, ho, hx, hr]
end
theorem ld9 (W : World) (b o : Nat) (s : ByteArray) (h : W.cell? ⟨b, o, none⟩ = some (.string s)) : (Instr.loadAt 9 (.pointer (some ⟨b, o, none⟩))).run Tryz.prog W = .ok (.string s) W := by go_simp
theorem ld3 (W : World) (b o : Nat) (n : Int) (h : W.cell? ⟨b, o, none⟩ = some (.int .i64 n)) : (Instr.loadAt 3 (.pointer (some ⟨b, o, none⟩))).run Tryz.prog W = .ok (.int .i64 n) W := by go_simp
theorem ld4 (W : World) (b o : Nat) (n : Bool) (h : W.cell? ⟨b, o, none⟩ = some (.bool n)) : (Instr.loadAt 4 (.pointer (some ⟨b, o, none⟩))).run Tryz.prog W = .ok (.bool n) W := by go_simp
theorem ld22 (W : World) (b o : Nat) (v : Value) (h : W.cell? ⟨b, o, none⟩ = some v) : (Instr.loadAt 22 (.pointer (some ⟨b, o, none⟩))).run Tryz.prog W = .ok v W := by go_simp
theorem ld25 (W : World) (b o : Nat) (v : Value) (h : W.cell? ⟨b, o, none⟩ = some v) : (Instr.loadAt 25 (.pointer (some ⟨b, o, none⟩))).run Tryz.prog W = .ok v W := by go_simp
theorem ld26 (W : World) (b o : Nat) (v : Value) (h : W.cell? ⟨b, o, none⟩ = some v) : (Instr.loadAt 26 (.pointer (some ⟨b, o, none⟩))).run Tryz.prog W = .ok v W := by go_simp
theorem ld24 (W : World) (b o : Nat) (x y z : Value) (h : W.cell? ⟨b, o, none⟩ = some x) (h1 : W.cell? ⟨b, o + 1, none⟩ = some y) (h2 : W.cell? ⟨b, o + 2, none⟩ = some z) : (Instr.loadAt 24 (.pointer (some ⟨b, o, none⟩))).run Tryz.prog W = .ok (.agg #[x, y, z]) W := by go_simp
section
variable {P : Program} {ρ : Operand → Value} {o : Oper} {W : World}
theorem ex_field {t : TypeId} {x : Operand} {f : Nat} (ho : o.op = .fieldAddr t x f) {p v : Value} (hx : ρ x = p) (hr : (Instr.fieldAt t p f).run P W = .ok v W) : (execOp ρ o).run P W = .ok (.value v) W := by simp [execOp, ho, hx, hr]
theorem ex_call1 {f : FuncId} (hf : ∀ args W, (callFunc f args).run P W = .ok (.enter f args) W) {x : Operand} {ts : Array TypeId} (ho : o.op = .call { callee := .value (.func f), args := #[x], argTypes := ts }) {p : Value} (hρ : ρ (.func f) = .func (.func f) #[] #[]) (hx : ρ x = p) : (execOp ρ o).run P W = .ok (.enter f #[p]) W := by
  simp [execOp, ho, resolve, hρ, hx, invoke, go_sem, hf]
theorem ex_call2 {f : FuncId} (hf : ∀ args W, (callFunc f args).run P W = .ok (.enter f args) W) {x y : Operand} {ts : Array TypeId} (ho : o.op = .call { callee := .value (.func f), args := #[x, y], argTypes := ts }) {p q : Value} (hρ : ρ (.func f) = .func (.func f) #[] #[]) (hx : ρ x = p) (hy : ρ y = q) : (execOp ρ o).run P W = .ok (.enter f #[p, q]) W := by
  simp [execOp, ho, resolve, hρ, hx, hy, invoke, go_sem, hf]
theorem ex_is {f : FuncId} (hf : ∀ args W, (callFunc f args).run P W = .ok (.enter f args) W) {t x y z : Operand} {ts : Array TypeId} (ho : o.op = .call { callee := .value t, args := #[x, y, z], argTypes := ts }) {p q r n : Value} (ht : ρ t = .func (.func f) #[] #[n]) (hx : ρ x = p) (hy : ρ y = q) (hz : ρ z = r) : (execOp ρ o).run P W = .ok (.enter f #[p, q, r, n]) W := by
  simp [execOp, ho, resolve, ht, hx, hy, hz, invoke, go_sem, hf]
theorem ex_len {x : Operand} {ts : Array TypeId} (ho : o.op = .call { callee := .builtin .len, args := #[x], argTypes := ts }) {a : Option Addr} {n c : Nat} (hl : ∀ ty, (Builtin.len_ ts ty #[.slice a n c]).run P W = .ok (.int .i64 (n : Int)) W) (hx : ρ x = .slice a n c) : (execOp ρ o).run P W = .ok (.value (.int .i64 (n : Int))) W := by
  simp [execOp, ho, resolve, hx, invoke, go_sem, hl]
end
theorem eval_tmp {a : Act} {s : Nat} {v : Value} (h : a.tmps[s]? = some v) : a.eval (.tmp s) = v := by simp [Act.eval, h]
theorem wanted_none {o : Oper} {y : Nat → Option Bool} (h : o.guard = none) : Region.wanted o y = true := by simp [Region.wanted, h]
theorem fa1 (W : World) (b : Nat) : (Instr.fieldAt 31 (.pointer (some ⟨b, 0, none⟩)) 1).run Tryz.prog W = .ok (.pointer (some ⟨b, 1, none⟩)) W := by go_simp
theorem fa2 (W : World) (b : Nat) : (Instr.fieldAt 31 (.pointer (some ⟨b, 0, none⟩)) 2).run Tryz.prog W = .ok (.pointer (some ⟨b, 2, none⟩)) W := by go_simp
theorem fa3 (W : World) (b : Nat) : (Instr.fieldAt 31 (.pointer (some ⟨b, 0, none⟩)) 3).run Tryz.prog W = .ok (.pointer (some ⟨b, 3, none⟩)) W := by go_simp
theorem fa4 (W : World) (b : Nat) : (Instr.fieldAt 31 (.pointer (some ⟨b, 0, none⟩)) 4).run Tryz.prog W = .ok (.pointer (some ⟨b, 4, none⟩)) W := by go_simp
theorem fa5 (W : World) (b : Nat) : (Instr.fieldAt 31 (.pointer (some ⟨b, 0, none⟩)) 5).run Tryz.prog W = .ok (.pointer (some ⟨b, 5, none⟩)) W := by go_simp
theorem fa6 (W : World) (b : Nat) : (Instr.fieldAt 31 (.pointer (some ⟨b, 0, none⟩)) 6).run Tryz.prog W = .ok (.pointer (some ⟨b, 6, none⟩)) W := by go_simp
theorem fa7 (W : World) (b : Nat) : (Instr.fieldAt 31 (.pointer (some ⟨b, 0, none⟩)) 7).run Tryz.prog W = .ok (.pointer (some ⟨b, 9, none⟩)) W := by go_simp
theorem fa8 (W : World) (b : Nat) : (Instr.fieldAt 31 (.pointer (some ⟨b, 0, none⟩)) 8).run Tryz.prog W = .ok (.pointer (some ⟨b, 10, none⟩)) W := by go_simp
theorem fa9 (W : World) (b : Nat) : (Instr.fieldAt 31 (.pointer (some ⟨b, 0, none⟩)) 9).run Tryz.prog W = .ok (.pointer (some ⟨b, 11, none⟩)) W := by go_simp
theorem fa10 (W : World) (b : Nat) : (Instr.fieldAt 31 (.pointer (some ⟨b, 0, none⟩)) 10).run Tryz.prog W = .ok (.pointer (some ⟨b, 17, none⟩)) W := by go_simp
theorem fa11 (W : World) (b : Nat) : (Instr.fieldAt 31 (.pointer (some ⟨b, 0, none⟩)) 11).run Tryz.prog W = .ok (.pointer (some ⟨b, 18, none⟩)) W := by go_simp
theorem fa12 (W : World) (b : Nat) : (Instr.fieldAt 31 (.pointer (some ⟨b, 0, none⟩)) 12).run Tryz.prog W = .ok (.pointer (some ⟨b, 24, none⟩)) W := by go_simp
theorem fa13 (W : World) (b : Nat) : (Instr.fieldAt 31 (.pointer (some ⟨b, 0, none⟩)) 13).run Tryz.prog W = .ok (.pointer (some ⟨b, 25, none⟩)) W := by go_simp
theorem ld29 (W : World) (b o : Nat) (x0 x1 x2 x3 x4 x5 : Value) (h : W.cell? ⟨b, o, none⟩ = some x0) (h1 : W.cell? ⟨b, o + 1, none⟩ = some x1) (h2 : W.cell? ⟨b, o + 2, none⟩ = some x2) (h3 : W.cell? ⟨b, o + 3, none⟩ = some x3) (h4 : W.cell? ⟨b, o + 4, none⟩ = some x4) (h5 : W.cell? ⟨b, o + 5, none⟩ = some x5) : (Instr.loadAt 29 (.pointer (some ⟨b, o, none⟩))).run Tryz.prog W = .ok (.agg #[x0, x1, x2, x3, x4, x5]) W := by go_simp
theorem eq9 (W : World) (x y : Operand) (l : List UInt8) : (do eqGuard .eql 9 x y (.string ⟨l.toArray⟩) (.string ⟨#[]⟩); binOp .eql 9 (.string ⟨l.toArray⟩) (.string ⟨#[]⟩) : Sem Value).run Tryz.prog W = .ok (.bool (decide (l = []))) W := by
  have e : l.isEmpty = decide (l = []) := by cases l <;> simp
  rw [← e]
  go_simp
theorem eq24 (W : World) (x y : Operand) (v : Vl) : (do eqGuard .eql 24 x y (.agg #[.int .i64 v.k, .int .i64 v.n, .string ⟨v.s.toArray⟩]) (.agg #[.int .i64 0, .int .i64 0, .string ⟨#[]⟩]); binOp .eql 24 (.agg #[.int .i64 v.k, .int .i64 v.n, .string ⟨v.s.toArray⟩]) (.agg #[.int .i64 0, .int .i64 0, .string ⟨#[]⟩]) : Sem Value).run Tryz.prog W = .ok (.bool (noneV v)) W := by
  unfold noneV
  go_simp
  by_cases h1 : v.k = 0 <;> by_cases h2 : v.n = 0 <;> by_cases h3 : v.s = [] <;> simp [h1, h2, h3]
theorem geq3 (W : World) (x y : Operand) (n : Int) : (do eqGuard .geq 3 x y (.int .i64 n) (.int .i64 (-1)); binOp .geq 3 (.int .i64 n) (.int .i64 (-1)) : Sem Value).run Tryz.prog W = .ok (.bool (decide (-1 ≤ n))) W := by go_simp
theorem not4 (W : World) (b : Bool) : (Op.unary .not (.bool b)).run Tryz.prog W = .ok (.bool (!b)) W := by go_simp
theorem ex_build24 {ρ : Operand → Value} {o : Oper} {W : World} (ho : o.op = .build 24 #[]) : (execOp ρ o).run Tryz.prog W = .ok (.value (.agg #[.int .i64 0, .int .i64 0, .string ⟨#[]⟩])) W := by
  simp only [execOp, ho]
  go_simp
theorem cf71 (args : Array Value) (W : World) : (callFunc 71 args).run Tryz.prog W = .ok (.enter 71 args) W := by go_simp
theorem cf72 (args : Array Value) (W : World) : (callFunc 72 args).run Tryz.prog W = .ok (.enter 72 args) W := by go_simp
theorem cf73 (args : Array Value) (W : World) : (callFunc 73 args).run Tryz.prog W = .ok (.enter 73 args) W := by go_simp
theorem cf74 (args : Array Value) (W : World) : (callFunc 74 args).run Tryz.prog W = .ok (.enter 74 args) W := by go_simp
theorem cf75 (args : Array Value) (W : World) : (callFunc 75 args).run Tryz.prog W = .ok (.enter 75 args) W := by go_simp
theorem cf76 (args : Array Value) (W : World) : (callFunc 76 args).run Tryz.prog W = .ok (.enter 76 args) W := by go_simp
theorem cf77 (args : Array Value) (W : World) : (callFunc 77 args).run Tryz.prog W = .ok (.enter 77 args) W := by go_simp
theorem cf78 (args : Array Value) (W : World) : (callFunc 78 args).run Tryz.prog W = .ok (.enter 78 args) W := by go_simp
theorem cf79 (args : Array Value) (W : World) : (callFunc 79 args).run Tryz.prog W = .ok (.enter 79 args) W := by go_simp
theorem cf80 (args : Array Value) (W : World) : (callFunc 80 args).run Tryz.prog W = .ok (.enter 80 args) W := by go_simp
theorem len22 (W : World) (a : Option Addr) (n c : Nat) (ty : TypeId) : (Builtin.len_ #[22] ty #[.slice a n c]).run Tryz.prog W = .ok (.int .i64 (n : Int)) W := by go_simp
theorem len25 (W : World) (a : Option Addr) (n c : Nat) (ty : TypeId) : (Builtin.len_ #[25] ty #[.slice a n c]).run Tryz.prog W = .ok (.int .i64 (n : Int)) W := by go_simp
theorem len26 (W : World) (a : Option Addr) (n c : Nat) (ty : TypeId) : (Builtin.len_ #[26] ty #[.slice a n c]).run Tryz.prog W = .ok (.int .i64 (n : Int)) W := by go_simp
theorem run_whole {P : Program} {md : Region.Mode} {ops : Array Oper} {Q : Exit → Act → World → Prop} {S : World → Prop} {L0 : Array Bool} {a0 : Act} {V : Nat → Value} (hk : RunOk ops L0 a0 V P md Q S)
    (hq : ∀ listed a' w', S w' → RunAt ops L0 a0 V listed a' → (∀ j, j < ops.size → listed.getD j true = true) → Q .normal a' w') :
    ∀ (fuel : Nat) (listed : Array Bool) (a : Act) (w : World), RunAt ops L0 a0 V listed a → S w → left ops listed ≤ fuel → wpAnyH P md ops Q S fuel listed a w := by
  have fin : ∀ listed a w, RunAt ops L0 a0 V listed a → S w → Region.ready md ops listed = [] → Q .normal a w := by
    intro listed a w hd hS hr
    exact hq listed a w hS hd (run_done hk.back hd hr)
  intro fuel
  induction fuel with
  | zero =>
    intro listed a w hd hS hl
    have hr : Region.ready md ops listed = [] := by
      cases hh : Region.ready md ops listed with
      | nil => rfl
      | cons i r =>
        exfalso
        have hi : i ∈ Region.ready md ops listed := by rw [hh]; simp
        unfold Region.ready at hi
        rw [List.mem_filter] at hi
        have hu : (!listed.getD i true) = true := by
          have := hi.2
          rw [Bool.and_eq_true] at this
          exact this.1
        have : 0 < left ops listed := List.countP_pos_iff.2 ⟨i, hi.1, hu⟩
        omega
    exact ⟨hr, fin listed a w hd hS hr⟩
  | succ fuel ih =>
    intro listed a w hd hS hl
    refine ⟨fin listed a w hd hS, fun i hi => ?_⟩
    unfold Region.ready at hi
    rw [List.mem_filter, Bool.and_eq_true] at hi
    obtain ⟨hir, hu, hall⟩ := hi
    have hisz := List.mem_range.1 hir
    have hu' : listed.getD i true = false := by simpa using hu
    have h0 : L0.getD i true = false := by
      cases e : L0.getD i true
      · rfl
      · rw [hd.more i e] at hu'; cases hu'
    obtain ⟨o, ho⟩ : ∃ o, ops[i]? = some o := ⟨ops[i], Array.getElem?_eq_getElem hisz⟩
    rw [ho] at hall
    simp only [Option.map_some, Option.getD_some, Array.all_eq_true_iff_forall_mem] at hall
    refine hk.runs i o listed a w ho h0 hd (fun e he hb => by
      have := hall e he
      rw [hb] at this
      simpa using this) hS _ (fun w' hS' => ⟨hS', ih _ _ _ ?_ hS' ?_⟩)
    · obtain ⟨d, hdst, hlt⟩ := hk.dst i o ho h0
      have hput : a.put o.dst (V i) = { a with tmps := a.tmps.setIfInBounds d (V i) } := by rw [hdst]; rfl
      have hget : ∀ j, (listed.setIfInBounds i true).getD j true = if j = i then true else listed.getD j true := by
        intro j
        by_cases e : j = i
        · subst e; rw [if_pos rfl]; simp [Array.getD]
        · rw [if_neg e]
          by_cases hj : j < listed.size
          · simp [Array.getD, hj, Ne.symm e]
          · simp [Array.getD, hj]
      rw [hput]
      refine ⟨by simpa using hd.size, hd.defers, ?_, ?_, ?_, by simpa using hd.frame⟩
      · intro j hj
        rw [hget]
        by_cases e : j = i
        · rw [if_pos e]
        · rw [if_neg e]; exact hd.more j hj
      · intro j p d' hj hj0 hl hpd
        rw [hget] at hl
        by_cases e : j = i
        · subst e
          rw [ho] at hj; cases hj
          rw [hdst] at hpd; cases hpd
          rw [Array.getElem?_setIfInBounds_self, if_pos (by rw [hd.frame]; exact hlt)]
        · rw [if_neg e] at hl
          have hne : d ≠ d' := by
            intro e2
            subst e2
            exact e (hk.one j i p o d hj ho hj0 h0 hpd hdst)
          rw [Array.getElem?_setIfInBounds_ne hne]
          exact hd.new j p d' hj hj0 hl hpd
      · intro d' hd'
        have hne : d ≠ d' := by
          intro e2
          subst e2
          exact hd' i o ho h0 hdst
        rw [Array.getElem?_setIfInBounds_ne hne]
        exact hd.old d' hd'
    · have hc := count_less (fun j => !listed.getD j true) i (by simpa using hu') (List.range ops.size) hir
      have e : left ops (listed.setIfInBounds i true) = (List.range ops.size).countP (fun j => !listed.getD j true && j != i) := by
        unfold left
        apply List.countP_congr
        intro j hj
        have hj' := List.mem_range.1 hj
        have hsz := hd.size
        by_cases e : j = i
        · subst e; simp [Array.getD, hsz, hj']
        · simp [Array.getD, hsz, hj', Ne.symm e, e]
      unfold left at hl
      omega
def gw (p : Bool) (v : Value) : Value := if p = true then v else undef
theorem gw_of {p : Bool} {v : Value} (h : p = true) : gw p v = v := by rw [gw, if_pos h]
theorem gw_no {p : Bool} {v : Value} (h : p = false) : gw p v = undef := by rw [gw, h]; rfl
theorem wanted_gw {o : Oper} {ops : Array Oper} {tm : Array Value} {g d : Nat} {b G c : Bool} (h : o.guard = some (g, b)) (hd : (ops[g]?).bind (·.dst) = some d) (ht : tm[d]? = some (gw G (.bool c))) : Region.wanted o (yielded ops tm) = (G && (c == b)) := by
  cases G with
  | true =>
    rw [gw_of rfl] at ht
    simp only [Region.wanted, h, yielded, hd, Option.bind_some, ht]
    cases c <;> cases b <;> rfl
  | false =>
    rw [gw_no rfl] at ht
    simp only [Region.wanted, h, yielded, hd, Option.bind_some, ht, undef]
    cases b <;> rfl
theorem pick_and {G c x : Bool} (h : G = true) : (if c = true then gw (G && (c == true)) (.bool x) else .bool false) = (.bool (c && x) : Value) := by
  subst h; cases c <;> cases x <;> rfl
theorem pick_or {G c x : Bool} (h : G = true) : (if c = true then (.bool true : Value) else gw (G && (c == false)) (.bool x)) = .bool (c || x) := by
  subst h; cases c <;> cases x <;> rfl
def ObR (P : Program) (R : Array Oper) (n : Nat) (a0 : Act) (V : Nat → Value) (Q : Exit → Act → World → Prop) (S : World → Prop) (j : Nat) : Prop :=
  ∀ o listed a W, R[j]? = some o → RunAt R (Array.replicate n false) a0 V listed a → (∀ e ∈ o.after, Region.binds .any e = true → listed.getD e.on false = true) → S W →
    ∀ K : Act → World → Prop, (∀ w', S w' → K (a.put o.dst (V j)) w') → wpOp P R Q j K a W
theorem upto_succ {p : Nat → Prop} {n : Nat} (h : ∀ j, j < n → p j) (hn : p n) : ∀ j, j < n + 1 → p j := fun j hj => by
  by_cases e : j = n
  · exact e ▸ hn
  · exact h j (by omega)
def backR (ops : Array Oper) (n : Nat) : Bool := (List.range ops.size).all fun j => match ops[j]? with
  | some o => o.after.all (fun e => decide (e.on < j)) && (match o.dst with | some d => decide (d < n) | none => false)
  | none => true
theorem run_ok_of {P : Program} {R : Array Oper} {n m : Nat} {dls : List (Option Tmp)} {a0 : Act} {V : Nat → Value} {Q : Exit → Act → World → Prop} {S : World → Prop} (hsz : R.size = n) (hb : backR R m = true) (hdl : R.toList.map (·.dst) = dls) (hnd : dls.Nodup) (ha : a0.tmps.size = m)
    (hob : ∀ j, j < n → ObR P R n a0 V Q S j) : RunOk R (Array.replicate n false) a0 V P .any Q S := by
  have each : ∀ (j : Nat) (o : Oper), R[j]? = some o → o.after.all (fun e => decide (e.on < j)) = true ∧ (match o.dst with | some d => decide (d < m) | none => false) = true := by
    intro j o hj
    have hlt := (ltS hj)
    have := List.all_eq_true.1 hb j (List.mem_range.2 hlt)
    rw [hj] at this
    simpa only [Bool.and_eq_true] using this
  refine ⟨by rw [hsz]; simp, ?_, ?_, ?_, ?_⟩
  · intro j o hj _ e he
    have := Array.all_eq_true_iff_forall_mem.1 (each j o hj).1 e he
    simpa using this
  · intro j o hj _
    have := (each j o hj).2
    cases hd : o.dst with
    | none => rw [hd] at this; cases this
    | some d => rw [hd] at this; exact ⟨d, rfl, by rw [ha]; simpa using this⟩
  · intro j k o p d hj hk _ _ hod hpd
    have at' : ∀ (i : Nat) (q : Oper), R[i]? = some q → dls[i]? = some q.dst := by
      intro i q hq
      rw [← hdl, List.getElem?_map, Array.getElem?_toList, hq]; rfl
    have e1 := at' j o hj
    have e2 := at' k p hk
    rw [hod] at e1
    rw [hpd] at e2
    exact (List.getElem?_inj (List.getElem?_eq_some_iff.1 e1).1 hnd).1 (e1.trans e2.symm)
  · intro j o listed a W hj _ hd hl hS K hK
    have hlt := (ltS hj)
    rw [hsz] at hlt
    exact hob j hlt o listed a W hj hd hl hS K hK
def putL (T : List Value) : List (Option Tmp × Value) → List Value
  | [] => T
  | (some d, v) :: r => putL (T.set d v) r
  | (none, _) :: r => putL T r
theorem putL_length : ∀ (ps : List (Option Tmp × Value)) (T : List Value), (putL T ps).length = T.length := by
  intro ps
  induction ps with
  | nil => intro T; rfl
  | cons p r ih =>
    obtain ⟨d, v⟩ := p
    intro T
    cases d with
    | none => exact ih T
    | some d => rw [putL, ih]; simp
theorem putL_old : ∀ (ps : List (Option Tmp × Value)) (T : List Value) (d : Nat), (∀ p ∈ ps, p.1 ≠ some d) → (putL T ps)[d]? = T[d]? := by
  intro ps
  induction ps with
  | nil => intro T d _; rfl
  | cons p r ih =>
    obtain ⟨e, v⟩ := p
    intro T d h
    cases e with
    | none => exact ih T d fun q hq => h q (List.mem_cons_of_mem _ hq)
    | some e =>
      rw [putL, ih _ d fun q hq => h q (List.mem_cons_of_mem _ hq)]
      have : e ≠ d := fun h2 => h (some e, v) List.mem_cons_self (by rw [h2])
      rw [List.getElem?_set_ne this]
theorem putL_new : ∀ (ps : List (Option Tmp × Value)) (T : List Value) (d : Nat) (v : Value), (ps.map (·.1)).Nodup → (some d, v) ∈ ps → d < T.length → (putL T ps)[d]? = some v := by
  intro ps
  induction ps with
  | nil => intro T d v _ h; cases h
  | cons p r ih =>
    obtain ⟨e, u⟩ := p
    intro T d v hn hm hd
    rw [List.map_cons, List.nodup_cons] at hn
    rcases List.mem_cons.1 hm with h | h
    · cases h
      rw [putL, putL_old]
      · rw [List.getElem?_set_self hd]
      · intro q hq hq2
        exact hn.1 (List.mem_map.2 ⟨q, hq, hq2⟩)
    · cases e with
      | none => exact ih T d v hn.2 h hd
      | some e => rw [putL]; exact ih _ d v hn.2 h (by simpa using hd)
theorem run_frame {R : Array Oper} {n : Nat} {dls : List (Option Tmp)} {a0 a' : Act} {V : Nat → Value} {listed : Array Bool} (hsz : R.size = n) (hdl : R.toList.map (·.dst) = dls) (hnd : dls.Nodup) (hlt : ∀ d, some d ∈ dls → d < a0.tmps.size)
    (hd : RunAt R (Array.replicate n false) a0 V listed a') (hall : ∀ j, j < R.size → listed.getD j true = true) : a' = { tmps := (putL a0.tmps.toList (dls.zip ((List.range n).map V))).toArray, defers := a0.defers } := by
  have hdn : dls.length = n := by rw [← hdl]; simp [hsz]
  have hfst : (dls.zip ((List.range n).map V)).map (·.1) = dls := by
    rw [List.map_fst_zip]; simp [hdn]
  have h0 : ∀ j, j < n → (Array.replicate n false).getD j true = false := by intro j hj; simp [Array.getD, hj]
  have ht : a'.tmps = (putL a0.tmps.toList (dls.zip ((List.range n).map V))).toArray := by
    apply Array.ext_getElem?
    intro i
    suffices h : a'.tmps[i]? = (putL a0.tmps.toList (dls.zip ((List.range n).map V)))[i]? by rw [h]; simp
    by_cases hi : some i ∈ dls
    · obtain ⟨j, hj⟩ := List.getElem?_of_mem hi
      have hjn : j < n := by have := (List.getElem?_eq_some_iff.1 hj).1; omega
      have hjo : ∃ o, R[j]? = some o := ⟨R[j], Array.getElem?_eq_getElem (by omega)⟩
      obtain ⟨o, ho⟩ := hjo
      have hod : o.dst = some i := by
        have : dls[j]? = some o.dst := by rw [← hdl, List.getElem?_map, Array.getElem?_toList, ho]; rfl
        rw [hj] at this
        exact (Option.some.inj this).symm
      rw [hd.new j o i ho (h0 j hjn) (hall j (by omega)) hod]
      refine (putL_new _ _ i (V j) (by rw [hfst]; exact hnd) ?_ (by simpa using hlt i hi)).symm
      refine List.mem_of_getElem? (i := j) ?_
      rw [List.getElem?_zip_eq_some]
      exact ⟨hj, by simp [hjn]⟩
    · rw [hd.old i (fun j o hj _ hod => hi ?_), putL_old]
      · rw [Array.getElem?_toList]
      · intro p hp hpi
        exact hi (hfst ▸ List.mem_map.2 ⟨p, hp, hpi⟩)
      · have : dls[j]? = some o.dst := by rw [← hdl, List.getElem?_map, Array.getElem?_toList, hj]; rfl
        rw [hod] at this
        exact List.mem_of_getElem? this
  cases a'
  simp only [Act.mk.injEq]
  exact ⟨ht, hd.defers⟩
theorem wp_run {P : Program} {R : Array Oper} {n m : Nat} {dls : List (Option Tmp)} {a0 : Act} {V : Nat → Value} {Q : Exit → Act → World → Prop} {S : World → Prop} {id : Nat} {w : World} (hm : P.follows .mixedOrders = true) (hsz : R.size = n) (hb : backR R m = true) (hdl : R.toList.map (·.dst) = dls) (hnd : dls.Nodup) (ha : a0.tmps.size = m)
    (hob : ∀ j, j < n → ObR P R n a0 V Q S j) (hS : S w.drew)
    (hq : ∀ w', S w' → Q .normal { tmps := (putL a0.tmps.toList (dls.zip ((List.range n).map V))).toArray, defers := a0.defers } w') : (Code.region id R true).wp P Q a0 w := by
  have hlt : ∀ d, some d ∈ dls → d < a0.tmps.size := by
    intro d hd
    obtain ⟨j, hj⟩ := List.getElem?_of_mem hd
    have hk := run_ok_of hsz hb hdl hnd ha hob
    have hjn : j < R.size := by have := (List.getElem?_eq_some_iff.1 hj).1; rw [← hdl] at this; simpa using this
    have ho : R[j]? = some R[j] := Array.getElem?_eq_getElem hjn
    obtain ⟨d', h1, h2⟩ := hk.dst j _ ho (by simp [Array.getD]; omega)
    have : dls[j]? = some (R[j]).dst := by rw [← hdl, List.getElem?_map, Array.getElem?_toList, ho]; rfl
    rw [hj, h1] at this
    cases this
    exact h2
  refine wp_region_held_drew (S := S) hm hS (fun hHeld => ?_)
  rw [hsz]
  refine run_whole (V := V) (run_ok_of hsz hb hdl hnd ha hob) ?_ _ _ _ _ ⟨by rw [hsz]; simp, rfl, fun _ h => h, fun j o d _ h1 h2 _ => (by rw [h1] at h2; cases h2), fun _ _ => rfl, rfl⟩ hHeld ?_
  · intro listed a' w' hS' hd hall
    rw [run_frame hsz hdl hnd hlt hd hall]
    exact hq w' hS'
  · unfold left
    rw [hsz]
    exact Nat.le_trans List.countP_le_length (by simp)
theorem frame_at {T : List Value} {dls : List (Option Tmp)} {n : Nat} {V : Nat → Value} (hnd : dls.Nodup) (hl : dls.length = n) (j d : Nat) (hj : dls[j]? = some (some d)) (hd : d < T.length) : (putL T (dls.zip ((List.range n).map V)))[d]? = some (V j) := by
  have hfst : (dls.zip ((List.range n).map V)).map (·.1) = dls := by
    rw [List.map_fst_zip]; simp [hl]
  have hjn : j < n := by have := (List.getElem?_eq_some_iff.1 hj).1; omega
  refine putL_new _ _ d (V j) (by rw [hfst]; exact hnd) ?_ hd
  refine List.mem_of_getElem? (i := j) ?_
  rw [List.getElem?_zip_eq_some]
  exact ⟨hj, by simp [hjn]⟩
theorem post_frame {P : Program} {fn : Func} {R : Ending → World → Prop} {T : List Value} {dls : List (Option Tmp)} {n : Nat} {V : Nat → Value} {w : World} {s : Nat} (j : Nat) (hres : fn.results = #[.tmp s]) (hnd : dls.Nodup) (hl : dls.length = n) (hj : dls[j]? = some (some s)) (hs : s < T.length) (h : R (.returned (V j)) w) :
    bodyPost P fn R .ret { tmps := (putL T (dls.zip ((List.range n).map V))).toArray, defers := [] } w := by
  refine bodyPost_ret (results_tmp hres _ _ _) rfl ?_
  have e : (putL T (dls.zip ((List.range n).map V))).toArray.getD s undef = V j := by
    rw [Array.getD_eq_getD_getElem?]
    have := frame_at (T := T) (V := V) hnd hl j s hj hs
    simp only [List.getElem?_toArray, this, Option.getD_some]
  show R (.returned ((putL T (dls.zip ((List.range n).map V))).toArray.getD s undef)) w
  rw [e]; exact h
theorem eq3c (W : World) (x y : Operand) (n m : Int) : (do eqGuard .eql 3 x y (.int .i64 n) (.int .i64 m); binOp .eql 3 (.int .i64 n) (.int .i64 m) : Sem Value).run Tryz.prog W = .ok (.bool (decide (n = m))) W := by
  have e : (n == m) = decide (n = m) := by rw [Bool.eq_iff_iff]; simp
  rw [← e]
  go_simp
theorem leq3c (W : World) (x y : Operand) (n m : Int) : (do eqGuard .leq 3 x y (.int .i64 n) (.int .i64 m); binOp .leq 3 (.int .i64 n) (.int .i64 m) : Sem Value).run Tryz.prog W = .ok (.bool (decide (n ≤ m))) W := by go_simp
theorem ex_call3 {P : Program} {ρ : Operand → Value} {o : Oper} {W : World} {f : FuncId} (hf : ∀ args W, (callFunc f args).run P W = .ok (.enter f args) W) {x y z : Operand} {ts : Array TypeId} (ho : o.op = .call { callee := .value (.func f), args := #[x, y, z], argTypes := ts }) {p q r : Value} (hρ : ρ (.func f) = .func (.func f) #[] #[]) (hx : ρ x = p) (hy : ρ y = q) (hz : ρ z = r) : (execOp ρ o).run P W = .ok (.enter f #[p, q, r]) W := by
  simp [execOp, ho, resolve, hρ, hx, hy, hz, invoke, go_sem, hf]
theorem len27 (W : World) (a : Option Addr) (n c : Nat) (ty : TypeId) : (Builtin.len_ #[27] ty #[.slice a n c]).run Tryz.prog W = .ok (.int .i64 (n : Int)) W := by go_simp
theorem fx0 (W : World) (b : Nat) : (Instr.fieldAt 29 (.pointer (some ⟨b, 0, none⟩)) 0).run Tryz.prog W = .ok (.pointer (some ⟨b, 0, none⟩)) W := by go_simp
theorem fx1 (W : World) (b : Nat) : (Instr.fieldAt 29 (.pointer (some ⟨b, 0, none⟩)) 1).run Tryz.prog W = .ok (.pointer (some ⟨b, 1, none⟩)) W := by go_simp
theorem fx2 (W : World) (b : Nat) : (Instr.fieldAt 29 (.pointer (some ⟨b, 0, none⟩)) 2).run Tryz.prog W = .ok (.pointer (some ⟨b, 4, none⟩)) W := by go_simp
theorem fx3 (W : World) (b : Nat) : (Instr.fieldAt 29 (.pointer (some ⟨b, 0, none⟩)) 3).run Tryz.prog W = .ok (.pointer (some ⟨b, 5, none⟩)) W := by go_simp
theorem ld27 (W : World) (b o : Nat) (v : Value) (h : W.cell? ⟨b, o, none⟩ = some v) : (Instr.loadAt 27 (.pointer (some ⟨b, o, none⟩))).run Tryz.prog W = .ok v W := by go_simp
theorem cf25 (args : Array Value) (W : World) : (callFunc 25 args).run Tryz.prog W = .ok (.enter 25 args) W := by go_simp
theorem cf31 (args : Array Value) (W : World) : (callFunc 31 args).run Tryz.prog W = .ok (.enter 31 args) W := by go_simp
theorem cf32 (args : Array Value) (W : World) : (callFunc 32 args).run Tryz.prog W = .ok (.enter 32 args) W := by go_simp
theorem cf130 (args : Array Value) (W : World) : (callFunc 130 args).run Tryz.prog W = .ok (.enter 130 args) W := by go_simp
def noneTo (R : Array Oper) (j d : Nat) : Bool := (List.range j).all fun i => match R[i]? with | some o => o.dst != some d | none => true
def ObP (P : Program) (R : Array Oper) (n : Nat) (a0 : Act) (V : Nat → Value) (Q : Exit → Act → World → Prop) (S : World → Prop) (j : Nat) : Prop :=
  ∀ o listed a W, R[j]? = some o → RunAt R (Array.replicate n false) a0 V listed a → (∀ i, i < j → listed.getD i true = true) → (∀ d, noneTo R j d = true → a.tmps[d]? = a0.tmps[d]?) → S W →
    ∀ K : Act → World → Prop, (∀ w', S w' → K (a.put o.dst (V j)) w') → wpOp P R Q j K a W
theorem slotP {R : Array Oper} {n : Nat} {a0 a : Act} {V : Nat → Value} {listed : Array Bool} {j : Nat} (hd : RunAt R (Array.replicate n false) a0 V listed a) (hl : ∀ i, i < j → listed.getD i true = true) (k s : Nat)
    (hk : k < j) (h0 : (Array.replicate n false).getD k true = false) (hs : ((R[k]?).bind (·.dst)) = some s) : a.tmps[s]? = some (V k) := by
  cases hp : R[k]? with
  | none => rw [hp] at hs; cases hs
  | some p =>
    rw [hp] at hs
    exact hd.new k p s hp h0 (hl k hk) hs
theorem set_getD (listed : Array Bool) (i j : Nat) : (listed.setIfInBounds i true).getD j true = if j = i then true else listed.getD j true := by
  by_cases e : j = i
  · subst e; rw [if_pos rfl]; simp [Array.getD]
  · rw [if_neg e]
    by_cases hj : j < listed.size
    · simp [Array.getD, hj, Ne.symm e]
    · simp [Array.getD, hj]
theorem runAt_put {R : Array Oper} {L0 listed : Array Bool} {a0 a : Act} {V : Nat → Value} {i d : Nat} {o : Oper} (hd : RunAt R L0 a0 V listed a) (ho : R[i]? = some o) (h0 : L0.getD i true = false) (hdst : o.dst = some d) (hlt : d < a0.tmps.size)
    (one : ∀ j p, R[j]? = some p → L0.getD j true = false → p.dst = some d → j = i) : RunAt R L0 a0 V (listed.setIfInBounds i true) (a.put o.dst (V i)) := by
  have hput : a.put o.dst (V i) = { a with tmps := a.tmps.setIfInBounds d (V i) } := by rw [hdst]; rfl
  have hget := set_getD listed i
  rw [hput]
  refine ⟨by simpa using hd.size, hd.defers, ?_, ?_, ?_, by simpa using hd.frame⟩
  · intro j hj
    rw [hget]
    by_cases e : j = i
    · rw [if_pos e]
    · rw [if_neg e]; exact hd.more j hj
  · intro j p d' hj hj0 hl hpd
    rw [hget] at hl
    by_cases e : j = i
    · subst e
      rw [ho] at hj; cases hj
      rw [hdst] at hpd; cases hpd
      rw [Array.getElem?_setIfInBounds_self, if_pos (by rw [hd.frame]; exact hlt)]
    · rw [if_neg e] at hl
      have hne : d ≠ d' := by
        intro e2
        subst e2
        exact e (one j p hj hj0 hpd)
      rw [Array.getElem?_setIfInBounds_ne hne]
      exact hd.new j p d' hj hj0 hl hpd
  · intro d' hd'
    have hne : d ≠ d' := by
      intro e2
      subst e2
      exact hd' i o ho h0 hdst
    rw [Array.getElem?_setIfInBounds_ne hne]
    exact hd.old d' hd'
theorem wp_plain {P : Program} {R : Array Oper} {n m : Nat} {dls : List (Option Tmp)} {a0 : Act} {V : Nat → Value} {Q : Exit → Act → World → Prop} {S : World → Prop} {id : Nat} {w : World} (hsz : R.size = n) (hdl : R.toList.map (·.dst) = dls) (hnd : dls.Nodup)
    (hin : dls.all (fun d => match d with | some d => decide (d < m) | none => false) = true) (ha : a0.tmps.size = m) (hob : ∀ j, j < n → ObP P R n a0 V Q S j) (hS : S w)
    (hq : ∀ a' w', S w' → a'.defers = a0.defers → a'.tmps.size = m → (∀ j d, dls[j]? = some (some d) → a'.tmps[d]? = some (V j)) → (∀ d, some d ∉ dls → a'.tmps[d]? = a0.tmps[d]?) → Q .normal a' w') : (Code.region id R false).wp P Q a0 w := by
  have at' : ∀ (i : Nat) (q : Oper), R[i]? = some q → dls[i]? = some q.dst := by
    intro i q hq
    rw [← hdl, List.getElem?_map, Array.getElem?_toList, hq]; rfl
  have h0 : ∀ j, j < n → (Array.replicate n false).getD j true = false := by intro j hj; simp [Array.getD, hj]
  have go : ∀ k, k ≤ n → ∀ listed a W, RunAt R (Array.replicate n false) a0 V listed a → (∀ i, i < n - k → listed.getD i true = true) → (∀ d, noneTo R (n - k) d = true → a.tmps[d]? = a0.tmps[d]?) → S W → wpOps P R Q (List.range' (n - k) k) a W := by
    intro k
    induction k with
    | zero =>
      intro _ listed a W hd hl _ hW
      refine hq a W hW hd.defers (hd.frame.trans ha) ?_ ?_
      · intro j d hj
        have hjn : j < n := by have := (List.getElem?_eq_some_iff.1 hj).1; rw [← hdl] at this; simp [hsz] at this; exact this
        obtain ⟨o, ho⟩ : ∃ o, R[j]? = some o := ⟨R[j]'(by omega), Array.getElem?_eq_getElem (by omega)⟩
        have e1 := at' j o ho
        rw [hj] at e1
        exact hd.new j o d ho (h0 j hjn) (hl j (by omega)) (Option.some.inj e1).symm
      · intro d hd'
        refine hd.old d fun j o hj _ hod => hd' ?_
        have e1 := at' j o hj
        rw [hod] at e1
        exact List.mem_of_getElem? e1
    | succ k ih =>
      intro hk listed a W hd hl hb hW
      have hjn : n - (k + 1) < n := by omega
      obtain ⟨o, ho⟩ : ∃ o, R[n - (k + 1)]? = some o := ⟨R[n - (k + 1)]'(by omega), Array.getElem?_eq_getElem (by omega)⟩
      rw [List.range'_succ, wpOps_cons]
      have e1 := at' _ o ho
      obtain ⟨d, hdst, hlt⟩ : ∃ d, o.dst = some d ∧ d < m := by
        have := List.all_eq_true.1 hin _ (List.mem_of_getElem? e1)
        cases hod : o.dst with
        | none => rw [hod] at this; cases this
        | some d => rw [hod] at this; exact ⟨d, rfl, by simpa using this⟩
      refine hob _ hjn o listed a W ho hd hl hb hW _ fun w' hw' => ?_
      have e2 : n - (k + 1) + 1 = n - k := by omega
      rw [e2]
      refine ih (by omega) _ _ w' (runAt_put hd ho (h0 _ hjn) hdst (by rw [ha]; exact hlt) ?_) ?_ ?_ hw'
      · intro j p hj _ hpd
        have e3 := at' j p hj
        rw [hpd] at e3
        rw [hdst] at e1
        exact (List.getElem?_inj (List.getElem?_eq_some_iff.1 e3).1 hnd).1 (e3.trans e1.symm)
      · intro i hi
        rw [set_getD]
        by_cases e : i = n - (k + 1)
        · rw [if_pos e]
        · rw [if_neg e]; exact hl i (by omega)
      · intro d' hd'
        unfold noneTo at hd'
        rw [← e2, List.range_succ, List.all_append, Bool.and_eq_true] at hd'
        have h5 : d ≠ d' := by
          intro e5
          have := hd'.2
          rw [List.all_cons, Bool.and_eq_true, ho] at this
          simp [hdst, e5] at this
        have hput : (a.put o.dst (V (n - (k + 1)))).tmps = a.tmps.setIfInBounds d (V (n - (k + 1))) := by rw [hdst]; rfl
        rw [hput, Array.getElem?_setIfInBounds_ne h5]
        exact hb d' hd'.1
  refine wp_region ?_
  rw [hsz, List.range_eq_range']
  have := go n (Nat.le_refl n) (Array.replicate n false) a0 w ⟨by simp [hsz], rfl, fun _ h => h, fun j o d hj h1 h2 _ => (by rw [h1] at h2; cases h2), fun _ _ => rfl, rfl⟩ (fun i hi => by omega) (fun _ _ => rfl) hS
  rw [Nat.sub_self] at this
  exact this
theorem ex_index {P : Program} {ρ : Operand → Value} {o : Oper} {W : World} {t : TypeId} {x y : Operand} (ho : o.op = .indexAddr t x y) {p q v : Value} (hx : ρ x = p) (hy : ρ y = q) (hr : (Instr.indexAt t p q).run P W = .ok v W) : (execOp ρ o).run P W = .ok (.value v) W := by simp [execOp, ho, hx, hy, hr]
theorem gtr3c (W : World) (x y : Operand) (n m : Int) : (do eqGuard .gtr 3 x y (.int .i64 n) (.int .i64 m); binOp .gtr 3 (.int .i64 n) (.int .i64 m) : Sem Value).run Tryz.prog W = .ok (.bool (decide (m < n))) W := by go_simp
theorem lss3c (W : World) (x y : Operand) (n m : Int) : (do eqGuard .lss 3 x y (.int .i64 n) (.int .i64 m); binOp .lss 3 (.int .i64 n) (.int .i64 m) : Sem Value).run Tryz.prog W = .ok (.bool (decide (n < m))) W := by go_simp
theorem eq32c (W : World) (x y : Operand) (n m : Int) : (do eqGuard .eql 32 x y (.int .i64 n) (.int .i64 m); binOp .eql 32 (.int .i64 n) (.int .i64 m) : Sem Value).run Tryz.prog W = .ok (.bool (decide (n = m))) W := by
  have e : (n == m) = decide (n = m) := by rw [Bool.eq_iff_iff]; simp
  rw [← e]
  go_simp
theorem eq4c (W : World) (x y : Operand) (n m : Bool) : (do eqGuard .eql 4 x y (.bool n) (.bool m); binOp .eql 4 (.bool n) (.bool m) : Sem Value).run Tryz.prog W = .ok (.bool (n == m)) W := by go_simp
theorem ix22 (W : World) (g o n c i : Nat) (h : i < n) : (Instr.indexAt 22 (.slice (some ⟨g, o, none⟩) n c) (.int .i64 (i : Int))).run Tryz.prog W = .ok (.pointer (some ⟨g, o + i * 2, none⟩)) W := by
  have h' : (i : Int) < (n : Int) := by omega
  go_simp
theorem ix25 (W : World) (g o n c i : Nat) (h : i < n) : (Instr.indexAt 25 (.slice (some ⟨g, o, none⟩) n c) (.int .i64 (i : Int))).run Tryz.prog W = .ok (.pointer (some ⟨g, o + i * 3, none⟩)) W := by
  have h' : (i : Int) < (n : Int) := by omega
  go_simp
theorem ix26 (W : World) (g o n c i : Nat) (h : i < n) : (Instr.indexAt 26 (.slice (some ⟨g, o, none⟩) n c) (.int .i64 (i : Int))).run Tryz.prog W = .ok (.pointer (some ⟨g, o + i, none⟩)) W := by
  have h' : (i : Int) < (n : Int) := by omega
  go_simp
theorem fc0 (W : World) (b o : Nat) : (Instr.fieldAt 56 (.pointer (some ⟨b, o, none⟩)) 0).run Tryz.prog W = .ok (.pointer (some ⟨b, o, none⟩)) W := by go_simp
theorem fc1 (W : World) (b o : Nat) : (Instr.fieldAt 56 (.pointer (some ⟨b, o, none⟩)) 1).run Tryz.prog W = .ok (.pointer (some ⟨b, o + 1, none⟩)) W := by go_simp
theorem fa0 (W : World) (b : Nat) : (Instr.fieldAt 31 (.pointer (some ⟨b, 0, none⟩)) 0).run Tryz.prog W = .ok (.pointer (some ⟨b, 0, none⟩)) W := by go_simp
theorem add3c (W : World) (x y : Operand) (n : Nat) (h : n < 1000000000000001) : (do eqGuard .add 3 x y (.int .i64 (n : Int)) (.int .i64 1); binOp .add 3 (.int .i64 (n : Int)) (.int .i64 1) : Sem Value).run Tryz.prog W = .ok (.int .i64 ((n + 1 : Nat) : Int)) W := by
  have h1 : ((n + 1 : Nat) : Int) = (n : Int) + 1 := by omega
  rw [h1]
  have h2 : (n : Int) < 1000000000000001 := by omega
  have h3 : IntKind.i64.wrap ((n : Int) + 1) = (n : Int) + 1 := by rw [IntKind.wrap_i64]; omega
  go_simp
theorem cf30 (args : Array Value) (W : World) : (callFunc 30 args).run Tryz.prog W = .ok (.enter 30 args) W := by go_simp
theorem cf33 (args : Array Value) (W : World) : (callFunc 33 args).run Tryz.prog W = .ok (.enter 33 args) W := by go_simp
theorem cf34 (args : Array Value) (W : World) : (callFunc 34 args).run Tryz.prog W = .ok (.enter 34 args) W := by go_simp
theorem cf35 (args : Array Value) (W : World) : (callFunc 35 args).run Tryz.prog W = .ok (.enter 35 args) W := by go_simp
theorem cf36 (args : Array Value) (W : World) : (callFunc 36 args).run Tryz.prog W = .ok (.enter 36 args) W := by go_simp
def oAt (R : Array Oper) (j : Nat) : Oper := (R[j]?).getD ⟨none, .move (.const undef), 0, "", #[], none⟩
theorem oAt_eq {R : Array Oper} {j n : Nat} (hz : R.size = n) (hj : j < n) : R[j]? = some (oAt R j) := by
  rw [oAt, Array.getElem?_eq_getElem (by omega : j < R.size)]; rfl
def slO (R : Array Oper) (D : Nat → Bool) (k t : Nat) : Bool := D k && ((R[k]?).bind (·.dst) == some t)
theorem slO_of {R : Array Oper} {D : Nat → Bool} {k t : Nat} (h : slO R D k t = true) : D k = true ∧ ((R[k]?).bind (·.dst)) = some t := by
  rw [slO, Bool.and_eq_true] at h
  exact ⟨h.1, by simpa using h.2⟩
def gdO (R : Array Oper) (o : Oper) (D : Nat → Bool) (g : Nat) (b : Bool) (d : Nat) : Bool := (o.guard == some (g, b)) && slO R D g d
theorem gdO_of {R : Array Oper} {o : Oper} {D : Nat → Bool} {g d : Nat} {b : Bool} (h : gdO R o D g b d = true) : o.guard = some (g, b) ∧ slO R D g d = true := by
  rw [gdO, Bool.and_eq_true] at h
  exact ⟨by simpa using h.1, h.2⟩
theorem us {p : Nat → Prop} {n : Nat} (h : ∀ j, j < n → p j) (hn : p n) : ∀ j, j < n + 1 → p j := upto_succ h hn
structure Sl (R : Array Oper) (a0 : Act) (V : Nat → Value) (D N : Nat → Bool) (a : Act) : Prop where
  at' : ∀ k s, D k = true → ((R[k]?).bind (·.dst)) = some s → a.tmps[s]? = some (V k)
  base : ∀ d, N d = true → a.tmps[d]? = a0.tmps[d]?
def depP (j : Nat) (k : Nat) : Bool := decide (k < j)
def depR (o : Oper) (n : Nat) (k : Nat) : Bool := decide (k < n) && o.after.any (fun e => Region.binds .any e && e.on == k)
def Core (P : Program) (R : Array Oper) (a0 : Act) (V : Nat → Value) (Q : Exit → Act → World → Prop) (S : World → Prop) (j : Nat) (o : Oper) (D N : Nat → Bool) : Prop :=
  ∀ a W, Sl R a0 V D N a → S W → ∀ K : Act → World → Prop, (∀ w', S w' → K (a.put o.dst (V j)) w') → wpOp P R Q j K a W
section
variable {P : Program} {R : Array Oper} {a0 a : Act} {V : Nat → Value} {Q : Exit → Act → World → Prop} {S : World → Prop} {j n : Nat} {o : Oper} {D N : Nat → Bool}
theorem obP (eo : R[j]? = some o) (hj : j < n) (h : Core P R a0 V Q S j o (depP j) (noneTo R j)) : ObP P R n a0 V Q S j := by
  intro o' listed a W ho hd hl hb hS K hK
  obtain rfl : o' = o := Option.some.inj (ho.symm.trans eo)
  refine h a W ⟨fun k s hk hs => ?_, hb⟩ hS K hK
  have hk' : k < j := by simpa [depP] using hk
  exact slotP hd hl k s hk' (by simp [Array.getD]; omega) hs
theorem obR (eo : R[j]? = some o) (h : Core P R a0 V Q S j o (depR o n) (noneB R (Array.replicate n false))) : ObR P R n a0 V Q S j := by
  intro o' listed a W ho hd hl hS K hK
  obtain rfl : o' = o := Option.some.inj (ho.symm.trans eo)
  refine h a W ⟨fun k s hk hs => ?_, fun d hn => hd.base d hn⟩ hS K hK
  rw [depR, Bool.and_eq_true] at hk
  have hk' : k < n := by simpa using hk.1
  exact hd.slot hl k s hk.2 (by simp [Array.getD]; omega) hs
theorem Sl.u (s : Sl R a0 V D N a) (k t : Nat) (h : slO R D k t = true) : a.eval (.tmp t) = V k := eval_tmp (s.at' k t (slO_of h).1 (slO_of h).2)
theorem Sl.g (s : Sl R a0 V D N a) (k t : Nat) {G : Bool} {v : Value} (h : slO R D k t = true) (hG : G = true) (hV : V k = gw G v) : a.eval (.tmp t) = v := by
  rw [s.u k t h, hV, gw_of hG]
theorem Sl.b (s : Sl R a0 V D N a) (t : Nat) {v : Value} (h : N t = true) (hv : a0.tmps[t]? = some v) : a.eval (.tmp t) = v := eval_tmp ((s.base t h).trans hv)
theorem coreU (eo : R[j]? = some o) (hg : o.guard = none) (h : ∀ a W, Sl R a0 V D N a → S W → (execOp a.eval o).run P W = .ok (.value (V j)) W) : Core P R a0 V Q S j o D N :=
  fun a _ s hS _ hK => run_quiet eo (Or.inl ⟨wanted_none hg, fun W' hW' => h a W' s hW'⟩) hS hK
theorem coreC {f : FuncId} {args : Array Value} (eo : R[j]? = some o) (hg : o.guard = none) (h : ∀ a W, Sl R a0 V D N a → (execOp a.eval o).run P W = .ok (.enter f args) W) (hc : ∀ W, S W → Calls P f args W fun e w' => e = .returned (V j) ∧ S w') : Core P R a0 V Q S j o D N :=
  fun a W s hS _ hK => run_call f args eo (wanted_none hg) (h a W s) (hc W hS) hK
theorem coreG {g d : Nat} {b G0 x : Bool} {v : Value} (eo : R[j]? = some o) (hg : o.guard = some (g, b)) (hd : ((R[g]?).bind (·.dst)) = some d) (hD : D g = true) (hV0 : V g = gw G0 (.bool x)) (hV : V j = gw (G0 && (x == b)) v)
    (h : (G0 && (x == b)) = true → ∀ a W, Sl R a0 V D N a → S W → (execOp a.eval o).run P W = .ok (.value v) W) : Core P R a0 V Q S j o D N := by
  intro a W s hS K hK
  have hw := wanted_gw hg hd ((s.at' g d hD hd).trans (congrArg some hV0))
  cases hG : (G0 && (x == b)) with
  | false => rw [hG] at hw; exact run_quiet eo (Or.inr ⟨hw, by rw [hV]; exact gw_no hG⟩) hS hK
  | true =>
    rw [hG] at hw
    rw [hV, gw_of hG] at hK
    exact run_quiet eo (Or.inl ⟨hw, fun W' hW' => h hG a W' s hW'⟩) hS hK
theorem coreH {g d : Nat} {b G0 x : Bool} {v : Value} {f : FuncId} {args : Array Value} (eo : R[j]? = some o) (hg : o.guard = some (g, b)) (hd : ((R[g]?).bind (·.dst)) = some d) (hD : D g = true) (hV0 : V g = gw G0 (.bool x)) (hV : V j = gw (G0 && (x == b)) v)
    (h : (G0 && (x == b)) = true → ∀ a W, Sl R a0 V D N a → (execOp a.eval o).run P W = .ok (.enter f args) W) (hc : ∀ W, S W → Calls P f args W fun e w' => e = .returned v ∧ S w') : Core P R a0 V Q S j o D N := by
  intro a W s hS K hK
  have hw := wanted_gw hg hd ((s.at' g d hD hd).trans (congrArg some hV0))
  cases hG : (G0 && (x == b)) with
  | false => rw [hG] at hw; exact run_quiet eo (Or.inr ⟨hw, by rw [hV]; exact gw_no hG⟩) hS hK
  | true =>
    rw [hG] at hw
    rw [hV, gw_of hG] at hK
    exact run_call f args eo hw (h hG a W s) (hc W hS) hK
theorem ex_pickA {ρ : Operand → Value} {W : World} {c x : Tmp} {G C X : Bool} (ho : o.op = .pick (.tmp c) (.tmp x) (.const (.bool false))) (hc : ρ (.tmp c) = .bool C) (hx : ρ (.tmp x) = gw (G && (C == true)) (.bool X)) (hk : ρ (.const (.bool false)) = .bool false) (hG : G = true) : (execOp ρ o).run P W = .ok (.value (.bool (C && X))) W := by
  rw [ex_pick ho hc, hx, hk, pick_and hG]
theorem ex_pickO {ρ : Operand → Value} {W : World} {c y : Tmp} {G C X : Bool} (ho : o.op = .pick (.tmp c) (.const (.bool true)) (.tmp y)) (hc : ρ (.tmp c) = .bool C) (hy : ρ (.tmp y) = gw (G && (C == false)) (.bool X)) (hk : ρ (.const (.bool true)) = .bool true) (hG : G = true) : (execOp ρ o).run P W = .ok (.value (.bool (C || X))) W := by
  rw [ex_pick ho hc, hy, hk, pick_or hG]
end
section
variable {P : Program} {R : Array Oper} {a0 : Act} {V : Nat → Value} {Q : Exit → Act → World → Prop} {S : World → Prop} {j n : Nat}
theorem obPU (hz : R.size = n) (hj : j < n) (hg : (oAt R j).guard = none) (h : ∀ a W, Sl R a0 V (depP j) (noneTo R j) a → S W → (execOp a.eval (oAt R j)).run P W = .ok (.value (V j)) W) : ObP P R n a0 V Q S j := obP (oAt_eq hz hj) hj (coreU (oAt_eq hz hj) hg h)
theorem obPC {f : FuncId} {args : Array Value} (hz : R.size = n) (hj : j < n) (hg : (oAt R j).guard = none) (h : ∀ a W, Sl R a0 V (depP j) (noneTo R j) a → (execOp a.eval (oAt R j)).run P W = .ok (.enter f args) W) (hc : ∀ W, S W → Calls P f args W fun e w' => e = .returned (V j) ∧ S w') : ObP P R n a0 V Q S j := obP (oAt_eq hz hj) hj (coreC (oAt_eq hz hj) hg h hc)
theorem obPG (G0 : Bool) {x : Bool} {v : Value} (g d : Nat) (b : Bool) (hz : R.size = n) (hj : j < n) (hg : gdO R (oAt R j) (depP j) g b d = true) (hV0 : V g = gw G0 (.bool x)) (hV : V j = gw (G0 && (x == b)) v)
    (h : (G0 && (x == b)) = true → ∀ a W, Sl R a0 V (depP j) (noneTo R j) a → S W → (execOp a.eval (oAt R j)).run P W = .ok (.value v) W) : ObP P R n a0 V Q S j := obP (oAt_eq hz hj) hj (coreG (oAt_eq hz hj) (gdO_of hg).1 (slO_of (gdO_of hg).2).2 (slO_of (gdO_of hg).2).1 hV0 hV h)
theorem obPH (G0 : Bool) {x : Bool} {v : Value} {f : FuncId} {args : Array Value} (g d : Nat) (b : Bool) (hz : R.size = n) (hj : j < n) (hg : gdO R (oAt R j) (depP j) g b d = true) (hV0 : V g = gw G0 (.bool x)) (hV : V j = gw (G0 && (x == b)) v)
    (h : (G0 && (x == b)) = true → ∀ a W, Sl R a0 V (depP j) (noneTo R j) a → (execOp a.eval (oAt R j)).run P W = .ok (.enter f args) W) (hc : ∀ W, S W → Calls P f args W fun e w' => e = .returned v ∧ S w') : ObP P R n a0 V Q S j := obP (oAt_eq hz hj) hj (coreH (oAt_eq hz hj) (gdO_of hg).1 (slO_of (gdO_of hg).2).2 (slO_of (gdO_of hg).2).1 hV0 hV h hc)
theorem obRU (hz : R.size = n) (hj : j < n) (hg : (oAt R j).guard = none) (h : ∀ a W, Sl R a0 V (depR (oAt R j) n) (noneB R (Array.replicate n false)) a → S W → (execOp a.eval (oAt R j)).run P W = .ok (.value (V j)) W) : ObR P R n a0 V Q S j := obR (oAt_eq hz hj) (coreU (oAt_eq hz hj) hg h)
theorem obRC {f : FuncId} {args : Array Value} (hz : R.size = n) (hj : j < n) (hg : (oAt R j).guard = none) (h : ∀ a W, Sl R a0 V (depR (oAt R j) n) (noneB R (Array.replicate n false)) a → (execOp a.eval (oAt R j)).run P W = .ok (.enter f args) W) (hc : ∀ W, S W → Calls P f args W fun e w' => e = .returned (V j) ∧ S w') : ObR P R n a0 V Q S j := obR (oAt_eq hz hj) (coreC (oAt_eq hz hj) hg h hc)
theorem obRG (G0 : Bool) {x : Bool} {v : Value} (g d : Nat) (b : Bool) (hz : R.size = n) (hj : j < n) (hg : gdO R (oAt R j) (depR (oAt R j) n) g b d = true) (hV0 : V g = gw G0 (.bool x)) (hV : V j = gw (G0 && (x == b)) v)
    (h : (G0 && (x == b)) = true → ∀ a W, Sl R a0 V (depR (oAt R j) n) (noneB R (Array.replicate n false)) a → S W → (execOp a.eval (oAt R j)).run P W = .ok (.value v) W) : ObR P R n a0 V Q S j := obR (oAt_eq hz hj) (coreG (oAt_eq hz hj) (gdO_of hg).1 (slO_of (gdO_of hg).2).2 (slO_of (gdO_of hg).2).1 hV0 hV h)
theorem obRH (G0 : Bool) {x : Bool} {v : Value} {f : FuncId} {args : Array Value} (g d : Nat) (b : Bool) (hz : R.size = n) (hj : j < n) (hg : gdO R (oAt R j) (depR (oAt R j) n) g b d = true) (hV0 : V g = gw G0 (.bool x)) (hV : V j = gw (G0 && (x == b)) v)
    (h : (G0 && (x == b)) = true → ∀ a W, Sl R a0 V (depR (oAt R j) n) (noneB R (Array.replicate n false)) a → (execOp a.eval (oAt R j)).run P W = .ok (.enter f args) W) (hc : ∀ W, S W → Calls P f args W fun e w' => e = .returned v ∧ S w') : ObR P R n a0 V Q S j := obR (oAt_eq hz hj) (coreH (oAt_eq hz hj) (gdO_of hg).1 (slO_of (gdO_of hg).2).2 (slO_of (gdO_of hg).2).1 hV0 hV h hc)
end
def Xs (m o : Int) (r e : Bool) : Bool := if hasB m o = true then r else e
def ris_b23 (c : Cm) (m : Int) (kd : Bool) : Bool := (kd && (Xs m 1 (nameW c.name) (decide (c.name = []))))
def ris_b33 (c : Cm) (m : Int) (kd : Bool) : Bool := ((ris_b23 c m kd) && (Xs m 2 (nameW c.other) (decide (c.other = []))))
def ris_b43 (c : Cm) (m : Int) (kd : Bool) : Bool := ((ris_b33 c m kd) && (Xs m 4 (nameW c.column) (decide (c.column = []))))
def ris_b54 (c : Cm) (m : Int) (kd : Bool) : Bool := ((ris_b43 c m kd) && (Xs m 8 (areCols c.cols) (decide (((c.cols.length : Nat) : Int) = 0))))
def ris_b64 (c : Cm) (m : Int) (kd : Bool) : Bool := ((ris_b54 c m kd) && (Xs m 16 (typeB c.ty) (decide (c.ty = 0))))
def ris_b75 (c : Cm) (m : Int) (kd : Bool) : Bool := ((ris_b64 c m kd) && (Xs m 32 (valB c.val) (noneV c.val)))
def ris_b86 (c : Cm) (m : Int) (kd : Bool) : Bool := ((ris_b75 c m kd) && (Xs m 64 (areVals c.vals) (decide (((c.vals.length : Nat) : Int) = 0))))
def ris_b97 (c : Cm) (m : Int) (kd : Bool) : Bool := ((ris_b86 c m kd) && (Xs m 128 (c.fields.all nameW) (decide (((c.fields.length : Nat) : Int) = 0))))
def ris_b107 (c : Cm) (m : Int) (kd : Bool) : Bool := ((ris_b97 c m kd) && (Xs m 256 (rightE c.expr) (noneE c.expr)))
def ris_b124 (c : Cm) (m : Int) (kd : Bool) : Bool := ((ris_b107 c m kd) && (Xs m 512 (whereB c.all c.wh) ((!c.all) && (noneE c.wh))))
def ris_b139 (c : Cm) (m : Int) (kd : Bool) : Bool := ((ris_b124 c m kd) && (Xs m 1024 ((decide (c.order = [])) || (nameW c.order)) (decide (c.order = []))))
def ris_b154 (c : Cm) (m : Int) (kd : Bool) : Bool := ((ris_b139 c m kd) && (Xs m 2048 ((decide (-1 ≤ c.limit)) && (decide (c.limit ≤ 999999999))) (decide (c.limit = 0))))
noncomputable def ris_R : Array Oper := ((Tryz.f29.body).bind (regionOf 3)).getD #[]
def ris_V (c : Cm) (a1 a2 a3 : Option Addr) (c1 c2 c3 : Nat) (ea wa : Value) (m : Int) (kd : Bool) (b : Nat) (j : Nat) : Value := ([.bool kd, .bool kd, gw (kd == true) (.func (.func 71) #[] #[.pointer (some ⟨b + 1, 0, none⟩)]), gw (kd == true) (.pointer (some ⟨b, 1, none⟩)), gw (kd == true) (.string ⟨c.name.toArray⟩), gw (kd == true) (.bool (nameW c.name)), gw (kd == true) (.pointer (some ⟨b, 1, none⟩)), gw (kd == true) (.string ⟨c.name.toArray⟩), gw (kd == true) (.bool (decide (c.name = []))), gw (kd == true) (.bool (Xs m 1 (nameW c.name) (decide (c.name = [])))), .bool (ris_b23 c m kd), .bool (ris_b23 c m kd), gw ((ris_b23 c m kd) == true) (.func (.func 71) #[] #[.pointer (some ⟨b + 1, 0, none⟩)]), gw ((ris_b23 c m kd) == true) (.pointer (some ⟨b, 2, none⟩)), gw ((ris_b23 c m kd) == true) (.string ⟨c.other.toArray⟩), gw ((ris_b23 c m kd) == true) (.bool (nameW c.other)), gw ((ris_b23 c m kd) == true) (.pointer (some ⟨b, 2, none⟩)), gw ((ris_b23 c m kd) == true) (.string ⟨c.other.toArray⟩), gw ((ris_b23 c m kd) == true) (.bool (decide (c.other = []))), gw ((ris_b23 c m kd) == true) (.bool (Xs m 2 (nameW c.other) (decide (c.other = [])))), .bool (ris_b33 c m kd), .bool (ris_b33 c m kd), gw ((ris_b33 c m kd) == true) (.func (.func 71) #[] #[.pointer (some ⟨b + 1, 0, none⟩)]), gw ((ris_b33 c m kd) == true) (.pointer (some ⟨b, 3, none⟩)), gw ((ris_b33 c m kd) == true) (.string ⟨c.column.toArray⟩), gw ((ris_b33 c m kd) == true) (.bool (nameW c.column)), gw ((ris_b33 c m kd) == true) (.pointer (some ⟨b, 3, none⟩)), gw ((ris_b33 c m kd) == true) (.string ⟨c.column.toArray⟩), gw ((ris_b33 c m kd) == true) (.bool (decide (c.column = []))), gw ((ris_b33 c m kd) == true) (.bool (Xs m 4 (nameW c.column) (decide (c.column = [])))), .bool (ris_b43 c m kd), .bool (ris_b43 c m kd), gw ((ris_b43 c m kd) == true) (.func (.func 71) #[] #[.pointer (some ⟨b + 1, 0, none⟩)]), gw ((ris_b43 c m kd) == true) (.pointer (some ⟨b, 4, none⟩)), gw ((ris_b43 c m kd) == true) (.slice a1 c.cols.length c1), gw ((ris_b43 c m kd) == true) (.bool (areCols c.cols)), gw ((ris_b43 c m kd) == true) (.pointer (some ⟨b, 4, none⟩)), gw ((ris_b43 c m kd) == true) (.slice a1 c.cols.length c1), gw ((ris_b43 c m kd) == true) (.int .i64 ((c.cols.length : Nat) : Int)), gw ((ris_b43 c m kd) == true) (.bool (decide (((c.cols.length : Nat) : Int) = 0))), gw ((ris_b43 c m kd) == true) (.bool (Xs m 8 (areCols c.cols) (decide (((c.cols.length : Nat) : Int) = 0)))), .bool (ris_b54 c m kd), .bool (ris_b54 c m kd), gw ((ris_b54 c m kd) == true) (.func (.func 71) #[] #[.pointer (some ⟨b + 1, 0, none⟩)]), gw ((ris_b54 c m kd) == true) (.pointer (some ⟨b, 5, none⟩)), gw ((ris_b54 c m kd) == true) (.int .i64 c.ty), gw ((ris_b54 c m kd) == true) (.bool (typeB c.ty)), gw ((ris_b54 c m kd) == true) (.pointer (some ⟨b, 5, none⟩)), gw ((ris_b54 c m kd) == true) (.int .i64 c.ty), gw ((ris_b54 c m kd) == true) (.bool (decide (c.ty = 0))), gw ((ris_b54 c m kd) == true) (.bool (Xs m 16 (typeB c.ty) (decide (c.ty = 0)))), .bool (ris_b64 c m kd), .bool (ris_b64 c m kd), gw ((ris_b64 c m kd) == true) (.func (.func 71) #[] #[.pointer (some ⟨b + 1, 0, none⟩)]), gw ((ris_b64 c m kd) == true) (.pointer (some ⟨b, 6, none⟩)), gw ((ris_b64 c m kd) == true) (.agg #[.int .i64 c.val.k, .int .i64 c.val.n, .string ⟨c.val.s.toArray⟩]), gw ((ris_b64 c m kd) == true) (.bool (valB c.val)), gw ((ris_b64 c m kd) == true) (.pointer (some ⟨b, 6, none⟩)), gw ((ris_b64 c m kd) == true) (.agg #[.int .i64 c.val.k, .int .i64 c.val.n, .string ⟨c.val.s.toArray⟩]), gw ((ris_b64 c m kd) == true) (.agg #[.int .i64 0, .int .i64 0, .string ⟨#[]⟩]), gw ((ris_b64 c m kd) == true) (.bool (noneV c.val)), gw ((ris_b64 c m kd) == true) (.bool (Xs m 32 (valB c.val) (noneV c.val))), .bool (ris_b75 c m kd), .bool (ris_b75 c m kd), gw ((ris_b75 c m kd) == true) (.func (.func 71) #[] #[.pointer (some ⟨b + 1, 0, none⟩)]), gw ((ris_b75 c m kd) == true) (.pointer (some ⟨b, 9, none⟩)), gw ((ris_b75 c m kd) == true) (.slice a2 c.vals.length c2), gw ((ris_b75 c m kd) == true) (.bool (areVals c.vals)), gw ((ris_b75 c m kd) == true) (.pointer (some ⟨b, 9, none⟩)), gw ((ris_b75 c m kd) == true) (.slice a2 c.vals.length c2), gw ((ris_b75 c m kd) == true) (.int .i64 ((c.vals.length : Nat) : Int)), gw ((ris_b75 c m kd) == true) (.bool (decide (((c.vals.length : Nat) : Int) = 0))), gw ((ris_b75 c m kd) == true) (.bool (Xs m 64 (areVals c.vals) (decide (((c.vals.length : Nat) : Int) = 0)))), .bool (ris_b86 c m kd), .bool (ris_b86 c m kd), gw ((ris_b86 c m kd) == true) (.func (.func 71) #[] #[.pointer (some ⟨b + 1, 0, none⟩)]), gw ((ris_b86 c m kd) == true) (.pointer (some ⟨b, 10, none⟩)), gw ((ris_b86 c m kd) == true) (.slice a3 c.fields.length c3), gw ((ris_b86 c m kd) == true) (.bool (c.fields.all nameW)), gw ((ris_b86 c m kd) == true) (.pointer (some ⟨b, 10, none⟩)), gw ((ris_b86 c m kd) == true) (.slice a3 c.fields.length c3), gw ((ris_b86 c m kd) == true) (.int .i64 ((c.fields.length : Nat) : Int)), gw ((ris_b86 c m kd) == true) (.bool (decide (((c.fields.length : Nat) : Int) = 0))), gw ((ris_b86 c m kd) == true) (.bool (Xs m 128 (c.fields.all nameW) (decide (((c.fields.length : Nat) : Int) = 0)))), .bool (ris_b97 c m kd), .bool (ris_b97 c m kd), gw ((ris_b97 c m kd) == true) (.func (.func 71) #[] #[.pointer (some ⟨b + 1, 0, none⟩)]), gw ((ris_b97 c m kd) == true) (.pointer (some ⟨b, 11, none⟩)), gw ((ris_b97 c m kd) == true) (.agg #[.int .i64 c.expr.k, .int .i64 c.expr.v.k, .int .i64 c.expr.v.n, .string ⟨c.expr.v.s.toArray⟩, .string ⟨c.expr.nm.toArray⟩, ea]), gw ((ris_b97 c m kd) == true) (.bool (rightE c.expr)), gw ((ris_b97 c m kd) == true) (.pointer (some ⟨b, 11, none⟩)), gw ((ris_b97 c m kd) == true) (.agg #[.int .i64 c.expr.k, .int .i64 c.expr.v.k, .int .i64 c.expr.v.n, .string ⟨c.expr.v.s.toArray⟩, .string ⟨c.expr.nm.toArray⟩, ea]), gw ((ris_b97 c m kd) == true) (.bool (noneE c.expr)), gw ((ris_b97 c m kd) == true) (.bool (Xs m 256 (rightE c.expr) (noneE c.expr))), .bool (ris_b107 c m kd), .bool (ris_b107 c m kd), gw ((ris_b107 c m kd) == true) (.func (.func 71) #[] #[.pointer (some ⟨b + 1, 0, none⟩)]), gw ((ris_b107 c m kd) == true) (.pointer (some ⟨b, 17, none⟩)), gw ((ris_b107 c m kd) == true) (.bool c.all), gw ((ris_b107 c m kd) == true) (.pointer (some ⟨b, 18, none⟩)), gw ((ris_b107 c m kd) == true) (.agg #[.int .i64 c.wh.k, .int .i64 c.wh.v.k, .int .i64 c.wh.v.n, .string ⟨c.wh.v.s.toArray⟩, .string ⟨c.wh.nm.toArray⟩, wa]), gw ((ris_b107 c m kd) == true) (.bool (whereB c.all c.wh)), gw ((ris_b107 c m kd) == true) (.pointer (some ⟨b, 17, none⟩)), gw ((ris_b107 c m kd) == true) (.bool c.all), gw ((ris_b107 c m kd) == true) (.bool (!c.all)), gw ((ris_b107 c m kd) == true) (.bool (!c.all)), gw (((ris_b107 c m kd) == true) && ((!c.all) == true)) (.pointer (some ⟨b, 18, none⟩)), gw (((ris_b107 c m kd) == true) && ((!c.all) == true)) (.agg #[.int .i64 c.wh.k, .int .i64 c.wh.v.k, .int .i64 c.wh.v.n, .string ⟨c.wh.v.s.toArray⟩, .string ⟨c.wh.nm.toArray⟩, wa]), gw (((ris_b107 c m kd) == true) && ((!c.all) == true)) (.bool (noneE c.wh)), gw ((ris_b107 c m kd) == true) (.bool ((!c.all) && (noneE c.wh))), gw ((ris_b107 c m kd) == true) (.bool (Xs m 512 (whereB c.all c.wh) ((!c.all) && (noneE c.wh)))), .bool (ris_b124 c m kd), .bool (ris_b124 c m kd), gw ((ris_b124 c m kd) == true) (.func (.func 71) #[] #[.pointer (some ⟨b + 1, 0, none⟩)]), gw ((ris_b124 c m kd) == true) (.pointer (some ⟨b, 24, none⟩)), gw ((ris_b124 c m kd) == true) (.string ⟨c.order.toArray⟩), gw ((ris_b124 c m kd) == true) (.bool (decide (c.order = []))), gw ((ris_b124 c m kd) == true) (.bool (decide (c.order = []))), gw (((ris_b124 c m kd) == true) && ((decide (c.order = [])) == false)) (.pointer (some ⟨b, 24, none⟩)), gw (((ris_b124 c m kd) == true) && ((decide (c.order = [])) == false)) (.string ⟨c.order.toArray⟩), gw (((ris_b124 c m kd) == true) && ((decide (c.order = [])) == false)) (.bool (nameW c.order)), gw ((ris_b124 c m kd) == true) (.bool ((decide (c.order = [])) || (nameW c.order))), gw ((ris_b124 c m kd) == true) (.pointer (some ⟨b, 24, none⟩)), gw ((ris_b124 c m kd) == true) (.string ⟨c.order.toArray⟩), gw ((ris_b124 c m kd) == true) (.bool (decide (c.order = []))), gw ((ris_b124 c m kd) == true) (.bool (Xs m 1024 ((decide (c.order = [])) || (nameW c.order)) (decide (c.order = [])))), .bool (ris_b139 c m kd), .bool (ris_b139 c m kd), gw ((ris_b139 c m kd) == true) (.func (.func 71) #[] #[.pointer (some ⟨b + 1, 0, none⟩)]), gw ((ris_b139 c m kd) == true) (.pointer (some ⟨b, 25, none⟩)), gw ((ris_b139 c m kd) == true) (.int .i64 c.limit), gw ((ris_b139 c m kd) == true) (.bool (decide (-1 ≤ c.limit))), gw ((ris_b139 c m kd) == true) (.bool (decide (-1 ≤ c.limit))), gw (((ris_b139 c m kd) == true) && ((decide (-1 ≤ c.limit)) == true)) (.pointer (some ⟨b, 25, none⟩)), gw (((ris_b139 c m kd) == true) && ((decide (-1 ≤ c.limit)) == true)) (.int .i64 c.limit), gw (((ris_b139 c m kd) == true) && ((decide (-1 ≤ c.limit)) == true)) (.bool (decide (c.limit ≤ 999999999))), gw ((ris_b139 c m kd) == true) (.bool ((decide (-1 ≤ c.limit)) && (decide (c.limit ≤ 999999999)))), gw ((ris_b139 c m kd) == true) (.pointer (some ⟨b, 25, none⟩)), gw ((ris_b139 c m kd) == true) (.int .i64 c.limit), gw ((ris_b139 c m kd) == true) (.bool (decide (c.limit = 0))), gw ((ris_b139 c m kd) == true) (.bool (Xs m 2048 ((decide (-1 ≤ c.limit)) && (decide (c.limit ≤ 999999999))) (decide (c.limit = 0)))), .bool (ris_b154 c m kd), .bool (ris_b154 c m kd)] : List Value).getD j undef
def ris_d : List (Option Tmp) := [some 13, some 14, some 15, some 16, some 17, some 18, some 19, some 20, some 21, some 22, some 23, some 24, some 25, some 26, some 27, some 28, some 29, some 30, some 31, some 32, some 33, some 34, some 35, some 36, some 37, some 38, some 39, some 40, some 41, some 42, some 43, some 44, some 45, some 46, some 47, some 48, some 49, some 50, some 51, some 52, some 53, some 54, some 55, some 56, some 57, some 58, some 59, some 60, some 61, some 62, some 63, some 64, some 65, some 66, some 67, some 68, some 69, some 70, some 71, some 72, some 73, some 74, some 75, some 76, some 77, some 78, some 79, some 80, some 81, some 82, some 83, some 84, some 85, some 86, some 87, some 88, some 89, some 90, some 91, some 92, some 93, some 94, some 95, some 96, some 97, some 98, some 99, some 100, some 101, some 102, some 103, some 104, some 105, some 106, some 107, some 108, some 109, some 110, some 111, some 112, some 113, some 114, some 115, some 116, some 117, some 118, some 119, some 120, some 121, some 122, some 123, some 124, some 125, some 126, some 127, some 128, some 129, some 130, some 131, some 132, some 133, some 134, some 135, some 136, some 137, some 138, some 139, some 140, some 141, some 142, some 143, some 144, some 145, some 146, some 147, some 148, some 149, some 150, some 151, some 152, some 153, some 154, some 2]
theorem ris_nodup : ris_d.Nodup := by unfold ris_d; decide
theorem ris_wp {c : Cm} {a1 a2 a3 : Option Addr} {c1 c2 c3 : Nat} {ea wa : Value} {m : Int} {kd : Bool} {b : Nat} {S : World → Prop} {a0 : Act} {Q : Exit → Act → World → Prop} {w : World} (h1 : a0.tmps[1]? = some (.pointer (some ⟨b, 0, none⟩))) (h4 : a0.tmps[4]? = some (.bool kd)) (h5 : a0.tmps[5]? = some (.func (.func 71) #[] #[.pointer (some ⟨b + 1, 0, none⟩)])) (hcell : ∀ W, S W → ∀ o x, (cmL c (.slice a1 c.cols.length c1) (.slice a2 c.vals.length c2) (.slice a3 c.fields.length c3) ea wa)[o]? = some x → W.cell? ⟨b, o, none⟩ = some x) (qis : ∀ (o : Int) (r e : Bool) W, S W → Calls Tryz.prog 71 #[.int .i64 o, .bool r, .bool e, .pointer (some ⟨b + 1, 0, none⟩)] W fun x w' => x = .returned (.bool (Xs m o r e)) ∧ S w') (q18 : ∀ W, S W → Calls Tryz.prog 72 #[.string ⟨c.name.toArray⟩] W fun e w' => e = .returned (.bool (nameW c.name)) ∧ S w') (q28 : ∀ W, S W → Calls Tryz.prog 72 #[.string ⟨c.other.toArray⟩] W fun e w' => e = .returned (.bool (nameW c.other)) ∧ S w') (q38 : ∀ W, S W → Calls Tryz.prog 72 #[.string ⟨c.column.toArray⟩] W fun e w' => e = .returned (.bool (nameW c.column)) ∧ S w') (q48 : ∀ W, S W → Calls Tryz.prog 73 #[.slice a1 c.cols.length c1] W fun e w' => e = .returned (.bool (areCols c.cols)) ∧ S w') (q59 : ∀ W, S W → Calls Tryz.prog 74 #[.int .i64 c.ty] W fun e w' => e = .returned (.bool (typeB c.ty)) ∧ S w') (q69 : ∀ W, S W → Calls Tryz.prog 75 #[.agg #[.int .i64 c.val.k, .int .i64 c.val.n, .string ⟨c.val.s.toArray⟩]] W fun e w' => e = .returned (.bool (valB c.val)) ∧ S w') (q80 : ∀ W, S W → Calls Tryz.prog 76 #[.slice a2 c.vals.length c2] W fun e w' => e = .returned (.bool (areVals c.vals)) ∧ S w') (q91 : ∀ W, S W → Calls Tryz.prog 77 #[.slice a3 c.fields.length c3, .func (.func 72) #[] #[]] W fun e w' => e = .returned (.bool (c.fields.all nameW)) ∧ S w') (q102 : ∀ W, S W → Calls Tryz.prog 78 #[.agg #[.int .i64 c.expr.k, .int .i64 c.expr.v.k, .int .i64 c.expr.v.n, .string ⟨c.expr.v.s.toArray⟩, .string ⟨c.expr.nm.toArray⟩, ea]] W fun e w' => e = .returned (.bool (rightE c.expr)) ∧ S w') (q105 : ∀ W, S W → Calls Tryz.prog 79 #[.agg #[.int .i64 c.expr.k, .int .i64 c.expr.v.k, .int .i64 c.expr.v.n, .string ⟨c.expr.v.s.toArray⟩, .string ⟨c.expr.nm.toArray⟩, ea]] W fun e w' => e = .returned (.bool (noneE c.expr)) ∧ S w') (q114 : ∀ W, S W → Calls Tryz.prog 80 #[.bool c.all, .agg #[.int .i64 c.wh.k, .int .i64 c.wh.v.k, .int .i64 c.wh.v.n, .string ⟨c.wh.v.s.toArray⟩, .string ⟨c.wh.nm.toArray⟩, wa]] W fun e w' => e = .returned (.bool (whereB c.all c.wh)) ∧ S w') (q121 : ∀ W, S W → Calls Tryz.prog 79 #[.agg #[.int .i64 c.wh.k, .int .i64 c.wh.v.k, .int .i64 c.wh.v.n, .string ⟨c.wh.v.s.toArray⟩, .string ⟨c.wh.nm.toArray⟩, wa]] W fun e w' => e = .returned (.bool (noneE c.wh)) ∧ S w') (q133 : ∀ W, S W → Calls Tryz.prog 72 #[.string ⟨c.order.toArray⟩] W fun e w' => e = .returned (.bool (nameW c.order)) ∧ S w') (ha : a0.tmps.size = 155) (hS : S w.drew)
    (hq : ∀ w', S w' → Q .normal { tmps := (putL a0.tmps.toList (ris_d.zip ((List.range 143).map (ris_V c a1 a2 a3 c1 c2 c3 ea wa m kd b)))).toArray, defers := a0.defers } w') : (Code.region 3 ris_R true).wp Tryz.prog Q a0 w := by
  have hz : ris_R.size = 143 := by kernel_rfl
  refine wp_run (m := 155) (by kernel_rfl) hz (by kernel_rfl) (by kernel_rfl) ris_nodup ha ?_ hS hq
  refine us ?_ (obRU hz (by decide) (by kernel_rfl) fun _ _ s _ => ex_assign (x := .tmp 154) (by kernel_rfl) (s.u 141 154 (by kernel_rfl)))
  refine us ?_ (obRU hz (by decide) (by kernel_rfl) fun _ _ s _ => ex_pickA (G := true) (by kernel_rfl) (s.u 127 140 (by kernel_rfl)) (s.u 140 153 (by kernel_rfl)) rfl rfl)
  refine us ?_ (obRH true 127 140 true hz (by decide) (by kernel_rfl) rfl rfl (fun hG _ _ s => ex_is (ts := #[3, 4, 4]) (t := .tmp 141) (x := .const (.int .i64 2048)) (y := .tmp 149) (z := .tmp 152) (f := 71) cf71 (by kernel_rfl) (s.g 128 141 (by kernel_rfl) hG rfl) (rfl) (s.g 136 149 (by kernel_rfl) hG rfl) (s.g 139 152 (by kernel_rfl) hG rfl)) (qis _ _ _))
  refine us ?_ (obRG true 127 140 true hz (by decide) (by kernel_rfl) rfl rfl fun hG _ W s _ => ex_bin (u := 3) (x := .tmp 151) (y := .const (.int .i64 0)) (by kernel_rfl) (s.g 138 151 (by kernel_rfl) hG rfl) (rfl) (eq3c W _ _ _ _))
  refine us ?_ (obRG true 127 140 true hz (by decide) (by kernel_rfl) rfl rfl fun hG _ W s hS => ex_load (x := .tmp 150) (t := 3) (by kernel_rfl) (s.g 137 150 (by kernel_rfl) hG rfl) (ld3 W _ 25 _ (hcell W hS 25 _ rfl)))
  refine us ?_ (obRG true 127 140 true hz (by decide) (by kernel_rfl) rfl rfl fun _ _ W s _ => ex_field (x := .tmp 1) (t := 31) (f := 13) (by kernel_rfl) (s.b 1 (by kernel_rfl) h1) (fa13 W _))
  refine us ?_ (obRG true 127 140 true hz (by decide) (by kernel_rfl) rfl rfl fun hG _ _ s _ => ex_pickA (by kernel_rfl) (s.g 132 145 (by kernel_rfl) hG rfl) (s.u 135 148 (by kernel_rfl)) rfl hG)
  refine us ?_ (obRG _ 132 145 true hz (by decide) (by kernel_rfl) rfl rfl fun hG _ W s _ => ex_bin (u := 3) (x := .tmp 147) (y := .const (.int .i64 999999999)) (by kernel_rfl) (s.g 134 147 (by kernel_rfl) hG rfl) (rfl) (leq3c W _ _ _ _))
  refine us ?_ (obRG _ 132 145 true hz (by decide) (by kernel_rfl) rfl rfl fun hG _ W s hS => ex_load (x := .tmp 146) (t := 3) (by kernel_rfl) (s.g 133 146 (by kernel_rfl) hG rfl) (ld3 W _ 25 _ (hcell W hS 25 _ rfl)))
  refine us ?_ (obRG _ 132 145 true hz (by decide) (by kernel_rfl) rfl rfl fun _ _ W s _ => ex_field (x := .tmp 1) (t := 31) (f := 13) (by kernel_rfl) (s.b 1 (by kernel_rfl) h1) (fa13 W _))
  refine us ?_ (obRG true 127 140 true hz (by decide) (by kernel_rfl) rfl rfl fun hG _ _ s _ => ex_move (x := .tmp 144) (by kernel_rfl) (s.g 131 144 (by kernel_rfl) hG rfl))
  refine us ?_ (obRG true 127 140 true hz (by decide) (by kernel_rfl) rfl rfl fun hG _ W s _ => ex_bin (u := 3) (x := .tmp 143) (y := .const (.int .i64 (-1))) (by kernel_rfl) (s.g 130 143 (by kernel_rfl) hG rfl) (rfl) (geq3 W _ _ _))
  refine us ?_ (obRG true 127 140 true hz (by decide) (by kernel_rfl) rfl rfl fun hG _ W s hS => ex_load (x := .tmp 142) (t := 3) (by kernel_rfl) (s.g 129 142 (by kernel_rfl) hG rfl) (ld3 W _ 25 _ (hcell W hS 25 _ rfl)))
  refine us ?_ (obRG true 127 140 true hz (by decide) (by kernel_rfl) rfl rfl fun _ _ W s _ => ex_field (x := .tmp 1) (t := 31) (f := 13) (by kernel_rfl) (s.b 1 (by kernel_rfl) h1) (fa13 W _))
  refine us ?_ (obRG true 127 140 true hz (by decide) (by kernel_rfl) rfl rfl fun _ _ _ s _ => ex_move (x := .tmp 5) (by kernel_rfl) (s.b 5 (by kernel_rfl) h5))
  refine us ?_ (obRU hz (by decide) (by kernel_rfl) fun _ _ s _ => ex_move (x := .tmp 139) (by kernel_rfl) (s.u 126 139 (by kernel_rfl)))
  refine us ?_ (obRU hz (by decide) (by kernel_rfl) fun _ _ s _ => ex_pickA (G := true) (by kernel_rfl) (s.u 112 125 (by kernel_rfl)) (s.u 125 138 (by kernel_rfl)) rfl rfl)
  refine us ?_ (obRH true 112 125 true hz (by decide) (by kernel_rfl) rfl rfl (fun hG _ _ s => ex_is (ts := #[3, 4, 4]) (t := .tmp 126) (x := .const (.int .i64 1024)) (y := .tmp 134) (z := .tmp 137) (f := 71) cf71 (by kernel_rfl) (s.g 113 126 (by kernel_rfl) hG rfl) (rfl) (s.g 121 134 (by kernel_rfl) hG rfl) (s.g 124 137 (by kernel_rfl) hG rfl)) (qis _ _ _))
  refine us ?_ (obRG true 112 125 true hz (by decide) (by kernel_rfl) rfl rfl fun hG _ W s _ => ex_bin (u := 9) (x := .tmp 136) (y := .const (.string ⟨#[]⟩)) (by kernel_rfl) (s.g 123 136 (by kernel_rfl) hG rfl) (rfl) (eq9 W _ _ _))
  refine us ?_ (obRG true 112 125 true hz (by decide) (by kernel_rfl) rfl rfl fun hG _ W s hS => ex_load (x := .tmp 135) (t := 9) (by kernel_rfl) (s.g 122 135 (by kernel_rfl) hG rfl) (ld9 W _ 24 _ (hcell W hS 24 _ rfl)))
  refine us ?_ (obRG true 112 125 true hz (by decide) (by kernel_rfl) rfl rfl fun _ _ W s _ => ex_field (x := .tmp 1) (t := 31) (f := 12) (by kernel_rfl) (s.b 1 (by kernel_rfl) h1) (fa12 W _))
  refine us ?_ (obRG true 112 125 true hz (by decide) (by kernel_rfl) rfl rfl fun hG _ _ s _ => ex_pickO (by kernel_rfl) (s.g 117 130 (by kernel_rfl) hG rfl) (s.u 120 133 (by kernel_rfl)) rfl hG)
  refine us ?_ (obRH _ 117 130 false hz (by decide) (by kernel_rfl) rfl rfl (fun hG _ _ s => ex_call1 (ts := #[9]) (x := .tmp 132) (f := 72) cf72 (by kernel_rfl) rfl (s.g 119 132 (by kernel_rfl) hG rfl)) q133)
  refine us ?_ (obRG _ 117 130 false hz (by decide) (by kernel_rfl) rfl rfl fun hG _ W s hS => ex_load (x := .tmp 131) (t := 9) (by kernel_rfl) (s.g 118 131 (by kernel_rfl) hG rfl) (ld9 W _ 24 _ (hcell W hS 24 _ rfl)))
  refine us ?_ (obRG _ 117 130 false hz (by decide) (by kernel_rfl) rfl rfl fun _ _ W s _ => ex_field (x := .tmp 1) (t := 31) (f := 12) (by kernel_rfl) (s.b 1 (by kernel_rfl) h1) (fa12 W _))
  refine us ?_ (obRG true 112 125 true hz (by decide) (by kernel_rfl) rfl rfl fun hG _ _ s _ => ex_move (x := .tmp 129) (by kernel_rfl) (s.g 116 129 (by kernel_rfl) hG rfl))
  refine us ?_ (obRG true 112 125 true hz (by decide) (by kernel_rfl) rfl rfl fun hG _ W s _ => ex_bin (u := 9) (x := .tmp 128) (y := .const (.string ⟨#[]⟩)) (by kernel_rfl) (s.g 115 128 (by kernel_rfl) hG rfl) (rfl) (eq9 W _ _ _))
  refine us ?_ (obRG true 112 125 true hz (by decide) (by kernel_rfl) rfl rfl fun hG _ W s hS => ex_load (x := .tmp 127) (t := 9) (by kernel_rfl) (s.g 114 127 (by kernel_rfl) hG rfl) (ld9 W _ 24 _ (hcell W hS 24 _ rfl)))
  refine us ?_ (obRG true 112 125 true hz (by decide) (by kernel_rfl) rfl rfl fun _ _ W s _ => ex_field (x := .tmp 1) (t := 31) (f := 12) (by kernel_rfl) (s.b 1 (by kernel_rfl) h1) (fa12 W _))
  refine us ?_ (obRG true 112 125 true hz (by decide) (by kernel_rfl) rfl rfl fun _ _ _ s _ => ex_move (x := .tmp 5) (by kernel_rfl) (s.b 5 (by kernel_rfl) h5))
  refine us ?_ (obRU hz (by decide) (by kernel_rfl) fun _ _ s _ => ex_move (x := .tmp 124) (by kernel_rfl) (s.u 111 124 (by kernel_rfl)))
  refine us ?_ (obRU hz (by decide) (by kernel_rfl) fun _ _ s _ => ex_pickA (G := true) (by kernel_rfl) (s.u 95 108 (by kernel_rfl)) (s.u 110 123 (by kernel_rfl)) rfl rfl)
  refine us ?_ (obRH true 95 108 true hz (by decide) (by kernel_rfl) rfl rfl (fun hG _ _ s => ex_is (ts := #[3, 4, 4]) (t := .tmp 109) (x := .const (.int .i64 512)) (y := .tmp 114) (z := .tmp 122) (f := 71) cf71 (by kernel_rfl) (s.g 96 109 (by kernel_rfl) hG rfl) (rfl) (s.g 101 114 (by kernel_rfl) hG rfl) (s.g 109 122 (by kernel_rfl) hG rfl)) (qis _ _ _))
  refine us ?_ (obRG true 95 108 true hz (by decide) (by kernel_rfl) rfl rfl fun hG _ _ s _ => ex_pickA (by kernel_rfl) (s.g 105 118 (by kernel_rfl) hG rfl) (s.u 108 121 (by kernel_rfl)) rfl hG)
  refine us ?_ (obRH _ 105 118 true hz (by decide) (by kernel_rfl) rfl rfl (fun hG _ _ s => ex_call1 (ts := #[29]) (x := .tmp 120) (f := 79) cf79 (by kernel_rfl) rfl (s.g 107 120 (by kernel_rfl) hG rfl)) q121)
  refine us ?_ (obRG _ 105 118 true hz (by decide) (by kernel_rfl) rfl rfl fun hG _ W s hS => ex_load (x := .tmp 119) (t := 29) (by kernel_rfl) (s.g 106 119 (by kernel_rfl) hG rfl) (ld29 W _ 18 _ _ _ _ _ _ (hcell W hS 18 _ rfl) (hcell W hS 19 _ rfl) (hcell W hS 20 _ rfl) (hcell W hS 21 _ rfl) (hcell W hS 22 _ rfl) (hcell W hS 23 _ rfl)))
  refine us ?_ (obRG _ 105 118 true hz (by decide) (by kernel_rfl) rfl rfl fun _ _ W s _ => ex_field (x := .tmp 1) (t := 31) (f := 11) (by kernel_rfl) (s.b 1 (by kernel_rfl) h1) (fa11 W _))
  refine us ?_ (obRG true 95 108 true hz (by decide) (by kernel_rfl) rfl rfl fun hG _ _ s _ => ex_move (x := .tmp 117) (by kernel_rfl) (s.g 104 117 (by kernel_rfl) hG rfl))
  refine us ?_ (obRG true 95 108 true hz (by decide) (by kernel_rfl) rfl rfl fun hG _ W s _ => ex_un (x := .tmp 116) (t := 4) (op := .not) (by kernel_rfl) (s.g 103 116 (by kernel_rfl) hG rfl) (not4 W _))
  refine us ?_ (obRG true 95 108 true hz (by decide) (by kernel_rfl) rfl rfl fun hG _ W s hS => ex_load (x := .tmp 115) (t := 4) (by kernel_rfl) (s.g 102 115 (by kernel_rfl) hG rfl) (ld4 W _ 17 _ (hcell W hS 17 _ rfl)))
  refine us ?_ (obRG true 95 108 true hz (by decide) (by kernel_rfl) rfl rfl fun _ _ W s _ => ex_field (x := .tmp 1) (t := 31) (f := 10) (by kernel_rfl) (s.b 1 (by kernel_rfl) h1) (fa10 W _))
  refine us ?_ (obRH true 95 108 true hz (by decide) (by kernel_rfl) rfl rfl (fun hG _ _ s => ex_call2 (ts := #[4, 29]) (x := .tmp 111) (y := .tmp 113) (f := 80) cf80 (by kernel_rfl) rfl (s.g 98 111 (by kernel_rfl) hG rfl) (s.g 100 113 (by kernel_rfl) hG rfl)) q114)
  refine us ?_ (obRG true 95 108 true hz (by decide) (by kernel_rfl) rfl rfl fun hG _ W s hS => ex_load (x := .tmp 112) (t := 29) (by kernel_rfl) (s.g 99 112 (by kernel_rfl) hG rfl) (ld29 W _ 18 _ _ _ _ _ _ (hcell W hS 18 _ rfl) (hcell W hS 19 _ rfl) (hcell W hS 20 _ rfl) (hcell W hS 21 _ rfl) (hcell W hS 22 _ rfl) (hcell W hS 23 _ rfl)))
  refine us ?_ (obRG true 95 108 true hz (by decide) (by kernel_rfl) rfl rfl fun _ _ W s _ => ex_field (x := .tmp 1) (t := 31) (f := 11) (by kernel_rfl) (s.b 1 (by kernel_rfl) h1) (fa11 W _))
  refine us ?_ (obRG true 95 108 true hz (by decide) (by kernel_rfl) rfl rfl fun hG _ W s hS => ex_load (x := .tmp 110) (t := 4) (by kernel_rfl) (s.g 97 110 (by kernel_rfl) hG rfl) (ld4 W _ 17 _ (hcell W hS 17 _ rfl)))
  refine us ?_ (obRG true 95 108 true hz (by decide) (by kernel_rfl) rfl rfl fun _ _ W s _ => ex_field (x := .tmp 1) (t := 31) (f := 10) (by kernel_rfl) (s.b 1 (by kernel_rfl) h1) (fa10 W _))
  refine us ?_ (obRG true 95 108 true hz (by decide) (by kernel_rfl) rfl rfl fun _ _ _ s _ => ex_move (x := .tmp 5) (by kernel_rfl) (s.b 5 (by kernel_rfl) h5))
  refine us ?_ (obRU hz (by decide) (by kernel_rfl) fun _ _ s _ => ex_move (x := .tmp 107) (by kernel_rfl) (s.u 94 107 (by kernel_rfl)))
  refine us ?_ (obRU hz (by decide) (by kernel_rfl) fun _ _ s _ => ex_pickA (G := true) (by kernel_rfl) (s.u 85 98 (by kernel_rfl)) (s.u 93 106 (by kernel_rfl)) rfl rfl)
  refine us ?_ (obRH true 85 98 true hz (by decide) (by kernel_rfl) rfl rfl (fun hG _ _ s => ex_is (ts := #[3, 4, 4]) (t := .tmp 99) (x := .const (.int .i64 256)) (y := .tmp 102) (z := .tmp 105) (f := 71) cf71 (by kernel_rfl) (s.g 86 99 (by kernel_rfl) hG rfl) (rfl) (s.g 89 102 (by kernel_rfl) hG rfl) (s.g 92 105 (by kernel_rfl) hG rfl)) (qis _ _ _))
  refine us ?_ (obRH true 85 98 true hz (by decide) (by kernel_rfl) rfl rfl (fun hG _ _ s => ex_call1 (ts := #[29]) (x := .tmp 104) (f := 79) cf79 (by kernel_rfl) rfl (s.g 91 104 (by kernel_rfl) hG rfl)) q105)
  refine us ?_ (obRG true 85 98 true hz (by decide) (by kernel_rfl) rfl rfl fun hG _ W s hS => ex_load (x := .tmp 103) (t := 29) (by kernel_rfl) (s.g 90 103 (by kernel_rfl) hG rfl) (ld29 W _ 11 _ _ _ _ _ _ (hcell W hS 11 _ rfl) (hcell W hS 12 _ rfl) (hcell W hS 13 _ rfl) (hcell W hS 14 _ rfl) (hcell W hS 15 _ rfl) (hcell W hS 16 _ rfl)))
  refine us ?_ (obRG true 85 98 true hz (by decide) (by kernel_rfl) rfl rfl fun _ _ W s _ => ex_field (x := .tmp 1) (t := 31) (f := 9) (by kernel_rfl) (s.b 1 (by kernel_rfl) h1) (fa9 W _))
  refine us ?_ (obRH true 85 98 true hz (by decide) (by kernel_rfl) rfl rfl (fun hG _ _ s => ex_call1 (ts := #[29]) (x := .tmp 101) (f := 78) cf78 (by kernel_rfl) rfl (s.g 88 101 (by kernel_rfl) hG rfl)) q102)
  refine us ?_ (obRG true 85 98 true hz (by decide) (by kernel_rfl) rfl rfl fun hG _ W s hS => ex_load (x := .tmp 100) (t := 29) (by kernel_rfl) (s.g 87 100 (by kernel_rfl) hG rfl) (ld29 W _ 11 _ _ _ _ _ _ (hcell W hS 11 _ rfl) (hcell W hS 12 _ rfl) (hcell W hS 13 _ rfl) (hcell W hS 14 _ rfl) (hcell W hS 15 _ rfl) (hcell W hS 16 _ rfl)))
  refine us ?_ (obRG true 85 98 true hz (by decide) (by kernel_rfl) rfl rfl fun _ _ W s _ => ex_field (x := .tmp 1) (t := 31) (f := 9) (by kernel_rfl) (s.b 1 (by kernel_rfl) h1) (fa9 W _))
  refine us ?_ (obRG true 85 98 true hz (by decide) (by kernel_rfl) rfl rfl fun _ _ _ s _ => ex_move (x := .tmp 5) (by kernel_rfl) (s.b 5 (by kernel_rfl) h5))
  refine us ?_ (obRU hz (by decide) (by kernel_rfl) fun _ _ s _ => ex_move (x := .tmp 97) (by kernel_rfl) (s.u 84 97 (by kernel_rfl)))
  refine us ?_ (obRU hz (by decide) (by kernel_rfl) fun _ _ s _ => ex_pickA (G := true) (by kernel_rfl) (s.u 74 87 (by kernel_rfl)) (s.u 83 96 (by kernel_rfl)) rfl rfl)
  refine us ?_ (obRH true 74 87 true hz (by decide) (by kernel_rfl) rfl rfl (fun hG _ _ s => ex_is (ts := #[3, 4, 4]) (t := .tmp 88) (x := .const (.int .i64 128)) (y := .tmp 91) (z := .tmp 95) (f := 71) cf71 (by kernel_rfl) (s.g 75 88 (by kernel_rfl) hG rfl) (rfl) (s.g 78 91 (by kernel_rfl) hG rfl) (s.g 82 95 (by kernel_rfl) hG rfl)) (qis _ _ _))
  refine us ?_ (obRG true 74 87 true hz (by decide) (by kernel_rfl) rfl rfl fun hG _ W s _ => ex_bin (u := 3) (x := .tmp 94) (y := .const (.int .i64 0)) (by kernel_rfl) (s.g 81 94 (by kernel_rfl) hG rfl) (rfl) (eq3c W _ _ _ _))
  refine us ?_ (obRG true 74 87 true hz (by decide) (by kernel_rfl) rfl rfl fun hG _ W s _ => ex_len (ts := #[26]) (x := .tmp 93) (by kernel_rfl) (fun ty => len26 W a3 c.fields.length c3 ty) (s.g 80 93 (by kernel_rfl) hG rfl))
  refine us ?_ (obRG true 74 87 true hz (by decide) (by kernel_rfl) rfl rfl fun hG _ W s hS => ex_load (x := .tmp 92) (t := 26) (by kernel_rfl) (s.g 79 92 (by kernel_rfl) hG rfl) (ld26 W _ 10 _ (hcell W hS 10 _ rfl)))
  refine us ?_ (obRG true 74 87 true hz (by decide) (by kernel_rfl) rfl rfl fun _ _ W s _ => ex_field (x := .tmp 1) (t := 31) (f := 8) (by kernel_rfl) (s.b 1 (by kernel_rfl) h1) (fa8 W _))
  refine us ?_ (obRH true 74 87 true hz (by decide) (by kernel_rfl) rfl rfl (fun hG _ _ s => ex_call2 (ts := #[26, 37]) (x := .tmp 90) (y := .func 72) (f := 77) cf77 (by kernel_rfl) rfl (s.g 77 90 (by kernel_rfl) hG rfl) (rfl)) q91)
  refine us ?_ (obRG true 74 87 true hz (by decide) (by kernel_rfl) rfl rfl fun hG _ W s hS => ex_load (x := .tmp 89) (t := 26) (by kernel_rfl) (s.g 76 89 (by kernel_rfl) hG rfl) (ld26 W _ 10 _ (hcell W hS 10 _ rfl)))
  refine us ?_ (obRG true 74 87 true hz (by decide) (by kernel_rfl) rfl rfl fun _ _ W s _ => ex_field (x := .tmp 1) (t := 31) (f := 8) (by kernel_rfl) (s.b 1 (by kernel_rfl) h1) (fa8 W _))
  refine us ?_ (obRG true 74 87 true hz (by decide) (by kernel_rfl) rfl rfl fun _ _ _ s _ => ex_move (x := .tmp 5) (by kernel_rfl) (s.b 5 (by kernel_rfl) h5))
  refine us ?_ (obRU hz (by decide) (by kernel_rfl) fun _ _ s _ => ex_move (x := .tmp 86) (by kernel_rfl) (s.u 73 86 (by kernel_rfl)))
  refine us ?_ (obRU hz (by decide) (by kernel_rfl) fun _ _ s _ => ex_pickA (G := true) (by kernel_rfl) (s.u 63 76 (by kernel_rfl)) (s.u 72 85 (by kernel_rfl)) rfl rfl)
  refine us ?_ (obRH true 63 76 true hz (by decide) (by kernel_rfl) rfl rfl (fun hG _ _ s => ex_is (ts := #[3, 4, 4]) (t := .tmp 77) (x := .const (.int .i64 64)) (y := .tmp 80) (z := .tmp 84) (f := 71) cf71 (by kernel_rfl) (s.g 64 77 (by kernel_rfl) hG rfl) (rfl) (s.g 67 80 (by kernel_rfl) hG rfl) (s.g 71 84 (by kernel_rfl) hG rfl)) (qis _ _ _))
  refine us ?_ (obRG true 63 76 true hz (by decide) (by kernel_rfl) rfl rfl fun hG _ W s _ => ex_bin (u := 3) (x := .tmp 83) (y := .const (.int .i64 0)) (by kernel_rfl) (s.g 70 83 (by kernel_rfl) hG rfl) (rfl) (eq3c W _ _ _ _))
  refine us ?_ (obRG true 63 76 true hz (by decide) (by kernel_rfl) rfl rfl fun hG _ W s _ => ex_len (ts := #[25]) (x := .tmp 82) (by kernel_rfl) (fun ty => len25 W a2 c.vals.length c2 ty) (s.g 69 82 (by kernel_rfl) hG rfl))
  refine us ?_ (obRG true 63 76 true hz (by decide) (by kernel_rfl) rfl rfl fun hG _ W s hS => ex_load (x := .tmp 81) (t := 25) (by kernel_rfl) (s.g 68 81 (by kernel_rfl) hG rfl) (ld25 W _ 9 _ (hcell W hS 9 _ rfl)))
  refine us ?_ (obRG true 63 76 true hz (by decide) (by kernel_rfl) rfl rfl fun _ _ W s _ => ex_field (x := .tmp 1) (t := 31) (f := 7) (by kernel_rfl) (s.b 1 (by kernel_rfl) h1) (fa7 W _))
  refine us ?_ (obRH true 63 76 true hz (by decide) (by kernel_rfl) rfl rfl (fun hG _ _ s => ex_call1 (ts := #[25]) (x := .tmp 79) (f := 76) cf76 (by kernel_rfl) rfl (s.g 66 79 (by kernel_rfl) hG rfl)) q80)
  refine us ?_ (obRG true 63 76 true hz (by decide) (by kernel_rfl) rfl rfl fun hG _ W s hS => ex_load (x := .tmp 78) (t := 25) (by kernel_rfl) (s.g 65 78 (by kernel_rfl) hG rfl) (ld25 W _ 9 _ (hcell W hS 9 _ rfl)))
  refine us ?_ (obRG true 63 76 true hz (by decide) (by kernel_rfl) rfl rfl fun _ _ W s _ => ex_field (x := .tmp 1) (t := 31) (f := 7) (by kernel_rfl) (s.b 1 (by kernel_rfl) h1) (fa7 W _))
  refine us ?_ (obRG true 63 76 true hz (by decide) (by kernel_rfl) rfl rfl fun _ _ _ s _ => ex_move (x := .tmp 5) (by kernel_rfl) (s.b 5 (by kernel_rfl) h5))
  refine us ?_ (obRU hz (by decide) (by kernel_rfl) fun _ _ s _ => ex_move (x := .tmp 75) (by kernel_rfl) (s.u 62 75 (by kernel_rfl)))
  refine us ?_ (obRU hz (by decide) (by kernel_rfl) fun _ _ s _ => ex_pickA (G := true) (by kernel_rfl) (s.u 52 65 (by kernel_rfl)) (s.u 61 74 (by kernel_rfl)) rfl rfl)
  refine us ?_ (obRH true 52 65 true hz (by decide) (by kernel_rfl) rfl rfl (fun hG _ _ s => ex_is (ts := #[3, 4, 4]) (t := .tmp 66) (x := .const (.int .i64 32)) (y := .tmp 69) (z := .tmp 73) (f := 71) cf71 (by kernel_rfl) (s.g 53 66 (by kernel_rfl) hG rfl) (rfl) (s.g 56 69 (by kernel_rfl) hG rfl) (s.g 60 73 (by kernel_rfl) hG rfl)) (qis _ _ _))
  refine us ?_ (obRG true 52 65 true hz (by decide) (by kernel_rfl) rfl rfl fun hG _ W s _ => ex_bin (u := 24) (x := .tmp 71) (y := .tmp 72) (by kernel_rfl) (s.g 58 71 (by kernel_rfl) hG rfl) (s.g 59 72 (by kernel_rfl) hG rfl) (eq24 W _ _ c.val))
  refine us ?_ (obRG true 52 65 true hz (by decide) (by kernel_rfl) rfl rfl fun _ _ _ _ _ => ex_build24 (by kernel_rfl))
  refine us ?_ (obRG true 52 65 true hz (by decide) (by kernel_rfl) rfl rfl fun hG _ W s hS => ex_load (x := .tmp 70) (t := 24) (by kernel_rfl) (s.g 57 70 (by kernel_rfl) hG rfl) (ld24 W _ 6 _ _ _ (hcell W hS 6 _ rfl) (hcell W hS 7 _ rfl) (hcell W hS 8 _ rfl)))
  refine us ?_ (obRG true 52 65 true hz (by decide) (by kernel_rfl) rfl rfl fun _ _ W s _ => ex_field (x := .tmp 1) (t := 31) (f := 6) (by kernel_rfl) (s.b 1 (by kernel_rfl) h1) (fa6 W _))
  refine us ?_ (obRH true 52 65 true hz (by decide) (by kernel_rfl) rfl rfl (fun hG _ _ s => ex_call1 (ts := #[24]) (x := .tmp 68) (f := 75) cf75 (by kernel_rfl) rfl (s.g 55 68 (by kernel_rfl) hG rfl)) q69)
  refine us ?_ (obRG true 52 65 true hz (by decide) (by kernel_rfl) rfl rfl fun hG _ W s hS => ex_load (x := .tmp 67) (t := 24) (by kernel_rfl) (s.g 54 67 (by kernel_rfl) hG rfl) (ld24 W _ 6 _ _ _ (hcell W hS 6 _ rfl) (hcell W hS 7 _ rfl) (hcell W hS 8 _ rfl)))
  refine us ?_ (obRG true 52 65 true hz (by decide) (by kernel_rfl) rfl rfl fun _ _ W s _ => ex_field (x := .tmp 1) (t := 31) (f := 6) (by kernel_rfl) (s.b 1 (by kernel_rfl) h1) (fa6 W _))
  refine us ?_ (obRG true 52 65 true hz (by decide) (by kernel_rfl) rfl rfl fun _ _ _ s _ => ex_move (x := .tmp 5) (by kernel_rfl) (s.b 5 (by kernel_rfl) h5))
  refine us ?_ (obRU hz (by decide) (by kernel_rfl) fun _ _ s _ => ex_move (x := .tmp 64) (by kernel_rfl) (s.u 51 64 (by kernel_rfl)))
  refine us ?_ (obRU hz (by decide) (by kernel_rfl) fun _ _ s _ => ex_pickA (G := true) (by kernel_rfl) (s.u 42 55 (by kernel_rfl)) (s.u 50 63 (by kernel_rfl)) rfl rfl)
  refine us ?_ (obRH true 42 55 true hz (by decide) (by kernel_rfl) rfl rfl (fun hG _ _ s => ex_is (ts := #[3, 4, 4]) (t := .tmp 56) (x := .const (.int .i64 16)) (y := .tmp 59) (z := .tmp 62) (f := 71) cf71 (by kernel_rfl) (s.g 43 56 (by kernel_rfl) hG rfl) (rfl) (s.g 46 59 (by kernel_rfl) hG rfl) (s.g 49 62 (by kernel_rfl) hG rfl)) (qis _ _ _))
  refine us ?_ (obRG true 42 55 true hz (by decide) (by kernel_rfl) rfl rfl fun hG _ W s _ => ex_bin (u := 3) (x := .tmp 61) (y := .const (.int .i64 0)) (by kernel_rfl) (s.g 48 61 (by kernel_rfl) hG rfl) (rfl) (eq3c W _ _ _ _))
  refine us ?_ (obRG true 42 55 true hz (by decide) (by kernel_rfl) rfl rfl fun hG _ W s hS => ex_load (x := .tmp 60) (t := 3) (by kernel_rfl) (s.g 47 60 (by kernel_rfl) hG rfl) (ld3 W _ 5 _ (hcell W hS 5 _ rfl)))
  refine us ?_ (obRG true 42 55 true hz (by decide) (by kernel_rfl) rfl rfl fun _ _ W s _ => ex_field (x := .tmp 1) (t := 31) (f := 5) (by kernel_rfl) (s.b 1 (by kernel_rfl) h1) (fa5 W _))
  refine us ?_ (obRH true 42 55 true hz (by decide) (by kernel_rfl) rfl rfl (fun hG _ _ s => ex_call1 (ts := #[3]) (x := .tmp 58) (f := 74) cf74 (by kernel_rfl) rfl (s.g 45 58 (by kernel_rfl) hG rfl)) q59)
  refine us ?_ (obRG true 42 55 true hz (by decide) (by kernel_rfl) rfl rfl fun hG _ W s hS => ex_load (x := .tmp 57) (t := 3) (by kernel_rfl) (s.g 44 57 (by kernel_rfl) hG rfl) (ld3 W _ 5 _ (hcell W hS 5 _ rfl)))
  refine us ?_ (obRG true 42 55 true hz (by decide) (by kernel_rfl) rfl rfl fun _ _ W s _ => ex_field (x := .tmp 1) (t := 31) (f := 5) (by kernel_rfl) (s.b 1 (by kernel_rfl) h1) (fa5 W _))
  refine us ?_ (obRG true 42 55 true hz (by decide) (by kernel_rfl) rfl rfl fun _ _ _ s _ => ex_move (x := .tmp 5) (by kernel_rfl) (s.b 5 (by kernel_rfl) h5))
  refine us ?_ (obRU hz (by decide) (by kernel_rfl) fun _ _ s _ => ex_move (x := .tmp 54) (by kernel_rfl) (s.u 41 54 (by kernel_rfl)))
  refine us ?_ (obRU hz (by decide) (by kernel_rfl) fun _ _ s _ => ex_pickA (G := true) (by kernel_rfl) (s.u 31 44 (by kernel_rfl)) (s.u 40 53 (by kernel_rfl)) rfl rfl)
  refine us ?_ (obRH true 31 44 true hz (by decide) (by kernel_rfl) rfl rfl (fun hG _ _ s => ex_is (ts := #[3, 4, 4]) (t := .tmp 45) (x := .const (.int .i64 8)) (y := .tmp 48) (z := .tmp 52) (f := 71) cf71 (by kernel_rfl) (s.g 32 45 (by kernel_rfl) hG rfl) (rfl) (s.g 35 48 (by kernel_rfl) hG rfl) (s.g 39 52 (by kernel_rfl) hG rfl)) (qis _ _ _))
  refine us ?_ (obRG true 31 44 true hz (by decide) (by kernel_rfl) rfl rfl fun hG _ W s _ => ex_bin (u := 3) (x := .tmp 51) (y := .const (.int .i64 0)) (by kernel_rfl) (s.g 38 51 (by kernel_rfl) hG rfl) (rfl) (eq3c W _ _ _ _))
  refine us ?_ (obRG true 31 44 true hz (by decide) (by kernel_rfl) rfl rfl fun hG _ W s _ => ex_len (ts := #[22]) (x := .tmp 50) (by kernel_rfl) (fun ty => len22 W a1 c.cols.length c1 ty) (s.g 37 50 (by kernel_rfl) hG rfl))
  refine us ?_ (obRG true 31 44 true hz (by decide) (by kernel_rfl) rfl rfl fun hG _ W s hS => ex_load (x := .tmp 49) (t := 22) (by kernel_rfl) (s.g 36 49 (by kernel_rfl) hG rfl) (ld22 W _ 4 _ (hcell W hS 4 _ rfl)))
  refine us ?_ (obRG true 31 44 true hz (by decide) (by kernel_rfl) rfl rfl fun _ _ W s _ => ex_field (x := .tmp 1) (t := 31) (f := 4) (by kernel_rfl) (s.b 1 (by kernel_rfl) h1) (fa4 W _))
  refine us ?_ (obRH true 31 44 true hz (by decide) (by kernel_rfl) rfl rfl (fun hG _ _ s => ex_call1 (ts := #[22]) (x := .tmp 47) (f := 73) cf73 (by kernel_rfl) rfl (s.g 34 47 (by kernel_rfl) hG rfl)) q48)
  refine us ?_ (obRG true 31 44 true hz (by decide) (by kernel_rfl) rfl rfl fun hG _ W s hS => ex_load (x := .tmp 46) (t := 22) (by kernel_rfl) (s.g 33 46 (by kernel_rfl) hG rfl) (ld22 W _ 4 _ (hcell W hS 4 _ rfl)))
  refine us ?_ (obRG true 31 44 true hz (by decide) (by kernel_rfl) rfl rfl fun _ _ W s _ => ex_field (x := .tmp 1) (t := 31) (f := 4) (by kernel_rfl) (s.b 1 (by kernel_rfl) h1) (fa4 W _))
  refine us ?_ (obRG true 31 44 true hz (by decide) (by kernel_rfl) rfl rfl fun _ _ _ s _ => ex_move (x := .tmp 5) (by kernel_rfl) (s.b 5 (by kernel_rfl) h5))
  refine us ?_ (obRU hz (by decide) (by kernel_rfl) fun _ _ s _ => ex_move (x := .tmp 43) (by kernel_rfl) (s.u 30 43 (by kernel_rfl)))
  refine us ?_ (obRU hz (by decide) (by kernel_rfl) fun _ _ s _ => ex_pickA (G := true) (by kernel_rfl) (s.u 21 34 (by kernel_rfl)) (s.u 29 42 (by kernel_rfl)) rfl rfl)
  refine us ?_ (obRH true 21 34 true hz (by decide) (by kernel_rfl) rfl rfl (fun hG _ _ s => ex_is (ts := #[3, 4, 4]) (t := .tmp 35) (x := .const (.int .i64 4)) (y := .tmp 38) (z := .tmp 41) (f := 71) cf71 (by kernel_rfl) (s.g 22 35 (by kernel_rfl) hG rfl) (rfl) (s.g 25 38 (by kernel_rfl) hG rfl) (s.g 28 41 (by kernel_rfl) hG rfl)) (qis _ _ _))
  refine us ?_ (obRG true 21 34 true hz (by decide) (by kernel_rfl) rfl rfl fun hG _ W s _ => ex_bin (u := 9) (x := .tmp 40) (y := .const (.string ⟨#[]⟩)) (by kernel_rfl) (s.g 27 40 (by kernel_rfl) hG rfl) (rfl) (eq9 W _ _ _))
  refine us ?_ (obRG true 21 34 true hz (by decide) (by kernel_rfl) rfl rfl fun hG _ W s hS => ex_load (x := .tmp 39) (t := 9) (by kernel_rfl) (s.g 26 39 (by kernel_rfl) hG rfl) (ld9 W _ 3 _ (hcell W hS 3 _ rfl)))
  refine us ?_ (obRG true 21 34 true hz (by decide) (by kernel_rfl) rfl rfl fun _ _ W s _ => ex_field (x := .tmp 1) (t := 31) (f := 3) (by kernel_rfl) (s.b 1 (by kernel_rfl) h1) (fa3 W _))
  refine us ?_ (obRH true 21 34 true hz (by decide) (by kernel_rfl) rfl rfl (fun hG _ _ s => ex_call1 (ts := #[9]) (x := .tmp 37) (f := 72) cf72 (by kernel_rfl) rfl (s.g 24 37 (by kernel_rfl) hG rfl)) q38)
  refine us ?_ (obRG true 21 34 true hz (by decide) (by kernel_rfl) rfl rfl fun hG _ W s hS => ex_load (x := .tmp 36) (t := 9) (by kernel_rfl) (s.g 23 36 (by kernel_rfl) hG rfl) (ld9 W _ 3 _ (hcell W hS 3 _ rfl)))
  refine us ?_ (obRG true 21 34 true hz (by decide) (by kernel_rfl) rfl rfl fun _ _ W s _ => ex_field (x := .tmp 1) (t := 31) (f := 3) (by kernel_rfl) (s.b 1 (by kernel_rfl) h1) (fa3 W _))
  refine us ?_ (obRG true 21 34 true hz (by decide) (by kernel_rfl) rfl rfl fun _ _ _ s _ => ex_move (x := .tmp 5) (by kernel_rfl) (s.b 5 (by kernel_rfl) h5))
  refine us ?_ (obRU hz (by decide) (by kernel_rfl) fun _ _ s _ => ex_move (x := .tmp 33) (by kernel_rfl) (s.u 20 33 (by kernel_rfl)))
  refine us ?_ (obRU hz (by decide) (by kernel_rfl) fun _ _ s _ => ex_pickA (G := true) (by kernel_rfl) (s.u 11 24 (by kernel_rfl)) (s.u 19 32 (by kernel_rfl)) rfl rfl)
  refine us ?_ (obRH true 11 24 true hz (by decide) (by kernel_rfl) rfl rfl (fun hG _ _ s => ex_is (ts := #[3, 4, 4]) (t := .tmp 25) (x := .const (.int .i64 2)) (y := .tmp 28) (z := .tmp 31) (f := 71) cf71 (by kernel_rfl) (s.g 12 25 (by kernel_rfl) hG rfl) (rfl) (s.g 15 28 (by kernel_rfl) hG rfl) (s.g 18 31 (by kernel_rfl) hG rfl)) (qis _ _ _))
  refine us ?_ (obRG true 11 24 true hz (by decide) (by kernel_rfl) rfl rfl fun hG _ W s _ => ex_bin (u := 9) (x := .tmp 30) (y := .const (.string ⟨#[]⟩)) (by kernel_rfl) (s.g 17 30 (by kernel_rfl) hG rfl) (rfl) (eq9 W _ _ _))
  refine us ?_ (obRG true 11 24 true hz (by decide) (by kernel_rfl) rfl rfl fun hG _ W s hS => ex_load (x := .tmp 29) (t := 9) (by kernel_rfl) (s.g 16 29 (by kernel_rfl) hG rfl) (ld9 W _ 2 _ (hcell W hS 2 _ rfl)))
  refine us ?_ (obRG true 11 24 true hz (by decide) (by kernel_rfl) rfl rfl fun _ _ W s _ => ex_field (x := .tmp 1) (t := 31) (f := 2) (by kernel_rfl) (s.b 1 (by kernel_rfl) h1) (fa2 W _))
  refine us ?_ (obRH true 11 24 true hz (by decide) (by kernel_rfl) rfl rfl (fun hG _ _ s => ex_call1 (ts := #[9]) (x := .tmp 27) (f := 72) cf72 (by kernel_rfl) rfl (s.g 14 27 (by kernel_rfl) hG rfl)) q28)
  refine us ?_ (obRG true 11 24 true hz (by decide) (by kernel_rfl) rfl rfl fun hG _ W s hS => ex_load (x := .tmp 26) (t := 9) (by kernel_rfl) (s.g 13 26 (by kernel_rfl) hG rfl) (ld9 W _ 2 _ (hcell W hS 2 _ rfl)))
  refine us ?_ (obRG true 11 24 true hz (by decide) (by kernel_rfl) rfl rfl fun _ _ W s _ => ex_field (x := .tmp 1) (t := 31) (f := 2) (by kernel_rfl) (s.b 1 (by kernel_rfl) h1) (fa2 W _))
  refine us ?_ (obRG true 11 24 true hz (by decide) (by kernel_rfl) rfl rfl fun _ _ _ s _ => ex_move (x := .tmp 5) (by kernel_rfl) (s.b 5 (by kernel_rfl) h5))
  refine us ?_ (obRU hz (by decide) (by kernel_rfl) fun _ _ s _ => ex_move (x := .tmp 23) (by kernel_rfl) (s.u 10 23 (by kernel_rfl)))
  refine us ?_ (obRU hz (by decide) (by kernel_rfl) fun _ _ s _ => ex_pickA (G := true) (by kernel_rfl) (s.u 1 14 (by kernel_rfl)) (s.u 9 22 (by kernel_rfl)) rfl rfl)
  refine us ?_ (obRH true 1 14 true hz (by decide) (by kernel_rfl) rfl rfl (fun hG _ _ s => ex_is (ts := #[3, 4, 4]) (t := .tmp 15) (x := .const (.int .i64 1)) (y := .tmp 18) (z := .tmp 21) (f := 71) cf71 (by kernel_rfl) (s.g 2 15 (by kernel_rfl) hG rfl) (rfl) (s.g 5 18 (by kernel_rfl) hG rfl) (s.g 8 21 (by kernel_rfl) hG rfl)) (qis _ _ _))
  refine us ?_ (obRG true 1 14 true hz (by decide) (by kernel_rfl) rfl rfl fun hG _ W s _ => ex_bin (u := 9) (x := .tmp 20) (y := .const (.string ⟨#[]⟩)) (by kernel_rfl) (s.g 7 20 (by kernel_rfl) hG rfl) (rfl) (eq9 W _ _ _))
  refine us ?_ (obRG true 1 14 true hz (by decide) (by kernel_rfl) rfl rfl fun hG _ W s hS => ex_load (x := .tmp 19) (t := 9) (by kernel_rfl) (s.g 6 19 (by kernel_rfl) hG rfl) (ld9 W _ 1 _ (hcell W hS 1 _ rfl)))
  refine us ?_ (obRG true 1 14 true hz (by decide) (by kernel_rfl) rfl rfl fun _ _ W s _ => ex_field (x := .tmp 1) (t := 31) (f := 1) (by kernel_rfl) (s.b 1 (by kernel_rfl) h1) (fa1 W _))
  refine us ?_ (obRH true 1 14 true hz (by decide) (by kernel_rfl) rfl rfl (fun hG _ _ s => ex_call1 (ts := #[9]) (x := .tmp 17) (f := 72) cf72 (by kernel_rfl) rfl (s.g 4 17 (by kernel_rfl) hG rfl)) q18)
  refine us ?_ (obRG true 1 14 true hz (by decide) (by kernel_rfl) rfl rfl fun hG _ W s hS => ex_load (x := .tmp 16) (t := 9) (by kernel_rfl) (s.g 3 16 (by kernel_rfl) hG rfl) (ld9 W _ 1 _ (hcell W hS 1 _ rfl)))
  refine us ?_ (obRG true 1 14 true hz (by decide) (by kernel_rfl) rfl rfl fun _ _ W s _ => ex_field (x := .tmp 1) (t := 31) (f := 1) (by kernel_rfl) (s.b 1 (by kernel_rfl) h1) (fa1 W _))
  refine us ?_ (obRG true 1 14 true hz (by decide) (by kernel_rfl) rfl rfl fun _ _ _ s _ => ex_move (x := .tmp 5) (by kernel_rfl) (s.b 5 (by kernel_rfl) h5))
  refine us ?_ (obRU hz (by decide) (by kernel_rfl) fun _ _ s _ => ex_move (x := .tmp 13) (by kernel_rfl) (s.u 0 13 (by kernel_rfl)))
  refine us ?_ (obRU hz (by decide) (by kernel_rfl) fun _ _ s _ => ex_move (x := .tmp 4) (by kernel_rfl) (s.b 4 (by kernel_rfl) h4))
  exact fun j hj => absurd hj (Nat.not_lt_zero j)
theorem Held.drew {w : World} {c : Cm} {cv vv fv ea wa : Value} {m : Int} {W : World} (h : Held w c cv vv fv ea wa m W) : Held w c cv vv fv ea wa m W.drew := ⟨h.1, h.2.1, h.2.2.1.drew, h.2.2.2⟩
theorem row_len {B : Nat} {w : World} {u : Value} {n : Nat} {xs : List Value} (h : RowAt B w u n xs) : ∃ ao ca, u = .slice ao n ca := by
  rcases h with ⟨rfl, ao, ca, h⟩ | ⟨b, off, cap, h, -⟩
  · exact ⟨ao, ca, h⟩
  · exact ⟨_, _, h⟩
theorem rightC_eq (c : Cm) : rightC c = ris_b154 c (maskN c.kind : Nat) (kindB c.kind) := by
  have d4 : decide (((c.cols.length : Nat) : Int) = 0) = decide (c.cols.length = 0) := by rw [decide_eq_decide]; omega
  have d7 : decide (((c.vals.length : Nat) : Int) = 0) = decide (c.vals.length = 0) := by rw [decide_eq_decide]; omega
  have d8 : decide (((c.fields.length : Nat) : Int) = 0) = decide (c.fields.length = 0) := by rw [decide_eq_decide]; omega
  have d12 : (decide (-1 ≤ c.limit) && decide (c.limit ≤ 999999999)) = decide (-1 ≤ c.limit ∧ c.limit ≤ 999999999) := by rw [Bool.decide_and]
  simp only [rightC, ris_b23, ris_b33, ris_b43, ris_b54, ris_b64, ris_b75, ris_b86, ris_b97, ris_b107, ris_b124, ris_b139, ris_b154, Xs, d4, d7, d8, d12, selB, Bool.and_assoc]
theorem isRight_of {w : World} (c : Cm) (cv vv fv ea wa : Value) (m : Int) (kd : Bool) (hnb : ∀ W, Calls Tryz.prog 70 #[.int .i64 c.kind] W fun e w' => e = .returned (.tuple #[.int .i64 m, .bool kd]) ∧ w' = W) (hi : CmIn 0 w c cv vv fv ea wa) (hf : CmFit c) (hl : Laid w) :
    Calls Tryz.prog 29 #[.agg (cmL c cv vv fv ea wa).toArray] w fun e w' => e = .returned (.bool (ris_b154 c m kd)) ∧ Below w.heap.size w w' := by
  obtain ⟨a1, c1, rfl⟩ := row_len hi.cols
  obtain ⟨a2, c2, rfl⟩ := row_len hi.vals
  obtain ⟨a3, c3, rfl⟩ := row_len hi.fields
  have H0 := hide (Held.start w c (.slice a1 c.cols.length c1) (.slice a2 c.vals.length c2) (.slice a3 c.fields.length c3) ea wa m)
  have up : ∀ W, (Held w c (.slice a1 c.cols.length c1) (.slice a2 c.vals.length c2) (.slice a3 c.fields.length c3) ea wa m) W → CmIn 0 W c (.slice a1 c.cols.length c1) (.slice a2 c.vals.length c2) (.slice a3 c.fields.length c3) ea wa ∧ Laid W := fun W h => ⟨hi.keep h.2.2.1.size fun b _ hb => h.2.2.1.block b hb, hl.below h.2.2.1⟩
  have nn : ∀ (x : Ex) (a : Value) (W : World), ExAt 0 W (exV x.k x.v x.nm a) x → Calls Tryz.prog 79 #[exV x.k x.v x.nm a] W fun e w' => e = .returned (.bool (noneE x)) ∧ Below W.heap.size W w' := by
    intro x a W h
    obtain ⟨ao, ca, e⟩ := h.len
    rw [e]
    exact isNone_any x ao ca W
  have lift : ∀ {f : FuncId} {args : Array Value} {v : Value}, (∀ W, (Held w c (.slice a1 c.cols.length c1) (.slice a2 c.vals.length c2) (.slice a3 c.fields.length c3) ea wa m) W → Calls Tryz.prog f args W fun e w' => e = .returned v ∧ Below W.heap.size W w') → Hid (∀ W, (Held w c (.slice a1 c.cols.length c1) (.slice a2 c.vals.length c2) (.slice a3 c.fields.length c3) ea wa m) W → Calls Tryz.prog f args W fun e w' => e = .returned v ∧ (Held w c (.slice a1 c.cols.length c1) (.slice a2 c.vals.length c2) (.slice a3 c.fields.length c3) ea wa m) w') :=
    fun h => hide fun W hW => (h W hW).mono fun e w' q => ⟨q.1, hW.below q.2⟩
  have r1 := lift fun W h => cname_any _ hf.name (up W h).2
  have r2 := lift fun W h => cname_any _ hf.other (up W h).2
  have r3 := lift fun W h => cname_any _ hf.column (up W h).2
  have r4 := lift fun W h => cols_any _ W (up W h).1.cols hf.cols hf.colsN (up W h).2
  have r5 := lift fun W _ => isType_any c.ty W
  have r6 := lift fun W _ => isValue_any c.val W hf.val
  have r7 := lift fun W h => vals_any _ W (up W h).1.vals hf.vals hf.valsN
  have r8 := lift fun W h => fields_any c _ (up W h).1.fields hf.fields hf.fieldsN (up W h).2
  have r9 := lift fun W h => isExpr_any (up W h).1.expr hf.expr W (Below.refl _ _) (up W h).2
  have n9 := lift fun W h => nn _ _ W (up W h).1.expr
  have r10 := lift fun W h => isWhere_any c.all (up W h).1.wh hf.wh (up W h).2
  have n10 := lift fun W h => nn _ _ W (up W h).1.wh
  have r11 := lift fun W h => cname_any _ hf.order (up W h).2
  have ri := hide (show ∀ (o : Int) (r e : Bool) W, (Held w c (.slice a1 c.cols.length c1) (.slice a2 c.vals.length c2) (.slice a3 c.fields.length c3) ea wa m) W → Calls Tryz.prog 71 #[.int .i64 o, .bool r, .bool e, .pointer (some ⟨w.heap.size + 1, 0, none⟩)] W fun x w' => x = .returned (.bool (Xs m o r e)) ∧ (Held w c (.slice a1 c.cols.length c1) (.slice a2 c.vals.length c2) (.slice a3 c.fields.length c3) ea wa m) w' from
    fun o r e W h => (is_any m o r e _ W h.2.1).mono fun x w' q => ⟨q.1, by rw [q.2]; exact h⟩)
  have d0 : (w.alloc (.cells (cmL c (.slice a1 c.cols.length c1) (.slice a2 c.vals.length c2) (.slice a3 c.fields.length c3) ea wa).toArray 31)).cell? ⟨w.heap.size, 0, none⟩ = some (.int .i64 c.kind) := by
    rw [Lib.cell_of_heap (heap_alloc_new w _)]; rfl
  clear hi hf hl up nn lift
  go_enter Tryz.func29, Tryz.ntmps29
  go_wp2_with fail
  refine (hnb _).mono ?_
  rintro e w' ⟨rfl, hw'⟩
  obtain rfl := hw'.symm
  clear hw' hnb d0
  go_wp2_with fail
  refine wp_region_as ris_R (by kernel_rfl) ?_
  refine ris_wp (c := c) (a1 := a1) (a2 := a2) (a3 := a3) (c1 := c1) (c2 := c2) (c3 := c3) (ea := ea) (wa := wa) (m := m) (kd := kd) (b := w.heap.size) (S := (Held w c (.slice a1 c.cols.length c1) (.slice a2 c.vals.length c2) (.slice a3 c.fields.length c3) ea wa m)) rfl rfl rfl (fun W h => h.1) ri.out r1.out r2.out r3.out r4.out r5.out r6.out r7.out r8.out r9.out n9.out r10.out n10.out r11.out rfl H0.out.drew ?_
  intro w' hS
  refine ‹∀ (a : Act) (w : World), Code.wp _ _ _ a w → _› _ _ ?_
  refine wp_ret ?_
  exact post_frame 142 rfl ris_nodup rfl rfl (by simp) ⟨rfl, hS.2.2.1⟩
theorem ris_none (c : Cm) (m : Int) : ris_b154 c m false = false := by simp only [ris_b23, ris_b33, ris_b43, ris_b54, ris_b64, ris_b75, ris_b86, ris_b97, ris_b107, ris_b124, ris_b139, ris_b154, Bool.false_and]
theorem isRight_any {w : World} (c : Cm) (cv vv fv ea wa : Value) (hi : CmIn 0 w c cv vv fv ea wa) (hf : CmFit c) (hl : Laid w) :
    Calls Tryz.prog 29 #[.agg (cmL c cv vv fv ea wa).toArray] w fun e w' => e = .returned (.bool (rightC c)) ∧ Below w.heap.size w w' := by
  rw [rightC_eq]
  by_cases hk : 1 ≤ c.kind ∧ c.kind ≤ 16
  · have e0 : kindB c.kind = true := by rw [kindB, decide_eq_true hk]
    rw [e0]
    refine isRight_of c cv vv fv ea wa _ true (fun W => ?_) hi hf hl
    have e : ((c.kind.toNat : Nat) : Int) = c.kind := by omega
    have := namedBy_in W c.kind.toNat (by omega) (by omega)
    rwa [e] at this
  · have e0 : kindB c.kind = false := by rw [kindB, decide_eq_false hk]
    rw [e0, ris_none, ← ris_none c 0]
    exact isRight_of c cv vv fv ea wa 0 false (fun W => namedBy_out W c.kind hk) hi hf hl
theorem args_of {w : World} {x : Ex} {a : Value} (h : ExAt 0 w (exV x.k x.v x.nm a) x) : ∃ ao ca, a = .slice ao x.args.length ca := by
  obtain ⟨ao, ca, ps, e, -⟩ := h.pairs
  exact ⟨ao, ca, e⟩
theorem many_any {w : World} (c : Cm) (cv vv fv ea wa : Value) (hi : CmIn 0 w c cv vv fv ea wa) (hf : CmFit c) :
    Calls Tryz.prog 28 #[.agg (cmL c cv vv fv ea wa).toArray] w fun e w' => e = .returned (.bool (manyC c)) ∧ Below w.heap.size w w' := by
  obtain ⟨a1, c1, rfl⟩ := row_len hi.cols
  obtain ⟨a2, c2, rfl⟩ := row_len hi.vals
  obtain ⟨a3, c3, rfl⟩ := row_len hi.fields
  obtain ⟨a4, c4, rfl⟩ := args_of hi.expr
  obtain ⟨a5, c5, rfl⟩ := args_of hi.wh
  exact hasMany_any c a1 a2 a3 a4 a5 c1 c2 c3 c4 c5 hi.expr hi.wh hf.expr hf.wh
theorem check_cmd {w : World} (c : Cm) (cv vv fv ea wa : Value) (hi : CmIn 0 w c cv vv fv ea wa) (hf : CmFit c) (hl : Laid w) :
    Calls Tryz.prog 12 #[.agg (cmL c cv vv fv ea wa).toArray] w fun e w' => e = .returned (.int .i64 (chkC (manyC c) (rightC c))) ∧ Below w.heap.size w w' := by
  have up : ∀ W, Below w.heap.size w W → CmIn 0 W c cv vv fv ea wa ∧ Laid W := fun W h => ⟨hi.keep h.size fun b _ hb => h.block b hb, hl.below h⟩
  exact checkC_any c cv vv fv ea wa (manyC c) (rightC c) (fun W h => many_any c cv vv fv ea wa (up W h).1 hf) (fun W h => isRight_any c cv vv fv ea wa (up W h).1 hf (up W h).2)
theorem scanGo_each {p : Tk → Prop} (hp : ∀ (a : Nat) (c : UInt8) (r : List UInt8), wrongL (tokL (c :: r)).1 ((c :: r).take (tokL (c :: r)).2) = 0 → p ⟨((tokL (c :: r)).1 : Nat), (a : Nat), (c :: r).take (tokL (c :: r)).2⟩) (f : Nat) :
    ∀ (a : Nat) (l : List UInt8) (acc : List Tk), (∀ x ∈ acc, p x) → ∀ x ∈ (scanGo f a l acc).1, p x := by
  induction f with
  | zero => intro a l acc h; exact h
  | succ f ih =>
    intro a l acc h
    cases l with
    | nil => exact h
    | cons c r =>
      rw [scanGo]
      split
      · exact ih _ _ _ h
      · split
        · rename_i hw
          apply ih
          intro x hx
          rcases List.mem_append.1 hx with hx | hx
          · exact h x hx
          · rw [List.mem_singleton] at hx
            rw [hx]
            exact hp a c r hw
        · intro x hx; cases hx
theorem scanS_each {p : Tk → Prop} (hp : ∀ (a : Nat) (c : UInt8) (r : List UInt8), wrongL (tokL (c :: r)).1 ((c :: r).take (tokL (c :: r)).2) = 0 → p ⟨((tokL (c :: r)).1 : Nat), (a : Nat), (c :: r).take (tokL (c :: r)).2⟩) (s : List UInt8) : ∀ x ∈ (scanS s).1, p x := by
  unfold scanS
  split
  · intro x hx; cases hx
  · exact scanGo_each hp _ _ _ _ (by intro x hx; cases hx)
theorem scanGo_few (f : Nat) : ∀ (a : Nat) (l : List UInt8) (acc : List Tk), (scanGo f a l acc).1.length ≤ acc.length + l.length := by
  induction f with
  | zero => intro a l acc; simp [scanGo]
  | succ f ih =>
    intro a l acc
    cases l with
    | nil => simp [scanGo]
    | cons c r =>
      rw [scanGo]
      split
      · have := ih (a + 1) r acc
        simp only [List.length_cons]; omega
      · split
        · rename_i hw
          have hz := tokL_pos c r (wrongL_zero hw)
          have := ih (a + (tokL (c :: r)).2) ((c :: r).drop (tokL (c :: r)).2) (acc ++ [⟨((tokL (c :: r)).1 : Nat), (a : Nat), (c :: r).take (tokL (c :: r)).2⟩])
          simp only [List.length_append, List.length_drop, List.length_cons, List.length_nil] at this ⊢
          omega
        · simp
theorem scanS_few (s : List UInt8) : (scanS s).1.length ≤ 2000 := by
  unfold scanS
  split
  · simp
  · have := scanGo_few (s.length + 1) 0 s []
    simp only [List.length_nil] at this
    unfold scanL
    omega
theorem runL_each (p : UInt8 → Bool) (l : List UInt8) : ∀ c ∈ l.take (runL p l), p c = true := by
  induction l with
  | nil => intro c hc; simp [runL] at hc
  | cons d r ih =>
    intro c hc
    rw [runL_cons] at hc
    split at hc
    · rename_i hd
      rw [List.take_succ_cons] at hc
      rcases List.mem_cons.1 hc with e | e
      · rw [e]; exact hd
      · exact ih c e
    · simp at hc
theorem tokL_two (c : UInt8) (r : List UInt8) (h : (tokL (c :: r)).1 = 2) : isD c = true ∧ tokL (c :: r) = (2, runL isD r + 1) := by
  revert h
  rw [tokL]
  repeat' split
  all_goals simp_all
theorem tokL_three (c : UInt8) (r : List UInt8) (h : (tokL (c :: r)).1 = 3) : c = 39 ∧ tokL (c :: r) = (3, runL isQ r + 2) ∧ r[runL isQ r]? = some 39 := by
  revert h
  rw [tokL]
  repeat' split
  all_goals simp_all
theorem scanned_ok (s : List UInt8) : ∀ x ∈ (scanS s).1, TokOk x := by
  have hs : ∀ x ∈ (scanS s).1, x.t.length ≤ 22 := by
    unfold scanS
    split
    · intro y hy; cases hy
    · exact scanGo_len _ _ _ _ (by intro y hy; cases hy)
  have hr : ∀ x ∈ (scanS s).1, (x.k = 2 → x.t ≠ [] ∧ x.t.length ≤ 9 ∧ ∀ c ∈ x.t, isD c = true) ∧ (x.k = 3 → 2 ≤ x.t.length) := by
    refine scanS_each (fun a c r hw => ⟨fun h2 => ?_, fun h3 => ?_⟩) s
    · have h2' : (tokL (c :: r)).1 = 2 := by simp only at h2; omega
      obtain ⟨hd, ht⟩ := tokL_two c r h2'
      rw [ht] at hw ⊢
      simp only [List.take_succ_cons] at hw ⊢
      refine ⟨by simp, ?_, ?_⟩
      · apply Classical.byContradiction
        intro hn
        rw [wrongL, if_neg (by decide), if_pos (by right; left; exact ⟨rfl, by omega⟩)] at hw
        cases hw
      · intro d hdm
        rcases List.mem_cons.1 hdm with e | e
        · rw [e]; exact hd
        · exact runL_each isD r d e
    · have h3' : (tokL (c :: r)).1 = 3 := by simp only at h3; omega
      obtain ⟨-, ht, hq⟩ := tokL_three c r h3'
      rw [ht]
      have := (List.getElem?_eq_some_iff.1 hq).1
      simp only [List.length_take, List.length_cons]
      omega
  exact fun x hx => ⟨hs x hx, (hr x hx).1, (hr x hx).2⟩
theorem tks_scanned {w : World} {base : Nat} {v : Value} {s : List UInt8} (h : w.ownsRow base 63 3 v (scanS s).1.length (cellsT (scanS s).1)) : Tks w base v (scanS s).1 := ⟨h, scanS_few s, scanned_ok s⟩
def headB (p : UInt8 → Bool) (s : List UInt8) : Bool := match s with | [] => false | c :: _ => p c
structure TokIs (x : Tk) : Prop where
  num : x.k = 2 ↔ headB isD x.t = true
  txt : x.k = 3 ↔ headB (fun c => decide (c = 39)) x.t = true
def numberR (T : List Tk) (i : Nat) : Rs Nat := if headB isD (tx T i) = true then .ok (decN (tx T i)) (i + 1) else .bad i
def isVR (s : List UInt8) : Bool := decide (s = w_true) || decide (s = w_false) || decide (s = w_null) || decide (s = [45]) || headB (fun c => isD c || decide (c = 39)) s
def valueR (T : List Tk) (i : Nat) : Rs Vl :=
  if isVR (tx T i) = false then .bad i
  else if tx T i = w_true ∨ tx T i = w_false then .ok ⟨3, if tx T i = w_true then 1 else 0, []⟩ (i + 1)
  else if tx T i = w_null then .ok vl0 (i + 1)
  else if tx T i = [45] then (if tx T (i + 1) = [48] then .bad (i + 1) else (numberR T (i + 1)).then fun n j => .ok ⟨1, -(n : Nat), []⟩ j)
  else if headB (fun c => decide (c = 39)) (tx T i) = true then .ok ⟨2, 0, ((tx T i).drop 1).take ((tx T i).length - 2)⟩ (i + 1)
  else (numberR T i).then fun n j => .ok ⟨1, (n : Nat), []⟩ j
def typeR (T : List Tk) (i : Nat) : Rs Nat :=
  if tx T i = w_int then .ok 1 (i + 1) else if tx T i = w_text then .ok 2 (i + 1) else if tx T i = w_bool then .ok 3 (i + 1) else .bad i
def operR (T : List Tk) (i : Nat) : Rs Nat :=
  if tx T i = w_and then .ok 5 (i + 1) else if tx T i = w_or then .ok 6 (i + 1) else if tx T i = [43] then .ok 7 (i + 1) else if tx T i = [45] then .ok 8 (i + 1) else if tx T i = [124, 124] then .ok 9 (i + 1) else if tx T i = [60] then .ok 10 (i + 1) else if tx T i = [61] then .ok 11 (i + 1) else .bad i
def brackR (T : List Tk) (ex : Nat → Rs Ex) (i : Nat) : Rs Ex :=
  (ex i).then fun a j =>
    if tx T j = w_is then (must T [w_null] (j + 1)).then fun _ j => (must T [[41]] j).then fun _ j => .ok (.mk 4 vl0 [] [a]) j
    else (operR T j).then fun k j => (ex j).then fun b j => (must T [[41]] j).then fun _ j => .ok (.mk (k : Nat) vl0 [] [a, b]) j
def leafR (T : List Tk) (i : Nat) : Rs Ex :=
  if isVR (tx T i) = true then (valueR T i).then fun v j => .ok (.mk 1 v [] []) j
  else (nameP T i).then fun n j => .ok (.mk 2 vl0 n []) j
def exprR (T : List Tk) : Nat → Nat → Rs Ex
  | 0, i => if tx T i = [40] ∨ tx T i = w_not then .bad i else leafR T i
  | f + 1, i =>
    if tx T i = w_not then (exprR T f (i + 1)).then fun a j => .ok (.mk 3 vl0 [] [a]) j
    else if tx T i = [40] then brackR T (exprR T f) (i + 1)
    else leafR T i
theorem tx_ne {T : List Tk} {i : Nat} (h : tx T i ≠ []) : ∃ x, T[i]? = some x ∧ tx T i = x.t ∧ kd T i = x.k := by
  unfold tx at h
  cases e : T[i]? with
  | none => rw [e] at h; exact absurd rfl h
  | some x => exact ⟨x, rfl, by simp [tx, e], by simp [kd, e]⟩
theorem kd_two {T : List Tk} (hT : ∀ x ∈ T, TokIs x) (i : Nat) : kd T i = 2 ↔ headB isD (tx T i) = true := by
  cases e : T[i]? with
  | none => simp [kd, tx, e, headB]
  | some x =>
    have h1 : kd T i = x.k := by simp [kd, e]
    have h2 : tx T i = x.t := by simp [tx, e]
    rw [h1, h2]; exact (hT x (List.mem_of_getElem? e)).num
theorem kd_three {T : List Tk} (hT : ∀ x ∈ T, TokIs x) (i : Nat) : kd T i = 3 ↔ headB (fun c => decide (c = 39)) (tx T i) = true := by
  cases e : T[i]? with
  | none => simp [kd, tx, e, headB]
  | some x =>
    have h1 : kd T i = x.k := by simp [kd, e]
    have h2 : tx T i = x.t := by simp [tx, e]
    rw [h1, h2]; exact (hT x (List.mem_of_getElem? e)).txt
theorem number_iff {T : List Tk} (hT : ∀ x ∈ T, TokIs x) (i : Nat) : numberP T 0 i = numberR T i := by
  unfold numberP numberR
  have h := kd_two hT i
  by_cases hk : kd T i = 2
  · rw [if_pos ⟨hk, Nat.zero_le _⟩, if_pos (h.1 hk)]
  · rw [if_neg (fun hh => hk hh.1), if_neg (fun hh => hk (h.2 hh))]
theorem value_iff {T : List Tk} (hT : ∀ x ∈ T, TokIs x) (hz : ∀ i, kd T i = 2 → (decN (tx T i) = 0 ↔ tx T i = [48])) (i : Nat) : valueP T i = valueR T i := by
  unfold valueP valueR
  have h2 := kd_two hT i
  have h3 := kd_three hT i
  have d39 : isD 39 = false := by decide
  by_cases k2 : kd T i = 2
  · have hd := h2.1 k2
    have hv : isVR (tx T i) = true := by
      unfold isVR
      have : headB (fun c => isD c || decide (c = 39)) (tx T i) = true := by
        cases e : tx T i with
        | nil => rw [e] at hd; cases hd
        | cons c r => rw [e] at hd; simp only [headB] at hd ⊢; rw [hd]; rfl
      rw [this]; simp
    have hne : ∀ s, headB isD s = false → tx T i ≠ s := by intro s hs e; rw [e, hs] at hd; cases hd
    have hq : headB (fun c => decide (c = 39)) (tx T i) = false := by
      cases e : tx T i with
      | nil => rfl
      | cons c r =>
        rw [e] at hd
        simp only [headB] at hd ⊢
        by_cases hc : c = 39
        · rw [hc, d39] at hd; cases hd
        · simp [hc]
    rw [if_pos k2, number_iff hT, hv, hq]
    rw [if_neg (by simp), if_neg (by rintro (h | h); exact hne _ (by decide) h; exact hne _ (by decide) h), if_neg (hne _ (by decide)), if_neg (hne _ (by decide)), if_neg (by simp)]
  · rw [if_neg k2]
    have hd : headB isD (tx T i) = false := by
      cases h : headB isD (tx T i)
      · rfl
      · exact absurd (h2.2 h) k2
    by_cases k3 : kd T i = 3
    · have hq := h3.1 k3
      have hv : isVR (tx T i) = true := by
        unfold isVR
        have : headB (fun c => isD c || decide (c = 39)) (tx T i) = true := by
          cases e : tx T i with
          | nil => rw [e] at hq; cases hq
          | cons c r => rw [e] at hq; simp only [headB] at hq ⊢; rw [hq]; simp
        rw [this]; simp
      have hne : ∀ s, headB (fun c => decide (c = 39)) s = false → tx T i ≠ s := by intro s hs e; rw [e, hs] at hq; cases hq
      rw [if_pos k3, hv, if_neg (by simp), if_neg (by rintro (h | h); exact hne _ (by decide) h; exact hne _ (by decide) h), if_neg (hne _ (by decide)), if_neg (hne _ (by decide)), if_pos hq]
    · rw [if_neg k3]
      have hq : headB (fun c => decide (c = 39)) (tx T i) = false := by
        cases h : headB (fun c => decide (c = 39)) (tx T i)
        · rfl
        · exact absurd (h3.2 h) k3
      have hb : headB (fun c => isD c || decide (c = 39)) (tx T i) = false := by
        cases e : tx T i with
        | nil => rfl
        | cons c r => rw [e] at hq hd; simp only [headB] at hq hd ⊢; rw [hq, hd]; rfl
      by_cases s1 : tx T i = [45]
      · have hv : isVR [45] = true := by decide
        simp only [oneOf, s1, if_true, Rs.then_ok]
        rw [hv, if_neg (by simp), if_neg (by simp), if_neg (by simp)]
        unfold numberP
        have h2' := kd_two hT (i + 1)
        have hz' := hz (i + 1)
        unfold numberR
        by_cases kk : kd T (i + 1) = 2
        · rw [if_pos (h2'.1 kk)]
          by_cases h0 : tx T (i + 1) = [48]
          · have := (hz' kk).2 h0
            rw [if_pos h0, if_neg (by rw [this]; simp)]; rfl
          · have : decN (tx T (i + 1)) ≠ 0 := fun e => h0 ((hz' kk).1 e)
            rw [if_neg h0, if_pos ⟨kk, by omega⟩]
        · rw [if_neg (fun hh => kk hh.1), if_neg (fun hh => kk (h2'.2 hh))]
          by_cases h0 : tx T (i + 1) = [48]
          · rw [if_pos h0]
            rfl
          · rw [if_neg h0]
      · by_cases s2 : tx T i = w_true
        · have hv : isVR w_true = true := by decide
          simp only [oneOf, s2, hv]
          simp
        · by_cases s3 : tx T i = w_false
          · have hv : isVR w_false = true := by decide
            simp only [oneOf, s3, hv]
            simp
          · by_cases s4 : tx T i = w_null
            · have hv : isVR w_null = true := by decide
              simp only [oneOf, s4, hv]
              simp
            · have hv : isVR (tx T i) = false := by unfold isVR; rw [hb]; simp [s1, s2, s3, s4]
              rw [if_pos hv]
              simp only [oneOf, s1, s2, s3, s4, if_false, Rs.then_bad]
theorem type_iff (T : List Tk) (i : Nat) : kindOf T (placeL typesL) i = typeR T i := by
  unfold kindOf typeR
  by_cases h1 : tx T i = w_int
  · rw [h1]; rfl
  by_cases h2 : tx T i = w_text
  · rw [h2]; rfl
  by_cases h3 : tx T i = w_bool
  · rw [h3]; rfl
  rw [if_neg h1, if_neg h2, if_neg h3]
  have : placeL typesL (tx T i) = 0 := by
    generalize tx T i = s at *
    unfold placeL typesL
    by_cases h0 : s = []
    · subst h0; rfl
    · have : List.idxOf? s [[], w_int, w_text, w_bool] = none := by
        rw [List.idxOf?_eq_none_iff]; simp [h0, h1, h2, h3]
      rw [this]; rfl
  rw [if_pos this]
theorem oper_iff (T : List Tk) (i : Nat) : kindOf T (placeL opersL) i = operR T i := by
  unfold kindOf operR
  by_cases h1 : tx T i = w_and
  · rw [h1]; rfl
  by_cases h2 : tx T i = w_or
  · rw [h2]; rfl
  by_cases h3 : tx T i = [43]
  · rw [h3]; rfl
  by_cases h4 : tx T i = [45]
  · rw [h4]; rfl
  by_cases h5 : tx T i = [124, 124]
  · rw [h5]; rfl
  by_cases h6 : tx T i = [60]
  · rw [h6]; rfl
  by_cases h7 : tx T i = [61]
  · rw [h7]; rfl
  rw [if_neg h1, if_neg h2, if_neg h3, if_neg h4, if_neg h5, if_neg h6, if_neg h7]
  have : placeL opersL (tx T i) = 0 := by
    generalize tx T i = s at *
    unfold placeL opersL
    by_cases h0 : s = []
    · subst h0; rfl
    · have : List.idxOf? s [[], [], [], [], [], w_and, w_or, [43], [45], [124, 124], [60], [61]] = none := by
        rw [List.idxOf?_eq_none_iff]; simp [h0, h1, h2, h3, h4, h5, h6, h7]
      rw [this]; rfl
  rw [if_pos this]
theorem may_iff (T : List Tk) (s : List UInt8) (ws : List (List UInt8)) (i : Nat) {α : Type} (f : Bool → Nat → Rs α) : (may T s ws i).then f = if tx T i = s then (must T ws (i + 1)).then fun _ j => f true j else f false i := by
  unfold may
  by_cases h : tx T i = s
  · rw [if_pos h, if_pos h]; cases must T ws (i + 1) <;> rfl
  · rw [if_neg h, if_neg h]; rfl
theorem may_nilR (T : List Tk) (s : List UInt8) (i : Nat) {α : Type} (f : Bool → Nat → Rs α) : (may T s [] i).then f = if tx T i = s then f true (i + 1) else f false i := by
  rw [may_iff]; rfl
theorem must_two (T : List Tk) (a b : List UInt8) (i : Nat) {α : Type} (f : Unit → Nat → Rs α) : (must T [a, b] i).then f = (must T [a] i).then fun _ j => (must T [b] j).then f := by
  unfold must
  by_cases h : tx T i = a
  · simp [h, must]
  · simp [h]
theorem brack_iff (T : List Tk) (ex ex' : Nat → Rs Ex) (h : ∀ i, ex i = ex' i) (i : Nat) : brackP T ex i = brackR T ex' i := by
  unfold brackP brackR
  rw [h]
  cases ex' i with
  | bad j => rfl
  | ok a j =>
    simp only [Rs.then_ok]
    rw [may_iff, must_two, oper_iff]
    by_cases hs : tx T j = w_is
    · rw [if_pos hs, if_pos hs]; rfl
    · rw [if_neg hs, if_neg hs]
      simp only [Bool.false_eq_true, if_false]
      cases operR T j with
      | bad _ => rfl
      | ok k j => simp only [Rs.then_ok]; rw [h]
structure NameNot : Prop where
  v : ∀ s, nameW s = true → isVR s = false
  not : nameW w_not = false
  br : nameW [40] = false
theorem leaf_iff {T : List Tk} (hT : ∀ x ∈ T, TokIs x) (hz : ∀ i, kd T i = 2 → (decN (tx T i) = 0 ↔ tx T i = [48])) (hN : NameNot) (i : Nat) : leafP T i = leafR T i := by
  unfold leafP leafR
  by_cases hn : nameW (tx T i) = true
  · rw [if_pos hn, if_neg (by rw [hN.v _ hn]; simp)]
    unfold nameP; rw [if_pos hn]; rfl
  · rw [if_neg hn, value_iff hT hz]
    by_cases hv : isVR (tx T i) = true
    · rw [if_pos hv]
    · rw [if_neg hv]
      unfold nameP valueR
      rw [if_pos (by simpa using hv), if_neg hn]; rfl
theorem expr_iff {T : List Tk} (hT : ∀ x ∈ T, TokIs x) (hz : ∀ i, kd T i = 2 → (decN (tx T i) = 0 ↔ tx T i = [48])) (hN : NameNot) (f : Nat) : ∀ i, exprP T f i = exprR T f i := by
  induction f with
  | zero =>
    intro i
    rw [exprP, exprR]
    by_cases h : tx T i = [40] ∨ tx T i = w_not
    · rw [if_pos h, leaf_iff hT hz hN]
      unfold leafR nameP
      rcases h with h | h
      · rw [h, if_neg (by decide), hN.br]; rfl
      · rw [h, if_neg (by decide), hN.not]; rfl
    · rw [if_neg h]; exact leaf_iff hT hz hN i
  | succ f ih =>
    intro i
    rw [exprP, exprR]
    by_cases h1 : tx T i = w_not
    · rw [if_pos h1, if_pos h1, ih]
    · rw [if_neg h1, if_neg h1]
      by_cases h2 : tx T i = [40]
      · rw [if_pos h2, if_pos h2]; exact brack_iff T _ _ ih _
      · rw [if_neg h2, if_neg h2]; exact leaf_iff hT hz hN i
def columnR (T : List Tk) (i : Nat) : Rs Cl := (nameP T i).then fun s j => (typeR T j).then fun k j => .ok ⟨s, (k : Nat)⟩ j
def whereR (T : List Tk) (c : Cm) (i : Nat) : Rs Cm :=
  if tx T i = w_where then (exprR T 60 (i + 1)).then fun e j => .ok { c with all := false, wh := e } j else .ok { c with all := true } i
def alterR (T : List Tk) (i : Nat) : Rs Cm :=
  (must T [w_table] i).then fun _ j => (nameP T j).then fun n j =>
    if tx T j = w_add then (nameP T (j + 1)).then fun l j => (typeR T j).then fun t j => (must T [w_default] j).then fun _ j => (valueR T j).then fun v j => .ok { cm0 with kind := 3, name := n, column := l, ty := (t : Nat), val := v } j
    else if tx T j = w_drop then (nameP T (j + 1)).then fun l j => .ok { cm0 with kind := 4, name := n, column := l } j
    else if tx T j = w_rename then
      (if tx T (j + 1) = w_to then (nameP T (j + 1 + 1)).then fun o j => .ok { cm0 with kind := 7, name := n, other := o } j
      else (nameP T (j + 1)).then fun l j => (must T [w_to] j).then fun _ j => (nameP T j).then fun o j => .ok { cm0 with kind := 5, name := n, column := l, other := o } j)
    else (must T [w_retype] j).then fun _ j => (nameP T j).then fun l j => (typeR T j).then fun t j => .ok { cm0 with kind := 6, name := n, column := l, ty := (t : Nat) } j
def createR (T : List Tk) (i : Nat) : Rs Cm :=
  if tx T i = w_index then (nameP T (i + 1)).then fun n j => (must T [w_on] j).then fun _ j => (nameP T j).then fun o j => (must T [[40]] j).then fun _ j => (nameP T j).then fun c j => (must T [[41]] j).then fun _ j =>
      .ok { cm0 with kind := 8, name := n, other := o, column := c } j
  else (must T [w_table] i).then fun _ j => (nameP T j).then fun n j => (must T [[40]] j).then fun _ j => (listP T (columnR T) j).then fun l j => (must T [[41]] j).then fun _ j => .ok { cm0 with kind := 1, name := n, cols := l } j
def dropR (T : List Tk) (i : Nat) : Rs Cm :=
  if tx T i = w_index then (nameP T (i + 1)).then fun n j => .ok { cm0 with kind := 9, name := n } j
  else (must T [w_table] i).then fun _ j => (nameP T j).then fun n j => .ok { cm0 with kind := 2, name := n } j
def insertR (T : List Tk) (i : Nat) : Rs Cm :=
  (must T [w_into] i).then fun _ j => (nameP T j).then fun n j => (must T [w_values] j).then fun _ j => (must T [[40]] j).then fun _ j => (listP T (valueR T) j).then fun l j => (must T [[41]] j).then fun _ j => .ok { cm0 with kind := 10, name := n, vals := l } j
def deleteR (T : List Tk) (i : Nat) : Rs Cm :=
  (must T [w_from] i).then fun _ j => (nameP T j).then fun n j => whereR T { cm0 with kind := 11, name := n } j
def updateR (T : List Tk) (i : Nat) : Rs Cm :=
  (nameP T i).then fun n j => (must T [w_set] j).then fun _ j => (nameP T j).then fun c j => (must T [[61]] j).then fun _ j => (exprR T 60 j).then fun e j =>
    whereR T { cm0 with kind := 12, name := n, column := c, expr := e } j
def orderR (T : List Tk) (c : Cm) (i : Nat) : Rs Cm :=
  if tx T i = w_order then (must T [w_by] (i + 1)).then fun _ j => (nameP T j).then fun o j => .ok { c with order := o } j else .ok c i
def limitR (T : List Tk) (c : Cm) (i : Nat) : Rs Cm :=
  if tx T i = w_limit then (numberR T (i + 1)).then fun n j => .ok { c with limit := (n : Nat) } j else .ok c i
def fieldsR (T : List Tk) (i : Nat) : Rs (List (List UInt8)) := if tx T i = [42] then .ok [] (i + 1) else listP T (nameP T) i
def selectR (T : List Tk) (i : Nat) : Rs Cm :=
  (fieldsR T i).then fun l j => (must T [w_from] j).then fun _ j => (nameP T j).then fun n j =>
    (whereR T { cm0 with kind := 13, limit := -1, fields := l, name := n } j).then fun c j => (orderR T c j).then fun c j => limitR T c j
def commandR (T : List Tk) (i : Nat) : Rs Cm :=
  if tx T i = w_create then createR T (i + 1) else if tx T i = w_drop then dropR T (i + 1) else if tx T i = w_alter then alterR T (i + 1) else if tx T i = w_insert then insertR T (i + 1)
  else if tx T i = w_delete then deleteR T (i + 1) else if tx T i = w_update then updateR T (i + 1) else if tx T i = w_select then selectR T (i + 1)
  else if tx T i = w_begin then .ok { cm0 with kind := 14 } (i + 1) else if tx T i = w_commit then .ok { cm0 with kind := 15 } (i + 1)
  else (must T [w_rollback] i).then fun _ j => .ok { cm0 with kind := 16 } j
theorem rs_congr {α β : Type} (r : Rs α) {f g : α → Nat → Rs β} (h : ∀ a j, f a j = g a j) : r.then f = r.then g := by
  cases r with
  | ok a j => exact h a j
  | bad j => rfl
theorem rs_assoc {α β γ : Type} (r : Rs α) (f : α → Nat → Rs β) (g : β → Nat → Rs γ) : (r.then f).then g = r.then fun a j => (f a j).then g := by
  cases r <;> rfl
theorem must_one (T : List Tk) (w : List UInt8) (i : Nat) {α : Type} (f : Unit → Nat → Rs α) : (must T [w] i).then f = if tx T i = w then f () (i + 1) else .bad i := by
  unfold must
  by_cases h : tx T i = w
  · rw [if_pos h, if_pos h]; rfl
  · rw [if_neg h, if_neg h]; rfl
theorem column_iff (T : List Tk) (i : Nat) : columnP T i = columnR T i := by
  unfold columnP columnR
  exact rs_congr _ fun s j => by rw [type_iff]
theorem list_congr {α : Type} (T : List Tk) (f g : Nat → Rs α) (h : ∀ i, f i = g i) (i : Nat) : listP T f i = listP T g i := by
  have : f = g := funext h
  rw [this]
theorem where_iff {T : List Tk} (hT : ∀ x ∈ T, TokIs x) (hz : ∀ i, kd T i = 2 → (decN (tx T i) = 0 ↔ tx T i = [48])) (hN : NameNot) (c : Cm) (i : Nat) : whereP T c i = whereR T c i := by
  unfold whereP whereR
  rw [may_nilR]
  by_cases h : tx T i = w_where
  · rw [if_pos h, if_pos h, if_pos rfl, expr_iff hT hz hN]
  · rw [if_neg h, if_neg h, if_neg (by simp)]
theorem alter_iff {T : List Tk} (hT : ∀ x ∈ T, TokIs x) (hz : ∀ i, kd T i = 2 → (decN (tx T i) = 0 ↔ tx T i = [48])) (i : Nat) : alterP T i = alterR T i := by
  unfold alterP alterR
  refine rs_congr _ fun _ j => rs_congr _ fun n j => ?_
  by_cases h1 : tx T j = w_add
  · simp only [oneOf, h1, if_true, Rs.then_ok]
    unfold columnP
    rw [rs_assoc]
    refine rs_congr _ fun l j => ?_
    rw [rs_assoc, type_iff]
    refine rs_congr _ fun t j => ?_
    simp only [Rs.then_ok]
    exact rs_congr _ fun _ j => by rw [value_iff hT hz]
  by_cases h2 : tx T j = w_drop
  · simp only [oneOf, h2, if_true]; rfl
  by_cases h3 : tx T j = w_rename
  · have e : oneOf T [w_add, w_drop, w_rename, w_retype] j = .ok w_rename (j + 1) := by simp [oneOf, h3]
    rw [e, if_neg h1, if_neg h2, if_pos h3]
    simp only [Rs.then_ok]
    rw [if_neg (by decide), if_neg (by decide), if_pos trivial]
    unfold renameP
    rw [may_nilR]
    by_cases h : tx T (j + 1) = w_to
    · rw [if_pos h, if_pos h, if_pos rfl]
    · rw [if_neg h, if_neg h, if_neg (by simp)]
  rw [if_neg h1, if_neg h2, if_neg h3, must_one]
  by_cases h4 : tx T j = w_retype
  · have e : oneOf T [w_add, w_drop, w_rename, w_retype] j = .ok w_retype (j + 1) := by simp [oneOf, h4]
    rw [e, if_pos h4]
    simp only [Rs.then_ok]
    rw [if_neg (by decide), if_neg (by decide), if_neg (by decide)]
    unfold columnP
    rw [rs_assoc]
    refine rs_congr _ fun l j => ?_
    rw [rs_assoc, type_iff]; rfl
  · simp only [oneOf, h1, h2, h3, h4, if_false, Rs.then_bad]
theorem create_iff (T : List Tk) (i : Nat) : createP T i = createR T i := by
  unfold createP createR
  by_cases h1 : tx T i = w_index
  · simp only [oneOf, h1, if_true]
    rw [if_neg (by decide)]
    simp only [Rs.then_ok]
    rw [if_neg (by decide)]
  · rw [if_neg h1, must_one]
    by_cases h2 : tx T i = w_table
    · simp only [oneOf, h2, if_true, Rs.then_ok]
      refine rs_congr _ fun n j => ?_
      unfold inBrP
      rw [rs_assoc]
      refine rs_congr _ fun _ j => ?_
      rw [rs_assoc, list_congr T _ _ (column_iff T)]
      refine rs_congr _ fun l j => ?_
      rw [rs_assoc]; rfl
    · simp only [oneOf, h1, h2, if_false, Rs.then_bad]
theorem drop_iff (T : List Tk) (i : Nat) : dropP T i = dropR T i := by
  unfold dropP dropR
  by_cases h1 : tx T i = w_index
  · simp only [oneOf, h1, if_true]
    rw [if_neg (by decide)]
    simp only [Rs.then_ok, if_true]
  · rw [if_neg h1, must_one]
    by_cases h2 : tx T i = w_table
    · simp only [oneOf, h2, if_true, Rs.then_ok]
      refine rs_congr _ fun n j => ?_
      rw [if_neg (by decide)]
    · simp only [oneOf, h1, h2, if_false, Rs.then_bad]
theorem insert_iff {T : List Tk} (hT : ∀ x ∈ T, TokIs x) (hz : ∀ i, kd T i = 2 → (decN (tx T i) = 0 ↔ tx T i = [48])) (i : Nat) : insertP T i = insertR T i := by
  unfold insertP insertR
  refine rs_congr _ fun _ j => rs_congr _ fun n j => rs_congr _ fun _ j => ?_
  unfold inBrP
  rw [rs_assoc]
  refine rs_congr _ fun _ j => ?_
  rw [rs_assoc, list_congr T _ _ (value_iff hT hz)]
  refine rs_congr _ fun l j => ?_
  rw [rs_assoc]; rfl
theorem delete_iff {T : List Tk} (hT : ∀ x ∈ T, TokIs x) (hz : ∀ i, kd T i = 2 → (decN (tx T i) = 0 ↔ tx T i = [48])) (hN : NameNot) (i : Nat) : deleteP T i = deleteR T i := by
  unfold deleteP deleteR
  exact rs_congr _ fun _ j => rs_congr _ fun n j => where_iff hT hz hN _ _
theorem update_iff {T : List Tk} (hT : ∀ x ∈ T, TokIs x) (hz : ∀ i, kd T i = 2 → (decN (tx T i) = 0 ↔ tx T i = [48])) (hN : NameNot) (i : Nat) : updateP T i = updateR T i := by
  unfold updateP updateR
  refine rs_congr _ fun _ j => rs_congr _ fun n j => rs_congr _ fun _ j => rs_congr _ fun _ j => ?_
  rw [expr_iff hT hz hN]
  exact rs_congr _ fun e j => where_iff hT hz hN _ _
theorem order_iff (T : List Tk) (c : Cm) (i : Nat) : orderP T c i = orderR T c i := by
  unfold orderP orderR
  rw [may_iff]
  by_cases h : tx T i = w_order
  · rw [if_pos h, if_pos h]
    exact rs_congr _ fun _ j => by rw [if_pos rfl]
  · rw [if_neg h, if_neg h, if_neg (by simp)]
theorem limit_iff {T : List Tk} (hT : ∀ x ∈ T, TokIs x) (c : Cm) (i : Nat) : limitP T c i = limitR T c i := by
  unfold limitP limitR
  rw [may_nilR]
  by_cases h : tx T i = w_limit
  · rw [if_pos h, if_pos h, if_pos rfl, number_iff hT]
  · rw [if_neg h, if_neg h, if_neg (by simp)]
theorem fields_iff (T : List Tk) (i : Nat) : fieldsP T i = fieldsR T i := by
  unfold fieldsP fieldsR
  rw [may_nilR]
  by_cases h : tx T i = [42]
  · rw [if_pos h, if_pos h, if_pos rfl]
  · rw [if_neg h, if_neg h, if_neg (by simp)]
theorem select_iff {T : List Tk} (hT : ∀ x ∈ T, TokIs x) (hz : ∀ i, kd T i = 2 → (decN (tx T i) = 0 ↔ tx T i = [48])) (hN : NameNot) (i : Nat) : chooseP T i = selectR T i := by
  unfold chooseP selectR
  rw [fields_iff T]
  refine rs_congr _ fun l j => rs_congr _ fun _ j => rs_congr _ fun n j => ?_
  rw [where_iff hT hz hN]
  refine rs_congr _ fun c j => ?_
  rw [order_iff T]
  exact rs_congr _ fun c j => limit_iff hT _ _
theorem command_iff {T : List Tk} (hT : ∀ x ∈ T, TokIs x) (hz : ∀ i, kd T i = 2 → (decN (tx T i) = 0 ↔ tx T i = [48])) (hN : NameNot) (i : Nat) : commandP T i = commandR T i := by
  unfold commandP commandR firstW
  have n1 := create_iff T (i + 1)
  have n2 := drop_iff T (i + 1)
  have n3 := alter_iff hT hz (i + 1)
  have n4 := insert_iff hT hz (i + 1)
  have n5 := delete_iff hT hz hN (i + 1)
  have n6 := update_iff hT hz hN (i + 1)
  have n7 := select_iff hT hz hN (i + 1)
  by_cases h1 : tx T i = w_create
  · simp only [oneOf, h1, if_true, Rs.then_ok, n1]
  by_cases h2 : tx T i = w_drop
  · simp [oneOf, h2, n2]
  by_cases h3 : tx T i = w_alter
  · simp [oneOf, h3, n3]
  by_cases h4 : tx T i = w_insert
  · simp [oneOf, h4, n4]
  by_cases h5 : tx T i = w_delete
  · simp [oneOf, h5, n5]
  by_cases h6 : tx T i = w_update
  · simp [oneOf, h6, n6]
  by_cases h7 : tx T i = w_select
  · simp [oneOf, h7, n7]
  by_cases h8 : tx T i = w_begin
  · simp [oneOf, h8]
  by_cases h9 : tx T i = w_commit
  · simp [oneOf, h9]
  rw [if_neg h1, if_neg h2, if_neg h3, if_neg h4, if_neg h5, if_neg h6, if_neg h7, if_neg h8, if_neg h9, must_one]
  by_cases h10 : tx T i = w_rollback
  · simp [oneOf, h10]
  · simp [oneOf, h1, h2, h3, h4, h5, h6, h7, h8, h9, h10]
theorem isL_not {c : UInt8} (h : isL c = true) : isD c = false ∧ c ≠ 39 := by
  simp only [isL, isD, Bool.and_eq_true, decide_eq_true_eq] at *
  refine ⟨?_, ?_⟩
  · rw [Bool.and_eq_false_iff, decide_eq_false_iff_not, decide_eq_false_iff_not]; omega
  · intro e; subst e; simp at h
theorem tokL_is (c : UInt8) (r : List UInt8) (hz : (tokL (c :: r)).1 ≠ 0) : ((tokL (c :: r)).1 = 2 ↔ isD c = true) ∧ ((tokL (c :: r)).1 = 3 ↔ c = 39) := by
  revert hz
  rw [tokL]
  by_cases h1 : isL c = true
  · have := isL_not h1
    simp [h1, this.1, this.2]
  · by_cases h2 : isD c = true
    · have : c ≠ 39 := by intro e; subst e; simp [isD] at h2
      simp [h1, h2, this]
    · by_cases h3 : c = 39
      · subst h3
        have : isD 39 = false := by decide
        rw [if_neg h1, if_neg h2, if_pos rfl]
        split <;> simp [this]
      · rw [if_neg h1, if_neg h2, if_neg h3]
        split
        · simp [h2, h3]
        · split <;> simp [h2, h3]
theorem scanned_is (s : List UInt8) : ∀ x ∈ (scanS s).1, TokIs x := by
  refine scanS_each (fun a c r hw => ?_) s
  have hz := wrongL_zero hw
  have hp := tokL_pos c r hz
  obtain ⟨h2, h3⟩ := tokL_is c r hz
  obtain ⟨n, hn⟩ : ∃ n, (tokL (c :: r)).2 = n + 1 := ⟨(tokL (c :: r)).2 - 1, by omega⟩
  rw [hn, List.take_succ_cons]
  refine ⟨?_, ?_⟩
  · show (((tokL (c :: r)).1 : Nat) : Int) = 2 ↔ isD c = true
    rw [← h2]; omega
  · show (((tokL (c :: r)).1 : Nat) : Int) = 3 ↔ decide (c = 39) = true
    rw [decide_eq_true_eq, ← h3]; omega
theorem foldl_ge (l : List UInt8) : ∀ n : Nat, n ≤ l.foldl (fun n c => 10 * n + (c.toNat - 48)) n := by
  induction l with
  | nil => intro n; exact Nat.le_refl _
  | cons d r ih =>
    intro n
    have := ih (10 * n + (d.toNat - 48))
    rw [List.foldl_cons]
    omega
theorem scanned_zero (s : List UInt8) : ∀ x ∈ (scanS s).1, x.k = 2 → (decN x.t = 0 ↔ x.t = [48]) := by
  refine scanS_each (fun a c r hw h2 => ?_) s
  have h2' : (tokL (c :: r)).1 = 2 := by simp only at h2; omega
  obtain ⟨hd, ht⟩ := tokL_two c r h2'
  rw [ht] at hw ⊢
  simp only [List.take_succ_cons] at hw ⊢
  generalize List.take (runL isD r) r = q at *
  constructor
  · intro h0
    have hc : c = 48 := by
      have h1 := foldl_ge q (10 * 0 + (c.toNat - 48))
      rw [decN, List.foldl_cons] at h0
      simp only [isD, Bool.and_eq_true, decide_eq_true_eq] at hd
      have : c.toNat = 48 := by omega
      exact UInt8.toNat_inj.1 (by rw [this]; rfl)
    subst hc
    cases q with
    | nil => rfl
    | cons d q =>
      exfalso
      unfold wrongL at hw
      rw [if_neg (by decide)] at hw
      split at hw
      · cases hw
      · rw [if_pos ⟨rfl, by simp, rfl⟩] at hw
        cases hw
  · intro e
    rw [e]; rfl
theorem nameNot : NameNot := by
  refine ⟨fun s h => ?_, by kernel_rfl, by kernel_rfl⟩
  have hne : ∀ t, nameW t = false → s ≠ t := by intro t ht e; rw [e, ht] at h; cases h
  have h1 : headB (fun c => isD c || decide (c = 39)) s = false := by
    have ha : aloneB 1 s = true := by
      unfold nameW at h
      rw [Bool.and_eq_true] at h
      exact h.1
    unfold aloneB at ha
    split at ha
    · rename_i x _ hs
      simp only [decide_eq_true_eq] at ha
      have hx := scanned_is s x (by rw [hs]; simp)
      have h2 : ¬ headB isD x.t = true := fun e => by have := hx.num.2 e; omega
      have h3 : ¬ headB (fun c => decide (c = 39)) x.t = true := fun e => by have := hx.txt.2 e; omega
      rw [ha.2.2] at h2 h3
      cases s with
      | nil => rfl
      | cons c r =>
        simp only [headB, Bool.not_eq_true] at h2 h3 ⊢
        rw [h2, h3]; rfl
    · cases ha
  unfold isVR
  rw [h1, decide_eq_false (hne w_true (by kernel_rfl)), decide_eq_false (hne w_false (by kernel_rfl)), decide_eq_false (hne w_null (by kernel_rfl)), decide_eq_false (hne [45] (by kernel_rfl))]
  rfl
theorem command_scanned (s : List UInt8) (i : Nat) : commandP (scanS s).1 i = commandR (scanS s).1 i := by
  refine command_iff (scanned_is s) (fun i h => ?_) nameNot i
  cases e : (scanS s).1[i]? with
  | none => simp [kd, e] at h
  | some x =>
    have h1 : kd (scanS s).1 i = x.k := by simp [kd, e]
    have h2 : tx (scanS s).1 i = x.t := by simp [tx, e]
    rw [h1] at h
    rw [h2]
    exact scanned_zero s x (List.mem_of_getElem? e) h
abbrev Sx := Nat × Bool
def txS (T : List Tk) (s : Sx) : List UInt8 := if s.2 = true then [] else tx T s.1
def takeS (T : List Tk) (w : List UInt8) (s : Sx) : Bool × Sx := if s.2 = false ∧ tx T s.1 = w then (true, (s.1 + 1, false)) else (false, s)
def needS (T : List Tk) (w : List UInt8) (s : Sx) : Unit × Sx := if (takeS T w s).1 = true then ((), (takeS T w s).2) else ((), (s.1, true))
def nameS (T : List Tk) (s : Sx) : List UInt8 × Sx := if nameW (txS T s) = true then (txS T s, (s.1 + 1, s.2)) else ([], (s.1, true))
def numberS (T : List Tk) (s : Sx) : Nat × Sx := if headB isD (txS T s) = true then (decN (txS T s), (s.1 + 1, s.2)) else (0, (s.1, true))
def minusS (T : List Tk) (s : Sx) : Vl × Sx := (⟨1, -((numberS T (if txS T s = [48] then (s.1, true) else s)).1 : Nat), []⟩, (numberS T (if txS T s = [48] then (s.1, true) else s)).2)
def valueS (T : List Tk) (s : Sx) : Vl × Sx :=
  if isVR (txS T s) = false then (vl0, (s.1, true))
  else if txS T s = w_true ∨ txS T s = w_false then (⟨3, if txS T s = w_true then 1 else 0, []⟩, (s.1 + 1, s.2))
  else if txS T s = w_null then (vl0, (s.1 + 1, s.2))
  else if txS T s = [45] then minusS T (s.1 + 1, s.2)
  else if headB (fun c => decide (c = 39)) (txS T s) = true then (⟨2, 0, ((txS T s).drop 1).take ((txS T s).length - 2)⟩, (s.1 + 1, s.2))
  else (⟨1, ((numberS T s).1 : Nat), []⟩, (numberS T s).2)
def typeS (T : List Tk) (s : Sx) : Nat × Sx :=
  if (takeS T w_int s).1 = true then (1, (takeS T w_int s).2) else if (takeS T w_text s).1 = true then (2, (takeS T w_text s).2) else (3, (needS T w_bool s).2)
def operK (w : List UInt8) : Nat :=
  if w = w_and then 5 else if w = w_or then 6 else if w = [43] then 7 else if w = [45] then 8 else if w = [124, 124] then 9 else if w = [60] then 10 else if w = [61] then 11 else 0
def operS (T : List Tk) (s : Sx) : Nat × Sx := if operK (txS T s) = 0 then (0, (s.1, true)) else (operK (txS T s), (s.1 + 1, s.2))
def thenS {α β : Type} (f : Sx → α × Sx) (g : α → Sx → β × Sx) (s : Sx) : β × Sx := g (f s).1 (f s).2
def retS {α : Type} (a : α) (s : Sx) : α × Sx := (a, s)
def elseS {α : Type} (T : List Tk) (w : List UInt8) (f g : Sx → α × Sx) (s : Sx) : α × Sx := if (takeS T w s).1 = true then f (takeS T w s).2 else g s
def Does {α : Type} (f : Sx → α × Sx) (r : Nat → Rs α) : Prop :=
  (∀ i, (∀ a j, r i = .ok a j → f (i, false) = (a, (j, false))) ∧ (∀ j, r i = .bad j → (f (i, false)).2 = (j, true))) ∧ ∀ i, (f (i, true)).2 = (i, true)
theorem Does.of {α : Type} {f : Sx → α × Sx} {r : Nat → Rs α} (h : ∀ i, match r i with | .ok a j => f (i, false) = (a, (j, false)) | .bad j => (f (i, false)).2 = (j, true)) (ht : ∀ i, (f (i, true)).2 = (i, true)) : Does f r := by
  refine ⟨fun i => ⟨fun a j e => ?_, fun j e => ?_⟩, ht⟩
  · have := h i; rw [e] at this; exact this
  · have := h i; rw [e] at this; exact this
theorem Does.then {α β : Type} {f : Sx → α × Sx} {r : Nat → Rs α} {g : α → Sx → β × Sx} {q : α → Nat → Rs β} (h : Does f r) (hg : ∀ a, Does (g a) (q a)) : Does (thenS f g) (fun i => (r i).then q) := by
  refine Does.of (fun i => ?_) fun i => ?_
  · cases e : r i with
    | ok a j =>
      have hf := (h.1 i).1 a j e
      simp only [Rs.then_ok]
      have hg1 := (hg a).1 j
      unfold thenS
      rw [hf]
      simp only
      cases e2 : q a j with
      | ok b k => exact hg1.1 b k e2
      | bad k => exact hg1.2 k e2
    | bad j =>
      simp only [Rs.then_bad]
      have hf := (h.1 i).2 j e
      unfold thenS
      rw [hf]
      exact (hg _).2 j
  · unfold thenS
    rw [h.2 i]
    exact (hg _).2 i
theorem Does.ret {α : Type} (a : α) : Does (retS a) (fun i => .ok a i) := Does.of (fun _ => rfl) fun _ => rfl
theorem Does.els {α : Type} {T : List Tk} {w : List UInt8} {f g : Sx → α × Sx} {r q : Nat → Rs α} (h : Does f r) (hg : Does g q) : Does (elseS T w f g) (fun i => if tx T i = w then r (i + 1) else q i) := by
  refine Does.of (fun i => ?_) fun i => ?_
  · unfold elseS takeS
    by_cases e : tx T i = w
    · simp only [e, if_true, and_self]
      cases e2 : r (i + 1) with
      | ok b k => exact (h.1 (i + 1)).1 b k e2
      | bad k => exact (h.1 (i + 1)).2 k e2
    · simp only [e, if_false, and_false, Bool.false_eq_true]
      cases e2 : q i with
      | ok b k => exact (hg.1 i).1 b k e2
      | bad k => exact (hg.1 i).2 k e2
  · unfold elseS takeS
    simp only [Bool.true_eq_false, false_and, if_false, Bool.false_eq_true]
    exact hg.2 i
theorem Does.congr {α : Type} {f : Sx → α × Sx} {r q : Nat → Rs α} (h : Does f r) (e : ∀ i, q i = r i) : Does f q := by
  have : q = r := funext e
  rw [this]; exact h
theorem need_does (T : List Tk) (w : List UInt8) : Does (needS T w) (must T [w]) := by
  refine Does.of (fun i => ?_) fun i => ?_
  · unfold needS takeS must
    by_cases e : tx T i = w
    · simp [e, must]
    · simp [e]
  · unfold needS takeS; simp
theorem name_nil : nameW [] = false := by kernel_rfl
theorem name_does (T : List Tk) : Does (nameS T) (nameP T) := by
  refine Does.of (fun i => ?_) fun i => ?_
  · unfold nameS nameP txS
    by_cases e : nameW (tx T i) = true
    · simp [e]
    · simp [e]
  · unfold nameS txS; simp [name_nil]
theorem number_does (T : List Tk) : Does (numberS T) (numberR T) := by
  refine Does.of (fun i => ?_) fun i => ?_
  · unfold numberS numberR txS
    by_cases e : headB isD (tx T i) = true
    · simp [e]
    · simp [e]
  · unfold numberS txS; simp [headB]
theorem minus_does (T : List Tk) : Does (minusS T) (fun i => if tx T i = [48] then .bad i else (numberR T i).then fun n j => .ok ⟨1, -(n : Nat), []⟩ j) := by
  have hn := number_does T
  refine Does.of (fun i => ?_) fun i => ?_
  · unfold minusS
    have et : txS T (i, false) = tx T i := by simp [txS]
    rw [et]
    by_cases e : tx T i = [48]
    · simp only [e, if_true]
      exact hn.2 i
    · simp only [e, if_false]
      cases e2 : numberR T i with
      | ok n j => rw [(hn.1 i).1 n j e2]; rfl
      | bad j => exact (hn.1 i).2 j e2
  · unfold minusS
    have et : txS T (i, true) = [] := by simp [txS]
    rw [et]
    simp only [List.nil_eq, reduceCtorEq, if_false]
    exact hn.2 i
theorem value_does (T : List Tk) : Does (valueS T) (valueR T) := by
  have hn := number_does T
  have hm := minus_does T
  refine Does.of (fun i => ?_) fun i => ?_
  · have et : txS T (i, false) = tx T i := by simp [txS]
    unfold valueS valueR
    rw [et]
    by_cases h0 : isVR (tx T i) = false
    · rw [if_pos h0, if_pos h0]
    · rw [if_neg h0, if_neg h0]
      by_cases h1 : tx T i = w_true ∨ tx T i = w_false
      · rw [if_pos h1, if_pos h1]
      · rw [if_neg h1, if_neg h1]
        by_cases h2 : tx T i = w_null
        · rw [if_pos h2, if_pos h2]
        · rw [if_neg h2, if_neg h2]
          by_cases h3 : tx T i = [45]
          · rw [if_pos h3, if_pos h3]
            have h4 := hm.1 (i + 1)
            cases e5 : (if tx T (i + 1) = [48] then Rs.bad (i + 1) else (numberR T (i + 1)).then fun n j => Rs.ok ⟨1, -(n : Nat), []⟩ j : Rs Vl) with
            | ok b j => exact h4.1 b j e5
            | bad j => exact h4.2 j e5
          · rw [if_neg h3, if_neg h3]
            by_cases h4 : headB (fun c => decide (c = 39)) (tx T i) = true
            · rw [if_pos h4, if_pos h4]
            · rw [if_neg h4, if_neg h4]
              cases e2 : numberR T i with
              | ok n j => simp only [Rs.then_ok]; rw [(hn.1 i).1 n j e2]
              | bad j => exact (hn.1 i).2 j e2
  · have et : txS T (i, true) = [] := by simp [txS]
    unfold valueS
    rw [et]
    rfl
theorem type_does (T : List Tk) : Does (typeS T) (typeR T) := by
  have hb := need_does T w_bool
  refine Does.of (fun i => ?_) fun i => ?_
  · unfold typeS typeR takeS
    by_cases h1 : tx T i = w_int
    · simp [h1]
    · by_cases h2 : tx T i = w_text
      · simp [h2]
      · by_cases h3 : tx T i = w_bool
        · have := (hb.1 i).1 () (i + 1) (by rw [must, if_pos h3]; rfl)
          simp [h3, this]
        · have := (hb.1 i).2 i (by rw [must, if_neg h3])
          simp [h1, h2, h3, this]
  · unfold typeS takeS
    simp [hb.2 i]
theorem oper_does (T : List Tk) : Does (operS T) (operR T) := by
  refine Does.of (fun i => ?_) fun i => ?_
  · have et : txS T (i, false) = tx T i := by simp [txS]
    unfold operS operR operK
    rw [et]
    by_cases h1 : tx T i = w_and
    · simp [h1]
    by_cases h2 : tx T i = w_or
    · simp [h2]
    by_cases h3 : tx T i = [43]
    · simp [h3]
    by_cases h4 : tx T i = [45]
    · simp [h4]
    by_cases h5 : tx T i = [124, 124]
    · simp [h5]
    by_cases h6 : tx T i = [60]
    · simp [h6]
    by_cases h7 : tx T i = [61]
    · simp [h7]
    simp [h1, h2, h3, h4, h5, h6, h7]
  · have et : txS T (i, true) = [] := by simp [txS]
    unfold operS
    rw [et]; rfl
def exprS (T : List Tk) : Nat → Sx → Ex × Sx
  | 0, s =>
    if txS T s = [40] ∨ txS T s = w_not then (ex0, (s.1, true))
    else if isVR (txS T s) = true then (.mk 1 (valueS T s).1 [] [], (valueS T s).2) else (.mk 2 vl0 (nameS T s).1 [], (nameS T s).2)
  | f + 1, s =>
    if txS T s = w_not then (.mk 3 vl0 [] [(exprS T f (s.1 + 1, s.2)).1], (exprS T f (s.1 + 1, s.2)).2)
    else if txS T s = [40] then
      thenS (exprS T f) (fun a => elseS T w_is (thenS (needS T w_null) fun _ => thenS (needS T [41]) fun _ => retS (.mk 4 vl0 [] [a]))
        (thenS (operS T) fun k => thenS (exprS T f) fun b => thenS (needS T [41]) fun _ => retS (.mk (k : Nat) vl0 [] [a, b]))) (s.1 + 1, s.2)
    else if isVR (txS T s) = true then (.mk 1 (valueS T s).1 [] [], (valueS T s).2) else (.mk 2 vl0 (nameS T s).1 [], (nameS T s).2)
theorem isV_nil : isVR [] = false := by decide
theorem leaf_does (T : List Tk) : Does (fun s => if isVR (txS T s) = true then (.mk 1 (valueS T s).1 [] [], (valueS T s).2) else (.mk 2 vl0 (nameS T s).1 [], (nameS T s).2)) (leafR T) := by
  have hv := value_does T
  have hn := name_does T
  refine Does.of (fun i => ?_) fun i => ?_
  · have et : txS T (i, false) = tx T i := by simp [txS]
    simp only [et]
    unfold leafR
    by_cases h : isVR (tx T i) = true
    · rw [if_pos h, if_pos h]
      cases e : valueR T i with
      | ok v j => simp only [Rs.then_ok]; rw [(hv.1 i).1 v j e]
      | bad j => simp only [Rs.then_bad]; exact (hv.1 i).2 j e
    · rw [if_neg h, if_neg h]
      cases e : nameP T i with
      | ok v j => simp only [Rs.then_ok]; rw [(hn.1 i).1 v j e]
      | bad j => simp only [Rs.then_bad]; exact (hn.1 i).2 j e
  · have et : txS T (i, true) = [] := by simp [txS]
    simp only [et, isV_nil, Bool.false_eq_true, if_false]
    exact hn.2 i
theorem brackS_does (T : List Tk) {f : Sx → Ex × Sx} {r : Nat → Rs Ex} (h : Does f r) :
    Does (thenS f (fun a => elseS T w_is (thenS (needS T w_null) fun _ => thenS (needS T [41]) fun _ => retS (.mk 4 vl0 [] [a])) (thenS (operS T) fun k => thenS f fun b => thenS (needS T [41]) fun _ => retS (.mk (k : Nat) vl0 [] [a, b])))) (brackR T r) := by
  have hn := need_does T
  exact h.then fun a => ((hn w_null).then fun _ => (hn [41]).then fun _ => Does.ret _).els ((oper_does T).then fun k => h.then fun b => (hn [41]).then fun _ => Does.ret _)
theorem expr_does (T : List Tk) (f : Nat) : Does (exprS T f) (exprR T f) := by
  have hl := leaf_does T
  induction f with
  | zero =>
    refine Does.of (fun i => ?_) fun i => ?_
    · have et : txS T (i, false) = tx T i := by simp [txS]
      have h1 := hl.1 i
      simp only [et] at h1
      simp only [exprS, et]
      rw [exprR]
      by_cases h : tx T i = [40] ∨ tx T i = w_not
      · rw [if_pos h, if_pos h]
      · rw [if_neg h, if_neg h]
        cases e : leafR T i with
        | ok v j => exact h1.1 v j e
        | bad j => exact h1.2 j e
    · have et : txS T (i, true) = [] := by simp [txS]
      have h1 := hl.2 i
      simp only [et] at h1
      simp only [exprS, et]
      rw [if_neg (by simp)]
      exact h1
  | succ f ih =>
    have hb := brackS_does T ih
    refine Does.of (fun i => ?_) fun i => ?_
    · have et : txS T (i, false) = tx T i := by simp [txS]
      have h1 := hl.1 i
      simp only [et] at h1
      simp only [exprS, et]
      rw [exprR]
      by_cases h : tx T i = w_not
      · rw [if_pos h, if_pos h]
        cases e : exprR T f (i + 1) with
        | ok v j => simp only [Rs.then_ok]; rw [(ih.1 (i + 1)).1 v j e]
        | bad j => simp only [Rs.then_bad]; exact (ih.1 (i + 1)).2 j e
      · rw [if_neg h, if_neg h]
        by_cases h2 : tx T i = [40]
        · rw [if_pos h2, if_pos h2]
          cases e : brackR T (exprR T f) (i + 1) with
          | ok v j => exact (hb.1 (i + 1)).1 v j e
          | bad j => exact (hb.1 (i + 1)).2 j e
        · rw [if_neg h2, if_neg h2]
          cases e : leafR T i with
          | ok v j => exact h1.1 v j e
          | bad j => exact h1.2 j e
    · have et : txS T (i, true) = [] := by simp [txS]
      have h1 := hl.2 i
      simp only [et] at h1
      simp only [exprS, et]
      rw [if_neg (by simp), if_neg (by simp)]
      exact h1
def listGoS {α : Type} (T : List Tk) (one : Sx → α × Sx) : Nat → List α → Sx → List α × Sx
  | 0, l, s => (l, s)
  | f + 1, l, s => elseS T [44] (thenS one fun x => listGoS T one f (l ++ [x])) (retS l) s
def listS {α : Type} (T : List Tk) (one : Sx → α × Sx) (s : Sx) : List α × Sx := if s.2 = true then ([], s) else thenS one (fun x => listGoS T one (T.length + 1) [x]) s
theorem listGo_does {α : Type} (T : List Tk) {one : Sx → α × Sx} {r : Nat → Rs α} (h : Does one r) (f : Nat) : ∀ l, Does (listGoS T one f l) (listGo T r f l) := by
  induction f with
  | zero => intro l; exact (Does.ret l).congr fun i => rfl
  | succ f ih => intro l; exact ((h.then fun x => ih (l ++ [x])).els (Does.ret l)).congr fun i => by rw [listGo]
theorem list_does {α : Type} (T : List Tk) {one : Sx → α × Sx} {r : Nat → Rs α} (h : Does one r) : Does (listS T one) (listP T r) := by
  have h1 := h.then fun x => listGo_does T h (T.length + 1) [x]
  refine Does.of (fun i => ?_) fun i => ?_
  · unfold listS
    simp only [Bool.false_eq_true, if_false]
    cases e : listP T r i with
    | ok v j => exact (h1.1 i).1 v j e
    | bad j => exact (h1.1 i).2 j e
  · unfold listS; simp
def columnS (T : List Tk) : Sx → Cl × Sx := thenS (nameS T) fun s => thenS (typeS T) fun k => retS ⟨s, (k : Nat)⟩
theorem column_does (T : List Tk) : Does (columnS T) (columnR T) := (name_does T).then fun _ => (type_does T).then fun _ => Does.ret _
def whereS (T : List Tk) (c : Cm) : Sx → Cm × Sx := elseS T w_where (thenS (exprS T 60) fun e => retS { c with all := false, wh := e }) (retS { c with all := true })
theorem where_does (T : List Tk) (c : Cm) : Does (whereS T c) (whereR T c) := ((expr_does T 60).then fun _ => Does.ret _).els (Does.ret _)
def alterS (T : List Tk) : Sx → Cm × Sx :=
  thenS (needS T w_table) fun _ => thenS (nameS T) fun n =>
    elseS T w_add (thenS (nameS T) fun l => thenS (typeS T) fun t => thenS (needS T w_default) fun _ => thenS (valueS T) fun v => retS { cm0 with kind := 3, name := n, column := l, ty := (t : Nat), val := v })
    (elseS T w_drop (thenS (nameS T) fun l => retS { cm0 with kind := 4, name := n, column := l })
    (elseS T w_rename
      (elseS T w_to (thenS (nameS T) fun o => retS { cm0 with kind := 7, name := n, other := o })
      (thenS (nameS T) fun l => thenS (needS T w_to) fun _ => thenS (nameS T) fun o => retS { cm0 with kind := 5, name := n, column := l, other := o }))
    (thenS (needS T w_retype) fun _ => thenS (nameS T) fun l => thenS (typeS T) fun t => retS { cm0 with kind := 6, name := n, column := l, ty := (t : Nat) })))
theorem alter_does (T : List Tk) : Does (alterS T) (alterR T) := by
  have hn := name_does T
  have hd := need_does T
  have ht := type_does T
  exact (hd w_table).then fun _ => hn.then fun n => (hn.then fun l => ht.then fun t => (hd w_default).then fun _ => (value_does T).then fun v => Does.ret _).els ((hn.then fun l => Does.ret _).els
    (((hn.then fun o => Does.ret _).els (hn.then fun l => (hd w_to).then fun _ => hn.then fun o => Does.ret _)).els ((hd w_retype).then fun _ => hn.then fun l => ht.then fun t => Does.ret _)))
def createS (T : List Tk) : Sx → Cm × Sx :=
  elseS T w_index (thenS (nameS T) fun n => thenS (needS T w_on) fun _ => thenS (nameS T) fun o => thenS (needS T [40]) fun _ => thenS (nameS T) fun c => thenS (needS T [41]) fun _ => retS { cm0 with kind := 8, name := n, other := o, column := c })
    (thenS (needS T w_table) fun _ => thenS (nameS T) fun n => thenS (needS T [40]) fun _ => thenS (listS T (columnS T)) fun l => thenS (needS T [41]) fun _ => retS { cm0 with kind := 1, name := n, cols := l })
theorem create_does (T : List Tk) : Does (createS T) (createR T) := by
  have hn := name_does T
  have hd := need_does T
  exact (hn.then fun n => (hd w_on).then fun _ => hn.then fun o => (hd [40]).then fun _ => hn.then fun c => (hd [41]).then fun _ => Does.ret _).els
    ((hd w_table).then fun _ => hn.then fun n => (hd [40]).then fun _ => (list_does T (column_does T)).then fun l => (hd [41]).then fun _ => Does.ret _)
def dropS (T : List Tk) : Sx → Cm × Sx :=
  elseS T w_index (thenS (nameS T) fun n => retS { cm0 with kind := 9, name := n }) (thenS (needS T w_table) fun _ => thenS (nameS T) fun n => retS { cm0 with kind := 2, name := n })
theorem drop_does (T : List Tk) : Does (dropS T) (dropR T) := by
  have hn := name_does T
  exact (hn.then fun n => Does.ret _).els ((need_does T w_table).then fun _ => hn.then fun n => Does.ret _)
def insertS (T : List Tk) : Sx → Cm × Sx :=
  thenS (needS T w_into) fun _ => thenS (nameS T) fun n => thenS (needS T w_values) fun _ => thenS (needS T [40]) fun _ => thenS (listS T (valueS T)) fun l => thenS (needS T [41]) fun _ => retS { cm0 with kind := 10, name := n, vals := l }
theorem insert_does (T : List Tk) : Does (insertS T) (insertR T) := by
  have hn := name_does T
  have hd := need_does T
  exact (hd w_into).then fun _ => hn.then fun n => (hd w_values).then fun _ => (hd [40]).then fun _ => (list_does T (value_does T)).then fun l => (hd [41]).then fun _ => Does.ret _
def deleteS (T : List Tk) : Sx → Cm × Sx := thenS (needS T w_from) fun _ => thenS (nameS T) fun n => whereS T { cm0 with kind := 11, name := n }
theorem delete_does (T : List Tk) : Does (deleteS T) (deleteR T) := (need_does T w_from).then fun _ => (name_does T).then fun _ => where_does T _
def updateS (T : List Tk) : Sx → Cm × Sx :=
  thenS (nameS T) fun n => thenS (needS T w_set) fun _ => thenS (nameS T) fun c => thenS (needS T [61]) fun _ => thenS (exprS T 60) fun e => whereS T { cm0 with kind := 12, name := n, column := c, expr := e }
theorem update_does (T : List Tk) : Does (updateS T) (updateR T) := by
  have hn := name_does T
  have hd := need_does T
  exact hn.then fun n => (hd w_set).then fun _ => hn.then fun c => (hd [61]).then fun _ => (expr_does T 60).then fun e => where_does T _
def orderS (T : List Tk) (c : Cm) : Sx → Cm × Sx := elseS T w_order (thenS (needS T w_by) fun _ => thenS (nameS T) fun o => retS { c with order := o }) (retS c)
theorem order_does (T : List Tk) (c : Cm) : Does (orderS T c) (orderR T c) := ((need_does T w_by).then fun _ => (name_does T).then fun _ => Does.ret _).els (Does.ret _)
def limitS (T : List Tk) (c : Cm) : Sx → Cm × Sx := elseS T w_limit (thenS (numberS T) fun n => retS { c with limit := (n : Nat) }) (retS c)
theorem limit_does (T : List Tk) (c : Cm) : Does (limitS T c) (limitR T c) := ((number_does T).then fun _ => Does.ret _).els (Does.ret _)
def selectS (T : List Tk) : Sx → Cm × Sx :=
  thenS (elseS T [42] (retS []) (listS T (nameS T))) fun l => thenS (needS T w_from) fun _ => thenS (nameS T) fun n => thenS (whereS T { cm0 with kind := 13, limit := -1, fields := l, name := n }) fun c => thenS (orderS T c) fun c => limitS T c
theorem select_does (T : List Tk) : Does (selectS T) (selectR T) := by
  have hn := name_does T
  have hf : Does (elseS T [42] (retS []) (listS T (nameS T))) (fieldsR T) := (Does.ret _).els (list_does T hn)
  exact hf.then fun l => (need_does T w_from).then fun _ => hn.then fun n => (where_does T _).then fun c => (order_does T c).then fun c => limit_does T c
def commandS (T : List Tk) : Sx → Cm × Sx :=
  elseS T w_create (createS T) (elseS T w_drop (dropS T) (elseS T w_alter (alterS T) (elseS T w_insert (insertS T) (elseS T w_delete (deleteS T) (elseS T w_update (updateS T) (elseS T w_select (selectS T)
    (elseS T w_begin (retS { cm0 with kind := 14 }) (elseS T w_commit (retS { cm0 with kind := 15 }) (thenS (needS T w_rollback) fun _ => retS { cm0 with kind := 16 })))))))))
theorem command_does (T : List Tk) : Does (commandS T) (commandR T) :=
  (create_does T).els ((drop_does T).els ((alter_does T).els ((insert_does T).els ((delete_does T).els ((update_does T).els ((select_does T).els ((Does.ret _).els ((Does.ret _).els ((need_does T w_rollback).then fun _ => Does.ret _)))))))))
theorem between_any (n a b : Int) (w : World) :
    Calls Tryz.prog 31 #[.int .i64 n, .int .i64 a, .int .i64 b] w fun e w' => e = .returned (.bool (decide (a ≤ n) && decide (n ≤ b))) ∧ w' = w := by
  go_enter Tryz.func31, Tryz.ntmps31
  go_wp2
  all_goals go_ret
  all_goals exact ⟨ret_bool (by simp [*] <;> omega), rfl⟩
theorem refL_any (c : UInt8) (w : World) :
    Calls Tryz.prog 113 #[.int .u8 (c.toNat : Int)] w fun e w' => e = .returned (.bool (isL c)) ∧ w' = w := by
  have hc : (c.toNat : Int) ≤ 255 := by have := c.toNat_lt; omega
  go_enter Tryz.func113, Tryz.ntmps113
  go_wp2_with (go_at_call 31; refine (between_any _ _ _ _).mono ?_; rintro e w' ⟨rfl, rfl⟩)
  go_ret
  exact ⟨ret_bool (by rfl), rfl⟩
theorem refD_any (c : UInt8) (w : World) :
    Calls Tryz.prog 114 #[.int .u8 (c.toNat : Int)] w fun e w' => e = .returned (.bool (isD c)) ∧ w' = w := by
  have hc : (c.toNat : Int) ≤ 255 := by have := c.toNat_lt; omega
  go_enter Tryz.func114, Tryz.ntmps114
  go_wp2_with (go_at_call 31; refine (between_any _ _ _ _).mono ?_; rintro e w' ⟨rfl, rfl⟩)
  go_ret
  exact ⟨ret_bool (by rfl), rfl⟩
theorem refQ_any (c : UInt8) (w : World) :
    Calls Tryz.prog 82 #[.int .u8 (c.toNat : Int)] w fun e w' => e = .returned (.bool (isQ c)) ∧ w' = w := by
  have hc : (c.toNat : Int) ≤ 255 := by have := c.toNat_lt; omega
  cases h : (decide ((32 : Int) ≤ (c.toNat : Int)) && decide ((c.toNat : Int) ≤ 126))
  · have H : Hid ((decide ((32 : Int) ≤ (c.toNat : Int)) && decide ((c.toNat : Int) ≤ 126)) = false) := h
    have hb := between_any c.toNat 32 126
    rw [h] at hb
    clear h
    go_enter Tryz.func82, Tryz.ntmps82
    go_wp2_with (go_at_call 31; refine (hb _).mono ?_; rintro e w' ⟨rfl, rfl⟩)
    go_ret
    exact ⟨ret_bool (by unfold isQ; rw [H.out]; rfl), rfl⟩
  · have H : Hid ((decide ((32 : Int) ≤ (c.toNat : Int)) && decide ((c.toNat : Int) ≤ 126)) = true) := h
    have hb := between_any c.toNat 32 126
    rw [h] at hb
    clear h
    go_enter Tryz.func82, Tryz.ntmps82
    go_wp2_with (go_at_call 31; refine (hb _).mono ?_; rintro e w' ⟨rfl, rfl⟩)
    go_ret
    exact ⟨ret_bool (by unfold isQ; rw [H.out]; rfl), rfl⟩
theorem refL_rw {c : UInt8} {b : Bool} (h : isL c = b) (w : World) : Calls Tryz.prog 113 #[.int .u8 (c.toNat : Int)] w fun e w' => e = .returned (.bool b) ∧ w' = w := by
  rw [← h]; exact refL_any c w
theorem refD_rw {c : UInt8} {b : Bool} (h : isD c = b) (w : World) : Calls Tryz.prog 114 #[.int .u8 (c.toNat : Int)] w fun e w' => e = .returned (.bool b) ∧ w' = w := by
  rw [← h]; exact refD_any c w
theorem refQ_rw {c : UInt8} {b : Bool} (h : isQ c = b) (w : World) : Calls Tryz.prog 82 #[.int .u8 (c.toNat : Int)] w fun e w' => e = .returned (.bool b) ∧ w' = w := by
  rw [← h]; exact refQ_any c w
theorem at_name (s : ByteArray) (a : Nat) (w : World) (hs : s.size ≤ 2000) (ha : a < s.size) (hc : isL s[a] = true) :
    Calls Tryz.prog 58 #[.string s, .int .i64 (a : Int)] w fun e w' => e = .returned (.tuple #[.int .i64 1, .int .i64 ((spanE isW s (a + 1) - a : Nat) : Int)]) ∧ w' = w := by
  have h1 := refL_rw hc
  clear hc
  go_enter Tryz.func58, Tryz.ntmps58
  go_wp2_with (go_at_call 113; refine (h1 _).mono ?_; rintro e w' ⟨rfl, hw'⟩; obtain rfl := hw'.symm; clear hw')
  clear h1
  go_loop [7] (fun i => ∃ n : Nat, 1 ≤ n ∧ a + n ≤ s.size ∧ i = .int .i64 n ∧ Hid (spanE isW s (a + n) = spanE isW s (a + 1))) (fun i => s.size - (intOf i).toNat)
  case atStart => exact ⟨1, by omega, by omega, rfl, rfl⟩
  case round =>
    obtain ⟨n, hn1, hn2, rfl, HE⟩ := hrel
    by_cases hlt : a + n < s.size
    · cases hL : isL s[a + n]
      · cases hD : isD s[a + n]
        · have h1 := refL_rw hL
          have h2 := refD_rw hD
          have hend := spanE_no isW s (a + n) hlt (by simp [isW, hL, hD])
          rw [HE.out] at hend
          have HG : Hid (spanE isW s (a + 1) = a + n) := hend
          clear hend HE hL hD
          go_wp2_with (first | (go_at_call 113; refine (h1 _).mono ?_; rintro e w' ⟨rfl, hw'⟩; obtain rfl := hw'.symm; clear hw') | (go_at_call 114; refine (h2 _).mono ?_; rintro e w' ⟨rfl, hw'⟩; obtain rfl := hw'.symm; clear hw'))
          go_ret2
          rw [HG.out, Nat.add_sub_cancel_left]
          exact ⟨rfl, rfl⟩
        · have h1 := refL_rw hL
          have h2 := refD_rw hD
          have hend := spanE_yes isW s (a + n) hlt (by simp [isW, hL, hD])
          rw [HE.out] at hend
          have HG : Hid (spanE isW s (a + (n + 1)) = spanE isW s (a + 1)) := hend.symm
          clear hend HE hL hD
          go_wp2_with (first | (go_at_call 113; refine (h1 _).mono ?_; rintro e w' ⟨rfl, hw'⟩; obtain rfl := hw'.symm; clear hw') | (go_at_call 114; refine (h2 _).mono ?_; rintro e w' ⟨rfl, hw'⟩; obtain rfl := hw'.symm; clear hw'))
          go_round
          case rel => exact ⟨n + 1, by omega, by omega, by go_num, HG⟩
          case measure => simp [intOf]; omega
      · have h1 := refL_rw hL
        have hend := spanE_yes isW s (a + n) hlt (by simp [isW, hL])
        rw [HE.out] at hend
        have HG : Hid (spanE isW s (a + (n + 1)) = spanE isW s (a + 1)) := hend.symm
        clear hend HE hL
        go_wp2_with (go_at_call 113; refine (h1 _).mono ?_; rintro e w' ⟨rfl, hw'⟩; obtain rfl := hw'.symm; clear hw')
        go_round
        case rel => exact ⟨n + 1, by omega, by omega, by go_num, HG⟩
        case measure => simp [intOf]; omega
    · have hend := spanE_end isW s (a + n) hlt
      rw [HE.out] at hend
      have HG : Hid (spanE isW s (a + 1) = a + n) := hend
      clear hend HE
      go_wp2
      go_ret2
      rw [HG.out, Nat.add_sub_cancel_left]
      exact ⟨rfl, rfl⟩
theorem at_number (s : ByteArray) (a : Nat) (w : World) (hs : s.size ≤ 2000) (ha : a < s.size) (hc : isL s[a] = false) (hd : isD s[a] = true) :
    Calls Tryz.prog 58 #[.string s, .int .i64 (a : Int)] w fun e w' => e = .returned (.tuple #[.int .i64 2, .int .i64 ((spanE isD s (a + 1) - a : Nat) : Int)]) ∧ w' = w := by
  have h1 := refL_rw hc
  have h2 := refD_rw hd
  clear hc hd
  go_enter Tryz.func58, Tryz.ntmps58
  go_wp2_with (first | (go_at_call 113; refine (h1 _).mono ?_; rintro e w' ⟨rfl, hw'⟩; obtain rfl := hw'.symm; clear hw') | (go_at_call 114; refine (h2 _).mono ?_; rintro e w' ⟨rfl, hw'⟩; obtain rfl := hw'.symm; clear hw'))
  clear h1 h2
  go_loop [7] (fun i => ∃ n : Nat, 1 ≤ n ∧ a + n ≤ s.size ∧ i = .int .i64 n ∧ Hid (spanE isD s (a + n) = spanE isD s (a + 1))) (fun i => s.size - (intOf i).toNat)
  case atStart => exact ⟨1, by omega, by omega, rfl, rfl⟩
  case round =>
    obtain ⟨n, hn1, hn2, rfl, HE⟩ := hrel
    by_cases hlt : a + n < s.size
    · cases hD : isD s[a + n]
      · have h2 := refD_rw hD
        have hend := spanE_no isD s (a + n) hlt hD
        rw [HE.out] at hend
        have HG : Hid (spanE isD s (a + 1) = a + n) := hend
        clear hend HE hD
        go_wp2_with (go_at_call 114; refine (h2 _).mono ?_; rintro e w' ⟨rfl, hw'⟩; obtain rfl := hw'.symm; clear hw')
        go_ret2
        rw [HG.out, Nat.add_sub_cancel_left]
        exact ⟨rfl, rfl⟩
      · have h2 := refD_rw hD
        have hend := spanE_yes isD s (a + n) hlt hD
        rw [HE.out] at hend
        have HG : Hid (spanE isD s (a + (n + 1)) = spanE isD s (a + 1)) := hend.symm
        clear hend HE hD
        go_wp2_with (go_at_call 114; refine (h2 _).mono ?_; rintro e w' ⟨rfl, hw'⟩; obtain rfl := hw'.symm; clear hw')
        go_round
        case rel => exact ⟨n + 1, by omega, by omega, by go_num, HG⟩
        case measure => simp [intOf]; omega
    · have hend := spanE_end isD s (a + n) hlt
      rw [HE.out] at hend
      have HG : Hid (spanE isD s (a + 1) = a + n) := hend
      clear hend HE
      go_wp2
      go_ret2
      rw [HG.out, Nat.add_sub_cancel_left]
      exact ⟨rfl, rfl⟩
theorem at_text (s : ByteArray) (a : Nat) (w : World) (hs : s.size ≤ 2000) (ha : a < s.size) (hc : isL s[a] = false) (hd : isD s[a] = false) (hq : ((s[a].toNat : Int) == 39) = true)
    (hyp : ∃ h : spanE isQ s (a + 1) < s.size, ((s[spanE isQ s (a + 1)].toNat : Int) == 39) = true) :
    Calls Tryz.prog 58 #[.string s, .int .i64 (a : Int)] w fun e w' => e = .returned (.tuple #[.int .i64 3, .int .i64 ((spanE isQ s (a + 1) - a + 1 : Nat) : Int)]) ∧ w' = w := by
  have h1 := refL_rw hc
  have h2 := refD_rw hd
  have HZ := hide hyp
  clear hc hd hyp
  go_enter Tryz.func58, Tryz.ntmps58
  go_wp2_with (first | (go_at_call 113; refine (h1 _).mono ?_; rintro e w' ⟨rfl, hw'⟩; obtain rfl := hw'.symm; clear hw') | (go_at_call 114; refine (h2 _).mono ?_; rintro e w' ⟨rfl, hw'⟩; obtain rfl := hw'.symm; clear hw'))
  clear h1 h2
  go_loop [7] (fun i => ∃ n : Nat, 1 ≤ n ∧ a + n ≤ s.size ∧ i = .int .i64 n ∧ Hid (spanE isQ s (a + n) = spanE isQ s (a + 1))) (fun i => s.size - (intOf i).toNat)
  case atStart => exact ⟨1, by omega, by omega, rfl, rfl⟩
  case round =>
    obtain ⟨n, hn1, hn2, rfl, HE⟩ := hrel
    by_cases hlt : a + n < s.size
    · cases hD : isQ s[a + n]
      · have h2 := refQ_rw hD
        have hend := spanE_no isQ s (a + n) hlt hD
        rw [HE.out] at hend
        have HG : Hid (spanE isQ s (a + 1) = a + n) := hend
        clear hend HE hD
        have hz : ((s[a + n].toNat : Int) == 39) = true := by obtain ⟨h, hz⟩ := HZ.out; simpa only [HG.out] using hz
        go_wp2_with (go_at_call 82; refine (h2 _).mono ?_; rintro e w' ⟨rfl, hw'⟩; obtain rfl := hw'.symm; clear hw')
        go_ret2
        rw [HG.out, Nat.add_sub_cancel_left]
        exact ⟨rfl, rfl⟩
      · have h2 := refQ_rw hD
        have hend := spanE_yes isQ s (a + n) hlt hD
        rw [HE.out] at hend
        have HG : Hid (spanE isQ s (a + (n + 1)) = spanE isQ s (a + 1)) := hend.symm
        clear hend HE hD
        go_wp2_with (go_at_call 82; refine (h2 _).mono ?_; rintro e w' ⟨rfl, hw'⟩; obtain rfl := hw'.symm; clear hw')
        go_round
        case rel => exact ⟨n + 1, by omega, by omega, by go_num, HG⟩
        case measure => simp [intOf]; omega
    · have hend := spanE_end isQ s (a + n) hlt
      rw [HE.out] at hend
      have HG : Hid (spanE isQ s (a + 1) = a + n) := hend
      clear hend HE
      exact absurd (HZ.out.1) (by rw [HG.out]; exact hlt)
theorem at_open (s : ByteArray) (a : Nat) (w : World) (hs : s.size ≤ 2000) (ha : a < s.size) (hc : isL s[a] = false) (hd : isD s[a] = false) (hq : ((s[a].toNat : Int) == 39) = true)
    (hyp : ¬ ∃ h : spanE isQ s (a + 1) < s.size, ((s[spanE isQ s (a + 1)].toNat : Int) == 39) = true) :
    Calls Tryz.prog 58 #[.string s, .int .i64 (a : Int)] w fun e w' => e = .returned (.tuple #[.int .i64 0, .int .i64 0]) ∧ w' = w := by
  have h1 := refL_rw hc
  have h2 := refD_rw hd
  have HZ := hide hyp
  clear hc hd hyp
  go_enter Tryz.func58, Tryz.ntmps58
  go_wp2_with (first | (go_at_call 113; refine (h1 _).mono ?_; rintro e w' ⟨rfl, hw'⟩; obtain rfl := hw'.symm; clear hw') | (go_at_call 114; refine (h2 _).mono ?_; rintro e w' ⟨rfl, hw'⟩; obtain rfl := hw'.symm; clear hw'))
  clear h1 h2
  go_loop [7] (fun i => ∃ n : Nat, 1 ≤ n ∧ a + n ≤ s.size ∧ i = .int .i64 n ∧ Hid (spanE isQ s (a + n) = spanE isQ s (a + 1))) (fun i => s.size - (intOf i).toNat)
  case atStart => exact ⟨1, by omega, by omega, rfl, rfl⟩
  case round =>
    obtain ⟨n, hn1, hn2, rfl, HE⟩ := hrel
    by_cases hlt : a + n < s.size
    · cases hD : isQ s[a + n]
      · have h2 := refQ_rw hD
        have hend := spanE_no isQ s (a + n) hlt hD
        rw [HE.out] at hend
        have HG : Hid (spanE isQ s (a + 1) = a + n) := hend
        clear hend HE hD
        have hz : ((s[a + n].toNat : Int) == 39) = false := by
          cases hz : ((s[a + n].toNat : Int) == 39)
          · rfl
          · exact absurd ⟨by rw [HG.out]; exact hlt, by simpa only [HG.out] using hz⟩ HZ.out
        go_wp2_with (go_at_call 82; refine (h2 _).mono ?_; rintro e w' ⟨rfl, hw'⟩; obtain rfl := hw'.symm; clear hw')
        go_ret2
        exact ⟨rfl, rfl⟩
      · have h2 := refQ_rw hD
        have hend := spanE_yes isQ s (a + n) hlt hD
        rw [HE.out] at hend
        have HG : Hid (spanE isQ s (a + (n + 1)) = spanE isQ s (a + 1)) := hend.symm
        clear hend HE hD
        go_wp2_with (go_at_call 82; refine (h2 _).mono ?_; rintro e w' ⟨rfl, hw'⟩; obtain rfl := hw'.symm; clear hw')
        go_round
        case rel => exact ⟨n + 1, by omega, by omega, by go_num, HG⟩
        case measure => simp [intOf]; omega
    · have hend := spanE_end isQ s (a + n) hlt
      rw [HE.out] at hend
      have HG : Hid (spanE isQ s (a + 1) = a + n) := hend
      clear hend HE
      go_wp2
      go_ret2
      exact ⟨rfl, rfl⟩
theorem at_bars (s : ByteArray) (a : Nat) (w : World) (hs : s.size ≤ 2000) (ha : a + 1 < s.size) (hc : isL s[a] = false) (hd : isD s[a] = false) (hq : ((s[a].toNat : Int) == 39) = false)
    (hp : ((s[a].toNat : Int) == 124) = true) (hp2 : ((s[a + 1].toNat : Int) == 124) = true) :
    Calls Tryz.prog 58 #[.string s, .int .i64 (a : Int)] w fun e w' => e = .returned (.tuple #[.int .i64 4, .int .i64 2]) ∧ w' = w := by
  have h1 := refL_rw hc
  have h2 := refD_rw hd
  clear hc hd
  go_enter Tryz.func58, Tryz.ntmps58
  go_wp2_with (first | (go_at_call 113; refine (h1 _).mono ?_; rintro e w' ⟨rfl, hw'⟩; obtain rfl := hw'.symm; clear hw') | (go_at_call 114; refine (h2 _).mono ?_; rintro e w' ⟨rfl, hw'⟩; obtain rfl := hw'.symm; clear hw'))
  go_ret2
  exact ⟨rfl, rfl⟩
def sg : List UInt8 := [40, 41, 44, 59, 42, 61, 60, 43, 45]
theorem sg_at (n : Nat) (h : n < sg.length) (h' : n < (⟨#[40, 41, 44, 59, 42, 61, 60, 43, 45]⟩ : ByteArray).size) : (⟨#[40, 41, 44, 59, 42, 61, 60, 43, 45]⟩ : ByteArray)[n] = sg[n]'h := rfl
theorem sg_step {c : UInt8} {n : Nat} (h' : n < (⟨#[40, 41, 44, 59, 42, 61, 60, 43, 45]⟩ : ByteArray).size) (HE : ∀ j (h : j < sg.length), j < n → sg[j] ≠ c)
    (hz : (((⟨#[40, 41, 44, 59, 42, 61, 60, 43, 45]⟩ : ByteArray)[n].toNat : Int) == (c.toNat : Int)) = false) : ∀ j (h : j < sg.length), j < n + 1 → sg[j] ≠ c := by
  intro j h hj
  by_cases e : j = n
  · subst e
    intro e2
    have hz2 : ((sg[j].toNat : Int) == (c.toNat : Int)) = false := hz
    exact (beq_eq_false_iff_ne.1 hz2) (congrArg (fun x : UInt8 => (x.toNat : Int)) e2)
  · exact HE j h (by omega)
theorem sg_hit {c : UInt8} {n : Nat} (h' : n < (⟨#[40, 41, 44, 59, 42, 61, 60, 43, 45]⟩ : ByteArray).size)
    (hz : (((⟨#[40, 41, 44, 59, 42, 61, 60, 43, 45]⟩ : ByteArray)[n].toNat : Int) == (c.toNat : Int)) = true) : isS c = true := by
  have h : n < sg.length := h'
  rw [sg_at n h h'] at hz
  have e : sg[n] = c := by apply UInt8.toNat_inj.1; have := eq_of_beq hz; omega
  unfold isS
  rw [decide_eq_true_eq, ← e]
  exact List.getElem_mem h
theorem sg_miss {c : UInt8} (HE : ∀ j (h : j < sg.length), j < 9 → sg[j] ≠ c) : isS c = false := by
  unfold isS
  rw [decide_eq_false_iff_not]
  intro h
  obtain ⟨j, hj, e⟩ := List.getElem_of_mem (show c ∈ sg from h)
  exact HE j hj hj e
theorem at_sign (s : ByteArray) (a : Nat) (w : World) (_hs : s.size ≤ 2000) (ha : a < s.size) (hc : isL s[a] = false) (hd : isD s[a] = false) (hq : ((s[a].toNat : Int) == 39) = false)
    (hp : ((s[a].toNat : Int) == 124) = false) (hS : isS s[a] = true) :
    Calls Tryz.prog 58 #[.string s, .int .i64 (a : Int)] w fun e w' => e = .returned (.tuple #[.int .i64 4, .int .i64 1]) ∧ w' = w := by
  have h1 := refL_rw hc
  have h2 := refD_rw hd
  have HS := hide hS
  clear hc hd hS
  go_enter Tryz.func58, Tryz.ntmps58
  go_wp2_with (first | (go_at_call 113; refine (h1 _).mono ?_; rintro e w' ⟨rfl, hw'⟩; obtain rfl := hw'.symm; clear hw') | (go_at_call 114; refine (h2 _).mono ?_; rintro e w' ⟨rfl, hw'⟩; obtain rfl := hw'.symm; clear hw'))
  clear h1 h2
  go_loop [9] (fun i => ∃ n : Nat, n ≤ 9 ∧ i = .int .i64 n ∧ Hid (∀ j (h : j < sg.length), j < n → sg[j] ≠ s[a])) (fun i => 9 - (intOf i).toNat)
  case atStart => exact ⟨0, by omega, rfl, fun j _ h => by omega⟩
  case round =>
    obtain ⟨n, hn, rfl, HE⟩ := hrel
    by_cases hlt : n < 9
    · go_wp2
      · go_ret2
        exact ⟨rfl, rfl⟩
      · go_round
        case rel => exact ⟨n + 1, by omega, by go_num, hide (sg_step hlt HE.out ‹_›)⟩
        case measure => simp [intOf]; omega
    · have hn9 : n = 9 := by omega
      have hm := sg_miss (by have := HE.out; rw [hn9] at this; exact this)
      clear hn9
      rw [HS.out] at hm; cases hm
theorem at_none (s : ByteArray) (a : Nat) (w : World) (_hs : s.size ≤ 2000) (ha : a < s.size) (hc : isL s[a] = false) (hd : isD s[a] = false) (hq : ((s[a].toNat : Int) == 39) = false)
    (hp : ((s[a].toNat : Int) == 124) = false) (hS : isS s[a] = false) :
    Calls Tryz.prog 58 #[.string s, .int .i64 (a : Int)] w fun e w' => e = .returned (.tuple #[.int .i64 0, .int .i64 0]) ∧ w' = w := by
  have h1 := refL_rw hc
  have h2 := refD_rw hd
  have HS := hide hS
  clear hc hd hS
  go_enter Tryz.func58, Tryz.ntmps58
  go_wp2_with (first | (go_at_call 113; refine (h1 _).mono ?_; rintro e w' ⟨rfl, hw'⟩; obtain rfl := hw'.symm; clear hw') | (go_at_call 114; refine (h2 _).mono ?_; rintro e w' ⟨rfl, hw'⟩; obtain rfl := hw'.symm; clear hw'))
  clear h1 h2
  go_loop [9] (fun i => ∃ n : Nat, n ≤ 9 ∧ i = .int .i64 n ∧ Hid (∀ j (h : j < sg.length), j < n → sg[j] ≠ s[a])) (fun i => 9 - (intOf i).toNat)
  case atStart => exact ⟨0, by omega, rfl, fun j _ h => by omega⟩
  case round =>
    obtain ⟨n, hn, rfl, HE⟩ := hrel
    by_cases hlt : n < 9
    · go_wp2
      · have hh := sg_hit hlt ‹_›
        rw [HS.out] at hh; cases hh
      · go_round
        case rel => exact ⟨n + 1, by omega, by go_num, hide (sg_step hlt HE.out ‹_›)⟩
        case measure => simp [intOf]; omega
    · have hn9 : n = 9 := by omega
      have hm := sg_miss (by have := HE.out; rw [hn9] at this; exact this)
      clear hn9
      clear hm
      go_wp2
      go_ret2
      exact ⟨rfl, rfl⟩
theorem at_bar_end (s : ByteArray) (a : Nat) (w : World) (hs : s.size ≤ 2000) (ha : a < s.size) (hc : isL s[a] = false) (hd : isD s[a] = false) (hq : ((s[a].toNat : Int) == 39) = false)
    (hp : ((s[a].toNat : Int) == 124) = true) (he : ¬ a + 1 < s.size) (hS : isS s[a] = false) :
    Calls Tryz.prog 58 #[.string s, .int .i64 (a : Int)] w fun e w' => e = .returned (.tuple #[.int .i64 0, .int .i64 0]) ∧ w' = w := by
  have h1 := refL_rw hc
  have h2 := refD_rw hd
  have HS := hide hS
  clear hc hd hS
  go_enter Tryz.func58, Tryz.ntmps58
  go_wp2_with (first | (go_at_call 113; refine (h1 _).mono ?_; rintro e w' ⟨rfl, hw'⟩; obtain rfl := hw'.symm; clear hw') | (go_at_call 114; refine (h2 _).mono ?_; rintro e w' ⟨rfl, hw'⟩; obtain rfl := hw'.symm; clear hw'))
  clear h1 h2
  go_loop [9] (fun i => ∃ n : Nat, n ≤ 9 ∧ i = .int .i64 n ∧ Hid (∀ j (h : j < sg.length), j < n → sg[j] ≠ s[a])) (fun i => 9 - (intOf i).toNat)
  case atStart => exact ⟨0, by omega, rfl, fun j _ h => by omega⟩
  case round =>
    obtain ⟨n, hn, rfl, HE⟩ := hrel
    by_cases hlt : n < 9
    · go_wp2
      · have hh := sg_hit hlt ‹_›
        rw [HS.out] at hh; cases hh
      · go_round
        case rel => exact ⟨n + 1, by omega, by go_num, hide (sg_step hlt HE.out ‹_›)⟩
        case measure => simp [intOf]; omega
    · have hn9 : n = 9 := by omega
      have hm := sg_miss (by have := HE.out; rw [hn9] at this; exact this)
      clear hn9
      clear hm
      go_wp2
      go_ret2
      exact ⟨rfl, rfl⟩
theorem at_bar_one (s : ByteArray) (a : Nat) (w : World) (hs : s.size ≤ 2000) (ha : a < s.size) (hc : isL s[a] = false) (hd : isD s[a] = false) (hq : ((s[a].toNat : Int) == 39) = false)
    (hp : ((s[a].toNat : Int) == 124) = true) (he : a + 1 < s.size) (hp2 : ((s[a + 1].toNat : Int) == 124) = false) (hS : isS s[a] = false) :
    Calls Tryz.prog 58 #[.string s, .int .i64 (a : Int)] w fun e w' => e = .returned (.tuple #[.int .i64 0, .int .i64 0]) ∧ w' = w := by
  have h1 := refL_rw hc
  have h2 := refD_rw hd
  have HS := hide hS
  clear hc hd hS
  go_enter Tryz.func58, Tryz.ntmps58
  go_wp2_with (first | (go_at_call 113; refine (h1 _).mono ?_; rintro e w' ⟨rfl, hw'⟩; obtain rfl := hw'.symm; clear hw') | (go_at_call 114; refine (h2 _).mono ?_; rintro e w' ⟨rfl, hw'⟩; obtain rfl := hw'.symm; clear hw'))
  clear h1 h2
  go_loop [9] (fun i => ∃ n : Nat, n ≤ 9 ∧ i = .int .i64 n ∧ Hid (∀ j (h : j < sg.length), j < n → sg[j] ≠ s[a])) (fun i => 9 - (intOf i).toNat)
  case atStart => exact ⟨0, by omega, rfl, fun j _ h => by omega⟩
  case round =>
    obtain ⟨n, hn, rfl, HE⟩ := hrel
    by_cases hlt : n < 9
    · go_wp2
      · have hh := sg_hit hlt ‹_›
        rw [HS.out] at hh; cases hh
      · go_round
        case rel => exact ⟨n + 1, by omega, by go_num, hide (sg_step hlt HE.out ‹_›)⟩
        case measure => simp [intOf]; omega
    · have hn9 : n = 9 := by omega
      have hm := sg_miss (by have := HE.out; rw [hn9] at this; exact this)
      clear hn9
      clear hm
      go_wp2
      go_ret2
      exact ⟨rfl, rfl⟩
def atV (s : ByteArray) (a : Nat) : Value := .tuple #[.int .i64 ((tokL (s.data.toList.drop a)).1 : Nat), .int .i64 ((tokL (s.data.toList.drop a)).2 : Nat)]
theorem tokAt_any (s : ByteArray) (a : Nat) (w : World) (hs : s.size ≤ 2000) (ha : a < s.size) :
    Calls Tryz.prog 58 #[.string s, .int .i64 (a : Int)] w fun e w' => e = .returned (atV s a) ∧ w' = w := by
  have hd := drop_at s a ha
  have get : ∀ j, (h : j < s.size) → a + 1 ≤ j → (s.data.toList.drop (a + 1))[j - (a + 1)]? = some s[j] := by
    intro j h hj
    rw [List.getElem?_drop, show a + 1 + (j - (a + 1)) = j by omega, List.getElem?_eq_getElem (by simpa using h)]; rfl
  have val : ∀ K N, tokL (s.data.toList.drop a) = (K, N) → atV s a = .tuple #[.int .i64 (K : Nat), .int .i64 (N : Nat)] := by
    intro K N h; unfold atV; rw [h]
  rw [hd] at val
  cases hL : isL s[a]
  case true =>
    rw [val 1 (runL isW (s.data.toList.drop (a + 1)) + 1) (by simp [tokL, hL]), show runL isW (s.data.toList.drop (a + 1)) + 1 = spanE isW s (a + 1) - a by unfold spanE; omega]
    exact at_name s a w hs ha hL
  case false =>
  cases hD : isD s[a]
  case true =>
    rw [val 2 (runL isD (s.data.toList.drop (a + 1)) + 1) (by simp [tokL, hL, hD]), show runL isD (s.data.toList.drop (a + 1)) + 1 = spanE isD s (a + 1) - a by unfold spanE; omega]
    exact at_number s a w hs ha hL hD
  case false =>
  cases hQ : ((s[a].toNat : Int) == 39)
  case true =>
    have hq : s[a] = 39 := by rw [u8_39] at hQ; simpa using hQ
    have l39 : isL 39 = false := by decide
    have d39 : isD 39 = false := by decide
    have hsp : spanE isQ s (a + 1) = a + 1 + runL isQ (s.data.toList.drop (a + 1)) := rfl
    by_cases he : ∃ h : spanE isQ s (a + 1) < s.size, ((s[spanE isQ s (a + 1)].toNat : Int) == 39) = true
    · obtain ⟨h1, h2⟩ := he
      have hg := get _ h1 (spanE_ge isQ s (a + 1))
      rw [show spanE isQ s (a + 1) - (a + 1) = runL isQ (s.data.toList.drop (a + 1)) by omega] at hg
      have hz : s[spanE isQ s (a + 1)] = 39 := by rw [u8_39] at h2; simpa using h2
      rw [val 3 (runL isQ (s.data.toList.drop (a + 1)) + 2) (by simp only [tokL, l39, d39, hq, hg, hz]; rfl), show runL isQ (s.data.toList.drop (a + 1)) + 2 = spanE isQ s (a + 1) - a + 1 by omega]
      exact at_text s a w hs ha hL hD hQ ⟨h1, h2⟩
    · have hg : ¬ (s.data.toList.drop (a + 1))[runL isQ (s.data.toList.drop (a + 1))]? = some 39 := by
        intro hg
        have h1 : spanE isQ s (a + 1) < s.size := by
          rcases Nat.lt_or_ge (spanE isQ s (a + 1)) s.size with h | h
          · exact h
          · rw [List.getElem?_eq_none (by simp; omega)] at hg; cases hg
        have hg2 := get _ h1 (spanE_ge isQ s (a + 1))
        rw [show spanE isQ s (a + 1) - (a + 1) = runL isQ (s.data.toList.drop (a + 1)) by omega, hg] at hg2
        exact he ⟨h1, by rw [u8_39]; simpa using (Option.some.inj hg2).symm⟩
      rw [val 0 0 (by simp only [tokL, l39, d39, hq, hg, Bool.false_eq_true, if_false, if_true])]
      exact at_open s a w hs ha hL hD hQ he
  case false =>
  have hq : ¬ s[a] = 39 := by rw [u8_39] at hQ; simpa using hQ
  have hb := isBars_cons s[a] (s.data.toList.drop (a + 1))
  cases hP : ((s[a].toNat : Int) == 124)
  case false =>
    have hp : ¬ s[a] = 124 := by rw [show (124 : Int) = ((124 : UInt8).toNat : Int) from rfl, u8_is] at hP; simpa using hP
    have hb0 : isBars (s[a] :: s.data.toList.drop (a + 1)) = false := by rw [hb]; simp [hp]
    cases hS : isS s[a]
    case true =>
      rw [val 4 1 (by simp [tokL, hL, hD, hq, hb0, hS])]
      exact at_sign s a w hs ha hL hD hQ hP hS
    case false =>
      rw [val 0 0 (by simp [tokL, hL, hD, hq, hb0, hS])]
      exact at_none s a w hs ha hL hD hQ hP hS
  case true =>
    have hp : s[a] = 124 := by rw [show (124 : Int) = ((124 : UInt8).toNat : Int) from rfl, u8_is] at hP; simpa using hP
    have hS : isS s[a] = false := by rw [hp]; decide
    by_cases he : a + 1 < s.size
    · have hh : (s.data.toList.drop (a + 1)).head? = some s[a + 1] := by rw [drop_at s (a + 1) he]; rfl
      cases hP2 : ((s[a + 1].toNat : Int) == 124)
      case true =>
        have hp2 : s[a + 1] = 124 := by rw [show (124 : Int) = ((124 : UInt8).toNat : Int) from rfl, u8_is] at hP2; simpa using hP2
        have hb0 : isBars (s[a] :: s.data.toList.drop (a + 1)) = true := by rw [hb, hh]; simp [hp, hp2]
        rw [val 4 2 (by simp [tokL, hL, hD, hq, hb0])]
        exact at_bars s a w hs he hL hD hQ hP hP2
      case false =>
        have hp2 : ¬ s[a + 1] = 124 := by rw [show (124 : Int) = ((124 : UInt8).toNat : Int) from rfl, u8_is] at hP2; simpa using hP2
        have hb0 : isBars (s[a] :: s.data.toList.drop (a + 1)) = false := by rw [hb, hh]; simp [hp2]
        rw [val 0 0 (by simp [tokL, hL, hD, hq, hb0, hS])]
        exact at_bar_one s a w hs ha hL hD hQ hP he hP2 hS
    · have hh : (s.data.toList.drop (a + 1)).head? = none := by rw [List.drop_eq_nil_of_le (by simp; omega)]; rfl
      have hb0 : isBars (s[a] :: s.data.toList.drop (a + 1)) = false := by rw [hb, hh]; simp
      rw [val 0 0 (by simp [tokL, hL, hD, hq, hb0, hS])]
      exact at_bar_end s a w hs ha hL hD hQ hP he hS
theorem wrong_0 (t : ByteArray) (w : World)  :
    Calls Tryz.prog 59 #[.int .i64 0, .string t] w fun e w' => e = .returned (.int .i64 1) ∧ w' = w := by
  go_enter Tryz.func59, Tryz.ntmps59
  go_wp2
  go_ret
  exact ⟨rfl, rfl⟩
theorem wrong_1_many (t : ByteArray) (w : World) (hl : 12 < t.size) :
    Calls Tryz.prog 59 #[.int .i64 1, .string t] w fun e w' => e = .returned (.int .i64 2) ∧ w' = w := by
  go_enter Tryz.func59, Tryz.ntmps59
  go_wp2
  go_ret
  exact ⟨rfl, rfl⟩
theorem wrong_1_ok (t : ByteArray) (w : World) (hl : t.size ≤ 12) :
    Calls Tryz.prog 59 #[.int .i64 1, .string t] w fun e w' => e = .returned (.int .i64 0) ∧ w' = w := by
  go_enter Tryz.func59, Tryz.ntmps59
  go_wp2
  go_ret
  exact ⟨rfl, rfl⟩
theorem wrong_2_many (t : ByteArray) (w : World) (hl : 9 < t.size) :
    Calls Tryz.prog 59 #[.int .i64 2, .string t] w fun e w' => e = .returned (.int .i64 2) ∧ w' = w := by
  go_enter Tryz.func59, Tryz.ntmps59
  go_wp2
  go_ret
  exact ⟨rfl, rfl⟩
theorem wrong_2_one (t : ByteArray) (w : World) (hl : t.size ≤ 1) :
    Calls Tryz.prog 59 #[.int .i64 2, .string t] w fun e w' => e = .returned (.int .i64 0) ∧ w' = w := by
  go_enter Tryz.func59, Tryz.ntmps59
  go_wp2
  go_ret
  exact ⟨rfl, rfl⟩
theorem wrong_2_nought (t : ByteArray) (w : World) (hl : t.size ≤ 9) (h1 : 1 < t.size) (hz : ((t[0].toNat : Int) == 48) = true) :
    Calls Tryz.prog 59 #[.int .i64 2, .string t] w fun e w' => e = .returned (.int .i64 1) ∧ w' = w := by
  go_enter Tryz.func59, Tryz.ntmps59
  go_wp2
  go_ret
  exact ⟨rfl, rfl⟩
theorem wrong_2_ok (t : ByteArray) (w : World) (hl : t.size ≤ 9) (h1 : 1 < t.size) (hz : ((t[0].toNat : Int) == 48) = false) :
    Calls Tryz.prog 59 #[.int .i64 2, .string t] w fun e w' => e = .returned (.int .i64 0) ∧ w' = w := by
  go_enter Tryz.func59, Tryz.ntmps59
  go_wp2
  go_ret
  exact ⟨rfl, rfl⟩
theorem wrong_3_many (t : ByteArray) (w : World) (hl : 22 < t.size) :
    Calls Tryz.prog 59 #[.int .i64 3, .string t] w fun e w' => e = .returned (.int .i64 2) ∧ w' = w := by
  go_enter Tryz.func59, Tryz.ntmps59
  go_wp2
  go_ret
  exact ⟨rfl, rfl⟩
theorem wrong_3_ok (t : ByteArray) (w : World) (hl : t.size ≤ 22) :
    Calls Tryz.prog 59 #[.int .i64 3, .string t] w fun e w' => e = .returned (.int .i64 0) ∧ w' = w := by
  go_enter Tryz.func59, Tryz.ntmps59
  go_wp2
  go_ret
  exact ⟨rfl, rfl⟩
theorem wrong_4 (t : ByteArray) (w : World)  :
    Calls Tryz.prog 59 #[.int .i64 4, .string t] w fun e w' => e = .returned (.int .i64 0) ∧ w' = w := by
  go_enter Tryz.func59, Tryz.ntmps59
  go_wp2
  go_ret
  exact ⟨rfl, rfl⟩
theorem wrong_any (k : Nat) (t : ByteArray) (w : World) (hk : k ≤ 4) :
    Calls Tryz.prog 59 #[.int .i64 (k : Int), .string t] w fun e w' => e = .returned (.int .i64 (wrongL k t.data.toList : Nat)) ∧ w' = w := by
  match k, hk with
  | 0, _ => exact wrong_0 t w
  | 1, _ =>
    by_cases h : 12 < t.size
    · rw [show wrongL 1 t.data.toList = 2 by simp [wrongL, h]]; exact wrong_1_many t w h
    · rw [show wrongL 1 t.data.toList = 0 by simp [wrongL]; omega]; exact wrong_1_ok t w (by omega)
  | 2, _ =>
    by_cases h : 9 < t.size
    · rw [show wrongL 2 t.data.toList = 2 by simp [wrongL, h]]; exact wrong_2_many t w h
    · by_cases h1 : 1 < t.size
      · have hh : t.data.toList.head? = some t[0] := by
          rw [List.head?_eq_getElem?, List.getElem?_eq_getElem (by simp; omega)]; rfl
        cases hz : ((t[0].toNat : Int) == 48)
        · have hz' : ¬ t[0] = 48 := by
            intro e; rw [e] at hz; revert hz; decide
          rw [show wrongL 2 t.data.toList = 0 by unfold wrongL; rw [hh]; simp [h, hz']]; exact wrong_2_ok t w (by omega) h1 hz
        · have hz' : t[0] = 48 := by
            apply UInt8.toNat_inj.1; have := eq_of_beq hz; simp; omega
          rw [show wrongL 2 t.data.toList = 1 by unfold wrongL; rw [hh]; simp [h, h1, hz']]; exact wrong_2_nought t w (by omega) h1 hz
      · rw [show wrongL 2 t.data.toList = 0 by simp [wrongL, h, h1]]; exact wrong_2_one t w (by omega)
  | 3, _ =>
    by_cases h : 22 < t.size
    · rw [show wrongL 3 t.data.toList = 2 by simp [wrongL, h]]; exact wrong_3_many t w h
    · rw [show wrongL 3 t.data.toList = 0 by simp [wrongL, h]]; exact wrong_3_ok t w (by omega)
  | 4, _ => rw [show wrongL 4 t.data.toList = 0 by simp [wrongL]]; exact wrong_4 t w
theorem scanOf_long (s : ByteArray) (w : World) (hs : 2000 < s.size) (hm : s.size ≤ 9223372036854775000) :
    Calls Tryz.prog 22 #[.string s] w fun e w' => e = .returned (.tuple #[.slice none 0 0, .int .i64 0, .int .i64 2]) ∧ w' = w := by
  go_enter Tryz.func22, Tryz.ntmps22
  go_wp2
  go_ret3
  exact ⟨rfl, rfl⟩
theorem scanOf_short (s : ByteArray) (w : World) (hs : s.size ≤ 2000) :
    Calls Tryz.prog 22 #[.string s] w fun e w' => ∃ v, e = .returned (.tuple #[v, .int .i64 ((scanL 0 s.data.toList []).2.1 : Nat), .int .i64 ((scanL 0 s.data.toList []).2.2 : Nat)]) ∧
      w'.ownsRow w.heap.size 63 3 v (scanL 0 s.data.toList []).1.length (cellsT (scanL 0 s.data.toList []).1) ∧ Below w.heap.size w w' := by
  obtain ⟨i0, hi, hz0, hz1, hz2⟩ := info_parts Tryz.info34
  have hbs : decide ((2000 : Int) < (s.size : Int)) = false := by simp; omega
  go_enter Tryz.func22, Tryz.ntmps22
  go_wp2
  go_loopw [5, 6] (fun v i wr => ∃ (k : Nat) (acc : List Tk), k ≤ s.size ∧ i = .int .i64 k ∧ wr.ownsRow w.heap.size 63 3 v acc.length (cellsT acc) ∧ Below w.heap.size w wr ∧ acc.length ≤ k ∧
      Hid (scanL k (s.data.toList.drop k) acc = scanL 0 s.data.toList [])) (fun _ i _ => s.size - (intOf i).toNat)
  case atStart =>
    exact ⟨0, [], Nat.zero_le _, rfl, World.ownsRow_nil _ _ _ _, Below.refl _ _, Nat.zero_le _, rfl⟩
  case round =>
    obtain ⟨k, acc, hk, rfl, hown, hnx, hacc, HE⟩ := hrel
    by_cases hlt : k < s.size
    · have hsz := hnx.size
      cases hB : isB s[k]
      case true =>
        have h1 : scanL k (s.data.toList.drop k) acc = scanL (k + 1) (s.data.toList.drop (k + 1)) acc := by rw [drop_at s k hlt]; exact scanL_blank k _ _ acc hB
        have HG : Hid (scanL (k + 1) (s.data.toList.drop (k + 1)) acc = scanL 0 s.data.toList []) := h1.symm.trans HE.out
        clear h1 HE
        rcases isB_cases hB with h | ⟨h, h'⟩ | ⟨h, h', h''⟩
        all_goals
          clear hB
          go_wp2
          go_roundw
          case rel => exact ⟨k + 1, acc, by omega, by go_num, hown, hnx, by omega, HG⟩
          case measure => simp [intOf]; omega
      case false =>
      obtain ⟨K, N, hp⟩ : ∃ K N, tokL (s.data.toList.drop k) = (K, N) := ⟨_, _, rfl⟩
      have hk4 := (tokL_kind (s.data.toList.drop k)).1
      have hnl := tokL_le (s.data.toList.drop k)
      have ht := tokAt_any s k wr hs hlt
      obtain ⟨g0, g1⟩ := scan_here s k acc K N hlt hp hB
      rw [HE.out] at g0 g1
      have hpos : K ≠ 0 → 1 ≤ N := by
        have := tokL_pos s[k] (s.data.toList.drop (k + 1))
        rw [← drop_at s k hlt, hp] at this; exact this
      rw [atV, hp] at ht
      rw [hp] at hk4 hnl
      obtain ⟨n1, n2, n3⟩ := isB_not hB
      simp only [List.length_drop] at hnl hk4
      have hnl' : N ≤ s.size - k := by simpa using hnl
      clear hnl hp HE hB
      obtain ⟨T, hT⟩ : ∃ T, T = s.extract k (k + N) := ⟨_, rfl⟩
      have hTs : T.size = N := by rw [hT]; simp; omega
      have hTl : T.data.toList = (s.data.toList.drop k).take N := by rw [hT, Lib.extract_data]; congr 1; omega
      rw [← hTl] at g0 g1
      have hw := fun W => wrong_any K T W hk4
      rw [hT] at hw
      obtain ⟨E, hE⟩ : ∃ E, wrongL K T.data.toList = E := ⟨_, rfl⟩
      rw [← hT, hE] at hw
      rw [hE] at g0 g1
      rw [hT] at hw
      have HT := hide hT
      have HS := hide hTs
      have HE := hide hE
      have HP := hide hpos
      clear hE hT hTl hpos hTs
      by_cases hE0 : E = 0
      · subst hE0
        have g0' := hide (g0 rfl)
        have hN1 : 1 ≤ N := HP.out (by intro e; subst e; have := HE.out; simp [wrongL] at this)
        clear g0 g1
        go_wp2_with (first | (go_at_call 58; refine ht.mono ?_; rintro e w' ⟨rfl, hw'⟩; obtain rfl := hw'.symm; clear hw') | (go_at_call 59; refine (hw _).mono ?_; rintro e w' ⟨rfl, hw'⟩; obtain rfl := hw'.symm; clear hw') | (at_builtin; refine wpList_append_own _ rfl _ _ 40 rfl w.heap.size 63 i0 (.agg #[.int .i64 0, .int .i64 0, .string ⟨#[]⟩]) 3 32 Tryz.underlying40 hi hz0 hz1 hz2 rfl (by decide) _ _ _ rfl (hown.alloc _) ⟨wr.heap.size, 0, none⟩ 1 1 [.int .i64 (K : Nat), .int .i64 (k : Nat), .string (s.extract k (k + N))] rfl rfl ?c1 ?c2 ?c3 ?c4 ?c5 ?_))
        case c1 =>
          intro j u hj
          match j, hj with
          | 0, hj => simp at hj; subst hj; simp [Addr.add]
          | 1, hj => simp at hj; subst hj; simp [Addr.add]
          | 2, hj => simp at hj; subst hj; simp [Addr.add]
        case c2 => intro u hu; simp at hu; rcases hu with rfl | rfl | rfl <;> rfl
        case c3 => unfold maxLen; omega
        case c4 => omega
        case c5 => simp; omega
        intro v' w3 hown' hgrow _
        have hB3 : Below w.heap.size w w3 := ((hnx.alloc hsz _).grown hgrow (by simp; omega) (fun j hj => (hown.lt j hj).1))
        have R3 : w3.ownsRow w.heap.size 63 3 v' (acc ++ [(⟨(K : Nat), (k : Nat), T.data.toList⟩ : Tk)]).length (cellsT (acc ++ [⟨(K : Nat), (k : Nat), T.data.toList⟩])) := by
          rw [cellsT_snoc, List.length_append]
          have := hown'
          rw [← HT.out] at this
          exact this
        clear hown' hgrow hown hw ht
        go_wp2
        go_roundw
        case rel => exact ⟨k + N, _, by omega, by go_num, R3, hB3, by simp; omega, hide g0'.out.symm⟩
        case measure => simp [intOf]; omega
      · have hEb : ((E : Int) != 0) = true := by simp; omega
        have HG : Hid (scanL 0 s.data.toList [] = ([], k, E)) := g1 hE0
        clear g0 g1 hE0
        go_wp2_with (first | (go_at_call 58; refine ht.mono ?_; rintro e w' ⟨rfl, hw'⟩; obtain rfl := hw'.symm; clear hw') | (go_at_call 59; refine (hw _).mono ?_; rintro e w' ⟨rfl, hw'⟩; obtain rfl := hw'.symm; clear hw'))
        go_ret3
        exact ⟨.slice none 0 0, by rw [HG.out]; rfl, by rw [HG.out]; exact World.ownsRow_nil _ _ _ _, hnx⟩
    · have hd : s.data.toList.drop k = [] := List.drop_eq_nil_of_le (by simp; omega)
      have HG : Hid (scanL 0 s.data.toList [] = (acc, 0, 0)) := by rw [← HE.out, hd]; rfl
      clear hd HE
      go_wp2
      go_ret3
      exact ⟨_, by rw [HG.out]; rfl, by rw [HG.out]; exact hown, hnx⟩
theorem scanOf_any (s : ByteArray) (w : World) (hm : s.size ≤ 9223372036854775000) :
    Calls Tryz.prog 22 #[.string s] w fun e w' => ∃ v, e = .returned (.tuple #[v, .int .i64 ((scanS s.data.toList).2.1 : Nat), .int .i64 ((scanS s.data.toList).2.2 : Nat)]) ∧
      w'.ownsRow w.heap.size 63 3 v (scanS s.data.toList).1.length (cellsT (scanS s.data.toList).1) ∧ Below w.heap.size w w' := by
  have hl : s.data.toList.length = s.size := by simp
  by_cases h : 2000 < s.size
  · refine (scanOf_long s w h hm).mono ?_
    rintro e w' ⟨rfl, rfl⟩
    have : scanS s.data.toList = ([], 0, 2) := by unfold scanS; rw [if_pos (by omega)]
    rw [this]
    exact ⟨_, rfl, World.ownsRow_nil _ _ _ _, Below.refl _ _⟩
  · have : scanS s.data.toList = scanL 0 s.data.toList [] := by unfold scanS; rw [if_neg (by omega)]
    rw [this]
    exact scanOf_short s w (by omega)
theorem isTok_empty (K : Int) (t : ByteArray) (w : World) (h : t.toList.isEmpty = true) :
    Calls Tryz.prog 83 #[.int .i64 K, .string t] w fun e w' => e = .returned (.bool false) ∧ w' = w := by
  go_enter Tryz.func83, Tryz.ntmps83
  go_wp2
  go_ret
  exact ⟨rfl, rfl⟩
theorem isTok_long (K : Int) (t : ByteArray) (w : World) (h : t.toList.isEmpty = false) (hl : 2000 < t.size) (hm : t.size ≤ 9223372036854775000) :
    Calls Tryz.prog 83 #[.int .i64 K, .string t] w fun e w' => e = .returned (.bool false) ∧ w' = w := by
  go_enter Tryz.func83, Tryz.ntmps83
  go_wp2
  go_ret
  exact ⟨rfl, rfl⟩
theorem isTok_kind0 (K : Int) (t : ByteArray) (w : World) (h : t.toList.isEmpty = false) (hl : t.size ≤ 2000) (hk : (K == 0) = true) :
    Calls Tryz.prog 83 #[.int .i64 K, .string t] w fun e w' => e = .returned (.bool false) ∧ w' = w := by
  go_enter Tryz.func83, Tryz.ntmps83
  go_wp2
  go_ret
  exact ⟨rfl, rfl⟩
theorem isTok_go (K : Int) (t : ByteArray) (w : World) (h : t.toList.isEmpty = false) (h1 : 0 < t.size) (hl : t.size ≤ 2000) (hk : (K == 0) = false) (k N E : Nat) (hp : tokL t.data.toList = (k, N)) (hk4 : k ≤ 4) (hE : wrongL k t.data.toList = E) :
    Calls Tryz.prog 83 #[.int .i64 K, .string t] w fun e w' => e = .returned (.bool (((k : Int) == K) && ((N : Int) == (t.size : Int)) && ((E : Int) == 0))) ∧ w' = w := by
  have ht := tokAt_any t 0 w hl h1
  rw [atV, List.drop_zero, hp] at ht
  have hw := wrong_any k t w hk4
  rw [hE] at hw
  clear hp hE
  cases b1 : ((k : Int) == K) <;> cases b2 : ((N : Int) == (t.size : Int)) <;> cases b3 : ((E : Int) == 0)
  all_goals
    go_enter Tryz.func83, Tryz.ntmps83
    go_wp2_with (first | (go_at_call 58; refine ht.mono ?_; rintro e w' ⟨rfl, hw'⟩; obtain rfl := hw'.symm; clear hw') | (go_at_call 59; refine hw.mono ?_; rintro e w' ⟨rfl, hw'⟩; obtain rfl := hw'.symm; clear hw'))
    go_ret
    exact ⟨rfl, rfl⟩
def Rs.all {α : Type} (p : α → Prop) : Rs α → Prop
  | .ok a _ => p a
  | .bad _ => True
theorem Rs.all_then {α β : Type} {p : α → Prop} {q : β → Prop} {r : Rs α} {f : α → Nat → Rs β} (h : r.all p) (hf : ∀ a j, p a → (f a j).all q) : (r.then f).all q := by
  cases r with
  | ok a j => exact hf a j h
  | bad j => trivial
theorem Rs.all_any {α β : Type} {q : β → Prop} {r : Rs α} {f : α → Nat → Rs β} (hf : ∀ a j, (f a j).all q) : (r.then f).all q := by
  cases r with
  | ok a j => exact hf a j
  | bad j => trivial
def Sh (s : List UInt8) : Prop := s.length ≤ 22
theorem Sh.up {s : List UInt8} (h : Sh s) : s.length ≤ 140737488355328 := by unfold Sh at h; omega
section
variable {T : List Tk} (hT : ∀ x ∈ T, TokOk x)
include hT
theorem tx_sh (i : Nat) : Sh (tx T i) := by
  unfold tx
  split
  · rename_i t h; exact (hT t (List.mem_of_getElem? h)).short
  · simp [Sh]
theorem name_sh (i : Nat) : (nameP T i).all Sh := by
  unfold nameP
  split
  · exact tx_sh hT i
  · trivial
theorem column_sh (i : Nat) : (columnP T i).all fun x => Sh x.name :=
  Rs.all_then (name_sh hT i) fun _ _ h => Rs.all_any fun _ _ => h
theorem value_sh (i : Nat) : (valueP T i).all fun x => Sh x.s := by
  unfold valueP
  split
  · exact Rs.all_any fun _ _ => by simp [Rs.all, Sh]
  · split
    · have := tx_sh hT i
      simp only [Rs.all, Sh, List.length_take, List.length_drop] at this ⊢
      omega
    · refine Rs.all_any fun s j => ?_
      split
      · exact Rs.all_any fun _ _ => by simp [Rs.all, Sh]
      · split
        · simp [Rs.all, Sh]
        · split <;> simp [Rs.all, Sh, vl0]
theorem leaf_fit (i : Nat) : (leafP T i).all Fit := by
  unfold leafP
  split
  · exact .mk _ _ _ _ (by simp [vl0]) (tx_sh hT i).up (by simp) (by intro y hy; cases hy)
  · exact Rs.all_then (value_sh hT i) fun v _ h => .mk _ _ _ _ h.up (by simp) (by simp) (by intro y hy; cases hy)
theorem expr_fit (f : Nat) : ∀ i, (exprP T f i).all Fit := by
  induction f with
  | zero => exact leaf_fit hT
  | succ f ih =>
    intro i
    rw [exprP]
    split
    · exact Rs.all_then (ih _) fun a _ h => .mk _ _ _ _ (by simp [vl0]) (by simp) (by simp) (by intro y hy; rw [List.mem_singleton] at hy; rw [hy]; exact h)
    · split
      · unfold brackP
        refine Rs.all_then (ih _) fun a _ h => Rs.all_any fun b _ => ?_
        split
        · exact .mk _ _ _ _ (by simp [vl0]) (by simp) (by simp) (by intro y hy; rw [List.mem_singleton] at hy; rw [hy]; exact h)
        · exact Rs.all_any fun k _ => Rs.all_then (ih _) fun b _ h2 => Rs.all_any fun _ _ => .mk _ _ _ _ (by simp [vl0]) (by simp) (by simp) (by
            intro y hy
            rcases List.mem_cons.1 hy with e | e
            · rw [e]; exact h
            · rw [List.mem_singleton] at e; rw [e]; exact h2)
      · exact leaf_fit hT i
end
theorem listGo_all {α : Type} {p : α → Prop} {T : List Tk} {one : Nat → Rs α} (h1 : ∀ i, (one i).all p) (f : Nat) : ∀ (l : List α) (i : Nat), (∀ x ∈ l, p x) → (listGo T one f l i).all fun r => r.length ≤ l.length + f ∧ ∀ x ∈ r, p x := by
  induction f with
  | zero => intro l i h; exact ⟨Nat.le_refl _, h⟩
  | succ f ih =>
    intro l i h
    rw [listGo]
    split
    · refine Rs.all_then (h1 _) fun x j hx => ?_
      have := ih (l ++ [x]) j (fun y hy => by
        rcases List.mem_append.1 hy with e | e
        · exact h y e
        · rw [List.mem_singleton] at e; rw [e]; exact hx)
      generalize listGo T one f (l ++ [x]) j = r at *
      cases r with
      | bad => trivial
      | ok r k =>
        have h2 := this.1
        simp only [List.length_append, List.length_cons, List.length_nil] at h2
        exact ⟨by omega, this.2⟩
    · exact ⟨by omega, h⟩
theorem listP_all {α : Type} {p : α → Prop} {T : List Tk} {one : Nat → Rs α} (hn : T.length ≤ 2000) (h1 : ∀ i, (one i).all p) (i : Nat) : (listP T one i).all fun r => r.length ≤ 1000000000000000 ∧ ∀ x ∈ r, p x := by
  refine Rs.all_then (h1 i) fun x j hx => ?_
  have := listGo_all (T := T) h1 (T.length + 1) [x] j (fun y hy => by rw [List.mem_singleton] at hy; rw [hy]; exact hx)
  generalize listGo T one (T.length + 1) [x] j = r at *
  cases r with
  | bad => trivial
  | ok r k =>
    have h2 := this.1
    simp only [List.length_cons, List.length_nil] at h2
    exact ⟨by omega, this.2⟩
theorem inBr_all {α : Type} {p : α → Prop} {T : List Tk} {one : Nat → Rs α} (hn : T.length ≤ 2000) (h1 : ∀ i, (one i).all p) (i : Nat) : (inBrP T one i).all fun r => r.length ≤ 1000000000000000 ∧ ∀ x ∈ r, p x :=
  Rs.all_any fun _ _ => Rs.all_then (listP_all hn h1 _) fun _ _ h => Rs.all_any fun _ _ => h
theorem fit0 : CmFit cm0 := by
  have he : Fit (.mk 0 vl0 [] []) := .mk _ _ _ _ (by simp [vl0]) (by simp) (by simp) (by intro y hy; cases hy)
  refine ⟨?_, ?_, ?_, ?_, ?_, ?_, ?_, ?_, ?_, ?_, ?_, he, he⟩ <;> simp [cm0, vl0]
section
variable {T : List Tk} (hT : ∀ x ∈ T, TokOk x) (hn : T.length ≤ 2000)
include hT
theorem where_fit {c : Cm} (h : CmFit c) (i : Nat) : (whereP T c i).all CmFit := by
  refine Rs.all_any fun b j => ?_
  split
  · exact Rs.all_then (expr_fit hT 60 j) fun e _ he => { h with wh := he }
  · exact { h with }
theorem rename_fit {c : Cm} (h : CmFit c) (i : Nat) : (renameP T c i).all CmFit := by
  refine Rs.all_any fun b j => ?_
  split
  · exact Rs.all_then (name_sh hT j) fun o _ ho => { h with other := ho.up }
  · exact Rs.all_then (name_sh hT j) fun l _ hl => Rs.all_any fun _ _ => Rs.all_then (name_sh hT _) fun o _ ho => { h with column := hl.up, other := ho.up }
theorem drop_fit (i : Nat) : (dropP T i).all CmFit := Rs.all_any fun _ j => Rs.all_then (name_sh hT j) fun _ _ h => { fit0 with name := h.up }
theorem alter_fit (i : Nat) : (alterP T i).all CmFit := by
  refine Rs.all_any fun _ j => Rs.all_then (name_sh hT j) fun n _ h => Rs.all_any fun s j => ?_
  split
  · exact Rs.all_then (column_sh hT j) fun c _ hc => Rs.all_any fun _ j => Rs.all_then (value_sh hT j) fun v _ hv => { fit0 with name := h.up, column := hc.up, val := hv.up }
  · split
    · exact Rs.all_then (name_sh hT j) fun c _ hc => { fit0 with name := h.up, column := hc.up }
    · split
      · exact rename_fit hT (c := { cm0 with name := n }) { fit0 with name := h.up } j
      · exact Rs.all_then (column_sh hT j) fun c _ hc => { fit0 with name := h.up, column := hc.up }
theorem delete_fit (i : Nat) : (deleteP T i).all CmFit := Rs.all_any fun _ j => Rs.all_then (name_sh hT j) fun n j h => where_fit hT (c := { cm0 with kind := 11, name := n }) { fit0 with name := h.up } j
theorem update_fit (i : Nat) : (updateP T i).all CmFit :=
  Rs.all_then (name_sh hT i) fun n _ h => Rs.all_any fun _ j => Rs.all_then (name_sh hT j) fun l _ hc => Rs.all_any fun _ j => Rs.all_then (expr_fit hT 60 j) fun e j he => where_fit hT (c := { cm0 with kind := 12, name := n, column := l, expr := e }) { fit0 with name := h.up, column := hc.up, expr := he } j
theorem order_fit {c : Cm} (h : CmFit c) (i : Nat) : (orderP T c i).all CmFit := by
  refine Rs.all_any fun b j => ?_
  split
  · exact Rs.all_then (name_sh hT j) fun o _ ho => { h with order := ho.up }
  · exact h
omit hT in
theorem limit_fit {c : Cm} (h : CmFit c) (i : Nat) : (limitP T c i).all CmFit := by
  refine Rs.all_any fun b j => ?_
  split
  · exact Rs.all_any fun n _ => { h with }
  · exact h
include hn
theorem create_fit (i : Nat) : (createP T i).all CmFit := by
  refine Rs.all_any fun s j => ?_
  split
  · exact Rs.all_then (name_sh hT j) fun n j h => Rs.all_then (inBr_all hn (column_sh hT) j) fun l _ hl => { fit0 with name := h.up, cols := hl.1, colsN := fun x hx => (hl.2 x hx).up }
  · exact Rs.all_then (name_sh hT j) fun n j h => Rs.all_any fun _ j => Rs.all_then (name_sh hT j) fun o j ho => Rs.all_any fun _ j => Rs.all_then (name_sh hT j) fun c j hc => Rs.all_any fun _ j => { fit0 with name := h.up, other := ho.up, column := hc.up }
theorem insert_fit (i : Nat) : (insertP T i).all CmFit :=
  Rs.all_any fun _ j => Rs.all_then (name_sh hT j) fun _ _ h => Rs.all_any fun _ j => Rs.all_then (inBr_all hn (value_sh hT) j) fun _ _ hl => { fit0 with name := h.up, vals := hl.1, valsN := fun x hx => (hl.2 x hx).up }
theorem choose_fit (i : Nat) : (chooseP T i).all CmFit := by
  have hf : ∀ i, (fieldsP T i).all fun r => r.length ≤ 1000000000000000 ∧ ∀ x ∈ r, Sh x := by
    intro i
    refine Rs.all_any fun b j => ?_
    split
    · exact ⟨by simp, by intro x hx; cases hx⟩
    · exact listP_all hn (name_sh hT) j
  exact Rs.all_then (hf i) fun l _ hl => Rs.all_any fun _ j => Rs.all_then (name_sh hT j) fun n j h =>
    Rs.all_then (where_fit hT (c := { cm0 with kind := 13, limit := -1, fields := l, name := n }) { fit0 with name := h.up, fields := hl.1, fieldsN := fun x hx => (hl.2 x hx).up } j) fun c j hc => Rs.all_then (order_fit hT hc j) fun c j hc => limit_fit hc j
theorem command_fit (i : Nat) : (commandP T i).all CmFit := by
  refine Rs.all_any fun s j => ?_
  repeat' split
  · exact create_fit hT hn j
  · exact drop_fit hT j
  · exact alter_fit hT j
  · exact insert_fit hT hn j
  · exact delete_fit hT j
  · exact update_fit hT j
  · exact choose_fit hT hn j
  · exact { fit0 with }
  · exact { fit0 with }
  · exact { fit0 with }
theorem whole_fit {c : Cm} {j : Nat} (h : wholeP T = .ok c j) : CmFit c := by
  have : (wholeP T).all CmFit := Rs.all_then (command_fit hT hn 0) fun c j hc => by
    split
    · trivial
    · exact hc
  rw [h] at this
  exact this
end
theorem scanned_fit {s : List UInt8} {c : Cm} {j : Nat} (h : wholeP (scanS s).1 = .ok c j) : CmFit c := whole_fit (scanned_ok s) (scanS_few s) h
theorem results_whole3 (tmps : Array Value) (w : World) (rb : Nat) (cs : List Value) (x y : Value) (h2 : tmps.getD 2 undef = .pointer (some ⟨rb, 0, none⟩)) (h3 : tmps.getD 3 undef = x) (h4 : tmps.getD 4 undef = y)
    (hl : cs.length = 26) (hr : w.heap[rb]? = some (.cells cs.toArray 31)) : (results Tryz.f8 tmps).run Tryz.prog w = .ok (.tuple #[.agg cs.toArray, x, y]) w := by
  have h := run_loadVar_mid (P := Tryz.prog) w rb 0 31 cs _ (fun j v hv => by rw [Nat.zero_add, Lib.cell_of_heap hr]; simpa using hv) Tryz.underlying31 rfl (by rw [hl]; exact Tryz.size31)
  have h2' : tmps[2]?.getD undef = .pointer (some ⟨rb, 0, none⟩) := by simpa using h2
  have h3' : tmps[3]?.getD undef = x := by simpa using h3
  have h4' : tmps[4]?.getD undef = y := by simpa using h4
  simp [results, Tryz.results8, h2', h3', h4', asAddr, h]
theorem Parse_scan {w : World} (s : List UInt8) (A E : Nat) (hs : s.length ≤ 9223372036854775000) (hA : (scanS s).2.1 = A) (hE : (scanS s).2.2 = E) (hz : E ≠ 0) :
    Calls Tryz.prog 8 #[.string ⟨s.toArray⟩] w fun e w' => e = .returned (.tuple #[.agg cmZ.toArray, .int .i64 (A : Nat), .int .i64 (E : Nat)]) ∧ Below w.heap.size w w' := by
  have hsc : ∀ W : World, Calls Tryz.prog 15 #[.string ⟨s.toArray⟩] W fun e w' => ∃ v, e = .returned (.tuple #[v, .int .i64 (A : Nat), .int .i64 (E : Nat)]) ∧ Below W.heap.size W w' := by
    intro W
    refine (scan_any ⟨s.toArray⟩ W (by rw [size_mk]; exact hs)).mono ?_
    rintro e w' ⟨v, rfl, -, hb⟩
    refine ⟨v, ?_, hb⟩
    show Ending.returned (.tuple #[v, .int .i64 ((scanS s).2.1 : Nat), .int .i64 ((scanS s).2.2 : Nat)]) = _
    rw [hA, hE]
  have hd : ¬ ((E : Int) = 0) := by omega
  clear hA hE hs
  go_enter Tryz.func8, Tryz.ntmps8
  go_wp2_with (first | (refine wpList_alloc_blk 2 31 cmZ rfl rfl rfl Tryz.alloc31 ?_; intro W0 rb hrb k0 b0) | (refine (hsc _).mono ?_; rintro e w1 ⟨v, rfl, b1⟩; have k1 := (b1.block rb (ltS k0)).trans k0) | (refine wpList_store_whole 31 _ _ rfl rfl _ cmZ cmZ 31 rfl rfl (by exact k1) rfl Tryz.size31 (by exact (cmIn0 0 w1 cm0 rfl rfl rfl rfl rfl).one) ?_; intro w3 k3 p3))
  have hr := hrb.out
  have B3 : Below w.heap.size w w3 := by
    rw [p3.out]
    exact (b0.trans (b1.mono b0.size)).trans ⟨(putAll_misc rb _ w1 0).1, (putAll_misc rb _ w1 0).2.1, (putAll_misc rb _ w1 0).2.2, Nat.le_of_eq (putAll_size rb _ w1 0).symm, fun k hk => putAll_other rb _ w1 0 k (by have := b0.size; omega)⟩
  exact bodyPost_ret (results_whole3 _ _ rb cmZ _ _ rfl rfl rfl rfl k3) rfl ⟨rfl, B3⟩
theorem Parse_bad {w : World} (s : List UInt8) (j : Nat) (hs : s.length ≤ 9223372036854775000) (hl : Laid w) (hE : (scanS s).2.2 = 0) (hw : wholeP (scanS s).1 = .bad j) :
    Calls Tryz.prog 8 #[.string ⟨s.toArray⟩] w fun e w' => e = .returned (.tuple #[.agg cmZ.toArray, .int .i64 (pl (scanS s).1 (s.length : Nat) j), .int .i64 1]) ∧ Below w.heap.size w w' := by
  have hsc : ∀ W : World, Calls Tryz.prog 15 #[.string ⟨s.toArray⟩] W fun e w' => ∃ v A, e = .returned (.tuple #[v, .int .i64 A, .int .i64 0]) ∧ Hid (Tks w' W.heap.size v (scanS s).1) ∧ Below W.heap.size W w' := by
    intro W
    refine (scan_any ⟨s.toArray⟩ W (by rw [size_mk]; exact hs)).mono ?_
    rintro e w' ⟨v, rfl, ho, hb⟩
    refine ⟨v, ((scanS s).2.1 : Nat), ?_, tks_scanned ho, hb⟩
    show Ending.returned (.tuple #[v, .int .i64 ((scanS s).2.1 : Nat), .int .i64 ((scanS s).2.2 : Nat)]) = _
    rw [hE]; rfl
  have hpa : ∀ (W : World) (base : Nat) (v : Value), Tks W base v (scanS s).1 → Laid W → Calls Tryz.prog 21 #[v, .int .i64 ((s.length : Nat) : Int)] W fun e w' => e = .returned (.tuple #[.agg cmZ.toArray, .int .i64 (pl (scanS s).1 (s.length : Nat) j), .int .i64 1]) ∧ Below W.heap.size W w' := by
    intro W base v ht hL
    exact (parse_any ht hL _).mono fun e w' h => ⟨h.bad j hw, h.below⟩
  have hz : (⟨s.toArray⟩ : ByteArray).size = s.length := size_mk s
  generalize pl (scanS s).1 (s.length : Nat) j = P at *
  clear hw hE hs
  go_enter Tryz.func8, Tryz.ntmps8
  go_wp2_with (first | (refine wpList_alloc_blk 2 31 cmZ rfl rfl rfl Tryz.alloc31 ?_; intro W0 rb hrb k0 b0) | (refine (hsc _).mono ?_; rintro e w1 ⟨v, A, rfl, ht, b1⟩; have k1 := (b1.block rb (ltS k0)).trans k0) | (refine (hpa _ _ _ ht.out ((hl.below b0).below b1)).mono ?_; rintro e w2 ⟨rfl, b2⟩; have k2 := (b2.block rb (ltS k1)).trans k1) | (refine wpList_alloc_blk 8 31 cmZ rfl rfl rfl Tryz.alloc31 ?_; intro w4 cb hcb k4 b4; have k5 := (b4.block rb (ltS k2)).trans k2) | (refine wpList_store_whole 31 _ _ rfl rfl cb cmZ cmZ 31 rfl rfl (by exact k4) rfl Tryz.size31 (by exact (cmIn0 0 w4 cm0 rfl rfl rfl rfl rfl).one) ?_; intro w6 k6 p6; have k7 : w6.heap[rb]? = some (.cells cmZ.toArray 31) := (by rw [p6.out]; exact (putAll_other cb _ w4 0 rb (by have := hcb.out; have := (ltS k2); omega)).trans k5)) | (refine wpList_store_whole 31 _ _ rfl rfl rb cmZ cmZ 31 rfl rfl (by exact k7) rfl Tryz.size31 (by exact (cmIn0 0 w6 cm0 rfl rfl rfl rfl rfl).one) ?_; intro w3 k3 p3))
  have hr := hrb.out
  have hc := hcb.out
  have B4 : Below w.heap.size w w4 := ((b0.trans (b1.mono b0.size)).trans (b2.mono (Nat.le_trans b0.size b1.size))).trans (b4.mono (Nat.le_trans (Nat.le_trans b0.size b1.size) b2.size))
  have B6 : Below w.heap.size w w6 := by
    rw [p6.out]
    exact B4.trans ⟨(putAll_misc cb _ w4 0).1, (putAll_misc cb _ w4 0).2.1, (putAll_misc cb _ w4 0).2.2, Nat.le_of_eq (putAll_size cb _ w4 0).symm, fun k hk => putAll_other cb _ w4 0 k (by have := b0.size; have := b1.size; have := b2.size; omega)⟩
  have B3 : Below w.heap.size w w3 := by
    rw [p3.out]
    exact B6.trans ⟨(putAll_misc rb _ w6 0).1, (putAll_misc rb _ w6 0).2.1, (putAll_misc rb _ w6 0).2.2, Nat.le_of_eq (putAll_size rb _ w6 0).symm, fun k hk => putAll_other rb _ w6 0 k (by omega)⟩
  exact bodyPost_ret (results_whole3 _ _ rb cmZ _ _ rfl rfl rfl rfl k3) rfl ⟨rfl, B3⟩
end Go.Proofs.YtkpeklealgicpabGreatDoor
