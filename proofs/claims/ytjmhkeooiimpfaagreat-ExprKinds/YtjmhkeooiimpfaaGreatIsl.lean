/-
  Out of my texts Pur Here Ex List Cm Law None Isy Are Isw Long Longa Many Rit Chc: what is wanted here.
-/
import Derived.Test.YtjmhkeooiimpfaaGreatDead
import Derived.Laws.AppendOwnNone
import Derived.Deep.RegionHeld3
import Derived.Deep.MidRow
namespace Go.Proofs.YtjmhkeooiimpfaaGreat
open Go.RowKit

structure Vl where
  k : Int
  n : Int
  s : List UInt8
deriving DecidableEq

inductive Ex where
  | mk (k : Int) (v : Vl) (name : List UInt8) (args : List Ex)

structure Cl where
  name : List UInt8
  ty : Int

structure Cm where
  kind : Int
  name : List UInt8
  other : List UInt8
  column : List UInt8
  cols : List Cl
  ty : Int
  val : Vl
  vals : List Vl
  fields : List (List UInt8)
  expr : Ex
  all : Bool
  wh : Ex
  order : List UInt8
  limit : Int

/-- what is read of an owned row -/
theorem owned_at {w : World} {base : Nat} {e : TypeId} {size : Nat} {g n cap : Nat} {xs : List Value} (h : w.ownsRow base e size (.slice (some ⟨g, 0, none⟩) n cap) n xs) (j : Nat) (x : Value) (hx : xs[j]? = some x) :
    w.cell? ⟨g, j, none⟩ = some x := by
  have hj := (List.getElem?_eq_some_iff.1 hx).1
  exact (h.cellAt j (by rw [← h.1]; exact hj)).trans hx

/-- an expression's value: its Args are a slice -/
def exV (k : Int) (x : Vl) (nm : List UInt8) (a : Value) : Value := .agg #[.int .i64 k, .int .i64 x.k, .int .i64 x.n, .string ⟨x.s.toArray⟩, .string ⟨nm.toArray⟩, a]

/-- such a value spread over six cells -/
def Six (w : World) (b o : Nat) (u : Value) : Prop :=
  ∃ k x nm a, u = exV k x nm a ∧ w.cell? ⟨b, o, none⟩ = some (.int .i64 k) ∧ w.cell? ⟨b, o + 1, none⟩ = some (.int .i64 x.k) ∧ w.cell? ⟨b, o + 2, none⟩ = some (.int .i64 x.n) ∧
    w.cell? ⟨b, o + 3, none⟩ = some (.string ⟨x.s.toArray⟩) ∧ w.cell? ⟨b, o + 4, none⟩ = some (.string ⟨nm.toArray⟩) ∧ w.cell? ⟨b, o + 5, none⟩ = some a

/-- an expression in memory, all its Args in blocks from B on -/
inductive ExAt (B : Nat) (w : World) : Value → Ex → Prop where
  | nil (k : Int) (x : Vl) (nm : List UInt8) (ao : Option Addr) (cap : Nat) (hz : ao = none → cap = 0) : ExAt B w (exV k x nm (.slice ao 0 cap)) (.mk k x nm [])
  | args (k : Int) (x : Vl) (nm : List UInt8) (b off cap : Nat) (xs : List Ex) (us : Nat → Value) (hx : xs ≠ []) (hB : B ≤ b) (hs : b < w.heap.size) (hc : ∀ i, i < xs.length → Six w b (off + 6 * i) (us i))
      (h : ∀ i y, xs[i]? = some y → ExAt B w (us i) y) : ExAt B w (exV k x nm (.slice (some ⟨b, off, none⟩) xs.length cap)) (.mk k x nm xs)

theorem Six.keep {w w' : World} {b o : Nat} {u : Value} (h : Six w b o u) (hk : w'.heap[b]? = w.heap[b]?) : Six w' b o u := by
  obtain ⟨k, x, nm, a, rfl, h0, h1, h2, h3, h4, h5⟩ := h
  have e : ∀ o, w'.cell? ⟨b, o, none⟩ = w.cell? ⟨b, o, none⟩ := fun o => World.cell?_of_block (w := w) hk
  exact ⟨k, x, nm, a, rfl, (e _).trans h0, (e _).trans h1, (e _).trans h2, (e _).trans h3, (e _).trans h4, (e _).trans h5⟩

theorem ExAt.keep {B : Nat} {w w' : World} {u : Value} {x : Ex} (h : ExAt B w u x) (hs : w.heap.size ≤ w'.heap.size) (hk : ∀ b, B ≤ b → b < w.heap.size → w'.heap[b]? = w.heap[b]?) : ExAt B w' u x := by
  induction h with
  | nil k x nm ao cap hz => exact .nil k x nm ao cap hz
  | args k x nm b off cap xs us hx hB hsz hc _ ih =>
    exact .args k x nm b off cap xs us hx hB (Nat.lt_of_lt_of_le hsz hs) (fun i hi => (hc i hi).keep (hk b hB hsz)) ih

theorem ExAt.alloc {B : Nat} {w : World} {u : Value} {x : Ex} (h : ExAt B w u x) (o : Obj) : ExAt B (w.alloc o) u x :=
  h.keep (by simp) fun b _ hs => ((Below.refl w.heap.size w).alloc (Nat.le_refl _) o).block b hs

theorem ExAt.under {B : Nat} {w w' : World} {u : Value} {x : Ex} (h : ExAt B w u x) (hb : Below w.heap.size w w') : ExAt B w' u x :=
  h.keep hb.size fun b _ hs => hb.block b hs

theorem ExAt.form {B : Nat} {w : World} {u : Value} {x : Ex} (h : ExAt B w u x) : ∃ k y nm ao n cap, u = exV k y nm (.slice ao n cap) := by
  cases h with
  | nil k x nm ao cap _ => exact ⟨_, _, _, _, _, _, rfl⟩
  | args k x nm b off cap xs us => exact ⟨_, _, _, _, _, _, rfl⟩

/-- a slice in memory, of so many elements, with such cells, in a block from B on -/
def RowAt (B : Nat) (w : World) (u : Value) (n : Nat) (xs : List Value) : Prop :=
  (n = 0 ∧ ∃ ao cap, u = .slice ao 0 cap) ∨ ∃ b off cap, u = .slice (some ⟨b, off, none⟩) n cap ∧ B ≤ b ∧ b < w.heap.size ∧ ∀ j x, xs[j]? = some x → w.cell? ⟨b, off + j, none⟩ = some x

theorem RowAt.keep {B : Nat} {w w' : World} {u : Value} {n : Nat} {xs : List Value} (h : RowAt B w u n xs) (hs : w.heap.size ≤ w'.heap.size) (hk : ∀ b, B ≤ b → b < w.heap.size → w'.heap[b]? = w.heap[b]?) : RowAt B w' u n xs := by
  rcases h with h | ⟨b, off, cap, hu, hB, hl, hc⟩
  · exact .inl h
  · exact .inr ⟨b, off, cap, hu, hB, Nat.lt_of_lt_of_le hl hs, fun j x hj => (World.cell?_of_block (w := w) (hk b hB hl)).trans (hc j x hj)⟩

theorem RowAt.alloc {B : Nat} {w : World} {u : Value} {n : Nat} {xs : List Value} (h : RowAt B w u n xs) (o : Obj) : RowAt B (w.alloc o) u n xs :=
  h.keep (by simp) fun b _ hs => ((Below.refl w.heap.size w).alloc (Nat.le_refl _) o).block b hs

theorem RowAt.under {B : Nat} {w w' : World} {u : Value} {n : Nat} {xs : List Value} (h : RowAt B w u n xs) (hb : Below w.heap.size w w') : RowAt B w' u n xs :=
  h.keep hb.size fun b _ hs => hb.block b hs

theorem RowAt.form {B : Nat} {w : World} {u : Value} {n : Nat} {xs : List Value} (h : RowAt B w u n xs) : ∃ ao cap, u = .slice ao n cap := by
  rcases h with ⟨rfl, ao, cap, rfl⟩ | ⟨b, off, cap, rfl, -⟩
  · exact ⟨_, _, rfl⟩
  · exact ⟨_, _, rfl⟩

def clC (c : Cl) : List Value := [.string ⟨c.name.toArray⟩, .int .i64 c.ty]

def vlC (x : Vl) : List Value := [.int .i64 x.k, .int .i64 x.n, .string ⟨x.s.toArray⟩]

def stC (s : List UInt8) : List Value := [.string ⟨s.toArray⟩]

theorem owns_new (w : World) (B : Nat) (e : TypeId) (size : Nat) (cs : Array Value) (hs : cs.size = size) (hB : B ≤ w.heap.size) : (w.alloc (.cells cs e)).ownsRow B e size (.slice (some ⟨w.heap.size, 0, none⟩) 1 1) 1 cs.toList := by
  refine ⟨by simp [hs], .inr ⟨w.heap.size, 1, cs, rfl, hB, heap_alloc_new _ _, Nat.le_refl _, by decide, by omega, ?_⟩⟩
  rw [List.take_of_length_le]
  simp [hs]

def Ex.k : Ex → Int | .mk k _ _ _ => k

def Ex.v : Ex → Vl | .mk _ v _ _ => v

def Ex.nm : Ex → List UInt8 | .mk _ _ n _ => n

/-- a command's cells; cv, vv, fv: its lists; ea, wa: the Args of its two expressions -/
def cmL (c : Cm) (cv vv fv ea wa : Value) : List Value :=
  [.int .i64 c.kind, .string ⟨c.name.toArray⟩, .string ⟨c.other.toArray⟩, .string ⟨c.column.toArray⟩, cv, .int .i64 c.ty, .int .i64 c.val.k, .int .i64 c.val.n, .string ⟨c.val.s.toArray⟩, vv, fv,
   .int .i64 c.expr.k, .int .i64 c.expr.v.k, .int .i64 c.expr.v.n, .string ⟨c.expr.v.s.toArray⟩, .string ⟨c.expr.nm.toArray⟩, ea, .bool c.all,
   .int .i64 c.wh.k, .int .i64 c.wh.v.k, .int .i64 c.wh.v.n, .string ⟨c.wh.v.s.toArray⟩, .string ⟨c.wh.nm.toArray⟩, wa, .string ⟨c.order.toArray⟩, .int .i64 c.limit]

structure CmIn (B : Nat) (w : World) (c : Cm) (cv vv fv ea wa : Value) : Prop where
  cols : RowAt B w cv c.cols.length (c.cols.flatMap clC)
  vals : RowAt B w vv c.vals.length (c.vals.flatMap vlC)
  fields : RowAt B w fv c.fields.length (c.fields.flatMap stC)
  expr : ExAt B w (exV c.expr.k c.expr.v c.expr.nm ea) c.expr
  wh : ExAt B w (exV c.wh.k c.wh.v c.wh.nm wa) c.wh

theorem CmIn.keep {B : Nat} {w w' : World} {c : Cm} {cv vv fv ea wa : Value} (h : CmIn B w c cv vv fv ea wa) (hs : w.heap.size ≤ w'.heap.size) (hk : ∀ b, B ≤ b → b < w.heap.size → w'.heap[b]? = w.heap[b]?) : CmIn B w' c cv vv fv ea wa :=
  ⟨h.cols.keep hs hk, h.vals.keep hs hk, h.fields.keep hs hk, h.expr.keep hs hk, h.wh.keep hs hk⟩

theorem CmIn.alloc {B : Nat} {w : World} {c : Cm} {cv vv fv ea wa : Value} (h : CmIn B w c cv vv fv ea wa) (o : Obj) : CmIn B (w.alloc o) c cv vv fv ea wa :=
  h.keep (by simp) fun b _ hs => ((Below.refl w.heap.size w).alloc (Nat.le_refl _) o).block b hs

theorem CmIn.under {B : Nat} {w w' : World} {c : Cm} {cv vv fv ea wa : Value} (h : CmIn B w c cv vv fv ea wa) (hb : Below w.heap.size w w') : CmIn B w' c cv vv fv ea wa :=
  h.keep hb.size fun b _ hs => hb.block b hs

section
variable {P : Program} {ops : Array Oper} {rest : List Oper} {op : Oper} {a : Act} {w : World} {Q : Exit → Act → World → Prop}
/-- a whole block, as a struct -/
theorem wpList_load_whole (ty : TypeId) (x : Operand) (hgd : op.guard = none) (ho : op.op = .load ty x) (b : Nat) (cs : List Value) (t : TypeId) (d : TypeDesc)
    (hx : a.eval x = .pointer (some ⟨b, 0, none⟩)) (hb : w.heap[b]? = some (.cells cs.toArray t)) (hu : P.underlying ty = some d) (hd : d.isRow = true) (hi : (P.info? ty).map (·.size) = some cs.length)
    (h : wpList P ops Q rest (a.put op.dst (.agg cs.toArray)) w) : wpList P ops Q (op :: rest) a w :=
  wpList_load_mid hgd ty x ho b 0 hx cs d (fun j v hv => by rw [Nat.zero_add, Lib.cell_of_heap hb]; simpa using hv) hu hd hi h
end

theorem Tryz.size58 : (Tryz.prog.info? 58).map (·.size) = some 26 := by kernel_rfl

theorem RowAt.one {B : Nat} {w : World} {u : Value} {n : Nat} {xs : List Value} (h : RowAt B w u n xs) : u.oneCell' = true := by
  obtain ⟨ao, cap, rfl⟩ := h.form; rfl

theorem ExAt.one {B : Nat} {w : World} {k : Int} {x : Vl} {nm : List UInt8} {a : Value} {y : Ex} (h : ExAt B w (exV k x nm a) y) : a.oneCell' = true := by
  obtain ⟨k', x', nm', ao, n, cap, e⟩ := h.form
  simp only [exV, Value.agg.injEq, Array.mk.injEq, List.cons.injEq] at e
  rw [e.2.2.2.2.2.1]; rfl

theorem ExAt.parts {B : Nat} {w : World} {k : Int} {x : Vl} {nm : List UInt8} {a : Value} {y : Ex} (h : ExAt B w (exV k x nm a) y) : k = y.k ∧ x = y.v ∧ nm = y.nm := by
  have go : ∀ (u : Value), ExAt B w u y → u = exV k x nm a → k = y.k ∧ x = y.v ∧ nm = y.nm := by
    intro u hu e
    cases hu with
    | nil k' x' nm' ao cap _ =>
      obtain ⟨xk, xn, xs⟩ := x
      obtain ⟨xk', xn', xs'⟩ := x'
      simp only [exV, Value.agg.injEq, Array.mk.injEq, List.cons.injEq, Value.int.injEq, Value.string.injEq, ByteArray.mk.injEq, true_and] at e
      simp [Ex.k, Ex.v, Ex.nm, ← e.1, ← e.2.1, ← e.2.2.1, ← e.2.2.2.1, ← e.2.2.2.2.1]
    | args k' x' nm' b off cap xs' us =>
      obtain ⟨xk, xn, xs⟩ := x
      obtain ⟨xk', xn', xs''⟩ := x'
      simp only [exV, Value.agg.injEq, Array.mk.injEq, List.cons.injEq, Value.int.injEq, Value.string.injEq, ByteArray.mk.injEq, true_and] at e
      simp [Ex.k, Ex.v, Ex.nm, ← e.1, ← e.2.1, ← e.2.2.1, ← e.2.2.2.1, ← e.2.2.2.2.1]
  exact go _ h rfl

theorem CmIn.one {B : Nat} {w : World} {c : Cm} {cv vv fv ea wa : Value} (h : CmIn B w c cv vv fv ea wa) : ∀ v ∈ cmL c cv vv fv ea wa, v.oneCell' = true := by
  have h1 := h.cols.one
  have h2 := h.vals.one
  have h3 := h.fields.one
  have h4 := h.expr.one
  have h5 := h.wh.one
  intro v hv
  simp only [cmL, List.mem_cons, List.not_mem_nil, or_false] at hv
  rcases hv with rfl | rfl | rfl | rfl | rfl | rfl | rfl | rfl | rfl | rfl | rfl | rfl | rfl | rfl | rfl | rfl | rfl | rfl | rfl | rfl | rfl | rfl | rfl | rfl | rfl | rfl <;> first | rfl | assumption

def Ex.args : Ex → List Ex | .mk _ _ _ a => a

/-- what a machine's reach lets an expression hold -/
inductive Fit : Ex → Prop where
  | mk (k : Int) (v : Vl) (nm : List UInt8) (args : List Ex) (hv : v.s.length ≤ 140737488355328) (hn : nm.length ≤ 140737488355328) (ha : args.length * 80 ≤ 140737488351232) (h : ∀ y ∈ args, Fit y) : Fit (.mk k v nm args)

theorem flat_get {α : Type} (cf : α → List Value) (sz : Nat) (hsz : ∀ x, (cf x).length = sz) : ∀ (l : List α) (k : Nat) (x : α), l[k]? = some x → ∀ q, q < sz → (l.flatMap cf)[k * sz + q]? = (cf x)[q]? := by
  intro l
  induction l with
  | nil => intro k x h; simp at h
  | cons y r ih =>
    intro k x h q hq
    rw [List.flatMap_cons]
    cases k with
    | zero =>
      simp only [List.getElem?_cons_zero, Option.some.injEq] at h
      subst h
      rw [Nat.zero_mul, Nat.zero_add, List.getElem?_append_left (by rw [hsz]; exact hq)]
    | succ k =>
      have e : (k + 1) * sz + q = (cf y).length + (k * sz + q) := by rw [hsz, Nat.succ_mul]; omega
      rw [e, List.getElem?_append_right (by omega), Nat.add_sub_cancel_left]
      exact ih k x (by simpa using h) q hq

theorem ExAt.len {B : Nat} {w : World} {u : Value} {x : Ex} (h : ExAt B w u x) : ∃ ao ca, u = exV x.k x.v x.nm (.slice ao x.args.length ca) := by
  cases h with
  | nil k v nm ao cap _ => exact ⟨_, _, rfl⟩
  | args k v nm b off cap xs us => exact ⟨_, _, rfl⟩

set_option maxRecDepth 100000 in
set_option maxHeartbeats 800000 in
theorem namedBy_out (w : World) (k : Int) (h : ¬ (1 ≤ k ∧ k ≤ 16)) : Calls Tryz.prog 51 #[.int .i64 k] w fun e w' => e = .returned (.tuple #[.int .i64 0, .bool false]) ∧ w' = w := by
  have q : ∀ j : Int, 1 ≤ j → j ≤ 16 → (k == j) = false := fun j h1 h2 => by rw [beq_eq_false_iff_ne]; omega
  have a1 := q 1 (by decide) (by decide)
  have a2 := q 2 (by decide) (by decide)
  have a3 := q 3 (by decide) (by decide)
  have a4 := q 4 (by decide) (by decide)
  have a5 := q 5 (by decide) (by decide)
  have a6 := q 6 (by decide) (by decide)
  have a7 := q 7 (by decide) (by decide)
  have a8 := q 8 (by decide) (by decide)
  have a9 := q 9 (by decide) (by decide)
  have a10 := q 10 (by decide) (by decide)
  have a11 := q 11 (by decide) (by decide)
  have a12 := q 12 (by decide) (by decide)
  have a13 := q 13 (by decide) (by decide)
  have a14 := q 14 (by decide) (by decide)
  have a15 := q 15 (by decide) (by decide)
  have a16 := q 16 (by decide) (by decide)
  clear q h
  go_enter Tryz.func51, Tryz.ntmps51
  go_wp2
  go_ret2
  exact ⟨rfl, rfl⟩

mutual
/-- how many parts -/
def sizeE : Ex → Nat
  | .mk _ _ _ args => sizeL args + 1
def sizeL : List Ex → Nat
  | [] => 0
  | x :: xs => sizeE x + sizeL xs
end


theorem sizeL_append (a b : List Ex) : sizeL (a ++ b) = sizeL a + sizeL b := by
  induction a with
  | nil => rw [List.nil_append, sizeL, Nat.zero_add]
  | cons x r ih => rw [List.cons_append, sizeL, sizeL, ih]; omega

theorem sizeE_pos (x : Ex) : 1 ≤ sizeE x := by
  cases x; rw [sizeE]; omega

theorem sizeL_len (l : List Ex) : l.length ≤ sizeL l := by
  induction l with
  | nil => rw [sizeL]; exact Nat.le_refl _
  | cons x r ih => rw [sizeL, List.length_cons]; have := sizeE_pos x; omega

theorem sizeE_args (x : Ex) : sizeE x = sizeL x.args + 1 := by cases x; rw [sizeE]; rfl

/-- an expression with the slice of its Args, as six cells -/
def exC (p : Ex × Value) : List Value := [.int .i64 p.1.k, .int .i64 p.1.v.k, .int .i64 p.1.v.n, .string ⟨p.1.v.s.toArray⟩, .string ⟨p.1.nm.toArray⟩, p.2]

theorem flatC_len (l : List (Ex × Value)) : (l.flatMap exC).length = l.length * 6 := by
  induction l with
  | nil => rfl
  | cons x r ih => rw [List.flatMap_cons, List.length_append, ih, List.length_cons]; simp only [exC, List.length_cons, List.length_nil]; omega

/-- what an expression's Args are in memory, as a list of pairs -/
theorem ExAt.pairs {B : Nat} {w : World} {x : Ex} {a : Value} (h : ExAt B w (exV x.k x.v x.nm a) x) :
    ∃ (ao : Option Addr) (ca : Nat) (ps : List (Ex × Value)), a = .slice ao x.args.length ca ∧ ps.map (·.1) = x.args ∧ (∀ p ∈ ps, ExAt B w (exV p.1.k p.1.v p.1.nm p.2) p.1) ∧ (x.args = [] → ao = none → ca = 0) ∧
      (x.args ≠ [] → ∃ b off, ao = some ⟨b, off, none⟩ ∧ b < w.heap.size ∧ ∀ j u, (ps.flatMap exC)[j]? = some u → w.cell? ⟨b, off + j, none⟩ = some u) := by
  have go : ∀ u, ExAt B w u x → u = exV x.k x.v x.nm a → ∃ (ao : Option Addr) (ca : Nat) (ps : List (Ex × Value)), a = .slice ao x.args.length ca ∧ ps.map (·.1) = x.args ∧ (∀ p ∈ ps, ExAt B w (exV p.1.k p.1.v p.1.nm p.2) p.1) ∧ (x.args = [] → ao = none → ca = 0) ∧
      (x.args ≠ [] → ∃ b off, ao = some ⟨b, off, none⟩ ∧ b < w.heap.size ∧ ∀ j u, (ps.flatMap exC)[j]? = some u → w.cell? ⟨b, off + j, none⟩ = some u) := by
    intro u hu e
    cases hu with
    | nil k v nm ao cap hz =>
      simp only [exV, Value.agg.injEq, Array.mk.injEq, List.cons.injEq, and_true] at e
      exact ⟨ao, cap, [], e.2.2.2.2.2.symm, rfl, (by intro p hp; cases hp), fun _ => hz, fun hh => absurd rfl hh⟩
    | args k v nm b off cap xs us hx hB hs hc hh =>
      simp only [exV, Value.agg.injEq, Array.mk.injEq, List.cons.injEq, and_true] at e
      have hform : ∀ i : Nat, ∃ s : Value, ∀ y, xs[i]? = some y → us i = exV y.k y.v y.nm s := by
        intro i
        cases hi : xs[i]? with
        | none => exact ⟨undef, fun y hy => by cases hy⟩
        | some z =>
          obtain ⟨k', v', nm', ao, n, ca, e⟩ := (hh i z hi).form
          have hp := ExAt.parts (e ▸ hh i z hi)
          refine ⟨.slice ao n ca, fun y hy => ?_⟩
          cases hy
          rw [e, hp.1, hp.2.1, hp.2.2]
      have hf := fun i => Classical.choose_spec (hform i)
      generalize hS : (fun i => Classical.choose (hform i)) = S at hf
      have hf' : ∀ i y, xs[i]? = some y → us i = exV y.k y.v y.nm (S i) := fun i y hy => by have := hf i y hy; rw [← hS]; exact this
      let ps : List (Ex × Value) := xs.mapIdx fun i y => (y, S i)
      have hget : ∀ i : Nat, ps[i]? = (xs[i]?).map fun y => (y, S i) := fun i => List.getElem?_mapIdx
      refine ⟨some ⟨b, off, none⟩, cap, ps, e.2.2.2.2.2.symm, ?_, ?_, (fun _ hh => by cases hh), fun _ => ⟨b, off, rfl, hs, ?_⟩⟩
      · apply List.ext_getElem?
        intro i
        rw [List.getElem?_map, hget, Option.map_map]
        show Option.map _ xs[i]? = xs[i]?
        cases xs[i]? <;> rfl
      · intro p hp
        obtain ⟨i, hi⟩ := List.mem_iff_getElem?.1 hp
        rw [hget] at hi
        obtain ⟨y, hy, rfl⟩ := Option.map_eq_some_iff.1 hi
        have := hh i y hy
        rw [hf' i y hy] at this
        exact this
      · intro j u hj
        have hjl := (List.getElem?_eq_some_iff.1 hj).1
        rw [flatC_len] at hjl
        have hq : j % 6 < 6 := Nat.mod_lt _ (by decide)
        have hjk : j = (j / 6) * 6 + j % 6 := by omega
        have hk : j / 6 < ps.length := by omega
        have hx' : ps[j / 6]? = some ps[j / 6] := List.getElem?_eq_getElem hk
        have hfg := flat_get exC 6 (fun _ => rfl) ps (j / 6) _ hx' (j % 6) hq
        rw [← hjk] at hfg
        rw [hfg] at hj
        rw [hget] at hx'
        obtain ⟨y, hy, hyp⟩ := Option.map_eq_some_iff.1 hx'
        rw [← hyp] at hj
        obtain ⟨k', v', nm', a', e', c0, c1, c2, c3, c4, c5⟩ := hc (j / 6) (List.getElem?_eq_some_iff.1 hy).1
        have e2 := e'.symm.trans (hf' (j / 6) y hy)
        simp only [exV, Value.agg.injEq, Array.mk.injEq, List.cons.injEq, and_true] at e2
        obtain ⟨r0, r1, r2, r3, r4, r5⟩ := e2
        have hoff : off + j = off + 6 * (j / 6) + j % 6 := by omega
        rw [hoff]
        generalize j % 6 = q at hj hq
        match q, hq, hj with
        | 0, _, hj => exact c0.trans ((congrArg some r0).trans hj)
        | 1, _, hj => exact c1.trans ((congrArg some r1).trans hj)
        | 2, _, hj => exact c2.trans ((congrArg some r2).trans hj)
        | 3, _, hj => exact c3.trans ((congrArg some r3).trans hj)
        | 4, _, hj => exact c4.trans ((congrArg some r4).trans hj)
        | 5, _, hj => exact c5.trans ((congrArg some r5).trans hj)
  exact go _ h rfl

theorem Tryz.info_ex : (Tryz.prog.info? 28).map (fun i => (i.zero, i.size, i.bytes)) = some (some (.agg #[.int .i64 0, .int .i64 0, .int .i64 0, .string ⟨#[]⟩, .string ⟨#[]⟩, .slice none 0 0]), 6, 80) := by kernel_rfl

theorem Fit.args {x : Ex} (h : Fit x) : x.args.length * 80 ≤ 140737488351232 ∧ ∀ y ∈ x.args, Fit y := by
  cases h with
  | mk k v nm args hv hn ha hh => exact ⟨ha, hh⟩

set_option maxRecDepth 100000 in
set_option maxHeartbeats 2000000 in
theorem isLong_any {w : World} {u : Value} {x : Ex} (h : ExAt 0 w u x) (hf : Fit x) :
    Calls Tryz.prog 50 #[u] w fun e w' => e = .returned (.bool (decide (15 < sizeE x))) ∧ Below w.heap.size w w' := by
  obtain ⟨i0, hi, hz0, hz1, hz2⟩ := info_parts Tryz.info_ex
  obtain ⟨ao, ca, rfl⟩ := h.len
  have hx0 : ExAt 0 w (exV x.k x.v x.nm (.slice ao x.args.length ca)) x := h
  rw [exV]
  have b0 := (Below.refl w.heap.size w).alloc (Nat.le_refl _) (.cells #[.int .i64 x.k, .int .i64 x.v.k, .int .i64 x.v.n, .string ⟨x.v.s.toArray⟩, .string ⟨x.nm.toArray⟩, .slice ao x.args.length ca] 28)
  have b1 := b0.alloc (by simp) (.cells #[.int .i64 x.k, .int .i64 x.v.k, .int .i64 x.v.n, .string ⟨x.v.s.toArray⟩, .string ⟨x.nm.toArray⟩, .slice ao x.args.length ca] 28)
  have ow := owns_new (w.alloc (.cells #[.int .i64 x.k, .int .i64 x.v.k, .int .i64 x.v.n, .string ⟨x.v.s.toArray⟩, .string ⟨x.nm.toArray⟩, .slice ao x.args.length ca] 28)) w.heap.size 28 6 #[.int .i64 x.k, .int .i64 x.v.k, .int .i64 x.v.n, .string ⟨x.v.s.toArray⟩, .string ⟨x.nm.toArray⟩, .slice ao x.args.length ca] rfl (by simp)
  have hpl : (w.alloc (.cells #[.int .i64 x.k, .int .i64 x.v.k, .int .i64 x.v.n, .string ⟨x.v.s.toArray⟩, .string ⟨x.nm.toArray⟩, .slice ao x.args.length ca] 28)).heap.size = w.heap.size + 1 := by simp
  rw [hpl] at ow
  have HS : Hid (sizeE x = 0 + sizeL (([(x, Value.slice ao x.args.length ca)].drop 0).map (·.1))) := by show _ = _; simp [sizeL]
  go_enter Tryz.func50, Tryz.ntmps50
  go_wp2
  go_loopw [3, 4] (fun v i wr => ∃ (ps : List (Ex × Value)) (k : Nat), i = .int .i64 (k : Int) ∧ wr.ownsRow w.heap.size 28 6 v ps.length (ps.flatMap exC) ∧ Below w.heap.size w wr ∧ k ≤ ps.length ∧ Hid (∀ p ∈ ps, ExAt 0 w (exV p.1.k p.1.v p.1.nm p.2) p.1 ∧ Fit p.1) ∧ ps.length ≤ 2000000000000 ∧
      Hid (sizeE x = k + sizeL ((ps.drop k).map (·.1)))) (fun _ i _ => 16 - (intOf i).toNat)
  case atStart =>
    exact ⟨[(x, .slice ao x.args.length ca)], 0, rfl, ow, b1, by simp, (by intro p hp; simp at hp; subst hp; exact ⟨hx0, hf⟩), by simp, HS⟩
  case round =>
    obtain ⟨ps, k, rfl, hown, hnx, hk, HP, hlen, HE⟩ := hrel
    clear ow HS b0 b1 hpl h
    by_cases hlt : k < ps.length
    · obtain ⟨g, cap', hv, hg1, hg2⟩ := owns_some hown (by omega)
      subst hv
      by_cases h15 : ps.length ≤ 15
      · obtain ⟨⟨y, s⟩, hy⟩ : ∃ p, ps[k]? = some p := ⟨ps[k], List.getElem?_eq_getElem hlt⟩
        obtain ⟨hye, hyf⟩ := HP.out _ (List.mem_of_getElem? hy)
        obtain ⟨ao2, ca2, qs, hs, hmap, hall, hnil, hcells⟩ := ExAt.pairs hye
        have hs : s = .slice ao2 y.args.length ca2 := hs
        have hmap : qs.map (·.1) = y.args := hmap
        have hql : qs.length = y.args.length := by rw [← hmap, List.length_map]
        have hfl := flat_get exC 6 (fun _ => rfl) ps k _ hy 5 (by decide)
        have a5 : wr.cell? ⟨g, k * 6 + 5, none⟩ = some (.slice ao2 y.args.length ca2) := (owned_at hown _ s (hfl.trans rfl)).trans (by rw [hs])
        have hd1 : (k : Int) < (ps.length : Int) := by omega
        have hd2 : (ps.length : Int) ≤ 15 := by omega
        have hfit := hyf.args.1
        have HP2 : Hid (∀ p ∈ ps ++ qs, ExAt 0 w (exV p.1.k p.1.v p.1.nm p.2) p.1 ∧ Fit p.1) := by
          intro p hp
          rcases List.mem_append.1 hp with hp | hp
          · exact HP.out p hp
          · refine ⟨hall p hp, hyf.args.2 p.1 ?_⟩
            rw [← hmap]; exact List.mem_map.2 ⟨p, hp, rfl⟩
        have HE2 : Hid (sizeE x = (k + 1) + sizeL (((ps ++ qs).drop (k + 1)).map (·.1))) := by
          show _ = _
          rw [HE.out, List.drop_eq_getElem_cons hlt, List.map_cons, sizeL]
          have e1 : ps[k] = (y, s) := (List.getElem?_eq_some_iff.1 hy).2
          rw [e1, sizeE_args, List.drop_append_of_le_length (by omega), List.map_append, sizeL_append, hmap]
          dsimp only
          omega
        have hR : ∀ {v' : Value} {w' : World}, w'.ownsRow w.heap.size 28 6 v' (ps.length + y.args.length) (ps.flatMap exC ++ qs.flatMap exC) → w'.ownsRow w.heap.size 28 6 v' (ps ++ qs).length ((ps ++ qs).flatMap exC) := by
          intro v' w' hh
          rw [List.length_append, List.flatMap_append, hql]; exact hh
        have hsz := hnx.size
        have hlt5 := hown.lt
        have hnone : ∀ u ∈ qs.flatMap exC, u.oneCell' = true := by
          intro u hu
          obtain ⟨p, hp, hup⟩ := List.mem_flatMap.1 hu
          have hone := (hall p hp).one
          simp only [exC, List.mem_cons, List.not_mem_nil, or_false] at hup
          rcases hup with rfl | rfl | rfl | rfl | rfl | rfl <;> first | rfl | exact hone
        clear HP HE hye hfl hy
        cases ao2 with
        | none =>
          have hy0 : y.args = [] := by
            rcases Classical.em (y.args = []) with h | h
            · exact h
            · obtain ⟨b, off, hh, -⟩ := hcells h; cases hh
          have hc0 := hnil hy0 rfl
          subst hc0
          have hq0 : qs = [] := by rw [hy0] at hql; exact List.length_eq_zero_iff.1 hql
          rw [hy0] at a5
          simp only [List.length_nil] at a5
          go_wp2_with (at_builtin; refine wpList_append_own_none rfl _ _ 26 rfl w.heap.size 28 i0 6 Tryz.underlying26 hi _ _ _ rfl hown rfl ?_)
          go_roundw
          case rel => exact ⟨ps, k + 1, by go_num, hown, hnx, by omega, (by have := HP2; rw [hq0, List.append_nil] at this; exact this), hlen, (by have := HE2; rw [hq0, List.append_nil] at this; exact this)⟩
          case measure => simp [intOf]; omega
        | some ad =>
          have hnews : ∀ j u, (qs.flatMap exC)[j]? = some u → wr.cell? (ad.add j) = some u := by
            rcases Classical.em (y.args = []) with h | h
            · intro j u hj
              have hq0 : qs = [] := by rw [h] at hql; exact List.length_eq_zero_iff.1 hql
              rw [hq0] at hj; simp at hj
            · obtain ⟨b, off, hh, hb, hc⟩ := hcells h
              intro j u hj
              cases hh
              rw [Addr.add_mid]
              exact (hnx.cell (p := ⟨b, off + j, none⟩) hb).trans (hc j u hj)
          have hnl : (qs.flatMap exC).length = y.args.length * 6 := by rw [flatC_len, hql]
          clear hcells hall hnil
          go_wp2_with (at_builtin; refine wpList_append_own _ rfl _ _ 26 rfl w.heap.size 28 i0 (.agg #[.int .i64 0, .int .i64 0, .int .i64 0, .string ⟨#[]⟩, .string ⟨#[]⟩, .slice none 0 0]) 6 80 Tryz.underlying26 hi hz0 hz1 hz2 rfl (by decide) _ _ _ rfl hown ad y.args.length ca2 (qs.flatMap exC) rfl hnl hnews hnone ?c3 ?c4 ?c5 ?_)
          case c3 => unfold maxLen; omega
          case c4 => omega
          intro v' w3 hown' hgrow _
          have hB3 : Below w.heap.size w w3 := hnx.grown hgrow hsz (fun j hj => (hlt5 j hj).1)
          have R3 := hR hown'
          clear hown' hgrow hown hlt5 hnews
          go_wp2
          go_roundw
          case rel => exact ⟨ps ++ qs, k + 1, by go_num, R3, hB3, by simp; omega, HP2, by simp; omega, HE2⟩
          case measure => simp [intOf]; omega
      · have hd1 : (k : Int) < (ps.length : Int) := by omega
        have HZ : Hid (15 < sizeE x) := by
          show _ < _
          rw [HE.out]
          have := sizeL_len ((ps.drop k).map (·.1))
          rw [List.length_map, List.length_drop] at this
          omega
        have hd2 : decide ((ps.length : Int) ≤ 15) = false := by simp; omega
        have hd3 : decide (ps.length ≤ 15) = false := by simp; omega
        have hd4 : (15 : Int) < (ps.length : Int) := by omega
        clear HE HP
        go_wp2
        go_ret
        exact ⟨ret_bool (by simp [HZ.out]), hnx⟩
    · obtain ⟨ao', cap', hv⟩ := owns_slice hown
      subst hv
      have hkn : k = ps.length := by omega
      have HZ : Hid (sizeE x = ps.length) := by
        show _ = _
        rw [HE.out, hkn, List.drop_length]
        simp [sizeL]
      have hd0 : decide ((k : Int) < (ps.length : Int)) = false := by simp; omega
      clear HE HP
      go_wp2
      go_ret
      exact ⟨ret_bool (by rw [HZ.out, Bool.eq_iff_iff]; simp; omega), hnx⟩

def manyC (c : Cm) : Bool := decide (5 < c.cols.length ∨ 5 < c.vals.length ∨ 5 < c.fields.length) || decide (15 < sizeE c.expr) || decide (15 < sizeE c.wh)

set_option maxRecDepth 100000 in
set_option maxHeartbeats 800000 in
theorem hasMany_any {w : World} (c : Cm) (a1 a2 a3 a4 a5 : Option Addr) (c1 c2 c3 c4 c5 : Nat) (he : ExAt 0 w (exV c.expr.k c.expr.v c.expr.nm (.slice a4 c.expr.args.length c4)) c.expr) (hw : ExAt 0 w (exV c.wh.k c.wh.v c.wh.nm (.slice a5 c.wh.args.length c5)) c.wh) (fe : Fit c.expr) (fw : Fit c.wh) :
    Calls Tryz.prog 33 #[.agg (cmL c (.slice a1 c.cols.length c1) (.slice a2 c.vals.length c2) (.slice a3 c.fields.length c3) (.slice a4 c.expr.args.length c4) (.slice a5 c.wh.args.length c5)).toArray] w fun e w' => e = .returned (.bool (manyC c)) ∧ Below w.heap.size w w' := by
  have b0 := (Below.refl w.heap.size w).alloc (Nat.le_refl _) (.cells (cmL c (.slice a1 c.cols.length c1) (.slice a2 c.vals.length c2) (.slice a3 c.fields.length c3) (.slice a4 c.expr.args.length c4) (.slice a5 c.wh.args.length c5)).toArray 58)
  have d4 : (w.alloc (.cells (cmL c (.slice a1 c.cols.length c1) (.slice a2 c.vals.length c2) (.slice a3 c.fields.length c3) (.slice a4 c.expr.args.length c4) (.slice a5 c.wh.args.length c5)).toArray 58)).cell? ⟨w.heap.size, 4, none⟩ = some (.slice a1 c.cols.length c1) := (Lib.cell_of_heap (heap_alloc_new w (.cells (cmL c (.slice a1 c.cols.length c1) (.slice a2 c.vals.length c2) (.slice a3 c.fields.length c3) (.slice a4 c.expr.args.length c4) (.slice a5 c.wh.args.length c5)).toArray 58)) 4).trans rfl
  have d9 : (w.alloc (.cells (cmL c (.slice a1 c.cols.length c1) (.slice a2 c.vals.length c2) (.slice a3 c.fields.length c3) (.slice a4 c.expr.args.length c4) (.slice a5 c.wh.args.length c5)).toArray 58)).cell? ⟨w.heap.size, 9, none⟩ = some (.slice a2 c.vals.length c2) := (Lib.cell_of_heap (heap_alloc_new w (.cells (cmL c (.slice a1 c.cols.length c1) (.slice a2 c.vals.length c2) (.slice a3 c.fields.length c3) (.slice a4 c.expr.args.length c4) (.slice a5 c.wh.args.length c5)).toArray 58)) 9).trans rfl
  have d10 : (w.alloc (.cells (cmL c (.slice a1 c.cols.length c1) (.slice a2 c.vals.length c2) (.slice a3 c.fields.length c3) (.slice a4 c.expr.args.length c4) (.slice a5 c.wh.args.length c5)).toArray 58)).cell? ⟨w.heap.size, 10, none⟩ = some (.slice a3 c.fields.length c3) := (Lib.cell_of_heap (heap_alloc_new w (.cells (cmL c (.slice a1 c.cols.length c1) (.slice a2 c.vals.length c2) (.slice a3 c.fields.length c3) (.slice a4 c.expr.args.length c4) (.slice a5 c.wh.args.length c5)).toArray 58)) 10).trans rfl
  have d11 : (w.alloc (.cells (cmL c (.slice a1 c.cols.length c1) (.slice a2 c.vals.length c2) (.slice a3 c.fields.length c3) (.slice a4 c.expr.args.length c4) (.slice a5 c.wh.args.length c5)).toArray 58)).cell? ⟨w.heap.size, 11, none⟩ = some (.int .i64 c.expr.k) := (Lib.cell_of_heap (heap_alloc_new w (.cells (cmL c (.slice a1 c.cols.length c1) (.slice a2 c.vals.length c2) (.slice a3 c.fields.length c3) (.slice a4 c.expr.args.length c4) (.slice a5 c.wh.args.length c5)).toArray 58)) 11).trans rfl
  have d12 : (w.alloc (.cells (cmL c (.slice a1 c.cols.length c1) (.slice a2 c.vals.length c2) (.slice a3 c.fields.length c3) (.slice a4 c.expr.args.length c4) (.slice a5 c.wh.args.length c5)).toArray 58)).cell? ⟨w.heap.size, 12, none⟩ = some (.int .i64 c.expr.v.k) := (Lib.cell_of_heap (heap_alloc_new w (.cells (cmL c (.slice a1 c.cols.length c1) (.slice a2 c.vals.length c2) (.slice a3 c.fields.length c3) (.slice a4 c.expr.args.length c4) (.slice a5 c.wh.args.length c5)).toArray 58)) 12).trans rfl
  have d13 : (w.alloc (.cells (cmL c (.slice a1 c.cols.length c1) (.slice a2 c.vals.length c2) (.slice a3 c.fields.length c3) (.slice a4 c.expr.args.length c4) (.slice a5 c.wh.args.length c5)).toArray 58)).cell? ⟨w.heap.size, 13, none⟩ = some (.int .i64 c.expr.v.n) := (Lib.cell_of_heap (heap_alloc_new w (.cells (cmL c (.slice a1 c.cols.length c1) (.slice a2 c.vals.length c2) (.slice a3 c.fields.length c3) (.slice a4 c.expr.args.length c4) (.slice a5 c.wh.args.length c5)).toArray 58)) 13).trans rfl
  have d14 : (w.alloc (.cells (cmL c (.slice a1 c.cols.length c1) (.slice a2 c.vals.length c2) (.slice a3 c.fields.length c3) (.slice a4 c.expr.args.length c4) (.slice a5 c.wh.args.length c5)).toArray 58)).cell? ⟨w.heap.size, 14, none⟩ = some (.string ⟨c.expr.v.s.toArray⟩) := (Lib.cell_of_heap (heap_alloc_new w (.cells (cmL c (.slice a1 c.cols.length c1) (.slice a2 c.vals.length c2) (.slice a3 c.fields.length c3) (.slice a4 c.expr.args.length c4) (.slice a5 c.wh.args.length c5)).toArray 58)) 14).trans rfl
  have d15 : (w.alloc (.cells (cmL c (.slice a1 c.cols.length c1) (.slice a2 c.vals.length c2) (.slice a3 c.fields.length c3) (.slice a4 c.expr.args.length c4) (.slice a5 c.wh.args.length c5)).toArray 58)).cell? ⟨w.heap.size, 15, none⟩ = some (.string ⟨c.expr.nm.toArray⟩) := (Lib.cell_of_heap (heap_alloc_new w (.cells (cmL c (.slice a1 c.cols.length c1) (.slice a2 c.vals.length c2) (.slice a3 c.fields.length c3) (.slice a4 c.expr.args.length c4) (.slice a5 c.wh.args.length c5)).toArray 58)) 15).trans rfl
  have d16 : (w.alloc (.cells (cmL c (.slice a1 c.cols.length c1) (.slice a2 c.vals.length c2) (.slice a3 c.fields.length c3) (.slice a4 c.expr.args.length c4) (.slice a5 c.wh.args.length c5)).toArray 58)).cell? ⟨w.heap.size, 16, none⟩ = some (.slice a4 c.expr.args.length c4) := (Lib.cell_of_heap (heap_alloc_new w (.cells (cmL c (.slice a1 c.cols.length c1) (.slice a2 c.vals.length c2) (.slice a3 c.fields.length c3) (.slice a4 c.expr.args.length c4) (.slice a5 c.wh.args.length c5)).toArray 58)) 16).trans rfl
  have d18 : (w.alloc (.cells (cmL c (.slice a1 c.cols.length c1) (.slice a2 c.vals.length c2) (.slice a3 c.fields.length c3) (.slice a4 c.expr.args.length c4) (.slice a5 c.wh.args.length c5)).toArray 58)).cell? ⟨w.heap.size, 18, none⟩ = some (.int .i64 c.wh.k) := (Lib.cell_of_heap (heap_alloc_new w (.cells (cmL c (.slice a1 c.cols.length c1) (.slice a2 c.vals.length c2) (.slice a3 c.fields.length c3) (.slice a4 c.expr.args.length c4) (.slice a5 c.wh.args.length c5)).toArray 58)) 18).trans rfl
  have d19 : (w.alloc (.cells (cmL c (.slice a1 c.cols.length c1) (.slice a2 c.vals.length c2) (.slice a3 c.fields.length c3) (.slice a4 c.expr.args.length c4) (.slice a5 c.wh.args.length c5)).toArray 58)).cell? ⟨w.heap.size, 19, none⟩ = some (.int .i64 c.wh.v.k) := (Lib.cell_of_heap (heap_alloc_new w (.cells (cmL c (.slice a1 c.cols.length c1) (.slice a2 c.vals.length c2) (.slice a3 c.fields.length c3) (.slice a4 c.expr.args.length c4) (.slice a5 c.wh.args.length c5)).toArray 58)) 19).trans rfl
  have d20 : (w.alloc (.cells (cmL c (.slice a1 c.cols.length c1) (.slice a2 c.vals.length c2) (.slice a3 c.fields.length c3) (.slice a4 c.expr.args.length c4) (.slice a5 c.wh.args.length c5)).toArray 58)).cell? ⟨w.heap.size, 20, none⟩ = some (.int .i64 c.wh.v.n) := (Lib.cell_of_heap (heap_alloc_new w (.cells (cmL c (.slice a1 c.cols.length c1) (.slice a2 c.vals.length c2) (.slice a3 c.fields.length c3) (.slice a4 c.expr.args.length c4) (.slice a5 c.wh.args.length c5)).toArray 58)) 20).trans rfl
  have d21 : (w.alloc (.cells (cmL c (.slice a1 c.cols.length c1) (.slice a2 c.vals.length c2) (.slice a3 c.fields.length c3) (.slice a4 c.expr.args.length c4) (.slice a5 c.wh.args.length c5)).toArray 58)).cell? ⟨w.heap.size, 21, none⟩ = some (.string ⟨c.wh.v.s.toArray⟩) := (Lib.cell_of_heap (heap_alloc_new w (.cells (cmL c (.slice a1 c.cols.length c1) (.slice a2 c.vals.length c2) (.slice a3 c.fields.length c3) (.slice a4 c.expr.args.length c4) (.slice a5 c.wh.args.length c5)).toArray 58)) 21).trans rfl
  have d22 : (w.alloc (.cells (cmL c (.slice a1 c.cols.length c1) (.slice a2 c.vals.length c2) (.slice a3 c.fields.length c3) (.slice a4 c.expr.args.length c4) (.slice a5 c.wh.args.length c5)).toArray 58)).cell? ⟨w.heap.size, 22, none⟩ = some (.string ⟨c.wh.nm.toArray⟩) := (Lib.cell_of_heap (heap_alloc_new w (.cells (cmL c (.slice a1 c.cols.length c1) (.slice a2 c.vals.length c2) (.slice a3 c.fields.length c3) (.slice a4 c.expr.args.length c4) (.slice a5 c.wh.args.length c5)).toArray 58)) 22).trans rfl
  have d23 : (w.alloc (.cells (cmL c (.slice a1 c.cols.length c1) (.slice a2 c.vals.length c2) (.slice a3 c.fields.length c3) (.slice a4 c.expr.args.length c4) (.slice a5 c.wh.args.length c5)).toArray 58)).cell? ⟨w.heap.size, 23, none⟩ = some (.slice a5 c.wh.args.length c5) := (Lib.cell_of_heap (heap_alloc_new w (.cells (cmL c (.slice a1 c.cols.length c1) (.slice a2 c.vals.length c2) (.slice a3 c.fields.length c3) (.slice a4 c.expr.args.length c4) (.slice a5 c.wh.args.length c5)).toArray 58)) 23).trans rfl
  have he1 := isLong_any (he.under b0) fe
  have hw1 := fun (W : World) (hW : Below w.heap.size w W) => isLong_any (hw.under hW) fw
  rw [exV] at he1
  simp only [exV] at hw1
  unfold manyC
  generalize decide (15 < sizeE c.expr) = E at he1 ⊢
  generalize decide (15 < sizeE c.wh) = F at hw1 ⊢
  clear he hw fe fw
  by_cases hm : 5 < c.cols.length ∨ 5 < c.vals.length ∨ 5 < c.fields.length
  · have hd : (5 : Int) < max (max (c.cols.length : Int) (c.vals.length : Int)) (c.fields.length : Int) := by omega
    rw [decide_eq_true hm]
    clear hm he1 hw1
    go_enter Tryz.func33, Tryz.ntmps33
    go_wp2_with fail
    all_goals go_ret
    all_goals exact ⟨rfl, b0⟩
  · have hd : ¬ (5 : Int) < max (max (c.cols.length : Int) (c.vals.length : Int)) (c.fields.length : Int) := by omega
    have l1 : ¬ 5 < c.cols.length := by omega
    have l2 : ¬ 5 < c.vals.length := by omega
    have l3 : ¬ 5 < c.fields.length := by omega
    rw [decide_eq_false hm, Bool.false_or]
    clear hm
    cases E
    · rw [Bool.false_or]
      go_enter Tryz.func33, Tryz.ntmps33
      go_wp2_with fail
      all_goals
        refine he1.mono ?_
        rintro e w1 ⟨rfl, b1⟩
        have f18 := (b1.cell (p := ⟨w.heap.size, 18, none⟩) (by simp)).trans d18; have f19 := (b1.cell (p := ⟨w.heap.size, 19, none⟩) (by simp)).trans d19; have f20 := (b1.cell (p := ⟨w.heap.size, 20, none⟩) (by simp)).trans d20; have f21 := (b1.cell (p := ⟨w.heap.size, 21, none⟩) (by simp)).trans d21; have f22 := (b1.cell (p := ⟨w.heap.size, 22, none⟩) (by simp)).trans d22; have f23 := (b1.cell (p := ⟨w.heap.size, 23, none⟩) (by simp)).trans d23
        have q1 : Below w.heap.size w w1 := b0.trans (b1.mono (by simp))
        go_wp2_with fail
        refine (hw1 _ q1).mono ?_
        rintro e w2 ⟨rfl, b2⟩
        go_wp2
        go_ret
        exact ⟨ret_bool (by cases F <;> simp <;> omega), q1.trans (b2.mono q1.size)⟩
    · rw [Bool.true_or]
      clear hw1
      go_enter Tryz.func33, Tryz.ntmps33
      go_wp2_with fail
      all_goals
        refine he1.mono ?_
        rintro e w1 ⟨rfl, b1⟩
        go_wp2
        go_ret
        exact ⟨rfl, b0.trans (b1.mono (by simp))⟩

/-- what a machine's reach lets a command hold -/
structure CmFit (c : Cm) : Prop where
  name : c.name.length ≤ 140737488355328
  other : c.other.length ≤ 140737488355328
  column : c.column.length ≤ 140737488355328
  order : c.order.length ≤ 140737488355328
  val : c.val.s.length ≤ 140737488355328
  cols : c.cols.length ≤ 1000000000000000
  vals : c.vals.length ≤ 1000000000000000
  fields : c.fields.length ≤ 1000000000000000
  colsN : ∀ x ∈ c.cols, x.name.length ≤ 140737488355328
  valsN : ∀ x ∈ c.vals, x.s.length ≤ 140737488355328
  fieldsN : ∀ x ∈ c.fields, x.length ≤ 140737488355328
  expr : Fit c.expr
  wh : Fit c.wh

/-- a boxed command, and what its kind names, held -/
def Held (w : World) (c : Cm) (cv vv fv ea wa : Value) (m : Int) (W : World) : Prop :=
  (∀ o x, (cmL c cv vv fv ea wa)[o]? = some x → W.cell? ⟨w.heap.size, o, none⟩ = some x) ∧ W.cell? ⟨w.heap.size + 1, 0, none⟩ = some (.int .i64 m) ∧ Below w.heap.size w W ∧ w.heap.size + 2 ≤ W.heap.size

theorem Held.start (w : World) (c : Cm) (cv vv fv ea wa : Value) (m : Int) :
    Held w c cv vv fv ea wa m ((w.alloc (.cells (cmL c cv vv fv ea wa).toArray 58)).alloc (.cells #[.int .i64 m] 3)) := by
  have hz : (w.alloc (.cells (cmL c cv vv fv ea wa).toArray 58)).heap.size = w.heap.size + 1 := by simp
  have h1 : ((w.alloc (.cells (cmL c cv vv fv ea wa).toArray 58)).alloc (.cells #[.int .i64 m] 3)).heap[w.heap.size]? = some (.cells (cmL c cv vv fv ea wa).toArray 58) :=
    (Below.heap_alloc _ _ _ (by omega)).trans (heap_alloc_new _ _)
  refine ⟨fun o x hx => ?_, ?_, ((Below.refl _ _).alloc (Nat.le_refl _) _).alloc (by simp) _, by simp⟩
  · rw [Lib.cell_of_heap h1]; simpa using hx
  · have h2 : ((w.alloc (.cells (cmL c cv vv fv ea wa).toArray 58)).alloc (.cells #[.int .i64 m] 3)).heap[w.heap.size + 1]? = some (.cells #[.int .i64 m] 3) := by rw [← hz]; exact heap_alloc_new _ _
    rw [Lib.cell_of_heap h2]; rfl

set_option maxRecDepth 100000 in
set_option maxHeartbeats 6400000 in
theorem isRight_out {w : World} (c : Cm) (cv vv fv ea wa : Value) (hk : ¬ (1 ≤ c.kind ∧ c.kind ≤ 16)) :
    Calls Tryz.prog 34 #[.agg (cmL c cv vv fv ea wa).toArray] w fun e w' => e = .returned (.bool false) ∧ Below w.heap.size w w' := by
  have H0 := Held.start w c cv vv fv ea wa 0
  have hnb := fun W => namedBy_out W c.kind hk
  have d0 : (w.alloc (.cells (cmL c cv vv fv ea wa).toArray 58)).cell? ⟨w.heap.size, 0, none⟩ = some (.int .i64 c.kind) := by
    rw [Lib.cell_of_heap (heap_alloc_new w (.cells (cmL c cv vv fv ea wa).toArray 58))]; rfl
  clear hk
  go_enter Tryz.func34, Tryz.ntmps34
  go_wp2_with fail
  refine (hnb _).mono ?_
  rintro e w' ⟨rfl, hw'⟩
  obtain rfl := hw'.symm
  clear hw' hnb d0
  go_wp2_with fail
  refine wp_region_held_drew (S := (fun w' => Below w.heap.size w w')) (by kernel_rfl) H0.2.2.1.drew (fun hHeld => ?_)
  refine dead_end [some 13, some 14, some 15, some 16, some 17, some 18, some 19, some 20, some 21, some 22, some 23, some 24, some 25, some 26, some 27, some 28, some 29, some 30, some 31, some 32, some 33, some 34, some 35, some 36, some 37, some 38, some 39, some 40, some 41, some 42, some 43, some 44, some 45, some 46, some 47, some 48, some 49, some 50, some 51, some 52, some 53, some 54, some 55, some 56, some 57, some 58, some 59, some 60, some 61, some 62, some 63, some 64, some 65, some 66, some 67, some 68, some 69, some 70, some 71, some 72, some 73, some 74, some 75, some 76, some 77, some 78, some 79, some 80, some 81, some 82, some 83, some 84, some 85, some 86, some 87, some 88, some 89, some 90, some 91, some 92, some 93, some 94, some 95, some 96, some 97, some 98, some 99, some 100, some 101, some 102, some 103, some 104, some 105, some 106, some 107, some 108, some 109, some 110, some 111, some 112, some 113, some 114, some 115, some 116, some 117, some 118, some 119, some 120, some 121, some 122, some 123, some 124, some 125, some 126, some 127, some 128, some 129, some 130, some 131, some 132, some 133, some 134, some 135, some 136, some 137, some 138, some 139, some 140, some 141, some 142, some 143, some 144, some 145, some 146, some 147, some 148, some 149, some 150, some 151, some 152, some 153, some 154, some 2] 142 2 (by kernel_rfl) (by kernel_rfl) (by decide) (by kernel_rfl) (by kernel_rfl) (by kernel_rfl) (by kernel_rfl) hHeld (fun a' ha hd => ?_)
  have hr := results_tmp Tryz.results34 a'.tmps Tryz.prog ((w.alloc (.cells (cmL c cv vv fv ea wa).toArray 58)).alloc (.cells #[.int .i64 0] 3)).drew
  rw [ha] at hr
  refine ‹∀ (a : Act) (w : World), Code.wp _ _ _ a w → _› _ _ ?_
  refine wp_ret ?_
  exact bodyPost_ret hr hd ⟨rfl, hHeld⟩

def chkC (M R : Bool) : Int := if M = true then 2 else if R = true then 0 else 1

set_option maxRecDepth 100000 in
set_option maxHeartbeats 1600000 in
theorem checkC_any {w : World} (c : Cm) (cv vv fv ea wa : Value) (M R : Bool)
    (hm : ∀ W : World, Below w.heap.size w W → Calls Tryz.prog 33 #[.agg (cmL c cv vv fv ea wa).toArray] W fun e w' => e = .returned (.bool M) ∧ Below W.heap.size W w')
    (hr : ∀ W : World, Below w.heap.size w W → Calls Tryz.prog 34 #[.agg (cmL c cv vv fv ea wa).toArray] W fun e w' => e = .returned (.bool R) ∧ Below W.heap.size W w') :
    Calls Tryz.prog 22 #[.agg (cmL c cv vv fv ea wa).toArray] w fun e w' => e = .returned (.int .i64 (chkC M R)) ∧ Below w.heap.size w w' := by
  have b0 := (Below.refl w.heap.size w).alloc (Nat.le_refl _) (.cells (cmL c cv vv fv ea wa).toArray 58)
  have k0 : (w.alloc (.cells (cmL c cv vv fv ea wa).toArray 58)).heap[w.heap.size]? = some (.cells (cmL c cv vv fv ea wa).toArray 58) := heap_alloc_new _ _
  have hl : (cmL c cv vv fv ea wa).length = 26 := rfl
  generalize cmL c cv vv fv ea wa = cs at hm hr b0 k0 hl ⊢
  have hsz : (Tryz.prog.info? 58).map (·.size) = some cs.length := by rw [hl]; exact Tryz.size58
  cases M with
  | true =>
    go_enter Tryz.func22, Tryz.ntmps22
    go_wp2_with (refine wpList_load_whole 58 _ rfl rfl _ cs 58 _ rfl (by exact k0) Tryz.underlying58 rfl hsz ?_)
    refine (hm _ b0).mono ?_
    rintro e w1 ⟨rfl, b1⟩
    go_wp2
    go_ret
    exact ⟨rfl, b0.trans (b1.mono (by simp))⟩
  | false =>
    go_enter Tryz.func22, Tryz.ntmps22
    go_wp2_with (refine wpList_load_whole 58 _ rfl rfl _ cs 58 _ rfl (by exact k0) Tryz.underlying58 rfl hsz ?_)
    refine (hm _ b0).mono ?_
    rintro e w1 ⟨rfl, b1⟩
    have k1 := (b1.block w.heap.size (by simp)).trans k0
    have q1 : Below w.heap.size w w1 := b0.trans (b1.mono (by simp))
    clear k0 b0 b1 hm
    go_wp2_with (refine wpList_load_whole 58 _ rfl rfl _ cs 58 _ rfl (by exact k1) Tryz.underlying58 rfl hsz ?_)
    refine (hr _ q1).mono ?_
    rintro e w2 ⟨rfl, b2⟩
    have q2 : Below w.heap.size w w2 := q1.trans (b2.mono q1.size)
    cases R with
    | true =>
      go_wp2
      go_ret
      exact ⟨rfl, q2⟩
    | false =>
      go_wp2
      go_ret
      exact ⟨rfl, q2⟩

end Go.Proofs.YtjmhkeooiimpfaaGreat
