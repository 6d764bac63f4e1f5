/-
  A whole command out of and into memory, in one step each.
  'where' of the parser.
  'delete', 'update', 'drop' of the parser.
  'create' and 'drop' of the parser.
  'rename' of the parser.
  'alter' of the parser.
  'choose' of the parser.
  'insert' of the parser.
  'command' of the parser.
  'parse' of package command: what gives up is caught.
  'isType', 'isValue', 'argsOf', and 'all' at its four kinds.
  'isNone' of package command.
  'isExpr' of package command.
-/
import Derived.Deep.MidRow
import Derived.Defers
import Derived.Recover
import Derived.Deep.RegionHeld3
import Derived.Deep.QuietTactic
import Derived.BigQuiet
import Derived.Test.YtkpeklealgicpabGreatDoorLa

set_option maxRecDepth 100000
set_option maxHeartbeats 8000000
namespace Go.Proofs.YtkpeklealgicpabGreatDoor
open Go.RowKit
theorem setCells_putAll (b : Nat) : ∀ (vs : List Value) (w : World) (o : Nat), w.setCells b o vs = putAll w b o vs := by
  intro vs
  induction vs with
  | nil => intro w o; rfl
  | cons x vs ih => intro w o; rw [World.setCells, putAll, ih]
theorem putAll_mid {b : Nat} {t : TypeId} : ∀ (xs mid : List Value) (W : World) (pre post : List Value), mid.length = xs.length → W.heap[b]? = some (.cells (pre ++ mid ++ post).toArray t) →
    (putAll W b pre.length xs).heap[b]? = some (.cells (pre ++ xs ++ post).toArray t) := by
  intro xs
  induction xs with
  | nil => intro mid W pre post hl h; cases mid with
    | nil => exact h
    | cons _ _ => cases hl
  | cons x xs ih =>
    intro mid W pre post hl h
    cases mid with
    | nil => cases hl
    | cons y mid =>
      have h1 := heap_setCell_same W b pre.length _ t x h
      have e : (pre ++ y :: mid ++ post).toArray.setIfInBounds pre.length x = ((pre ++ [x]) ++ mid ++ post).toArray := by simp
      rw [e] at h1
      have := ih mid (W.setCell ⟨b, pre.length, none⟩ x) (pre ++ [x]) post (by simpa using hl) h1
      rw [putAll]
      simpa using this
theorem there_of {w : World} {b : Nat} {cs : List Value} {t : TypeId} (hb : w.heap[b]? = some (.cells cs.toArray t)) (o n : Nat) (hn : o + n ≤ cs.length) : w.there b o n := by
  intro j hj
  refine ⟨?_, Lib.frozen_of_heap hb _⟩
  rw [Lib.cell_of_heap hb]
  have : cs.toArray[o + j]? = some (cs[o + j]'(by omega)) := by simp [List.getElem?_eq_getElem (show o + j < cs.length by omega)]
  rw [this]; rfl
section
variable {P : Program} {ops : Array Oper} {rest : List Oper} {op : Oper} {a : Act} {w : World} {Q : Exit → Act → World → Prop}
theorem wpList_store_part (ty : TypeId) (x y : Operand) (hgd : op.guard = none) (ho : op.op = .store ty x y) (b : Nat) (pre mid post xs : List Value) (t : TypeId)
    (hx : a.eval x = .pointer (some ⟨b, pre.length, none⟩)) (hy : a.eval y = .agg xs.toArray) (hb : w.heap[b]? = some (.cells (pre ++ mid ++ post).toArray t)) (hl : mid.length = xs.length)
    (hi : (P.info? ty).map (·.size) = some xs.length) (h1 : ∀ v ∈ xs, v.oneCell' = true)
    (h : ∀ w', w'.heap[b]? = some (.cells (pre ++ xs ++ post).toArray t) → Hid (w' = putAll w b pre.length xs) → wpList P ops Q rest (a.put op.dst undef) w') : wpList P ops Q (op :: rest) a w := by
  refine wpList_store_mid hgd ty x y ho b pre.length xs.toArray hx hy (there_of hb _ _ (by simp; omega)) (by simpa using hi) (all_oneCell_toArray h1) ?_
  have e : w.setCells b pre.length xs.toArray.toList = putAll w b pre.length xs := by simpa using setCells_putAll b xs w pre.length
  rw [e]
  exact h _ (putAll_mid xs mid w pre post hl hb) (hide rfl)
theorem wpList_store_whole (ty : TypeId) (x y : Operand) (hgd : op.guard = none) (ho : op.op = .store ty x y) (b : Nat) (cs xs : List Value) (t : TypeId)
    (hx : a.eval x = .pointer (some ⟨b, 0, none⟩)) (hy : a.eval y = .agg xs.toArray) (hb : w.heap[b]? = some (.cells cs.toArray t)) (hl : cs.length = xs.length)
    (hi : (P.info? ty).map (·.size) = some xs.length) (h1 : ∀ v ∈ xs, v.oneCell' = true)
    (h : ∀ w', w'.heap[b]? = some (.cells xs.toArray t) → Hid (w' = putAll w b 0 xs) → wpList P ops Q rest (a.put op.dst undef) w') : wpList P ops Q (op :: rest) a w := by
  refine wpList_store_part ty x y hgd ho b [] cs [] xs t hx hy (by simpa using hb) hl hi h1 fun w' hw hp => h w' (by simpa using hw) hp
theorem wpList_load_whole (ty : TypeId) (x : Operand) (hgd : op.guard = none) (ho : op.op = .load ty x) (b : Nat) (cs : List Value) (t : TypeId) (d : TypeDesc)
    (hx : a.eval x = .pointer (some ⟨b, 0, none⟩)) (hb : w.heap[b]? = some (.cells cs.toArray t)) (hu : P.underlying ty = some d) (hd : d.isRow = true) (hi : (P.info? ty).map (·.size) = some cs.length)
    (h : wpList P ops Q rest (a.put op.dst (.agg cs.toArray)) w) : wpList P ops Q (op :: rest) a w :=
  wpList_load_mid hgd ty x ho b 0 hx cs d (fun j v hv => by rw [Nat.zero_add, Lib.cell_of_heap hb]; simpa using hv) hu hd hi h
theorem wpList_alloc_blk (slot : Nat) (ty : TypeId) (zs : List Value) (hd : op.dst = some slot) (hgd : op.guard = none) (ho : op.op = .alloc ty) (hz : ∀ w, (Instr.alloc ty true (.tuple #[])).run P w = .ok (.pointer (some ⟨w.heap.size, 0, none⟩)) (w.alloc (.cells zs.toArray ty)))
    (h : ∀ w' b, Hid (b = w.heap.size) → w'.heap[b]? = some (.cells zs.toArray ty) → Below w.heap.size w w' → wpList P ops Q rest (a.put (some slot) (.pointer (some ⟨b, 0, none⟩))) w') : wpList P ops Q (op :: rest) a w := by
  refine wpList_plain hgd fun K hK => ?_
  rw [← hd] at h
  unfold Oper.wp execOp
  simp only [ho, hz, Result.andThen_ok, Sem.run_bind]
  exact hK _ _ (h _ _ (hide rfl) (heap_alloc_new _ _) ((Below.refl _ _).alloc (Nat.le_refl _) _))
end
theorem results_whole {P : Program} {fn : Func} {s : Tmp} {ty : TypeId} (hr : fn.results = #[.cell s ty]) (tmps : Array Value) (w : World) (b : Nat) (cs : List Value) (t : TypeId) (d : TypeDesc) (hs : tmps.getD s undef = .pointer (some ⟨b, 0, none⟩))
    (hb : w.heap[b]? = some (.cells cs.toArray t)) (hu : P.underlying ty = some d) (hd : d.isRow = true) (hi : (P.info? ty).map (·.size) = some cs.length) :
    (results fn tmps).run P w = .ok (.agg cs.toArray) w := by
  have h := run_loadVar_mid (P := P) w b 0 ty cs d (fun j v hv => by rw [Nat.zero_add, Lib.cell_of_heap hb]; simpa using hv) hu hd hi
  have hs' : tmps[s]?.getD undef = .pointer (some ⟨b, 0, none⟩) := by simpa using hs
  simp [results, hr, hs', asAddr, h]
theorem Tryz.size31 : (Tryz.prog.info? 31).map (·.size) = some 26 := by kernel_rfl
theorem Tryz.size29 : (Tryz.prog.info? 29).map (·.size) = some 6 := by kernel_rfl
theorem Tryz.size24 : (Tryz.prog.info? 24).map (·.size) = some 3 := by kernel_rfl
theorem RowAt.one {B : Nat} {w : World} {u : Value} {n : Nat} {xs : List Value} (h : RowAt B w u n xs) : u.oneCell' = true := by
  obtain ⟨ao, cap, rfl⟩ := h.form; rfl
theorem ExAt.one {B : Nat} {w : World} {k : Int} {x : Vl} {nm : List UInt8} {a : Value} {y : Ex} (h : ExAt B w (exV k x nm a) y) : a.oneCell' = true := by
  obtain ⟨k', x', nm', ao, n, cap, e⟩ := h.form
  simp only [exV, Value.agg.injEq, Array.mk.injEq, List.cons.injEq] at e
  rw [e.2.2.2.2.2.1]; rfl
theorem ExAt.parts {B : Nat} {w : World} {k : Int} {x : Vl} {nm : List UInt8} {a : Value} {y : Ex} (h : ExAt B w (exV k x nm a) y) : k = y.k ∧ x = y.v ∧ nm = y.nm := by
  have go : ∀ (u : Value), ExAt B w u y → u = exV k x nm a → k = y.k ∧ x = y.v ∧ nm = y.nm := by
    intro u hu e
    cases hu with
    | nil k' x' nm' ao cap _ =>
      obtain ⟨xk, xn, xs⟩ := x
      obtain ⟨xk', xn', xs'⟩ := x'
      simp only [exV, Value.agg.injEq, Array.mk.injEq, List.cons.injEq, Value.int.injEq, Value.string.injEq, ByteArray.mk.injEq, true_and] at e
      simp [Ex.k, Ex.v, Ex.nm, ← e.1, ← e.2.1, ← e.2.2.1, ← e.2.2.2.1, ← e.2.2.2.2.1]
    | args k' x' nm' b off cap xs' us =>
      obtain ⟨xk, xn, xs⟩ := x
      obtain ⟨xk', xn', xs''⟩ := x'
      simp only [exV, Value.agg.injEq, Array.mk.injEq, List.cons.injEq, Value.int.injEq, Value.string.injEq, ByteArray.mk.injEq, true_and] at e
      simp [Ex.k, Ex.v, Ex.nm, ← e.1, ← e.2.1, ← e.2.2.1, ← e.2.2.2.1, ← e.2.2.2.2.1]
  exact go _ h rfl
theorem CmIn.one {B : Nat} {w : World} {c : Cm} {cv vv fv ea wa : Value} (h : CmIn B w c cv vv fv ea wa) : ∀ v ∈ cmL c cv vv fv ea wa, v.oneCell' = true := by
  have h1 := h.cols.one
  have h2 := h.vals.one
  have h3 := h.fields.one
  have h4 := h.expr.one
  have h5 := h.wh.one
  intro v hv
  simp only [cmL, List.mem_cons, List.not_mem_nil, or_false] at hv
  rcases hv with rfl | rfl | rfl | rfl | rfl | rfl | rfl | rfl | rfl | rfl | rfl | rfl | rfl | rfl | rfl | rfl | rfl | rfl | rfl | rfl | rfl | rfl | rfl | rfl | rfl | rfl <;> first | rfl | assumption
theorem cmIn0 (B : Nat) (w : World) (c : Cm) (h1 : c.cols = []) (h2 : c.vals = []) (h3 : c.fields = []) (h4 : c.expr = ex0) (h5 : c.wh = ex0) : CmIn B w c (.slice none 0 0) (.slice none 0 0) (.slice none 0 0) (.slice none 0 0) (.slice none 0 0) := by
  refine ⟨?_, ?_, ?_, ?_, ?_⟩
  · rw [h1]; exact .nil _ _ _
  · rw [h2]; exact .nil _ _ _
  · rw [h3]; exact .nil _ _ _
  · rw [h4]; exact .nil _ _ _ _ _ (fun _ => rfl)
  · rw [h5]; exact .nil _ _ _ _ _ (fun _ => rfl)
theorem zeroIs31 : (#[.int .i64 0, .string ⟨#[]⟩, .string ⟨#[]⟩, .string ⟨#[]⟩, .slice none 0 0, .int .i64 0, .int .i64 0, .int .i64 0, .string ⟨#[]⟩, .slice none 0 0, .slice none 0 0, .int .i64 0, .int .i64 0, .int .i64 0, .string ⟨#[]⟩, .string ⟨#[]⟩, .slice none 0 0, .bool false, .int .i64 0, .int .i64 0, .int .i64 0, .string ⟨#[]⟩, .string ⟨#[]⟩, .slice none 0 0, .string ⟨#[]⟩, .int .i64 0] : Array Value) = (cmL cm0 (.slice none 0 0) (.slice none 0 0) (.slice none 0 0) (.slice none 0 0) (.slice none 0 0)).toArray := rfl
theorem Tryz.alloc31 (w : World) : (Instr.alloc 31 true (.tuple #[])).run Tryz.prog w = .ok (.pointer (some ⟨w.heap.size, 0, none⟩)) (w.alloc (.cells (cmL cm0 (.slice none 0 0) (.slice none 0 0) (.slice none 0 0) (.slice none 0 0) (.slice none 0 0)).toArray 31)) := by
  rw [← zeroIs31]
  simp [Instr.alloc, Tryz.zeroValue31, go_sem]
structure OutC (W : World) (base pb : Nat) (v : Value) (T : List Tk) (en : Int) (cb : Nat) (good : World → Cm → Prop) (r : Rs Cm) (e : Ending) (w' : World) : Prop where
  os : w'.os = W.os
  tape : w'.tape = W.tape
  output : w'.output = W.output
  size : W.heap.size ≤ w'.heap.size
  block : ∀ k, k < W.heap.size → k ≠ pb → k ≠ cb → w'.heap[k]? = W.heap[k]?
  ok : ∀ c' j, r = .ok c' j → e = .returned (.tuple #[]) ∧ good w' c' ∧ St w' base pb v T en j
  bad : ∀ j, r = .bad j → e = pan (pl T en j)
theorem expr0_any {w : World} {base pb : Nat} {v : Value} {T : List Tk} {en : Int} {i : Nat} (h : St w base pb v T en i) : Calls Tryz.prog 150 #[.pointer (some ⟨pb, 0, none⟩), .int .i64 0] w fun e w' => Out w base pb v T en (repE w.heap.size) (exprP T 60 i) e w' :=
  expr_any 60 (Nat.le_refl _) w i h
def goodW (cb B : Nat) (cv vv fv ea : Value) (w' : World) (c' : Cm) : Prop :=
  ∃ wa, w'.heap[cb]? = some (.cells (cmL c' cv vv fv ea wa).toArray 31) ∧ ExAt B w' (exV c'.wh.k c'.wh.v c'.wh.nm wa) c'.wh
theorem where_any {w : World} {base pb : Nat} {v : Value} {T : List Tk} {en : Int} {i : Nat} (h : St w base pb v T en i) (cb : Nat) (hfc : cb ≠ pb ∧ v.ownBlock ≠ some cb ∧ 6 ≤ cb) (c : Cm) (cv vv fv ea : Value) (hc : w.heap[cb]? = some (.cells (cmL c cv vv fv ea (.slice none 0 0)).toArray 31)) (hw0 : c.wh = ex0) :
    Calls Tryz.prog 149 #[.pointer (some ⟨pb, 0, none⟩), .pointer (some ⟨cb, 0, none⟩)] w fun e w' => OutC w base pb v T en cb (goodW cb w.heap.size cv vv fv ea) (whereP T c i) e w' := by
  have hm := may_nil h w_where (by decide)
  have hcl := (ltS hc)
  have HW : Hid (c.wh = ex0) := hw0
  clear hw0
  by_cases ht : tx T i = w_where
  · simp only [ht, if_true, decide_true] at hm
    have H0 : Hid (whereP T c i = (exprP T 60 (i + 1)).then fun e j => .ok { c with all := false, wh := e } j) := by show _ = _; rw [whereP, may, if_pos ht]; rfl
    clear ht
    go_enter Tryz.func149, Tryz.ntmps149
    go_wp2_with fail
    refine hm.mono ?_
    rintro e w1 ⟨rfl, g1, s1⟩
    have c1 := (g1.block cb hcl (by simpa using hfc.1)).trans hc
    have qa : w1.cell? ⟨cb, 17, none⟩ = some (.bool c.all) := (Lib.cell_of_heap c1 17).trans rfl
    have qb : w1.frozen? ⟨cb, 17, none⟩ = false := Lib.frozen_of_heap c1 17
    have c2 : (w1.setCell ⟨cb, 17, none⟩ (.bool false)).heap[cb]? = some (.cells (cmL { c with all := false } cv vv fv ea (.slice none 0 0)).toArray 31) := heap_setCell_same _ _ _ _ 31 _ c1
    have s2 := s1.put hfc 17 (.bool false)
    have b2 : ∀ k, k < w.heap.size → k ≠ pb → k ≠ cb → (w1.setCell ⟨cb, 17, none⟩ (.bool false)).heap[k]? = w.heap[k]? := fun k hk hp hq => (heap_setCell_other w1 _ k _ hq).trans (g1.block k hk (by simpa using hp))
    have z2 : w.heap.size ≤ (w1.setCell ⟨cb, 17, none⟩ (.bool false)).heap.size := by simpa [World.setCell] using g1.size
    have o2 : (w1.setCell ⟨cb, 17, none⟩ (.bool false)).os = w.os ∧ (w1.setCell ⟨cb, 17, none⟩ (.bool false)).tape = w.tape ∧ (w1.setCell ⟨cb, 17, none⟩ (.bool false)).output = w.output := ⟨g1.os, g1.tape, g1.output⟩
    have q2 : (w1.setCell ⟨cb, 17, none⟩ (.bool false)).cell? ⟨cb, 17, none⟩ = some (.bool false) := (Lib.cell_of_heap c2 17).trans rfl
    generalize hW2 : w1.setCell ⟨cb, 17, none⟩ (.bool false) = w2 at c2 s2 b2 z2 o2 q2
    clear hm g1 s1 c1 hc
    go_wp2_with fail
    refine (expr0_any s2).mono ?_
    intro e w3 o3
    have c3 := (o3.grown.block cb (ltS c2) (by simpa using hfc.1)).trans c2
    have b3 : ∀ k, k < w.heap.size → k ≠ pb → k ≠ cb → w3.heap[k]? = w.heap[k]? := fun k hk hp hq => (o3.grown.block k (Nat.lt_of_lt_of_le hk z2) (by simpa using hp)).trans (b2 k hk hp hq)
    have z3 := Nat.le_trans z2 o3.grown.size
    have o3' : w3.os = w.os ∧ w3.tape = w.tape ∧ w3.output = w.output := ⟨o3.grown.os.trans o2.1, o3.grown.tape.trans o2.2.1, o3.grown.output.trans o2.2.2⟩
    cases hy : exprP T 60 (i + 1) with
    | bad j =>
      obtain rfl := o3.bad j hy
      have H1 : whereP T c i = .bad j := by rw [H0.out, hy]; rfl
      exact ⟨rfl, ⟨o3'.1, o3'.2.1, o3'.2.2, z3, b3, (by intro c' j' hh; rw [H1] at hh; cases hh), (by intro j' hh; rw [H1] at hh; cases hh; rfl)⟩⟩
    | ok y j =>
      obtain ⟨u, rfl, hx, s3⟩ := o3.ok y j hy
      obtain ⟨k, x, nm, ao, na, ca, hu⟩ := ExAt.form hx
      have hform : k = y.k ∧ x = y.v ∧ nm = y.nm := ExAt.parts (hu ▸ hx)
      obtain ⟨rfl, rfl, rfl⟩ := hform
      subst hu
      have H1 : Hid (whereP T c i = .ok { c with all := false, wh := y } j) := by show _ = _; rw [H0.out, hy]; rfl
      have hx : ExAt w2.heap.size w3 (exV y.k y.v y.nm (.slice ao na ca)) y := hx
      have hcb2 := (ltS c2)
      clear hy o3 c2 s2 b2 o2 q2 qa qb hW2 H0
      rw [exV]
      go_wp2_with (refine wpList_store_part 29 _ _ rfl rfl cb ((cmL { c with all := false } cv vv fv ea (.slice none 0 0)).take 18) (((cmL { c with all := false } cv vv fv ea (.slice none 0 0)).drop 18).take 6) ((cmL { c with all := false } cv vv fv ea (.slice none 0 0)).drop 24) [.int .i64 y.k, .int .i64 y.v.k, .int .i64 y.v.n, .string ⟨y.v.s.toArray⟩, .string ⟨y.nm.toArray⟩, .slice ao na ca] 31 rfl rfl (by exact c3) rfl Tryz.size29 (by intro v hv; simp only [List.mem_cons, List.not_mem_nil, or_false] at hv; rcases hv with rfl | rfl | rfl | rfl | rfl | rfl <;> rfl) ?_; intro wz kz pz)
      go_end0
      have kz' : wz.heap[cb]? = some (.cells (cmL { c with all := false, wh := y } cv vv fv ea (.slice ao na ca)).toArray 31) := kz
      have pz' : wz = putAll w3 cb 18 _ := pz.out
      have hg := putAll_grown cb [.int .i64 y.k, .int .i64 y.v.k, .int .i64 y.v.n, .string ⟨y.v.s.toArray⟩, .string ⟨y.nm.toArray⟩, .slice ao na ca] w3 18
      rw [← pz'] at hg
      refine ⟨hg.os.trans o3'.1, hg.tape.trans o3'.2.1, hg.output.trans o3'.2.2, Nat.le_trans z3 hg.size, fun k hk hp hq => (hg.block k (Nat.lt_of_lt_of_le hk z3) (by simpa using hq)).trans (b3 k hk hp hq), ?_, (by intro j' hh; rw [H1.out] at hh; cases hh)⟩
      intro c' j' hh
      rw [H1.out] at hh
      cases hh
      refine ⟨rfl, ⟨_, kz', ?_⟩, ?_⟩
      · rw [pz']; exact ((ExAt.putAll hx (Nat.lt_of_lt_of_le hcl z2) 18 _).weak z2)
      · rw [pz']; exact s3.putAll hfc 18 _
  · simp only [ht, if_false, decide_false] at hm
    have H0 : Hid (whereP T c i = .ok { c with all := true } i) := by show _ = _; rw [whereP, may, if_neg ht]; rfl
    clear ht
    go_enter Tryz.func149, Tryz.ntmps149
    go_wp2_with fail
    refine hm.mono ?_
    rintro e w1 ⟨rfl, g1, s1⟩
    have c1 := (g1.block cb hcl (by simpa using hfc.1)).trans hc
    have qa : w1.cell? ⟨cb, 17, none⟩ = some (.bool c.all) := (Lib.cell_of_heap c1 17).trans rfl
    have qb : w1.frozen? ⟨cb, 17, none⟩ = false := Lib.frozen_of_heap c1 17
    have c2 : (w1.setCell ⟨cb, 17, none⟩ (.bool true)).heap[cb]? = some (.cells (cmL { c with all := true } cv vv fv ea (.slice none 0 0)).toArray 31) := heap_setCell_same _ _ _ _ 31 _ c1
    have s2 := s1.put hfc 17 (.bool true)
    have b2 : ∀ k, k < w.heap.size → k ≠ pb → k ≠ cb → (w1.setCell ⟨cb, 17, none⟩ (.bool true)).heap[k]? = w.heap[k]? := fun k hk hp hq => (heap_setCell_other w1 _ k _ hq).trans (g1.block k hk (by simpa using hp))
    have z2 : w.heap.size ≤ (w1.setCell ⟨cb, 17, none⟩ (.bool true)).heap.size := by simpa [World.setCell] using g1.size
    have o2 : (w1.setCell ⟨cb, 17, none⟩ (.bool true)).os = w.os ∧ (w1.setCell ⟨cb, 17, none⟩ (.bool true)).tape = w.tape ∧ (w1.setCell ⟨cb, 17, none⟩ (.bool true)).output = w.output := ⟨g1.os, g1.tape, g1.output⟩
    have q2 : (w1.setCell ⟨cb, 17, none⟩ (.bool true)).cell? ⟨cb, 17, none⟩ = some (.bool true) := (Lib.cell_of_heap c2 17).trans rfl
    generalize hW2 : w1.setCell ⟨cb, 17, none⟩ (.bool true) = w2 at c2 s2 b2 z2 o2 q2
    clear hm g1 s1 c1 hc
    go_wp2_with fail
    go_end0
    refine ⟨o2.1, o2.2.1, o2.2.2, z2, b2, ?_, (by intro j' hh; rw [H0.out] at hh; cases hh)⟩
    intro c' j' hh
    rw [H0.out] at hh
    cases hh
    refine ⟨rfl, ⟨_, c2, ?_⟩, s2⟩
    show ExAt _ _ (exV c.wh.k c.wh.v c.wh.nm _) c.wh
    rw [HW.out]
    exact .nil _ _ _ _ _ (fun _ => rfl)
theorem where_same {T : List Tk} {c c' : Cm} {i j : Nat} (h : whereP T c i = .ok c' j) : c'.cols = c.cols ∧ c'.vals = c.vals ∧ c'.fields = c.fields ∧ c'.expr = c.expr := by
  rw [whereP] at h
  obtain ⟨b, k, -, h2⟩ := then_ok h
  split at h2
  · obtain ⟨e, k2, -, h3⟩ := then_ok h2
    cases h3; exact ⟨rfl, rfl, rfl, rfl⟩
  · cases h2; exact ⟨rfl, rfl, rfl, rfl⟩
theorem delete_any {w : World} {base pb : Nat} {v : Value} {T : List Tk} {en : Int} {i : Nat} (h : St w base pb v T en i) :
    Calls Tryz.prog 109 #[.pointer (some ⟨pb, 0, none⟩)] w fun e w' => Out w base pb v T en (repM w.heap.size) (deleteP T i) e w' := by
  have hpl := h.heapLt
  have HR0 : Hid (deleteP T i = (must T [w_from] i).then fun _ j => (nameP T j).then fun n j => whereP T { cm0 with kind := 11, name := n } j) := by show _ = _; rw [deleteP]
  go_enter Tryz.func109, Tryz.ntmps109
  go_wp2_with (refine wpList_alloc_blk 2 31 (cmL cm0 (.slice none 0 0) (.slice none 0 0) (.slice none 0 0) (.slice none 0 0) (.slice none 0 0)) rfl rfl rfl Tryz.alloc31 ?_; intro W0 rb hrb k0 b0)
  have hfr := h.fresh (Nat.le_of_eq hrb.out.symm)
  have hrw : w.heap.size ≤ rb := Nat.le_of_eq hrb.out.symm
  have s0 := h.below b0
  have g0 := grown_below b0 (some pb)
  clear b0
  refine (must_new s0 [w_from] 1 _ (by first | rfl | simp) _ (by rfl) (by rfl) (by decide) (by decide)).mono ?_
  intro e w1 o1
  have g1 := grown_trans g0 o1.grown
  have k1 := (o1.grown.block rb (ltS k0) (by simpa using hfr.1)).trans k0
  cases hy1 : must T [w_from] i with
  | bad j1 =>
    obtain rfl := o1.bad j1 hy1
    exact ⟨rfl, .mkBad g1 (by rw [HR0.out]; simp only [hy1, Rs.then_bad])⟩
  | ok x1 j1 =>
    obtain ⟨u, rfl, hu1, s1⟩ := o1.ok x1 j1 hy1
    have HR1 : Hid (deleteP T i = (nameP T j1).then fun n j => whereP T { cm0 with kind := 11, name := n } j) := by show _ = _; rw [HR0.out]; simp only [hy1, Rs.then_ok]
    clear hy1 o1 k0 s0 g0 HR0 hu1
    go_wp2_with fail
    refine (name_any s1).mono ?_
    intro e w2 o2
    have g2 := grown_trans g1 o2.grown
    have k2 := (o2.grown.block rb (ltS k1) (by simpa using hfr.1)).trans k1
    cases hy2 : nameP T j1 with
    | bad j2 =>
      obtain rfl := o2.bad j2 hy2
      exact ⟨rfl, .mkBad g2 (by rw [HR1.out]; simp only [hy2, Rs.then_bad])⟩
    | ok x2 j2 =>
      obtain ⟨u, rfl, hu2, s2⟩ := o2.ok x2 j2 hy2
      have HR2 : Hid (deleteP T i = whereP T { cm0 with kind := 11, name := x2 } j2) := by show _ = _; rw [HR1.out]; simp only [hy2, Rs.then_ok]
      cases hu2
      clear hy2 o2 k1 s1 g1 HR1
      go_wp2_with (first | (refine wpList_alloc_blk 3 31 (cmL cm0 (.slice none 0 0) (.slice none 0 0) (.slice none 0 0) (.slice none 0 0) (.slice none 0 0)) rfl rfl rfl Tryz.alloc31 ?_; intro wA cb hcb cA bA) | (refine wpList_store_whole 31 _ _ rfl rfl _ (cmL cm0 (.slice none 0 0) (.slice none 0 0) (.slice none 0 0) (.slice none 0 0) (.slice none 0 0)) (cmL { cm0 with kind := 11, name := x2 } (.slice none 0 0) (.slice none 0 0) (.slice none 0 0) (.slice none 0 0) (.slice none 0 0)) 31 rfl rfl (by exact cA) rfl Tryz.size31 (by exact CmIn.one (cmIn0 0 w { cm0 with kind := 11, name := x2 } rfl rfl rfl rfl rfl)) ?_; intro w3 c3 p3))
      have hrc : rb < cb := by have := (ltS k2); have := hcb.out; omega
      have hcw : w.heap.size ≤ cb := by omega
      have hfc := h.fresh hcw
      have hpB : pb < cb + 1 := by omega
      have hcB : cb < cb + 1 := by omega
      have hrB : rb < cb + 1 := by omega
      have hBw : w.heap.size ≤ cb + 1 := by omega
      have s3 : St w3 base pb v T en j2 := by rw [p3.out]; exact (s2.below bA).putAll hfc 0 _
      have g3 : w.grownBy w3 (some pb) := by rw [p3.out]; exact grown_putAll (grown_trans g2 (grown_below bA _)) hcw 0 _
      have k3 : w3.heap[rb]? = some (.cells (cmL cm0 (.slice none 0 0) (.slice none 0 0) (.slice none 0 0) (.slice none 0 0) (.slice none 0 0)).toArray 31) := by rw [p3.out]; exact (putAll_other _ _ _ _ _ (Nat.ne_of_lt hrc)).trans ((bA.block rb (ltS k2)).trans k2)
      have m3 : CmIn (cb + 1) w3 { cm0 with kind := 11, name := x2 } (.slice none 0 0) (.slice none 0 0) (.slice none 0 0) (.slice none 0 0) (.slice none 0 0) := cmIn0 _ _ _ rfl rfl rfl rfl rfl
      clear cA bA p3 hcb k2 s2 g2
      refine (where_any s3 cb hfc { cm0 with kind := 11, name := x2 } (.slice none 0 0) (.slice none 0 0) (.slice none 0 0) (.slice none 0 0) c3 rfl).mono ?_
      intro e w4 o4
      have g4 : w.grownBy w4 (some pb) := ⟨o4.os.trans g3.os, o4.tape.trans g3.tape, o4.output.trans g3.output, Nat.le_trans g3.size o4.size, fun k hk hp => (o4.block k (Nat.lt_of_lt_of_le hk g3.size) (by simpa using hp) (by omega)).trans (g3.block k hk hp)⟩
      have k4 := (o4.block rb (ltS k3) hfr.1 (Nat.ne_of_lt hrc)).trans k3
      have n4 := m3.keep o4.size fun b hB hs => o4.block b hs (by omega) (by omega)
      have hz4 : cb + 1 ≤ w3.heap.size := by have := (ltS c3); omega
      cases hy4 : whereP T { cm0 with kind := 11, name := x2 } j2 with
      | bad j4 =>
        obtain rfl := o4.bad j4 hy4
        exact ⟨rfl, .mkBad g4 (by rw [HR2.out, hy4])⟩
      | ok cc4 j4 =>
        obtain ⟨rfl, ⟨wa4, c4, hx4⟩, s4⟩ := o4.ok cc4 j4 hy4
        have HR4 : Hid (deleteP T i = .ok cc4 j4) := by show _ = _; rw [HR2.out, hy4]
        obtain ⟨e1, e2, e3, e4⟩ := where_same hy4
        have m4 : CmIn (cb + 1) w4 cc4 (.slice none 0 0) (.slice none 0 0) (.slice none 0 0) (.slice none 0 0) wa4 := ⟨by rw [e1]; exact n4.cols, by rw [e2]; exact n4.vals, by rw [e3]; exact n4.fields, by rw [e4]; exact n4.expr, hx4.weak hz4⟩
        clear hy4 o4 n4 e1 e2 e3 e4 hx4 hz4 k3 s3 g3 HR2 c3 m3
        go_wp2_with (first | (refine wpList_load_whole 31 _ rfl rfl _ (cmL cc4 (.slice none 0 0) (.slice none 0 0) (.slice none 0 0) (.slice none 0 0) wa4) 31 _ rfl (by exact c4) Tryz.underlying31 rfl Tryz.size31 ?_) | (refine wpList_store_whole 31 _ _ rfl rfl _ (cmL cm0 (.slice none 0 0) (.slice none 0 0) (.slice none 0 0) (.slice none 0 0) (.slice none 0 0)) (cmL cc4 (.slice none 0 0) (.slice none 0 0) (.slice none 0 0) (.slice none 0 0) wa4) 31 rfl rfl (by exact k4) rfl Tryz.size31 (by exact m4.one) ?_; intro wz kz pz))
        refine bodyPost_ret (v := .agg (cmL cc4 (.slice none 0 0) (.slice none 0 0) (.slice none 0 0) (.slice none 0 0) wa4).toArray) (results_whole rfl _ _ _ _ 31 _ rfl kz Tryz.underlying31 rfl Tryz.size31) rfl (.mkOk (by rw [pz.out]; exact grown_putAll g4 hrw 0 _) HR4.out ⟨_, _, _, _, _, rfl, by rw [pz.out]; exact (m4.putAll hrB 0 _).weak hBw⟩ (by rw [pz.out]; exact s4.putAll hfr 0 _))
theorem update_any {w : World} {base pb : Nat} {v : Value} {T : List Tk} {en : Int} {i : Nat} (h : St w base pb v T en i) :
    Calls Tryz.prog 110 #[.pointer (some ⟨pb, 0, none⟩)] w fun e w' => Out w base pb v T en (repM w.heap.size) (updateP T i) e w' := by
  have hpl := h.heapLt
  have HR0 : Hid (updateP T i = (nameP T i).then fun n j => (must T [w_set] j).then fun _ j => (nameP T j).then fun c j => (must T [[61]] j).then fun _ j => (exprP T 60 j).then fun e j => whereP T { cm0 with kind := 12, name := n, column := c, expr := e } j) := by show _ = _; rw [updateP]
  go_enter Tryz.func110, Tryz.ntmps110
  go_wp2_with (refine wpList_alloc_blk 2 31 (cmL cm0 (.slice none 0 0) (.slice none 0 0) (.slice none 0 0) (.slice none 0 0) (.slice none 0 0)) rfl rfl rfl Tryz.alloc31 ?_; intro W0 rb hrb k0 b0)
  have hfr := h.fresh (Nat.le_of_eq hrb.out.symm)
  have hrw : w.heap.size ≤ rb := Nat.le_of_eq hrb.out.symm
  have s0 := h.below b0
  have g0 := grown_below b0 (some pb)
  clear b0
  refine (name_any s0).mono ?_
  intro e w1 o1
  have g1 := grown_trans g0 o1.grown
  have k1 := (o1.grown.block rb (ltS k0) (by simpa using hfr.1)).trans k0
  cases hy1 : nameP T i with
  | bad j1 =>
    obtain rfl := o1.bad j1 hy1
    exact ⟨rfl, .mkBad g1 (by rw [HR0.out]; simp only [hy1, Rs.then_bad])⟩
  | ok x1 j1 =>
    obtain ⟨u, rfl, hu1, s1⟩ := o1.ok x1 j1 hy1
    have HR1 : Hid (updateP T i = (must T [w_set] j1).then fun _ j => (nameP T j).then fun c j => (must T [[61]] j).then fun _ j => (exprP T 60 j).then fun e j => whereP T { cm0 with kind := 12, name := x1, column := c, expr := e } j) := by show _ = _; rw [HR0.out]; simp only [hy1, Rs.then_ok]
    cases hu1
    clear hy1 o1 k0 s0 g0 HR0
    go_wp2_with (first | (refine wpList_alloc_blk 3 31 (cmL cm0 (.slice none 0 0) (.slice none 0 0) (.slice none 0 0) (.slice none 0 0) (.slice none 0 0)) rfl rfl rfl Tryz.alloc31 ?_; intro wA cb hcb cA bA) | (refine wpList_store_whole 31 _ _ rfl rfl _ (cmL cm0 (.slice none 0 0) (.slice none 0 0) (.slice none 0 0) (.slice none 0 0) (.slice none 0 0)) (cmL { cm0 with kind := 12, name := x1 } (.slice none 0 0) (.slice none 0 0) (.slice none 0 0) (.slice none 0 0) (.slice none 0 0)) 31 rfl rfl (by exact cA) rfl Tryz.size31 (by exact CmIn.one (cmIn0 0 w { cm0 with kind := 12, name := x1 } rfl rfl rfl rfl rfl)) ?_; intro w2 c2 p2))
    have hrc : rb < cb := by have := (ltS k1); have := hcb.out; omega
    have hcw : w.heap.size ≤ cb := by omega
    have hfc := h.fresh hcw
    have hpB : pb < cb + 1 := by omega
    have hcB : cb < cb + 1 := by omega
    have hrB : rb < cb + 1 := by omega
    have hBw : w.heap.size ≤ cb + 1 := by omega
    have s2 : St w2 base pb v T en j1 := by rw [p2.out]; exact (s1.below bA).putAll hfc 0 _
    have g2 : w.grownBy w2 (some pb) := by rw [p2.out]; exact grown_putAll (grown_trans g1 (grown_below bA _)) hcw 0 _
    have k2 : w2.heap[rb]? = some (.cells (cmL cm0 (.slice none 0 0) (.slice none 0 0) (.slice none 0 0) (.slice none 0 0) (.slice none 0 0)).toArray 31) := by rw [p2.out]; exact (putAll_other _ _ _ _ _ (Nat.ne_of_lt hrc)).trans ((bA.block rb (ltS k1)).trans k1)
    have m2 : CmIn (cb + 1) w2 { cm0 with kind := 12, name := x1 } (.slice none 0 0) (.slice none 0 0) (.slice none 0 0) (.slice none 0 0) (.slice none 0 0) := cmIn0 _ _ _ rfl rfl rfl rfl rfl
    clear cA bA p2 hcb k1 s1 g1
    refine (must_new s2 [w_set] 1 _ (by first | rfl | simp) _ (by rfl) (by rfl) (by decide) (by decide)).mono ?_
    intro e w3 o3
    have g3 := grown_trans g2 o3.grown
    have k3 := (o3.grown.block rb (ltS k2) (by simpa using hfr.1)).trans k2
    have c3 := (o3.grown.block cb (ltS c2) (by simpa using hfc.1)).trans c2
    have m3 := m2.grown hpB o3.grown
    cases hy3 : must T [w_set] j1 with
    | bad j3 =>
      obtain rfl := o3.bad j3 hy3
      exact ⟨rfl, .mkBad g3 (by rw [HR1.out]; simp only [hy3, Rs.then_bad])⟩
    | ok x3 j3 =>
      obtain ⟨u, rfl, hu3, s3⟩ := o3.ok x3 j3 hy3
      have HR3 : Hid (updateP T i = (nameP T j3).then fun c j => (must T [[61]] j).then fun _ j => (exprP T 60 j).then fun e j => whereP T { cm0 with kind := 12, name := x1, column := c, expr := e } j) := by show _ = _; rw [HR1.out]; simp only [hy3, Rs.then_ok]
      clear hy3 o3 k2 s2 g2 HR1 c2 m2 hu3
      go_wp2_with fail
      refine (name_any s3).mono ?_
      intro e w4 o4
      have g4 := grown_trans g3 o4.grown
      have k4 := (o4.grown.block rb (ltS k3) (by simpa using hfr.1)).trans k3
      have c4 := (o4.grown.block cb (ltS c3) (by simpa using hfc.1)).trans c3
      have m4 := m3.grown hpB o4.grown
      cases hy4 : nameP T j3 with
      | bad j4 =>
        obtain rfl := o4.bad j4 hy4
        exact ⟨rfl, .mkBad g4 (by rw [HR3.out]; simp only [hy4, Rs.then_bad])⟩
      | ok x4 j4 =>
        obtain ⟨u, rfl, hu4, s4⟩ := o4.ok x4 j4 hy4
        have HR4 : Hid (updateP T i = (must T [[61]] j4).then fun _ j => (exprP T 60 j).then fun e j => whereP T { cm0 with kind := 12, name := x1, column := x4, expr := e } j) := by show _ = _; rw [HR3.out]; simp only [hy4, Rs.then_ok]
        cases hu4
        clear hy4 o4 k3 s3 g3 HR3 c3 m3
        have q5a : w4.cell? ⟨cb, 3, none⟩ = some _ := (Lib.cell_of_heap c4 3).trans rfl
        have q5b : w4.frozen? ⟨cb, 3, none⟩ = false := Lib.frozen_of_heap c4 3
        have c5 : (w4.setCell ⟨cb, 3, none⟩ (.string ⟨x4.toArray⟩)).heap[cb]? = some (.cells (cmL { cm0 with kind := 12, name := x1, column := x4 } (.slice none 0 0) (.slice none 0 0) (.slice none 0 0) (.slice none 0 0) (.slice none 0 0)).toArray 31) := heap_setCell_same _ _ _ _ 31 _ c4
        have k5 := (heap_setCell_other w4 ⟨cb, 3, none⟩ rb (.string ⟨x4.toArray⟩) (Nat.ne_of_lt hrc)).trans k4
        have s5 := s4.put hfc 3 (.string ⟨x4.toArray⟩)
        have g5 := grown_put g4 hcw 3 (.string ⟨x4.toArray⟩)
        have m5 := CmIn.put (⟨m4.cols, m4.vals, m4.fields, m4.expr, m4.wh⟩ : CmIn (cb + 1) w4 { cm0 with kind := 12, name := x1, column := x4 } (.slice none 0 0) (.slice none 0 0) (.slice none 0 0) (.slice none 0 0) (.slice none 0 0)) hcB 3 (.string ⟨x4.toArray⟩)
        generalize hW5 : w4.setCell ⟨cb, 3, none⟩ (.string ⟨x4.toArray⟩) = w5 at c5 k5 s5 g5 m5
        clear c4 k4 s4 g4 m4
        go_wp2_with fail
        clear hW5 q5a q5b
        refine (must_new s5 [[61]] 1 _ (by first | rfl | simp) _ (by rfl) (by rfl) (by decide) (by decide)).mono ?_
        intro e w6 o6
        have g6 := grown_trans g5 o6.grown
        have k6 := (o6.grown.block rb (ltS k5) (by simpa using hfr.1)).trans k5
        have c6 := (o6.grown.block cb (ltS c5) (by simpa using hfc.1)).trans c5
        have m6 := m5.grown hpB o6.grown
        cases hy6 : must T [[61]] j4 with
        | bad j6 =>
          obtain rfl := o6.bad j6 hy6
          exact ⟨rfl, .mkBad g6 (by rw [HR4.out]; simp only [hy6, Rs.then_bad])⟩
        | ok x6 j6 =>
          obtain ⟨u, rfl, hu6, s6⟩ := o6.ok x6 j6 hy6
          have HR6 : Hid (updateP T i = (exprP T 60 j6).then fun e j => whereP T { cm0 with kind := 12, name := x1, column := x4, expr := e } j) := by show _ = _; rw [HR4.out]; simp only [hy6, Rs.then_ok]
          clear hy6 o6 k5 s5 g5 HR4 c5 m5 hu6
          go_wp2_with fail
          refine (expr0_any s6).mono ?_
          intro e w7 o7
          have g7 := grown_trans g6 o7.grown
          have k7 := (o7.grown.block rb (ltS k6) (by simpa using hfr.1)).trans k6
          have c7 := (o7.grown.block cb (ltS c6) (by simpa using hfc.1)).trans c6
          have m7 := m6.grown hpB o7.grown
          cases hy7 : exprP T 60 j6 with
          | bad j7 =>
            obtain rfl := o7.bad j7 hy7
            exact ⟨rfl, .mkBad g7 (by rw [HR6.out]; simp only [hy7, Rs.then_bad])⟩
          | ok x7 j7 =>
            obtain ⟨u, rfl, hu7, s7⟩ := o7.ok x7 j7 hy7
            have HR7 : Hid (updateP T i = whereP T { cm0 with kind := 12, name := x1, column := x4, expr := x7 } j7) := by show _ = _; rw [HR6.out]; simp only [hy7, Rs.then_ok]
            have hz7 : cb + 1 ≤ w6.heap.size := by have := (ltS c6); omega
            obtain ⟨ek7, ev7, en7, ao7, na7, ca7, rfl⟩ := ExAt.form hu7
            clear hy7 o7 k6 s6 g6 HR6 c6 m6
            obtain ⟨rfl, rfl, rfl⟩ := ExAt.parts hu7
            rw [exV]
            go_wp2_with (refine wpList_store_part 29 _ _ rfl rfl cb ((cmL { cm0 with kind := 12, name := x1, column := x4 } (.slice none 0 0) (.slice none 0 0) (.slice none 0 0) (.slice none 0 0) (.slice none 0 0)).take 11) (((cmL { cm0 with kind := 12, name := x1, column := x4 } (.slice none 0 0) (.slice none 0 0) (.slice none 0 0) (.slice none 0 0) (.slice none 0 0)).drop 11).take 6) ((cmL { cm0 with kind := 12, name := x1, column := x4 } (.slice none 0 0) (.slice none 0 0) (.slice none 0 0) (.slice none 0 0) (.slice none 0 0)).drop 17) [.int .i64 x7.k, .int .i64 x7.v.k, .int .i64 x7.v.n, .string ⟨x7.v.s.toArray⟩, .string ⟨x7.nm.toArray⟩, .slice ao7 na7 ca7] 31 rfl rfl (by exact c7) rfl Tryz.size29 (by intro v hv; simp only [List.mem_cons, List.not_mem_nil, or_false] at hv; rcases hv with rfl | rfl | rfl | rfl | rfl | rfl <;> rfl) ?_; intro wy cy py)
            have cy' : wy.heap[cb]? = some (.cells (cmL { cm0 with kind := 12, name := x1, column := x4, expr := x7 } (.slice none 0 0) (.slice none 0 0) (.slice none 0 0) (.slice ao7 na7 ca7) (.slice none 0 0)).toArray 31) := cy
            have py' : wy = putAll w7 cb 11 _ := py.out
            have sy : St wy base pb v T en j7 := by rw [py']; exact s7.putAll hfc 11 _
            have gy : w.grownBy wy (some pb) := by rw [py']; exact grown_putAll g7 hcw 11 _
            have ky : wy.heap[rb]? = some (.cells (cmL cm0 (.slice none 0 0) (.slice none 0 0) (.slice none 0 0) (.slice none 0 0) (.slice none 0 0)).toArray 31) := by rw [py']; exact (putAll_other _ _ _ _ _ (Nat.ne_of_lt hrc)).trans k7
            have my : CmIn (cb + 1) wy { cm0 with kind := 12, name := x1, column := x4, expr := x7 } (.slice none 0 0) (.slice none 0 0) (.slice none 0 0) (.slice ao7 na7 ca7) (.slice none 0 0) := by rw [py']; exact CmIn.putAll (show CmIn (cb + 1) w7 { cm0 with kind := 12, name := x1, column := x4, expr := x7 } (.slice none 0 0) (.slice none 0 0) (.slice none 0 0) (.slice ao7 na7 ca7) (.slice none 0 0) from ⟨m7.cols, m7.vals, m7.fields, ExAt.weak hu7 hz7, m7.wh⟩) hcB 11 _
            clear cy py py' s7 g7 k7 m7 c7 hu7 hz7
            refine (where_any sy cb hfc { cm0 with kind := 12, name := x1, column := x4, expr := x7 } (.slice none 0 0) (.slice none 0 0) (.slice none 0 0) (.slice ao7 na7 ca7) cy' rfl).mono ?_
            intro e w8 o8
            have g8 : w.grownBy w8 (some pb) := ⟨o8.os.trans gy.os, o8.tape.trans gy.tape, o8.output.trans gy.output, Nat.le_trans gy.size o8.size, fun k hk hp => (o8.block k (Nat.lt_of_lt_of_le hk gy.size) (by simpa using hp) (by omega)).trans (gy.block k hk hp)⟩
            have k8 := (o8.block rb (ltS ky) hfr.1 (Nat.ne_of_lt hrc)).trans ky
            have n8 := my.keep o8.size fun b hB hs => o8.block b hs (by omega) (by omega)
            have hz8 : cb + 1 ≤ wy.heap.size := by have := (ltS cy'); omega
            cases hy8 : whereP T { cm0 with kind := 12, name := x1, column := x4, expr := x7 } j7 with
            | bad j8 =>
              obtain rfl := o8.bad j8 hy8
              exact ⟨rfl, .mkBad g8 (by rw [HR7.out, hy8])⟩
            | ok cc8 j8 =>
              obtain ⟨rfl, ⟨wa8, c8, hx8⟩, s8⟩ := o8.ok cc8 j8 hy8
              have HR8 : Hid (updateP T i = .ok cc8 j8) := by show _ = _; rw [HR7.out, hy8]
              obtain ⟨e1, e2, e3, e4⟩ := where_same hy8
              have m8 : CmIn (cb + 1) w8 cc8 (.slice none 0 0) (.slice none 0 0) (.slice none 0 0) (.slice ao7 na7 ca7) wa8 := ⟨by rw [e1]; exact n8.cols, by rw [e2]; exact n8.vals, by rw [e3]; exact n8.fields, by rw [e4]; exact n8.expr, hx8.weak hz8⟩
              clear hy8 o8 n8 e1 e2 e3 e4 hx8 hz8 ky sy gy HR7 cy' my
              go_wp2_with (first | (refine wpList_load_whole 31 _ rfl rfl _ (cmL cc8 (.slice none 0 0) (.slice none 0 0) (.slice none 0 0) (.slice ao7 na7 ca7) wa8) 31 _ rfl (by exact c8) Tryz.underlying31 rfl Tryz.size31 ?_) | (refine wpList_store_whole 31 _ _ rfl rfl _ (cmL cm0 (.slice none 0 0) (.slice none 0 0) (.slice none 0 0) (.slice none 0 0) (.slice none 0 0)) (cmL cc8 (.slice none 0 0) (.slice none 0 0) (.slice none 0 0) (.slice ao7 na7 ca7) wa8) 31 rfl rfl (by exact k8) rfl Tryz.size31 (by exact m8.one) ?_; intro wz kz pz))
              refine bodyPost_ret (v := .agg (cmL cc8 (.slice none 0 0) (.slice none 0 0) (.slice none 0 0) (.slice ao7 na7 ca7) wa8).toArray) (results_whole rfl _ _ _ _ 31 _ rfl kz Tryz.underlying31 rfl Tryz.size31) rfl (.mkOk (by rw [pz.out]; exact grown_putAll g8 hrw 0 _) HR8.out ⟨_, _, _, _, _, rfl, by rw [pz.out]; exact (m8.putAll hrB 0 _).weak hBw⟩ (by rw [pz.out]; exact s8.putAll hfr 0 _))
theorem create_any {w : World} {base pb : Nat} {v : Value} {T : List Tk} {en : Int} {i : Nat} (h : St w base pb v T en i) :
    Calls Tryz.prog 105 #[.pointer (some ⟨pb, 0, none⟩)] w fun e w' => Out w base pb v T en (repM w.heap.size) (createP T i) e w' := by
  have hpl := h.heapLt
  have HR0 : Hid (createP T i = (oneOf T [w_table, w_index] i).then fun s j => if s = w_table then (nameP T j).then fun n j => (inBrP T (columnP T) j).then fun l j => .ok { cm0 with kind := 1, name := n, cols := l } j else (nameP T j).then fun n j => (must T [w_on] j).then fun _ j => (nameP T j).then fun o j => (must T [[40]] j).then fun _ j => (nameP T j).then fun c j => (must T [[41]] j).then fun _ j => .ok { cm0 with kind := 8, name := n, other := o, column := c } j) := by show _ = _; rw [createP]
  go_enter Tryz.func105, Tryz.ntmps105
  go_wp2_with (refine wpList_alloc_blk 2 31 (cmL cm0 (.slice none 0 0) (.slice none 0 0) (.slice none 0 0) (.slice none 0 0) (.slice none 0 0)) rfl rfl rfl Tryz.alloc31 ?_; intro W0 rb hrb k0 b0)
  have hfr := h.fresh (Nat.le_of_eq hrb.out.symm)
  have hrw : w.heap.size ≤ rb := Nat.le_of_eq hrb.out.symm
  have s0 := h.below b0
  have g0 := grown_below b0 (some pb)
  clear b0
  refine (oneOf_new s0 [w_table, w_index] 2 _ (by first | rfl | simp) _ (by rfl) (by rfl) (by decide) (by decide)).mono ?_
  intro e w1 o1
  have g1 := grown_trans g0 o1.grown
  have k1 := (o1.grown.block rb (ltS k0) (by simpa using hfr.1)).trans k0
  cases hy1 : oneOf T [w_table, w_index] i with
  | bad j1 =>
    obtain rfl := o1.bad j1 hy1
    exact ⟨rfl, .mkBad g1 (by rw [HR0.out]; simp only [hy1, Rs.then_bad])⟩
  | ok x1 j1 =>
    obtain ⟨u, rfl, hu1, s1⟩ := o1.ok x1 j1 hy1
    have HR1 : Hid (createP T i = if x1 = w_table then (nameP T j1).then fun n j => (inBrP T (columnP T) j).then fun l j => .ok { cm0 with kind := 1, name := n, cols := l } j else (nameP T j1).then fun n j => (must T [w_on] j).then fun _ j => (nameP T j).then fun o j => (must T [[40]] j).then fun _ j => (nameP T j).then fun c j => (must T [[41]] j).then fun _ j => .ok { cm0 with kind := 8, name := n, other := o, column := c } j) := by show _ = _; rw [HR0.out]; simp only [hy1, Rs.then_ok]
    cases hu1
    have hm1 := oneOf_mem _ _ _ _ _ hy1
    simp only [List.mem_cons, List.not_mem_nil, or_false] at hm1
    clear hy1 o1 k0 s0 g0 HR0
    rcases hm1 with rfl | rfl
    · skip
      have HR2 : Hid (createP T i = (nameP T j1).then fun n j => (inBrP T (columnP T) j).then fun l j => .ok { cm0 with kind := 1, name := n, cols := l } j) := by show _ = _; rw [HR1.out, if_pos rfl]
      clear HR1
      go_wp2_with (first | (refine wpList_alloc_blk 3 31 (cmL cm0 (.slice none 0 0) (.slice none 0 0) (.slice none 0 0) (.slice none 0 0) (.slice none 0 0)) rfl rfl rfl Tryz.alloc31 ?_; intro wA cb hcb cA bA) | (refine wpList_store_whole 31 _ _ rfl rfl _ (cmL cm0 (.slice none 0 0) (.slice none 0 0) (.slice none 0 0) (.slice none 0 0) (.slice none 0 0)) (cmL { cm0 with kind := 1 } (.slice none 0 0) (.slice none 0 0) (.slice none 0 0) (.slice none 0 0) (.slice none 0 0)) 31 rfl rfl (by exact cA) rfl Tryz.size31 (by exact CmIn.one (cmIn0 0 w { cm0 with kind := 1 } rfl rfl rfl rfl rfl)) ?_; intro w3 c3 p3))
      have hrc : rb < cb := by have := (ltS k1); have := hcb.out; omega
      have hcw : w.heap.size ≤ cb := by omega
      have hfc := h.fresh hcw
      have hpB : pb < cb + 1 := by omega
      have hcB : cb < cb + 1 := by omega
      have hrB : rb < cb + 1 := by omega
      have hBw : w.heap.size ≤ cb + 1 := by omega
      have s3 : St w3 base pb v T en j1 := by rw [p3.out]; exact (s1.below bA).putAll hfc 0 _
      have g3 : w.grownBy w3 (some pb) := by rw [p3.out]; exact grown_putAll (grown_trans g1 (grown_below bA _)) hcw 0 _
      have k3 : w3.heap[rb]? = some (.cells (cmL cm0 (.slice none 0 0) (.slice none 0 0) (.slice none 0 0) (.slice none 0 0) (.slice none 0 0)).toArray 31) := by rw [p3.out]; exact (putAll_other _ _ _ _ _ (Nat.ne_of_lt hrc)).trans ((bA.block rb (ltS k1)).trans k1)
      have m3 : CmIn (cb + 1) w3 { cm0 with kind := 1 } (.slice none 0 0) (.slice none 0 0) (.slice none 0 0) (.slice none 0 0) (.slice none 0 0) := cmIn0 _ _ _ rfl rfl rfl rfl rfl
      clear cA bA p3 hcb k1 s1 g1
      refine (name_any s3).mono ?_
      intro e w4 o4
      have g4 := grown_trans g3 o4.grown
      have k4 := (o4.grown.block rb (ltS k3) (by simpa using hfr.1)).trans k3
      have c4 := (o4.grown.block cb (ltS c3) (by simpa using hfc.1)).trans c3
      have m4 := m3.grown hpB o4.grown
      cases hy4 : nameP T j1 with
      | bad j4 =>
        obtain rfl := o4.bad j4 hy4
        exact ⟨rfl, .mkBad g4 (by rw [HR2.out]; simp only [hy4, Rs.then_bad])⟩
      | ok x4 j4 =>
        obtain ⟨u, rfl, hu4, s4⟩ := o4.ok x4 j4 hy4
        have HR4 : Hid (createP T i = (inBrP T (columnP T) j4).then fun l j => .ok { cm0 with kind := 1, name := x4, cols := l } j) := by show _ = _; rw [HR2.out]; simp only [hy4, Rs.then_ok]
        cases hu4
        clear hy4 o4 k3 s3 g3 HR2 c3 m3
        have q5a : w4.cell? ⟨cb, 1, none⟩ = some _ := (Lib.cell_of_heap c4 1).trans rfl
        have q5b : w4.frozen? ⟨cb, 1, none⟩ = false := Lib.frozen_of_heap c4 1
        have c5 : (w4.setCell ⟨cb, 1, none⟩ (.string ⟨x4.toArray⟩)).heap[cb]? = some (.cells (cmL { cm0 with kind := 1, name := x4 } (.slice none 0 0) (.slice none 0 0) (.slice none 0 0) (.slice none 0 0) (.slice none 0 0)).toArray 31) := heap_setCell_same _ _ _ _ 31 _ c4
        have k5 := (heap_setCell_other w4 ⟨cb, 1, none⟩ rb (.string ⟨x4.toArray⟩) (Nat.ne_of_lt hrc)).trans k4
        have s5 := s4.put hfc 1 (.string ⟨x4.toArray⟩)
        have g5 := grown_put g4 hcw 1 (.string ⟨x4.toArray⟩)
        have m5 := CmIn.put (⟨m4.cols, m4.vals, m4.fields, m4.expr, m4.wh⟩ : CmIn (cb + 1) w4 { cm0 with kind := 1, name := x4 } (.slice none 0 0) (.slice none 0 0) (.slice none 0 0) (.slice none 0 0) (.slice none 0 0)) hcB 1 (.string ⟨x4.toArray⟩)
        generalize hW5 : w4.setCell ⟨cb, 1, none⟩ (.string ⟨x4.toArray⟩) = w5 at c5 k5 s5 g5 m5
        clear c4 k4 s4 g4 m4
        go_wp2_with fail
        clear hW5 q5a q5b
        refine (inBr_col s5).mono ?_
        intro e w6 o6
        have g6 := grown_trans g5 o6.grown
        have k6 := (o6.grown.block rb (ltS k5) (by simpa using hfr.1)).trans k5
        have c6 := (o6.grown.block cb (ltS c5) (by simpa using hfc.1)).trans c5
        have m6 := m5.grown hpB o6.grown
        cases hy6 : inBrP T (columnP T) j4 with
        | bad j6 =>
          obtain rfl := o6.bad j6 hy6
          exact ⟨rfl, .mkBad g6 (by rw [HR4.out]; simp only [hy6, Rs.then_bad])⟩
        | ok x6 j6 =>
          obtain ⟨u, rfl, hu6, s6⟩ := o6.ok x6 j6 hy6
          have HR6 : Hid (createP T i = .ok { cm0 with kind := 1, name := x4, cols := x6 } j6) := by show _ = _; rw [HR4.out]; simp only [hy6, Rs.then_ok]
          have hz6 : cb + 1 ≤ w5.heap.size := by have := (ltS c5); omega
          obtain ⟨ao6, ca6, rfl⟩ := RowAt.form hu6
          clear hy6 o6 k5 s5 g5 HR4 c5 m5
          have q7a : w6.cell? ⟨cb, 4, none⟩ = some _ := (Lib.cell_of_heap c6 4).trans rfl
          have q7b : w6.frozen? ⟨cb, 4, none⟩ = false := Lib.frozen_of_heap c6 4
          have c7 : (w6.setCell ⟨cb, 4, none⟩ (.slice ao6 x6.length ca6)).heap[cb]? = some (.cells (cmL { cm0 with kind := 1, name := x4, cols := x6 } (.slice ao6 x6.length ca6) (.slice none 0 0) (.slice none 0 0) (.slice none 0 0) (.slice none 0 0)).toArray 31) := heap_setCell_same _ _ _ _ 31 _ c6
          have k7 := (heap_setCell_other w6 ⟨cb, 4, none⟩ rb (.slice ao6 x6.length ca6) (Nat.ne_of_lt hrc)).trans k6
          have s7 := s6.put hfc 4 (.slice ao6 x6.length ca6)
          have g7 := grown_put g6 hcw 4 (.slice ao6 x6.length ca6)
          have m7 := CmIn.put (⟨RowAt.weak hu6 hz6, m6.vals, m6.fields, m6.expr, m6.wh⟩ : CmIn (cb + 1) w6 { cm0 with kind := 1, name := x4, cols := x6 } (.slice ao6 x6.length ca6) (.slice none 0 0) (.slice none 0 0) (.slice none 0 0) (.slice none 0 0)) hcB 4 (.slice ao6 x6.length ca6)
          generalize hW7 : w6.setCell ⟨cb, 4, none⟩ (.slice ao6 x6.length ca6) = w7 at c7 k7 s7 g7 m7
          clear c6 k6 s6 g6 m6
          go_wp2_with (first | (refine wpList_load_whole 31 _ rfl rfl _ (cmL { cm0 with kind := 1, name := x4, cols := x6 } (.slice ao6 x6.length ca6) (.slice none 0 0) (.slice none 0 0) (.slice none 0 0) (.slice none 0 0)) 31 _ rfl (by exact c7) Tryz.underlying31 rfl Tryz.size31 ?_) | (refine wpList_store_whole 31 _ _ rfl rfl _ (cmL cm0 (.slice none 0 0) (.slice none 0 0) (.slice none 0 0) (.slice none 0 0) (.slice none 0 0)) (cmL { cm0 with kind := 1, name := x4, cols := x6 } (.slice ao6 x6.length ca6) (.slice none 0 0) (.slice none 0 0) (.slice none 0 0) (.slice none 0 0)) 31 rfl rfl (by exact k7) rfl Tryz.size31 (by exact m7.one) ?_; intro wz kz pz))
          refine bodyPost_ret (v := .agg (cmL { cm0 with kind := 1, name := x4, cols := x6 } (.slice ao6 x6.length ca6) (.slice none 0 0) (.slice none 0 0) (.slice none 0 0) (.slice none 0 0)).toArray) (results_whole rfl _ _ _ _ 31 _ rfl kz Tryz.underlying31 rfl Tryz.size31) rfl (.mkOk (by rw [pz.out]; exact grown_putAll g7 hrw 0 _) HR6.out ⟨_, _, _, _, _, rfl, by rw [pz.out]; exact (m7.putAll hrB 0 _).weak hBw⟩ (by rw [pz.out]; exact s7.putAll hfr 0 _))
    · skip
      have HR8 : Hid (createP T i = (nameP T j1).then fun n j => (must T [w_on] j).then fun _ j => (nameP T j).then fun o j => (must T [[40]] j).then fun _ j => (nameP T j).then fun c j => (must T [[41]] j).then fun _ j => .ok { cm0 with kind := 8, name := n, other := o, column := c } j) := by show _ = _; rw [HR1.out, if_neg (by decide)]
      clear HR1
      go_wp2_with (first | (refine wpList_alloc_blk 4 31 (cmL cm0 (.slice none 0 0) (.slice none 0 0) (.slice none 0 0) (.slice none 0 0) (.slice none 0 0)) rfl rfl rfl Tryz.alloc31 ?_; intro wA cb hcb cA bA) | (refine wpList_store_whole 31 _ _ rfl rfl _ (cmL cm0 (.slice none 0 0) (.slice none 0 0) (.slice none 0 0) (.slice none 0 0) (.slice none 0 0)) (cmL { cm0 with kind := 8 } (.slice none 0 0) (.slice none 0 0) (.slice none 0 0) (.slice none 0 0) (.slice none 0 0)) 31 rfl rfl (by exact cA) rfl Tryz.size31 (by exact CmIn.one (cmIn0 0 w { cm0 with kind := 8 } rfl rfl rfl rfl rfl)) ?_; intro w9 c9 p9))
      have hrc : rb < cb := by have := (ltS k1); have := hcb.out; omega
      have hcw : w.heap.size ≤ cb := by omega
      have hfc := h.fresh hcw
      have hpB : pb < cb + 1 := by omega
      have hcB : cb < cb + 1 := by omega
      have hrB : rb < cb + 1 := by omega
      have hBw : w.heap.size ≤ cb + 1 := by omega
      have s9 : St w9 base pb v T en j1 := by rw [p9.out]; exact (s1.below bA).putAll hfc 0 _
      have g9 : w.grownBy w9 (some pb) := by rw [p9.out]; exact grown_putAll (grown_trans g1 (grown_below bA _)) hcw 0 _
      have k9 : w9.heap[rb]? = some (.cells (cmL cm0 (.slice none 0 0) (.slice none 0 0) (.slice none 0 0) (.slice none 0 0) (.slice none 0 0)).toArray 31) := by rw [p9.out]; exact (putAll_other _ _ _ _ _ (Nat.ne_of_lt hrc)).trans ((bA.block rb (ltS k1)).trans k1)
      have m9 : CmIn (cb + 1) w9 { cm0 with kind := 8 } (.slice none 0 0) (.slice none 0 0) (.slice none 0 0) (.slice none 0 0) (.slice none 0 0) := cmIn0 _ _ _ rfl rfl rfl rfl rfl
      clear cA bA p9 hcb k1 s1 g1
      refine (name_any s9).mono ?_
      intro e w10 o10
      have g10 := grown_trans g9 o10.grown
      have k10 := (o10.grown.block rb (ltS k9) (by simpa using hfr.1)).trans k9
      have c10 := (o10.grown.block cb (ltS c9) (by simpa using hfc.1)).trans c9
      have m10 := m9.grown hpB o10.grown
      cases hy10 : nameP T j1 with
      | bad j10 =>
        obtain rfl := o10.bad j10 hy10
        exact ⟨rfl, .mkBad g10 (by rw [HR8.out]; simp only [hy10, Rs.then_bad])⟩
      | ok x10 j10 =>
        obtain ⟨u, rfl, hu10, s10⟩ := o10.ok x10 j10 hy10
        have HR10 : Hid (createP T i = (must T [w_on] j10).then fun _ j => (nameP T j).then fun o j => (must T [[40]] j).then fun _ j => (nameP T j).then fun c j => (must T [[41]] j).then fun _ j => .ok { cm0 with kind := 8, name := x10, other := o, column := c } j) := by show _ = _; rw [HR8.out]; simp only [hy10, Rs.then_ok]
        cases hu10
        clear hy10 o10 k9 s9 g9 HR8 c9 m9
        have q11a : w10.cell? ⟨cb, 1, none⟩ = some _ := (Lib.cell_of_heap c10 1).trans rfl
        have q11b : w10.frozen? ⟨cb, 1, none⟩ = false := Lib.frozen_of_heap c10 1
        have c11 : (w10.setCell ⟨cb, 1, none⟩ (.string ⟨x10.toArray⟩)).heap[cb]? = some (.cells (cmL { cm0 with kind := 8, name := x10 } (.slice none 0 0) (.slice none 0 0) (.slice none 0 0) (.slice none 0 0) (.slice none 0 0)).toArray 31) := heap_setCell_same _ _ _ _ 31 _ c10
        have k11 := (heap_setCell_other w10 ⟨cb, 1, none⟩ rb (.string ⟨x10.toArray⟩) (Nat.ne_of_lt hrc)).trans k10
        have s11 := s10.put hfc 1 (.string ⟨x10.toArray⟩)
        have g11 := grown_put g10 hcw 1 (.string ⟨x10.toArray⟩)
        have m11 := CmIn.put (⟨m10.cols, m10.vals, m10.fields, m10.expr, m10.wh⟩ : CmIn (cb + 1) w10 { cm0 with kind := 8, name := x10 } (.slice none 0 0) (.slice none 0 0) (.slice none 0 0) (.slice none 0 0) (.slice none 0 0)) hcB 1 (.string ⟨x10.toArray⟩)
        generalize hW11 : w10.setCell ⟨cb, 1, none⟩ (.string ⟨x10.toArray⟩) = w11 at c11 k11 s11 g11 m11
        clear c10 k10 s10 g10 m10
        go_wp2_with fail
        clear hW11 q11a q11b
        refine (must_new s11 [w_on] 1 _ (by first | rfl | simp) _ (by rfl) (by rfl) (by decide) (by decide)).mono ?_
        intro e w12 o12
        have g12 := grown_trans g11 o12.grown
        have k12 := (o12.grown.block rb (ltS k11) (by simpa using hfr.1)).trans k11
        have c12 := (o12.grown.block cb (ltS c11) (by simpa using hfc.1)).trans c11
        have m12 := m11.grown hpB o12.grown
        cases hy12 : must T [w_on] j10 with
        | bad j12 =>
          obtain rfl := o12.bad j12 hy12
          exact ⟨rfl, .mkBad g12 (by rw [HR10.out]; simp only [hy12, Rs.then_bad])⟩
        | ok x12 j12 =>
          obtain ⟨u, rfl, hu12, s12⟩ := o12.ok x12 j12 hy12
          have HR12 : Hid (createP T i = (nameP T j12).then fun o j => (must T [[40]] j).then fun _ j => (nameP T j).then fun c j => (must T [[41]] j).then fun _ j => .ok { cm0 with kind := 8, name := x10, other := o, column := c } j) := by show _ = _; rw [HR10.out]; simp only [hy12, Rs.then_ok]
          clear hy12 o12 k11 s11 g11 HR10 c11 m11 hu12
          go_wp2_with fail
          refine (name_any s12).mono ?_
          intro e w13 o13
          have g13 := grown_trans g12 o13.grown
          have k13 := (o13.grown.block rb (ltS k12) (by simpa using hfr.1)).trans k12
          have c13 := (o13.grown.block cb (ltS c12) (by simpa using hfc.1)).trans c12
          have m13 := m12.grown hpB o13.grown
          cases hy13 : nameP T j12 with
          | bad j13 =>
            obtain rfl := o13.bad j13 hy13
            exact ⟨rfl, .mkBad g13 (by rw [HR12.out]; simp only [hy13, Rs.then_bad])⟩
          | ok x13 j13 =>
            obtain ⟨u, rfl, hu13, s13⟩ := o13.ok x13 j13 hy13
            have HR13 : Hid (createP T i = (must T [[40]] j13).then fun _ j => (nameP T j).then fun c j => (must T [[41]] j).then fun _ j => .ok { cm0 with kind := 8, name := x10, other := x13, column := c } j) := by show _ = _; rw [HR12.out]; simp only [hy13, Rs.then_ok]
            cases hu13
            clear hy13 o13 k12 s12 g12 HR12 c12 m12
            have q14a : w13.cell? ⟨cb, 2, none⟩ = some _ := (Lib.cell_of_heap c13 2).trans rfl
            have q14b : w13.frozen? ⟨cb, 2, none⟩ = false := Lib.frozen_of_heap c13 2
            have c14 : (w13.setCell ⟨cb, 2, none⟩ (.string ⟨x13.toArray⟩)).heap[cb]? = some (.cells (cmL { cm0 with kind := 8, name := x10, other := x13 } (.slice none 0 0) (.slice none 0 0) (.slice none 0 0) (.slice none 0 0) (.slice none 0 0)).toArray 31) := heap_setCell_same _ _ _ _ 31 _ c13
            have k14 := (heap_setCell_other w13 ⟨cb, 2, none⟩ rb (.string ⟨x13.toArray⟩) (Nat.ne_of_lt hrc)).trans k13
            have s14 := s13.put hfc 2 (.string ⟨x13.toArray⟩)
            have g14 := grown_put g13 hcw 2 (.string ⟨x13.toArray⟩)
            have m14 := CmIn.put (⟨m13.cols, m13.vals, m13.fields, m13.expr, m13.wh⟩ : CmIn (cb + 1) w13 { cm0 with kind := 8, name := x10, other := x13 } (.slice none 0 0) (.slice none 0 0) (.slice none 0 0) (.slice none 0 0) (.slice none 0 0)) hcB 2 (.string ⟨x13.toArray⟩)
            generalize hW14 : w13.setCell ⟨cb, 2, none⟩ (.string ⟨x13.toArray⟩) = w14 at c14 k14 s14 g14 m14
            clear c13 k13 s13 g13 m13
            go_wp2_with fail
            clear hW14 q14a q14b
            refine (must_new s14 [[40]] 1 _ (by first | rfl | simp) _ (by rfl) (by rfl) (by decide) (by decide)).mono ?_
            intro e w15 o15
            have g15 := grown_trans g14 o15.grown
            have k15 := (o15.grown.block rb (ltS k14) (by simpa using hfr.1)).trans k14
            have c15 := (o15.grown.block cb (ltS c14) (by simpa using hfc.1)).trans c14
            have m15 := m14.grown hpB o15.grown
            cases hy15 : must T [[40]] j13 with
            | bad j15 =>
              obtain rfl := o15.bad j15 hy15
              exact ⟨rfl, .mkBad g15 (by rw [HR13.out]; simp only [hy15, Rs.then_bad])⟩
            | ok x15 j15 =>
              obtain ⟨u, rfl, hu15, s15⟩ := o15.ok x15 j15 hy15
              have HR15 : Hid (createP T i = (nameP T j15).then fun c j => (must T [[41]] j).then fun _ j => .ok { cm0 with kind := 8, name := x10, other := x13, column := c } j) := by show _ = _; rw [HR13.out]; simp only [hy15, Rs.then_ok]
              clear hy15 o15 k14 s14 g14 HR13 c14 m14 hu15
              go_wp2_with fail
              refine (name_any s15).mono ?_
              intro e w16 o16
              have g16 := grown_trans g15 o16.grown
              have k16 := (o16.grown.block rb (ltS k15) (by simpa using hfr.1)).trans k15
              have c16 := (o16.grown.block cb (ltS c15) (by simpa using hfc.1)).trans c15
              have m16 := m15.grown hpB o16.grown
              cases hy16 : nameP T j15 with
              | bad j16 =>
                obtain rfl := o16.bad j16 hy16
                exact ⟨rfl, .mkBad g16 (by rw [HR15.out]; simp only [hy16, Rs.then_bad])⟩
              | ok x16 j16 =>
                obtain ⟨u, rfl, hu16, s16⟩ := o16.ok x16 j16 hy16
                have HR16 : Hid (createP T i = (must T [[41]] j16).then fun _ j => .ok { cm0 with kind := 8, name := x10, other := x13, column := x16 } j) := by show _ = _; rw [HR15.out]; simp only [hy16, Rs.then_ok]
                cases hu16
                clear hy16 o16 k15 s15 g15 HR15 c15 m15
                have q17a : w16.cell? ⟨cb, 3, none⟩ = some _ := (Lib.cell_of_heap c16 3).trans rfl
                have q17b : w16.frozen? ⟨cb, 3, none⟩ = false := Lib.frozen_of_heap c16 3
                have c17 : (w16.setCell ⟨cb, 3, none⟩ (.string ⟨x16.toArray⟩)).heap[cb]? = some (.cells (cmL { cm0 with kind := 8, name := x10, other := x13, column := x16 } (.slice none 0 0) (.slice none 0 0) (.slice none 0 0) (.slice none 0 0) (.slice none 0 0)).toArray 31) := heap_setCell_same _ _ _ _ 31 _ c16
                have k17 := (heap_setCell_other w16 ⟨cb, 3, none⟩ rb (.string ⟨x16.toArray⟩) (Nat.ne_of_lt hrc)).trans k16
                have s17 := s16.put hfc 3 (.string ⟨x16.toArray⟩)
                have g17 := grown_put g16 hcw 3 (.string ⟨x16.toArray⟩)
                have m17 := CmIn.put (⟨m16.cols, m16.vals, m16.fields, m16.expr, m16.wh⟩ : CmIn (cb + 1) w16 { cm0 with kind := 8, name := x10, other := x13, column := x16 } (.slice none 0 0) (.slice none 0 0) (.slice none 0 0) (.slice none 0 0) (.slice none 0 0)) hcB 3 (.string ⟨x16.toArray⟩)
                generalize hW17 : w16.setCell ⟨cb, 3, none⟩ (.string ⟨x16.toArray⟩) = w17 at c17 k17 s17 g17 m17
                clear c16 k16 s16 g16 m16
                go_wp2_with fail
                clear hW17 q17a q17b
                refine (must_new s17 [[41]] 1 _ (by first | rfl | simp) _ (by rfl) (by rfl) (by decide) (by decide)).mono ?_
                intro e w18 o18
                have g18 := grown_trans g17 o18.grown
                have k18 := (o18.grown.block rb (ltS k17) (by simpa using hfr.1)).trans k17
                have c18 := (o18.grown.block cb (ltS c17) (by simpa using hfc.1)).trans c17
                have m18 := m17.grown hpB o18.grown
                cases hy18 : must T [[41]] j16 with
                | bad j18 =>
                  obtain rfl := o18.bad j18 hy18
                  exact ⟨rfl, .mkBad g18 (by rw [HR16.out]; simp only [hy18, Rs.then_bad])⟩
                | ok x18 j18 =>
                  obtain ⟨u, rfl, hu18, s18⟩ := o18.ok x18 j18 hy18
                  have HR18 : Hid (createP T i = .ok { cm0 with kind := 8, name := x10, other := x13, column := x16 } j18) := by show _ = _; rw [HR16.out]; simp only [hy18, Rs.then_ok]
                  clear hy18 o18 k17 s17 g17 HR16 c17 m17 hu18
                  go_wp2_with (first | (refine wpList_load_whole 31 _ rfl rfl _ (cmL { cm0 with kind := 8, name := x10, other := x13, column := x16 } (.slice none 0 0) (.slice none 0 0) (.slice none 0 0) (.slice none 0 0) (.slice none 0 0)) 31 _ rfl (by exact c18) Tryz.underlying31 rfl Tryz.size31 ?_) | (refine wpList_store_whole 31 _ _ rfl rfl _ (cmL cm0 (.slice none 0 0) (.slice none 0 0) (.slice none 0 0) (.slice none 0 0) (.slice none 0 0)) (cmL { cm0 with kind := 8, name := x10, other := x13, column := x16 } (.slice none 0 0) (.slice none 0 0) (.slice none 0 0) (.slice none 0 0) (.slice none 0 0)) 31 rfl rfl (by exact k18) rfl Tryz.size31 (by exact m18.one) ?_; intro wz kz pz))
                  refine bodyPost_ret (v := .agg (cmL { cm0 with kind := 8, name := x10, other := x13, column := x16 } (.slice none 0 0) (.slice none 0 0) (.slice none 0 0) (.slice none 0 0) (.slice none 0 0)).toArray) (results_whole rfl _ _ _ _ 31 _ rfl kz Tryz.underlying31 rfl Tryz.size31) rfl (.mkOk (by rw [pz.out]; exact grown_putAll g18 hrw 0 _) HR18.out ⟨_, _, _, _, _, rfl, by rw [pz.out]; exact (m18.putAll hrB 0 _).weak hBw⟩ (by rw [pz.out]; exact s18.putAll hfr 0 _))
theorem drop_any {w : World} {base pb : Nat} {v : Value} {T : List Tk} {en : Int} {i : Nat} (h : St w base pb v T en i) :
    Calls Tryz.prog 106 #[.pointer (some ⟨pb, 0, none⟩)] w fun e w' => Out w base pb v T en (repM w.heap.size) (dropP T i) e w' := by
  have hpl := h.heapLt
  have HR0 : Hid (dropP T i = (oneOf T [w_table, w_index] i).then fun s j => (nameP T j).then fun n j => .ok { cm0 with kind := if s = w_index then 9 else 2, name := n } j) := by show _ = _; rw [dropP]
  go_enter Tryz.func106, Tryz.ntmps106
  go_wp2_with (first | (refine wpList_alloc_blk 2 31 (cmL cm0 (.slice none 0 0) (.slice none 0 0) (.slice none 0 0) (.slice none 0 0) (.slice none 0 0)) rfl rfl rfl Tryz.alloc31 ?_; intro W0 rb hrb k0 b0) | (refine wpList_alloc_blk 3 31 (cmL cm0 (.slice none 0 0) (.slice none 0 0) (.slice none 0 0) (.slice none 0 0) (.slice none 0 0)) rfl rfl rfl Tryz.alloc31 ?_; intro wA cb hcb cA bA) | (refine wpList_store_whole 31 _ _ rfl rfl _ (cmL cm0 (.slice none 0 0) (.slice none 0 0) (.slice none 0 0) (.slice none 0 0) (.slice none 0 0)) (cmL { cm0 with kind := 2 } (.slice none 0 0) (.slice none 0 0) (.slice none 0 0) (.slice none 0 0) (.slice none 0 0)) 31 rfl rfl (by exact cA) rfl Tryz.size31 (by exact CmIn.one (cmIn0 0 w { cm0 with kind := 2 } rfl rfl rfl rfl rfl)) ?_; intro w1 c1 p1))
  have hfr := h.fresh (Nat.le_of_eq hrb.out.symm)
  have hrw : w.heap.size ≤ rb := Nat.le_of_eq hrb.out.symm
  have s0 := h.below b0
  have g0 := grown_below b0 (some pb)
  clear b0
  have hrc : rb < cb := by have := (ltS k0); have := hcb.out; omega
  have hcw : w.heap.size ≤ cb := by omega
  have hfc := h.fresh hcw
  have hpB : pb < cb + 1 := by omega
  have hcB : cb < cb + 1 := by omega
  have hrB : rb < cb + 1 := by omega
  have hBw : w.heap.size ≤ cb + 1 := by omega
  have s1 : St w1 base pb v T en i := by rw [p1.out]; exact (s0.below bA).putAll hfc 0 _
  have g1 : w.grownBy w1 (some pb) := by rw [p1.out]; exact grown_putAll (grown_trans g0 (grown_below bA _)) hcw 0 _
  have k1 : w1.heap[rb]? = some (.cells (cmL cm0 (.slice none 0 0) (.slice none 0 0) (.slice none 0 0) (.slice none 0 0) (.slice none 0 0)).toArray 31) := by rw [p1.out]; exact (putAll_other _ _ _ _ _ (Nat.ne_of_lt hrc)).trans ((bA.block rb (ltS k0)).trans k0)
  have m1 : CmIn (cb + 1) w1 { cm0 with kind := 2 } (.slice none 0 0) (.slice none 0 0) (.slice none 0 0) (.slice none 0 0) (.slice none 0 0) := cmIn0 _ _ _ rfl rfl rfl rfl rfl
  clear cA bA p1 hcb k0 s0 g0
  refine (oneOf_new s1 [w_table, w_index] 2 _ (by first | rfl | simp) _ (by rfl) (by rfl) (by decide) (by decide)).mono ?_
  intro e w2 o2
  have g2 := grown_trans g1 o2.grown
  have k2 := (o2.grown.block rb (ltS k1) (by simpa using hfr.1)).trans k1
  have c2 := (o2.grown.block cb (ltS c1) (by simpa using hfc.1)).trans c1
  have m2 := m1.grown hpB o2.grown
  cases hy2 : oneOf T [w_table, w_index] i with
  | bad j2 =>
    obtain rfl := o2.bad j2 hy2
    exact ⟨rfl, .mkBad g2 (by rw [HR0.out]; simp only [hy2, Rs.then_bad])⟩
  | ok x2 j2 =>
    obtain ⟨u, rfl, hu2, s2⟩ := o2.ok x2 j2 hy2
    have HR2 : Hid (dropP T i = (nameP T j2).then fun n j => .ok { cm0 with kind := if x2 = w_index then 9 else 2, name := n } j) := by show _ = _; rw [HR0.out]; simp only [hy2, Rs.then_ok]
    cases hu2
    have hm2 := oneOf_mem _ _ _ _ _ hy2
    simp only [List.mem_cons, List.not_mem_nil, or_false] at hm2
    clear hy2 o2 k1 s1 g1 HR0 c1 m1
    rcases hm2 with rfl | rfl
    · skip
      have HR3 : Hid (dropP T i = (nameP T j2).then fun n j => .ok { cm0 with kind := 2, name := n } j) := by show _ = _; rw [HR2.out, if_neg (by decide)]
      clear HR2
      go_wp2_with fail
      refine (name_any s2).mono ?_
      intro e w4 o4
      have g4 := grown_trans g2 o4.grown
      have k4 := (o4.grown.block rb (ltS k2) (by simpa using hfr.1)).trans k2
      have c4 := (o4.grown.block cb (ltS c2) (by simpa using hfc.1)).trans c2
      have m4 := m2.grown hpB o4.grown
      cases hy4 : nameP T j2 with
      | bad j4 =>
        obtain rfl := o4.bad j4 hy4
        exact ⟨rfl, .mkBad g4 (by rw [HR3.out]; simp only [hy4, Rs.then_bad])⟩
      | ok x4 j4 =>
        obtain ⟨u, rfl, hu4, s4⟩ := o4.ok x4 j4 hy4
        have HR4 : Hid (dropP T i = .ok { cm0 with kind := 2, name := x4 } j4) := by show _ = _; rw [HR3.out]; simp only [hy4, Rs.then_ok]
        cases hu4
        clear hy4 o4 k2 s2 g2 HR3 c2 m2
        have q5a : w4.cell? ⟨cb, 1, none⟩ = some _ := (Lib.cell_of_heap c4 1).trans rfl
        have q5b : w4.frozen? ⟨cb, 1, none⟩ = false := Lib.frozen_of_heap c4 1
        have c5 : (w4.setCell ⟨cb, 1, none⟩ (.string ⟨x4.toArray⟩)).heap[cb]? = some (.cells (cmL { cm0 with kind := 2, name := x4 } (.slice none 0 0) (.slice none 0 0) (.slice none 0 0) (.slice none 0 0) (.slice none 0 0)).toArray 31) := heap_setCell_same _ _ _ _ 31 _ c4
        have k5 := (heap_setCell_other w4 ⟨cb, 1, none⟩ rb (.string ⟨x4.toArray⟩) (Nat.ne_of_lt hrc)).trans k4
        have s5 := s4.put hfc 1 (.string ⟨x4.toArray⟩)
        have g5 := grown_put g4 hcw 1 (.string ⟨x4.toArray⟩)
        have m5 := CmIn.put (⟨m4.cols, m4.vals, m4.fields, m4.expr, m4.wh⟩ : CmIn (cb + 1) w4 { cm0 with kind := 2, name := x4 } (.slice none 0 0) (.slice none 0 0) (.slice none 0 0) (.slice none 0 0) (.slice none 0 0)) hcB 1 (.string ⟨x4.toArray⟩)
        generalize hW5 : w4.setCell ⟨cb, 1, none⟩ (.string ⟨x4.toArray⟩) = w5 at c5 k5 s5 g5 m5
        clear c4 k4 s4 g4 m4
        go_wp2_with (first | (refine wpList_load_whole 31 _ rfl rfl _ (cmL { cm0 with kind := 2, name := x4 } (.slice none 0 0) (.slice none 0 0) (.slice none 0 0) (.slice none 0 0) (.slice none 0 0)) 31 _ rfl (by exact c5) Tryz.underlying31 rfl Tryz.size31 ?_) | (refine wpList_store_whole 31 _ _ rfl rfl _ (cmL cm0 (.slice none 0 0) (.slice none 0 0) (.slice none 0 0) (.slice none 0 0) (.slice none 0 0)) (cmL { cm0 with kind := 2, name := x4 } (.slice none 0 0) (.slice none 0 0) (.slice none 0 0) (.slice none 0 0) (.slice none 0 0)) 31 rfl rfl (by exact k5) rfl Tryz.size31 (by exact m5.one) ?_; intro wz kz pz))
        refine bodyPost_ret (v := .agg (cmL { cm0 with kind := 2, name := x4 } (.slice none 0 0) (.slice none 0 0) (.slice none 0 0) (.slice none 0 0) (.slice none 0 0)).toArray) (results_whole rfl _ _ _ _ 31 _ rfl kz Tryz.underlying31 rfl Tryz.size31) rfl (.mkOk (by rw [pz.out]; exact grown_putAll g5 hrw 0 _) HR4.out ⟨_, _, _, _, _, rfl, by rw [pz.out]; exact (m5.putAll hrB 0 _).weak hBw⟩ (by rw [pz.out]; exact s5.putAll hfr 0 _))
    · skip
      have HR6 : Hid (dropP T i = (nameP T j2).then fun n j => .ok { cm0 with kind := 9, name := n } j) := by show _ = _; rw [HR2.out, if_pos rfl]
      clear HR2
      have q7a : w2.cell? ⟨cb, 0, none⟩ = some _ := (Lib.cell_of_heap c2 0).trans rfl
      have q7b : w2.frozen? ⟨cb, 0, none⟩ = false := Lib.frozen_of_heap c2 0
      have c7 : (w2.setCell ⟨cb, 0, none⟩ (.int .i64 9)).heap[cb]? = some (.cells (cmL { cm0 with kind := 9 } (.slice none 0 0) (.slice none 0 0) (.slice none 0 0) (.slice none 0 0) (.slice none 0 0)).toArray 31) := heap_setCell_same _ _ _ _ 31 _ c2
      have k7 := (heap_setCell_other w2 ⟨cb, 0, none⟩ rb (.int .i64 9) (Nat.ne_of_lt hrc)).trans k2
      have s7 := s2.put hfc 0 (.int .i64 9)
      have g7 := grown_put g2 hcw 0 (.int .i64 9)
      have m7 := CmIn.put (⟨m2.cols, m2.vals, m2.fields, m2.expr, m2.wh⟩ : CmIn (cb + 1) w2 { cm0 with kind := 9 } (.slice none 0 0) (.slice none 0 0) (.slice none 0 0) (.slice none 0 0) (.slice none 0 0)) hcB 0 (.int .i64 9)
      generalize hW7 : w2.setCell ⟨cb, 0, none⟩ (.int .i64 9) = w7 at c7 k7 s7 g7 m7
      clear c2 k2 s2 g2 m2
      go_wp2_with fail
      clear hW7 q7a q7b
      refine (name_any s7).mono ?_
      intro e w8 o8
      have g8 := grown_trans g7 o8.grown
      have k8 := (o8.grown.block rb (ltS k7) (by simpa using hfr.1)).trans k7
      have c8 := (o8.grown.block cb (ltS c7) (by simpa using hfc.1)).trans c7
      have m8 := m7.grown hpB o8.grown
      cases hy8 : nameP T j2 with
      | bad j8 =>
        obtain rfl := o8.bad j8 hy8
        exact ⟨rfl, .mkBad g8 (by rw [HR6.out]; simp only [hy8, Rs.then_bad])⟩
      | ok x8 j8 =>
        obtain ⟨u, rfl, hu8, s8⟩ := o8.ok x8 j8 hy8
        have HR8 : Hid (dropP T i = .ok { cm0 with kind := 9, name := x8 } j8) := by show _ = _; rw [HR6.out]; simp only [hy8, Rs.then_ok]
        cases hu8
        clear hy8 o8 k7 s7 g7 HR6 c7 m7
        have q9a : w8.cell? ⟨cb, 1, none⟩ = some _ := (Lib.cell_of_heap c8 1).trans rfl
        have q9b : w8.frozen? ⟨cb, 1, none⟩ = false := Lib.frozen_of_heap c8 1
        have c9 : (w8.setCell ⟨cb, 1, none⟩ (.string ⟨x8.toArray⟩)).heap[cb]? = some (.cells (cmL { cm0 with kind := 9, name := x8 } (.slice none 0 0) (.slice none 0 0) (.slice none 0 0) (.slice none 0 0) (.slice none 0 0)).toArray 31) := heap_setCell_same _ _ _ _ 31 _ c8
        have k9 := (heap_setCell_other w8 ⟨cb, 1, none⟩ rb (.string ⟨x8.toArray⟩) (Nat.ne_of_lt hrc)).trans k8
        have s9 := s8.put hfc 1 (.string ⟨x8.toArray⟩)
        have g9 := grown_put g8 hcw 1 (.string ⟨x8.toArray⟩)
        have m9 := CmIn.put (⟨m8.cols, m8.vals, m8.fields, m8.expr, m8.wh⟩ : CmIn (cb + 1) w8 { cm0 with kind := 9, name := x8 } (.slice none 0 0) (.slice none 0 0) (.slice none 0 0) (.slice none 0 0) (.slice none 0 0)) hcB 1 (.string ⟨x8.toArray⟩)
        generalize hW9 : w8.setCell ⟨cb, 1, none⟩ (.string ⟨x8.toArray⟩) = w9 at c9 k9 s9 g9 m9
        clear c8 k8 s8 g8 m8
        go_wp2_with (first | (refine wpList_load_whole 31 _ rfl rfl _ (cmL { cm0 with kind := 9, name := x8 } (.slice none 0 0) (.slice none 0 0) (.slice none 0 0) (.slice none 0 0) (.slice none 0 0)) 31 _ rfl (by exact c9) Tryz.underlying31 rfl Tryz.size31 ?_) | (refine wpList_store_whole 31 _ _ rfl rfl _ (cmL cm0 (.slice none 0 0) (.slice none 0 0) (.slice none 0 0) (.slice none 0 0) (.slice none 0 0)) (cmL { cm0 with kind := 9, name := x8 } (.slice none 0 0) (.slice none 0 0) (.slice none 0 0) (.slice none 0 0) (.slice none 0 0)) 31 rfl rfl (by exact k9) rfl Tryz.size31 (by exact m9.one) ?_; intro wz kz pz))
        refine bodyPost_ret (v := .agg (cmL { cm0 with kind := 9, name := x8 } (.slice none 0 0) (.slice none 0 0) (.slice none 0 0) (.slice none 0 0) (.slice none 0 0)).toArray) (results_whole rfl _ _ _ _ 31 _ rfl kz Tryz.underlying31 rfl Tryz.size31) rfl (.mkOk (by rw [pz.out]; exact grown_putAll g9 hrw 0 _) HR8.out ⟨_, _, _, _, _, rfl, by rw [pz.out]; exact (m9.putAll hrB 0 _).weak hBw⟩ (by rw [pz.out]; exact s9.putAll hfr 0 _))
structure G2 (pb cb : Nat) (W w' : World) : Prop where
  os : w'.os = W.os
  tape : w'.tape = W.tape
  output : w'.output = W.output
  size : W.heap.size ≤ w'.heap.size
  block : ∀ k, k < W.heap.size → k ≠ pb → k ≠ cb → w'.heap[k]? = W.heap[k]?
theorem G2.refl (pb cb : Nat) (W : World) : G2 pb cb W W := ⟨rfl, rfl, rfl, Nat.le_refl _, fun _ _ _ _ => rfl⟩
theorem G2.grown {pb cb : Nat} {W w w' : World} (h : G2 pb cb W w) (g : w.grownBy w' (some pb)) : G2 pb cb W w' :=
  ⟨g.os.trans h.os, g.tape.trans h.tape, g.output.trans h.output, Nat.le_trans h.size g.size, fun k hk hp hc => (g.block k (Nat.lt_of_lt_of_le hk h.size) (by simpa using hp)).trans (h.block k hk hp hc)⟩
theorem G2.put {pb cb : Nat} {W w : World} (h : G2 pb cb W w) (o : Nat) (x : Value) : G2 pb cb W (w.setCell ⟨cb, o, none⟩ x) :=
  ⟨h.os, h.tape, h.output, by simpa [World.setCell] using h.size, fun k hk hp hc => (heap_setCell_other w ⟨cb, o, none⟩ k x hc).trans (h.block k hk hp hc)⟩
theorem G2.outBad {W w' : World} {base pb : Nat} {v : Value} {T : List Tk} {en : Int} {cb : Nat} {good : World → Cm → Prop} {r : Rs Cm} {j : Nat} (h : G2 pb cb W w') (hr : r = .bad j) : OutC W base pb v T en cb good r (pan (pl T en j)) w' :=
  ⟨h.os, h.tape, h.output, h.size, h.block, (by intro c' j' hh; rw [hr] at hh; cases hh), (by intro j' hh; rw [hr] at hh; cases hh; rfl)⟩
theorem G2.outOk {W w' : World} {base pb : Nat} {v : Value} {T : List Tk} {en : Int} {cb : Nat} {good : World → Cm → Prop} {r : Rs Cm} {c : Cm} {j : Nat} (h : G2 pb cb W w') (hr : r = .ok c j) (hg : good w' c) (hs : St w' base pb v T en j) : OutC W base pb v T en cb good r (.returned (.tuple #[])) w' :=
  ⟨h.os, h.tape, h.output, h.size, h.block, (by intro c' j' hh; rw [hr] at hh; cases hh; exact ⟨rfl, hg, hs⟩), (by intro j' hh; rw [hr] at hh; cases hh)⟩
def goodR (cb : Nat) (cv vv fv ea wa : Value) (w' : World) (c' : Cm) : Prop := w'.heap[cb]? = some (.cells (cmL c' cv vv fv ea wa).toArray 31)
theorem rename_any {w : World} {base pb : Nat} {v : Value} {T : List Tk} {en : Int} {i : Nat} (h : St w base pb v T en i) (cb : Nat) (hfc : cb ≠ pb ∧ v.ownBlock ≠ some cb ∧ 6 ≤ cb) (c : Cm) (cv vv fv ea wa : Value) (hc : w.heap[cb]? = some (.cells (cmL c cv vv fv ea wa).toArray 31)) :
    Calls Tryz.prog 147 #[.pointer (some ⟨pb, 0, none⟩), .pointer (some ⟨cb, 0, none⟩)] w fun e w' => OutC w base pb v T en cb (goodR cb cv vv fv ea wa) (renameP T c i) e w' := by
  have g0 := G2.refl pb cb w
  have HR0 : Hid (renameP T c i = (may T w_to [] i).then fun b j => if b = true then (nameP T j).then fun o j => .ok { c with kind := 7, other := o } j else (nameP T j).then fun l j => (must T [w_to] j).then fun _ j => (nameP T j).then fun o j => .ok { c with kind := 5, column := l, other := o } j) := rfl
  have q1a : w.cell? ⟨cb, 0, none⟩ = some _ := (Lib.cell_of_heap hc 0).trans rfl
  have q1b : w.frozen? ⟨cb, 0, none⟩ = false := Lib.frozen_of_heap hc 0
  have c1 : (w.setCell ⟨cb, 0, none⟩ (.int .i64 7)).heap[cb]? = some (.cells (cmL { c with kind := 7 } cv vv fv ea wa).toArray 31) := heap_setCell_same _ _ _ _ 31 _ hc
  have s1 := h.put hfc 0 (.int .i64 7)
  have g1 := g0.put 0 (.int .i64 7)
  generalize hW1 : w.setCell ⟨cb, 0, none⟩ (.int .i64 7) = w1 at c1 s1 g1
  clear hc h g0
  go_enter Tryz.func147, Tryz.ntmps147
  go_wp2_with fail
  refine (may_one s1 w_to (by decide)).mono ?_
  intro e w2 o2
  have g2 := g1.grown o2.grown
  have c2 := (o2.grown.block cb (ltS c1) (by simpa using hfc.1)).trans c1
  cases hy2 : may T w_to [] i with
  | bad j2 =>
    obtain rfl := o2.bad j2 hy2
    exact ⟨rfl, g2.outBad (by rw [HR0.out]; simp only [hy2, Rs.then_bad])⟩
  | ok x2 j2 =>
    obtain ⟨u, rfl, hu2, s2⟩ := o2.ok x2 j2 hy2
    have HR2 : Hid (renameP T c i = if x2 = true then (nameP T j2).then fun o j => .ok { c with kind := 7, other := o } j else (nameP T j2).then fun l j => (must T [w_to] j).then fun _ j => (nameP T j).then fun o j => .ok { c with kind := 5, column := l, other := o } j) := by show _ = _; rw [HR0.out]; simp only [hy2, Rs.then_ok]
    cases hu2
    clear hy2 o2 g1 c1 s1 HR0
    cases x2 with
    | true =>
      have HR3 : Hid (renameP T c i = (nameP T j2).then fun o j => .ok { c with kind := 7, other := o } j) := by show _ = _; rw [HR2.out]; rfl
      clear HR2
      go_wp2_with fail
      refine (name_any s2).mono ?_
      intro e w4 o4
      have g4 := g2.grown o4.grown
      have c4 := (o4.grown.block cb (ltS c2) (by simpa using hfc.1)).trans c2
      cases hy4 : nameP T j2 with
      | bad j4 =>
        obtain rfl := o4.bad j4 hy4
        exact ⟨rfl, g4.outBad (by rw [HR3.out]; simp only [hy4, Rs.then_bad])⟩
      | ok x4 j4 =>
        obtain ⟨u, rfl, hu4, s4⟩ := o4.ok x4 j4 hy4
        have HR4 : Hid (renameP T c i = .ok { c with kind := 7, other := x4 } j4) := by show _ = _; rw [HR3.out]; simp only [hy4, Rs.then_ok]
        cases hu4
        clear hy4 o4 g2 c2 s2 HR3
        have q5a : w4.cell? ⟨cb, 2, none⟩ = some _ := (Lib.cell_of_heap c4 2).trans rfl
        have q5b : w4.frozen? ⟨cb, 2, none⟩ = false := Lib.frozen_of_heap c4 2
        have c5 : (w4.setCell ⟨cb, 2, none⟩ (.string ⟨x4.toArray⟩)).heap[cb]? = some (.cells (cmL { c with kind := 7, other := x4 } cv vv fv ea wa).toArray 31) := heap_setCell_same _ _ _ _ 31 _ c4
        have s5 := s4.put hfc 2 (.string ⟨x4.toArray⟩)
        have g5 := g4.put 2 (.string ⟨x4.toArray⟩)
        generalize hW5 : w4.setCell ⟨cb, 2, none⟩ (.string ⟨x4.toArray⟩) = w5 at c5 s5 g5
        clear c4 s4 g4
        go_wp2_with fail
        go_end0
        exact g5.outOk HR4.out c5 s5
    | false =>
      have HR6 : Hid (renameP T c i = (nameP T j2).then fun l j => (must T [w_to] j).then fun _ j => (nameP T j).then fun o j => .ok { c with kind := 5, column := l, other := o } j) := by show _ = _; rw [HR2.out]; rfl
      clear HR2
      have q7a : w2.cell? ⟨cb, 0, none⟩ = some _ := (Lib.cell_of_heap c2 0).trans rfl
      have q7b : w2.frozen? ⟨cb, 0, none⟩ = false := Lib.frozen_of_heap c2 0
      have c7 : (w2.setCell ⟨cb, 0, none⟩ (.int .i64 5)).heap[cb]? = some (.cells (cmL { c with kind := 5 } cv vv fv ea wa).toArray 31) := heap_setCell_same _ _ _ _ 31 _ c2
      have s7 := s2.put hfc 0 (.int .i64 5)
      have g7 := g2.put 0 (.int .i64 5)
      generalize hW7 : w2.setCell ⟨cb, 0, none⟩ (.int .i64 5) = w7 at c7 s7 g7
      clear c2 s2 g2
      go_wp2_with fail
      refine (name_any s7).mono ?_
      intro e w8 o8
      have g8 := g7.grown o8.grown
      have c8 := (o8.grown.block cb (ltS c7) (by simpa using hfc.1)).trans c7
      cases hy8 : nameP T j2 with
      | bad j8 =>
        obtain rfl := o8.bad j8 hy8
        exact ⟨rfl, g8.outBad (by rw [HR6.out]; simp only [hy8, Rs.then_bad])⟩
      | ok x8 j8 =>
        obtain ⟨u, rfl, hu8, s8⟩ := o8.ok x8 j8 hy8
        have HR8 : Hid (renameP T c i = (must T [w_to] j8).then fun _ j => (nameP T j).then fun o j => .ok { c with kind := 5, column := x8, other := o } j) := by show _ = _; rw [HR6.out]; simp only [hy8, Rs.then_ok]
        cases hu8
        clear hy8 o8 g7 c7 s7 HR6
        have q9a : w8.cell? ⟨cb, 3, none⟩ = some _ := (Lib.cell_of_heap c8 3).trans rfl
        have q9b : w8.frozen? ⟨cb, 3, none⟩ = false := Lib.frozen_of_heap c8 3
        have c9 : (w8.setCell ⟨cb, 3, none⟩ (.string ⟨x8.toArray⟩)).heap[cb]? = some (.cells (cmL { c with kind := 5, column := x8 } cv vv fv ea wa).toArray 31) := heap_setCell_same _ _ _ _ 31 _ c8
        have s9 := s8.put hfc 3 (.string ⟨x8.toArray⟩)
        have g9 := g8.put 3 (.string ⟨x8.toArray⟩)
        generalize hW9 : w8.setCell ⟨cb, 3, none⟩ (.string ⟨x8.toArray⟩) = w9 at c9 s9 g9
        clear c8 s8 g8
        go_wp2_with fail
        refine (must_new s9 [w_to] 1 _ (by first | rfl | simp) _ (by rfl) (by rfl) (by decide) (by decide)).mono ?_
        intro e w10 o10
        have g10 := g9.grown o10.grown
        have c10 := (o10.grown.block cb (ltS c9) (by simpa using hfc.1)).trans c9
        cases hy10 : must T [w_to] j8 with
        | bad j10 =>
          obtain rfl := o10.bad j10 hy10
          exact ⟨rfl, g10.outBad (by rw [HR8.out]; simp only [hy10, Rs.then_bad])⟩
        | ok x10 j10 =>
          obtain ⟨u, rfl, hu10, s10⟩ := o10.ok x10 j10 hy10
          have HR10 : Hid (renameP T c i = (nameP T j10).then fun o j => .ok { c with kind := 5, column := x8, other := o } j) := by show _ = _; rw [HR8.out]; simp only [hy10, Rs.then_ok]
          clear hy10 o10 g9 c9 s9 HR8 hu10
          go_wp2_with fail
          refine (name_any s10).mono ?_
          intro e w11 o11
          have g11 := g10.grown o11.grown
          have c11 := (o11.grown.block cb (ltS c10) (by simpa using hfc.1)).trans c10
          cases hy11 : nameP T j10 with
          | bad j11 =>
            obtain rfl := o11.bad j11 hy11
            exact ⟨rfl, g11.outBad (by rw [HR10.out]; simp only [hy11, Rs.then_bad])⟩
          | ok x11 j11 =>
            obtain ⟨u, rfl, hu11, s11⟩ := o11.ok x11 j11 hy11
            have HR11 : Hid (renameP T c i = .ok { c with kind := 5, column := x8, other := x11 } j11) := by show _ = _; rw [HR10.out]; simp only [hy11, Rs.then_ok]
            cases hu11
            clear hy11 o11 g10 c10 s10 HR10
            have q12a : w11.cell? ⟨cb, 2, none⟩ = some _ := (Lib.cell_of_heap c11 2).trans rfl
            have q12b : w11.frozen? ⟨cb, 2, none⟩ = false := Lib.frozen_of_heap c11 2
            have c12 : (w11.setCell ⟨cb, 2, none⟩ (.string ⟨x11.toArray⟩)).heap[cb]? = some (.cells (cmL { c with kind := 5, column := x8, other := x11 } cv vv fv ea wa).toArray 31) := heap_setCell_same _ _ _ _ 31 _ c11
            have s12 := s11.put hfc 2 (.string ⟨x11.toArray⟩)
            have g12 := g11.put 2 (.string ⟨x11.toArray⟩)
            generalize hW12 : w11.setCell ⟨cb, 2, none⟩ (.string ⟨x11.toArray⟩) = w12 at c12 s12 g12
            clear c11 s11 g11
            go_wp2_with fail
            go_end0
            exact g12.outOk HR11.out c12 s12
theorem rename_same {T : List Tk} {c c' : Cm} {i j : Nat} (h : renameP T c i = .ok c' j) : c'.cols = c.cols ∧ c'.vals = c.vals ∧ c'.fields = c.fields ∧ c'.expr = c.expr ∧ c'.wh = c.wh := by
  rw [renameP] at h
  obtain ⟨b, k, -, h2⟩ := then_ok h
  split at h2
  · obtain ⟨e, k2, -, h3⟩ := then_ok h2
    cases h3; exact ⟨rfl, rfl, rfl, rfl, rfl⟩
  · obtain ⟨e, k2, -, h3⟩ := then_ok h2
    obtain ⟨e, k2, -, h4⟩ := then_ok h3
    obtain ⟨e, k2, -, h5⟩ := then_ok h4
    cases h5; exact ⟨rfl, rfl, rfl, rfl, rfl⟩
theorem alter_any {w : World} {base pb : Nat} {v : Value} {T : List Tk} {en : Int} {i : Nat} (h : St w base pb v T en i) :
    Calls Tryz.prog 107 #[.pointer (some ⟨pb, 0, none⟩)] w fun e w' => Out w base pb v T en (repM w.heap.size) (alterP T i) e w' := by
  have hpl := h.heapLt
  have HR0 : Hid (alterP T i = (must T [w_table] i).then fun _ j => (nameP T j).then fun n j => (oneOf T [w_add, w_drop, w_rename, w_retype] j).then fun s j => if s = w_add then (columnP T j).then fun c j => (must T [w_default] j).then fun _ j => (valueP T j).then fun v j => .ok { cm0 with kind := 3, name := n, column := c.name, ty := c.ty, val := v } j else if s = w_drop then (nameP T j).then fun c j => .ok { cm0 with kind := 4, name := n, column := c } j else if s = w_rename then renameP T { cm0 with name := n } j else (columnP T j).then fun c j => .ok { cm0 with kind := 6, name := n, column := c.name, ty := c.ty } j) := by show _ = _; rw [alterP]
  go_enter Tryz.func107, Tryz.ntmps107
  go_wp2_with (refine wpList_alloc_blk 2 31 (cmL cm0 (.slice none 0 0) (.slice none 0 0) (.slice none 0 0) (.slice none 0 0) (.slice none 0 0)) rfl rfl rfl Tryz.alloc31 ?_; intro W0 rb hrb k0 b0)
  have hfr := h.fresh (Nat.le_of_eq hrb.out.symm)
  have hrw : w.heap.size ≤ rb := Nat.le_of_eq hrb.out.symm
  have s0 := h.below b0
  have g0 := grown_below b0 (some pb)
  clear b0
  refine (must_new s0 [w_table] 1 _ (by first | rfl | simp) _ (by rfl) (by rfl) (by decide) (by decide)).mono ?_
  intro e w1 o1
  have g1 := grown_trans g0 o1.grown
  have k1 := (o1.grown.block rb (ltS k0) (by simpa using hfr.1)).trans k0
  cases hy1 : must T [w_table] i with
  | bad j1 =>
    obtain rfl := o1.bad j1 hy1
    exact ⟨rfl, .mkBad g1 (by rw [HR0.out]; simp only [hy1, Rs.then_bad])⟩
  | ok x1 j1 =>
    obtain ⟨u, rfl, hu1, s1⟩ := o1.ok x1 j1 hy1
    have HR1 : Hid (alterP T i = (nameP T j1).then fun n j => (oneOf T [w_add, w_drop, w_rename, w_retype] j).then fun s j => if s = w_add then (columnP T j).then fun c j => (must T [w_default] j).then fun _ j => (valueP T j).then fun v j => .ok { cm0 with kind := 3, name := n, column := c.name, ty := c.ty, val := v } j else if s = w_drop then (nameP T j).then fun c j => .ok { cm0 with kind := 4, name := n, column := c } j else if s = w_rename then renameP T { cm0 with name := n } j else (columnP T j).then fun c j => .ok { cm0 with kind := 6, name := n, column := c.name, ty := c.ty } j) := by show _ = _; rw [HR0.out]; simp only [hy1, Rs.then_ok]
    clear hy1 o1 k0 s0 g0 HR0 hu1
    go_wp2_with fail
    refine (name_any s1).mono ?_
    intro e w2 o2
    have g2 := grown_trans g1 o2.grown
    have k2 := (o2.grown.block rb (ltS k1) (by simpa using hfr.1)).trans k1
    cases hy2 : nameP T j1 with
    | bad j2 =>
      obtain rfl := o2.bad j2 hy2
      exact ⟨rfl, .mkBad g2 (by rw [HR1.out]; simp only [hy2, Rs.then_bad])⟩
    | ok x2 j2 =>
      obtain ⟨u, rfl, hu2, s2⟩ := o2.ok x2 j2 hy2
      have HR2 : Hid (alterP T i = (oneOf T [w_add, w_drop, w_rename, w_retype] j2).then fun s j => if s = w_add then (columnP T j).then fun c j => (must T [w_default] j).then fun _ j => (valueP T j).then fun v j => .ok { cm0 with kind := 3, name := x2, column := c.name, ty := c.ty, val := v } j else if s = w_drop then (nameP T j).then fun c j => .ok { cm0 with kind := 4, name := x2, column := c } j else if s = w_rename then renameP T { cm0 with name := x2 } j else (columnP T j).then fun c j => .ok { cm0 with kind := 6, name := x2, column := c.name, ty := c.ty } j) := by show _ = _; rw [HR1.out]; simp only [hy2, Rs.then_ok]
      cases hu2
      clear hy2 o2 k1 s1 g1 HR1
      go_wp2_with (first | (refine wpList_alloc_blk 3 31 (cmL cm0 (.slice none 0 0) (.slice none 0 0) (.slice none 0 0) (.slice none 0 0) (.slice none 0 0)) rfl rfl rfl Tryz.alloc31 ?_; intro wA cb hcb cA bA) | (refine wpList_store_whole 31 _ _ rfl rfl _ (cmL cm0 (.slice none 0 0) (.slice none 0 0) (.slice none 0 0) (.slice none 0 0) (.slice none 0 0)) (cmL { cm0 with name := x2 } (.slice none 0 0) (.slice none 0 0) (.slice none 0 0) (.slice none 0 0) (.slice none 0 0)) 31 rfl rfl (by exact cA) rfl Tryz.size31 (by exact CmIn.one (cmIn0 0 w { cm0 with name := x2 } rfl rfl rfl rfl rfl)) ?_; intro w3 c3 p3))
      have hrc : rb < cb := by have := (ltS k2); have := hcb.out; omega
      have hcw : w.heap.size ≤ cb := by omega
      have hfc := h.fresh hcw
      have hpB : pb < cb + 1 := by omega
      have hcB : cb < cb + 1 := by omega
      have hrB : rb < cb + 1 := by omega
      have hBw : w.heap.size ≤ cb + 1 := by omega
      have s3 : St w3 base pb v T en j2 := by rw [p3.out]; exact (s2.below bA).putAll hfc 0 _
      have g3 : w.grownBy w3 (some pb) := by rw [p3.out]; exact grown_putAll (grown_trans g2 (grown_below bA _)) hcw 0 _
      have k3 : w3.heap[rb]? = some (.cells (cmL cm0 (.slice none 0 0) (.slice none 0 0) (.slice none 0 0) (.slice none 0 0) (.slice none 0 0)).toArray 31) := by rw [p3.out]; exact (putAll_other _ _ _ _ _ (Nat.ne_of_lt hrc)).trans ((bA.block rb (ltS k2)).trans k2)
      have m3 : CmIn (cb + 1) w3 { cm0 with name := x2 } (.slice none 0 0) (.slice none 0 0) (.slice none 0 0) (.slice none 0 0) (.slice none 0 0) := cmIn0 _ _ _ rfl rfl rfl rfl rfl
      clear cA bA p3 hcb k2 s2 g2
      refine (oneOf_new s3 [w_add, w_drop, w_rename, w_retype] 4 _ (by first | rfl | simp) _ (by rfl) (by rfl) (by decide) (by decide)).mono ?_
      intro e w4 o4
      have g4 := grown_trans g3 o4.grown
      have k4 := (o4.grown.block rb (ltS k3) (by simpa using hfr.1)).trans k3
      have c4 := (o4.grown.block cb (ltS c3) (by simpa using hfc.1)).trans c3
      have m4 := m3.grown hpB o4.grown
      cases hy4 : oneOf T [w_add, w_drop, w_rename, w_retype] j2 with
      | bad j4 =>
        obtain rfl := o4.bad j4 hy4
        exact ⟨rfl, .mkBad g4 (by rw [HR2.out]; simp only [hy4, Rs.then_bad])⟩
      | ok x4 j4 =>
        obtain ⟨u, rfl, hu4, s4⟩ := o4.ok x4 j4 hy4
        have HR4 : Hid (alterP T i = if x4 = w_add then (columnP T j4).then fun c j => (must T [w_default] j).then fun _ j => (valueP T j).then fun v j => .ok { cm0 with kind := 3, name := x2, column := c.name, ty := c.ty, val := v } j else if x4 = w_drop then (nameP T j4).then fun c j => .ok { cm0 with kind := 4, name := x2, column := c } j else if x4 = w_rename then renameP T { cm0 with name := x2 } j4 else (columnP T j4).then fun c j => .ok { cm0 with kind := 6, name := x2, column := c.name, ty := c.ty } j) := by show _ = _; rw [HR2.out]; simp only [hy4, Rs.then_ok]
        cases hu4
        have hm4 := oneOf_mem _ _ _ _ _ hy4
        simp only [List.mem_cons, List.not_mem_nil, or_false] at hm4
        clear hy4 o4 k3 s3 g3 HR2 c3 m3
        rcases hm4 with rfl | rfl | rfl | rfl
        · skip
          have HR5 : Hid (alterP T i = (columnP T j4).then fun c j => (must T [w_default] j).then fun _ j => (valueP T j).then fun v j => .ok { cm0 with kind := 3, name := x2, column := c.name, ty := c.ty, val := v } j) := by show _ = _; rw [HR4.out, if_pos rfl]
          clear HR4
          have q6a : w4.cell? ⟨cb, 0, none⟩ = some _ := (Lib.cell_of_heap c4 0).trans rfl
          have q6b : w4.frozen? ⟨cb, 0, none⟩ = false := Lib.frozen_of_heap c4 0
          have c6 : (w4.setCell ⟨cb, 0, none⟩ (.int .i64 3)).heap[cb]? = some (.cells (cmL { cm0 with kind := 3, name := x2 } (.slice none 0 0) (.slice none 0 0) (.slice none 0 0) (.slice none 0 0) (.slice none 0 0)).toArray 31) := heap_setCell_same _ _ _ _ 31 _ c4
          have k6 := (heap_setCell_other w4 ⟨cb, 0, none⟩ rb (.int .i64 3) (Nat.ne_of_lt hrc)).trans k4
          have s6 := s4.put hfc 0 (.int .i64 3)
          have g6 := grown_put g4 hcw 0 (.int .i64 3)
          have m6 := CmIn.put (⟨m4.cols, m4.vals, m4.fields, m4.expr, m4.wh⟩ : CmIn (cb + 1) w4 { cm0 with kind := 3, name := x2 } (.slice none 0 0) (.slice none 0 0) (.slice none 0 0) (.slice none 0 0) (.slice none 0 0)) hcB 0 (.int .i64 3)
          generalize hW6 : w4.setCell ⟨cb, 0, none⟩ (.int .i64 3) = w6 at c6 k6 s6 g6 m6
          clear c4 k4 s4 g4 m4
          go_wp2_with fail
          clear hW6 q6a q6b
          refine (column_any s6).mono ?_
          intro e w7 o7
          have g7 := grown_trans g6 o7.grown
          have k7 := (o7.grown.block rb (ltS k6) (by simpa using hfr.1)).trans k6
          have c7 := (o7.grown.block cb (ltS c6) (by simpa using hfc.1)).trans c6
          have m7 := m6.grown hpB o7.grown
          cases hy7 : columnP T j4 with
          | bad j7 =>
            obtain rfl := o7.bad j7 hy7
            exact ⟨rfl, .mkBad g7 (by rw [HR5.out]; simp only [hy7, Rs.then_bad])⟩
          | ok x7 j7 =>
            obtain ⟨u, rfl, hu7, s7⟩ := o7.ok x7 j7 hy7
            have HR7 : Hid (alterP T i = (must T [w_default] j7).then fun _ j => (valueP T j).then fun v j => .ok { cm0 with kind := 3, name := x2, column := x7.name, ty := x7.ty, val := v } j) := by show _ = _; rw [HR5.out]; simp only [hy7, Rs.then_ok]
            cases hu7
            rw [clV]
            clear hy7 o7 k6 s6 g6 HR5 c6 m6
            have D3 : ∀ o, (w7.alloc o).cell? ⟨cb, 3, none⟩ = some _ := fun o => (cell_old o (ltS c7)).trans ((Lib.cell_of_heap c7 3).trans rfl)
            have D5 : ∀ o, (w7.alloc o).cell? ⟨cb, 5, none⟩ = some _ := fun o => (cell_old o (ltS c7)).trans ((Lib.cell_of_heap c7 5).trans rfl)
            have F3 : ∀ o, (w7.alloc o).frozen? ⟨cb, 3, none⟩ = false := fun o => (((Below.refl w7.heap.size w7).alloc (Nat.le_refl _) o).frozen (p := ⟨cb, 3, none⟩) (ltS c7)).trans (Lib.frozen_of_heap c7 3)
            have F5 : ∀ o, (w7.alloc o).frozen? ⟨cb, 5, none⟩ = false := fun o => (((Below.refl w7.heap.size w7).alloc (Nat.le_refl _) o).frozen (p := ⟨cb, 5, none⟩) (ltS c7)).trans (Lib.frozen_of_heap c7 5)
            have hnc : cb ≠ w7.heap.size := Nat.ne_of_lt (ltS c7)
            go_wp2_with fail
            go_region
            have cA := (((Below.refl w7.heap.size w7).alloc (Nat.le_refl _) (.cells #[.string ⟨x7.name.toArray⟩, .int .i64 x7.ty] 56)).block _ (ltS c7)).trans c7
            have kA := (((Below.refl w7.heap.size w7).alloc (Nat.le_refl _) (.cells #[.string ⟨x7.name.toArray⟩, .int .i64 x7.ty] 56)).block _ (ltS k7)).trans k7
            have cB : ((w7.alloc (.cells #[.string ⟨x7.name.toArray⟩, .int .i64 x7.ty] 56)).setCell ⟨cb, 3, none⟩ (.string ⟨x7.name.toArray⟩)).heap[cb]? = some (.cells (cmL { cm0 with kind := 3, name := x2, column := x7.name } (.slice none 0 0) (.slice none 0 0) (.slice none 0 0) (.slice none 0 0) (.slice none 0 0)).toArray 31) := heap_setCell_same _ _ _ _ 31 _ cA
            have c8 : (((w7.alloc (.cells #[.string ⟨x7.name.toArray⟩, .int .i64 x7.ty] 56)).setCell ⟨cb, 3, none⟩ (.string ⟨x7.name.toArray⟩)).setCell ⟨cb, 5, none⟩ (.int .i64 x7.ty)).drew.heap[cb]? = some (.cells (cmL { cm0 with kind := 3, name := x2, column := x7.name, ty := x7.ty } (.slice none 0 0) (.slice none 0 0) (.slice none 0 0) (.slice none 0 0) (.slice none 0 0)).toArray 31) := heap_setCell_same _ _ _ _ 31 _ cB
            have k8 : (((w7.alloc (.cells #[.string ⟨x7.name.toArray⟩, .int .i64 x7.ty] 56)).setCell ⟨cb, 3, none⟩ (.string ⟨x7.name.toArray⟩)).setCell ⟨cb, 5, none⟩ (.int .i64 x7.ty)).drew.heap[rb]? = some (.cells (cmL cm0 (.slice none 0 0) (.slice none 0 0) (.slice none 0 0) (.slice none 0 0) (.slice none 0 0)).toArray 31) := (heap_setCell_other ((w7.alloc (.cells #[.string ⟨x7.name.toArray⟩, .int .i64 x7.ty] 56)).setCell ⟨cb, 3, none⟩ (.string ⟨x7.name.toArray⟩)) ⟨cb, 5, none⟩ rb (.int .i64 x7.ty) (Nat.ne_of_lt hrc)).trans ((heap_setCell_other (w7.alloc (.cells #[.string ⟨x7.name.toArray⟩, .int .i64 x7.ty] 56)) ⟨cb, 3, none⟩ rb (.string ⟨x7.name.toArray⟩) (Nat.ne_of_lt hrc)).trans kA)
            have s8 : St (((w7.alloc (.cells #[.string ⟨x7.name.toArray⟩, .int .i64 x7.ty] 56)).setCell ⟨cb, 3, none⟩ (.string ⟨x7.name.toArray⟩)).setCell ⟨cb, 5, none⟩ (.int .i64 x7.ty)).drew base pb v T en j7 := (((s7.alloc (.cells #[.string ⟨x7.name.toArray⟩, .int .i64 x7.ty] 56)).put hfc 3 (.string ⟨x7.name.toArray⟩)).put hfc 5 (.int .i64 x7.ty)).below ((Below.refl _ _).drew)
            have g8 : w.grownBy (((w7.alloc (.cells #[.string ⟨x7.name.toArray⟩, .int .i64 x7.ty] 56)).setCell ⟨cb, 3, none⟩ (.string ⟨x7.name.toArray⟩)).setCell ⟨cb, 5, none⟩ (.int .i64 x7.ty)).drew (some pb) := grown_trans (grown_put (grown_put (grown_alloc g7 (.cells #[.string ⟨x7.name.toArray⟩, .int .i64 x7.ty] 56)) hcw 3 (.string ⟨x7.name.toArray⟩)) hcw 5 (.int .i64 x7.ty)) (grown_below ((Below.refl _ _).drew) _)
            have m8 : CmIn (cb + 1) (((w7.alloc (.cells #[.string ⟨x7.name.toArray⟩, .int .i64 x7.ty] 56)).setCell ⟨cb, 3, none⟩ (.string ⟨x7.name.toArray⟩)).setCell ⟨cb, 5, none⟩ (.int .i64 x7.ty)).drew { cm0 with kind := 3, name := x2, column := x7.name, ty := x7.ty } (.slice none 0 0) (.slice none 0 0) (.slice none 0 0) (.slice none 0 0) (.slice none 0 0) := CmIn.under (((CmIn.alloc (show CmIn (cb + 1) w7 { cm0 with kind := 3, name := x2, column := x7.name, ty := x7.ty } (.slice none 0 0) (.slice none 0 0) (.slice none 0 0) (.slice none 0 0) (.slice none 0 0) from ⟨m7.cols, m7.vals, m7.fields, m7.expr, m7.wh⟩) (.cells #[.string ⟨x7.name.toArray⟩, .int .i64 x7.ty] 56)).put hcB 3 (.string ⟨x7.name.toArray⟩)).put hcB 5 (.int .i64 x7.ty)) ((Below.refl _ _).drew)
            clear cA kA cB D3 D5 F3 F5 hnc c7 k7 s7 g7 m7
            generalize (((w7.alloc (.cells #[.string ⟨x7.name.toArray⟩, .int .i64 x7.ty] 56)).setCell ⟨cb, 3, none⟩ (.string ⟨x7.name.toArray⟩)).setCell ⟨cb, 5, none⟩ (.int .i64 x7.ty)).drew = w8 at *
            go_wp2_with fail
            refine (must_new s8 [w_default] 1 _ (by first | rfl | simp) _ (by rfl) (by rfl) (by decide) (by decide)).mono ?_
            intro e w9 o9
            have g9 := grown_trans g8 o9.grown
            have k9 := (o9.grown.block rb (ltS k8) (by simpa using hfr.1)).trans k8
            have c9 := (o9.grown.block cb (ltS c8) (by simpa using hfc.1)).trans c8
            have m9 := m8.grown hpB o9.grown
            cases hy9 : must T [w_default] j7 with
            | bad j9 =>
              obtain rfl := o9.bad j9 hy9
              exact ⟨rfl, .mkBad g9 (by rw [HR7.out]; simp only [hy9, Rs.then_bad])⟩
            | ok x9 j9 =>
              obtain ⟨u, rfl, hu9, s9⟩ := o9.ok x9 j9 hy9
              have HR9 : Hid (alterP T i = (valueP T j9).then fun v j => .ok { cm0 with kind := 3, name := x2, column := x7.name, ty := x7.ty, val := v } j) := by show _ = _; rw [HR7.out]; simp only [hy9, Rs.then_ok]
              clear hy9 o9 k8 s8 g8 HR7 c8 m8 hu9
              go_wp2_with fail
              refine (value_any s9).mono ?_
              intro e w10 o10
              have g10 := grown_trans g9 o10.grown
              have k10 := (o10.grown.block rb (ltS k9) (by simpa using hfr.1)).trans k9
              have c10 := (o10.grown.block cb (ltS c9) (by simpa using hfc.1)).trans c9
              have m10 := m9.grown hpB o10.grown
              cases hy10 : valueP T j9 with
              | bad j10 =>
                obtain rfl := o10.bad j10 hy10
                exact ⟨rfl, .mkBad g10 (by rw [HR9.out]; simp only [hy10, Rs.then_bad])⟩
              | ok x10 j10 =>
                obtain ⟨u, rfl, hu10, s10⟩ := o10.ok x10 j10 hy10
                have HR10 : Hid (alterP T i = .ok { cm0 with kind := 3, name := x2, column := x7.name, ty := x7.ty, val := x10 } j10) := by show _ = _; rw [HR9.out]; simp only [hy10, Rs.then_ok]
                cases hu10
                rw [vlV]
                clear hy10 o10 k9 s9 g9 HR9 c9 m9
                go_wp2_with (first | (refine wpList_store_part 24 _ _ rfl rfl cb ((cmL { cm0 with kind := 3, name := x2, column := x7.name, ty := x7.ty } (.slice none 0 0) (.slice none 0 0) (.slice none 0 0) (.slice none 0 0) (.slice none 0 0)).take 6) (((cmL { cm0 with kind := 3, name := x2, column := x7.name, ty := x7.ty } (.slice none 0 0) (.slice none 0 0) (.slice none 0 0) (.slice none 0 0) (.slice none 0 0)).drop 6).take 3) ((cmL { cm0 with kind := 3, name := x2, column := x7.name, ty := x7.ty } (.slice none 0 0) (.slice none 0 0) (.slice none 0 0) (.slice none 0 0) (.slice none 0 0)).drop 9) [.int .i64 x10.k, .int .i64 x10.n, .string ⟨x10.s.toArray⟩] 31 rfl rfl (by exact c10) rfl Tryz.size24 (by intro v hv; simp only [List.mem_cons, List.not_mem_nil, or_false] at hv; rcases hv with rfl | rfl | rfl <;> rfl) ?_; intro wy cy py) | (refine wpList_load_whole 31 _ rfl rfl _ (cmL { cm0 with kind := 3, name := x2, column := x7.name, ty := x7.ty, val := x10 } (.slice none 0 0) (.slice none 0 0) (.slice none 0 0) (.slice none 0 0) (.slice none 0 0)) 31 _ rfl (by exact cy) Tryz.underlying31 rfl Tryz.size31 ?_) | (refine wpList_store_whole 31 _ _ rfl rfl _ (cmL cm0 (.slice none 0 0) (.slice none 0 0) (.slice none 0 0) (.slice none 0 0) (.slice none 0 0)) (cmL { cm0 with kind := 3, name := x2, column := x7.name, ty := x7.ty, val := x10 } (.slice none 0 0) (.slice none 0 0) (.slice none 0 0) (.slice none 0 0) (.slice none 0 0)) 31 rfl rfl (by rw [py.out]; exact (putAll_other _ _ _ _ _ (Nat.ne_of_lt hrc)).trans k10) rfl Tryz.size31 (by exact CmIn.one (cmIn0 0 w { cm0 with kind := 3, name := x2, column := x7.name, ty := x7.ty, val := x10 } rfl rfl rfl rfl rfl)) ?_; intro wz kz pz))
                have py' : wy = putAll w10 cb 6 _ := py.out
                have sy : St wy base pb v T en j10 := by rw [py']; exact s10.putAll hfc 6 _
                have gy : w.grownBy wy (some pb) := by rw [py']; exact grown_putAll g10 hcw 6 _
                have my : CmIn (cb + 1) wy { cm0 with kind := 3, name := x2, column := x7.name, ty := x7.ty, val := x10 } (.slice none 0 0) (.slice none 0 0) (.slice none 0 0) (.slice none 0 0) (.slice none 0 0) := cmIn0 _ _ _ rfl rfl rfl rfl rfl
                refine bodyPost_ret (v := .agg (cmL { cm0 with kind := 3, name := x2, column := x7.name, ty := x7.ty, val := x10 } (.slice none 0 0) (.slice none 0 0) (.slice none 0 0) (.slice none 0 0) (.slice none 0 0)).toArray) (results_whole rfl _ _ _ _ 31 _ rfl kz Tryz.underlying31 rfl Tryz.size31) rfl (.mkOk (by rw [pz.out]; exact grown_putAll gy hrw 0 _) HR10.out ⟨_, _, _, _, _, rfl, by rw [pz.out]; exact (my.putAll hrB 0 _).weak hBw⟩ (by rw [pz.out]; exact sy.putAll hfr 0 _))
        · skip
          have HR11 : Hid (alterP T i = (nameP T j4).then fun c j => .ok { cm0 with kind := 4, name := x2, column := c } j) := by show _ = _; rw [HR4.out, if_neg (by decide), if_pos rfl]
          clear HR4
          have q12a : w4.cell? ⟨cb, 0, none⟩ = some _ := (Lib.cell_of_heap c4 0).trans rfl
          have q12b : w4.frozen? ⟨cb, 0, none⟩ = false := Lib.frozen_of_heap c4 0
          have c12 : (w4.setCell ⟨cb, 0, none⟩ (.int .i64 4)).heap[cb]? = some (.cells (cmL { cm0 with kind := 4, name := x2 } (.slice none 0 0) (.slice none 0 0) (.slice none 0 0) (.slice none 0 0) (.slice none 0 0)).toArray 31) := heap_setCell_same _ _ _ _ 31 _ c4
          have k12 := (heap_setCell_other w4 ⟨cb, 0, none⟩ rb (.int .i64 4) (Nat.ne_of_lt hrc)).trans k4
          have s12 := s4.put hfc 0 (.int .i64 4)
          have g12 := grown_put g4 hcw 0 (.int .i64 4)
          have m12 := CmIn.put (⟨m4.cols, m4.vals, m4.fields, m4.expr, m4.wh⟩ : CmIn (cb + 1) w4 { cm0 with kind := 4, name := x2 } (.slice none 0 0) (.slice none 0 0) (.slice none 0 0) (.slice none 0 0) (.slice none 0 0)) hcB 0 (.int .i64 4)
          generalize hW12 : w4.setCell ⟨cb, 0, none⟩ (.int .i64 4) = w12 at c12 k12 s12 g12 m12
          clear c4 k4 s4 g4 m4
          go_wp2_with fail
          clear hW12 q12a q12b
          refine (name_any s12).mono ?_
          intro e w13 o13
          have g13 := grown_trans g12 o13.grown
          have k13 := (o13.grown.block rb (ltS k12) (by simpa using hfr.1)).trans k12
          have c13 := (o13.grown.block cb (ltS c12) (by simpa using hfc.1)).trans c12
          have m13 := m12.grown hpB o13.grown
          cases hy13 : nameP T j4 with
          | bad j13 =>
            obtain rfl := o13.bad j13 hy13
            exact ⟨rfl, .mkBad g13 (by rw [HR11.out]; simp only [hy13, Rs.then_bad])⟩
          | ok x13 j13 =>
            obtain ⟨u, rfl, hu13, s13⟩ := o13.ok x13 j13 hy13
            have HR13 : Hid (alterP T i = .ok { cm0 with kind := 4, name := x2, column := x13 } j13) := by show _ = _; rw [HR11.out]; simp only [hy13, Rs.then_ok]
            cases hu13
            clear hy13 o13 k12 s12 g12 HR11 c12 m12
            have q14a : w13.cell? ⟨cb, 3, none⟩ = some _ := (Lib.cell_of_heap c13 3).trans rfl
            have q14b : w13.frozen? ⟨cb, 3, none⟩ = false := Lib.frozen_of_heap c13 3
            have c14 : (w13.setCell ⟨cb, 3, none⟩ (.string ⟨x13.toArray⟩)).heap[cb]? = some (.cells (cmL { cm0 with kind := 4, name := x2, column := x13 } (.slice none 0 0) (.slice none 0 0) (.slice none 0 0) (.slice none 0 0) (.slice none 0 0)).toArray 31) := heap_setCell_same _ _ _ _ 31 _ c13
            have k14 := (heap_setCell_other w13 ⟨cb, 3, none⟩ rb (.string ⟨x13.toArray⟩) (Nat.ne_of_lt hrc)).trans k13
            have s14 := s13.put hfc 3 (.string ⟨x13.toArray⟩)
            have g14 := grown_put g13 hcw 3 (.string ⟨x13.toArray⟩)
            have m14 := CmIn.put (⟨m13.cols, m13.vals, m13.fields, m13.expr, m13.wh⟩ : CmIn (cb + 1) w13 { cm0 with kind := 4, name := x2, column := x13 } (.slice none 0 0) (.slice none 0 0) (.slice none 0 0) (.slice none 0 0) (.slice none 0 0)) hcB 3 (.string ⟨x13.toArray⟩)
            generalize hW14 : w13.setCell ⟨cb, 3, none⟩ (.string ⟨x13.toArray⟩) = w14 at c14 k14 s14 g14 m14
            clear c13 k13 s13 g13 m13
            go_wp2_with (first | (refine wpList_load_whole 31 _ rfl rfl _ (cmL { cm0 with kind := 4, name := x2, column := x13 } (.slice none 0 0) (.slice none 0 0) (.slice none 0 0) (.slice none 0 0) (.slice none 0 0)) 31 _ rfl (by exact c14) Tryz.underlying31 rfl Tryz.size31 ?_) | (refine wpList_store_whole 31 _ _ rfl rfl _ (cmL cm0 (.slice none 0 0) (.slice none 0 0) (.slice none 0 0) (.slice none 0 0) (.slice none 0 0)) (cmL { cm0 with kind := 4, name := x2, column := x13 } (.slice none 0 0) (.slice none 0 0) (.slice none 0 0) (.slice none 0 0) (.slice none 0 0)) 31 rfl rfl (by exact k14) rfl Tryz.size31 (by exact m14.one) ?_; intro wz kz pz))
            refine bodyPost_ret (v := .agg (cmL { cm0 with kind := 4, name := x2, column := x13 } (.slice none 0 0) (.slice none 0 0) (.slice none 0 0) (.slice none 0 0) (.slice none 0 0)).toArray) (results_whole rfl _ _ _ _ 31 _ rfl kz Tryz.underlying31 rfl Tryz.size31) rfl (.mkOk (by rw [pz.out]; exact grown_putAll g14 hrw 0 _) HR13.out ⟨_, _, _, _, _, rfl, by rw [pz.out]; exact (m14.putAll hrB 0 _).weak hBw⟩ (by rw [pz.out]; exact s14.putAll hfr 0 _))
        · skip
          have HR15 : Hid (alterP T i = renameP T { cm0 with name := x2 } j4) := by show _ = _; rw [HR4.out, if_neg (by decide), if_neg (by decide), if_pos rfl]
          clear HR4
          go_wp2_with fail
          refine (rename_any s4 cb hfc { cm0 with name := x2 } (.slice none 0 0) (.slice none 0 0) (.slice none 0 0) (.slice none 0 0) (.slice none 0 0) c4).mono ?_
          intro e w16 o16
          have g16 : w.grownBy w16 (some pb) := ⟨o16.os.trans g4.os, o16.tape.trans g4.tape, o16.output.trans g4.output, Nat.le_trans g4.size o16.size, fun k hk hp => (o16.block k (Nat.lt_of_lt_of_le hk g4.size) (by simpa using hp) (by omega)).trans (g4.block k hk hp)⟩
          have k16 := (o16.block rb (ltS k4) hfr.1 (Nat.ne_of_lt hrc)).trans k4
          cases hy16 : renameP T { cm0 with name := x2 } j4 with
          | bad j16 =>
            obtain rfl := o16.bad j16 hy16
            exact ⟨rfl, .mkBad g16 (by rw [HR15.out, hy16])⟩
          | ok cc16 j16 =>
            obtain ⟨rfl, c16, s16⟩ := o16.ok cc16 j16 hy16
            have c16 : w16.heap[cb]? = some (.cells (cmL cc16 (.slice none 0 0) (.slice none 0 0) (.slice none 0 0) (.slice none 0 0) (.slice none 0 0)).toArray 31) := c16
            have HR16 : Hid (alterP T i = .ok cc16 j16) := by show _ = _; rw [HR15.out, hy16]
            obtain ⟨e1, e2, e3, e4, e5⟩ := rename_same hy16
            have m16 : CmIn (cb + 1) w16 cc16 (.slice none 0 0) (.slice none 0 0) (.slice none 0 0) (.slice none 0 0) (.slice none 0 0) := cmIn0 _ _ _ e1 e2 e3 e4 e5
            clear hy16 o16 e1 e2 e3 e4 e5 k4 s4 g4 HR15 c4 m4
            go_wp2_with (first | (refine wpList_load_whole 31 _ rfl rfl _ (cmL cc16 (.slice none 0 0) (.slice none 0 0) (.slice none 0 0) (.slice none 0 0) (.slice none 0 0)) 31 _ rfl (by exact c16) Tryz.underlying31 rfl Tryz.size31 ?_) | (refine wpList_store_whole 31 _ _ rfl rfl _ (cmL cm0 (.slice none 0 0) (.slice none 0 0) (.slice none 0 0) (.slice none 0 0) (.slice none 0 0)) (cmL cc16 (.slice none 0 0) (.slice none 0 0) (.slice none 0 0) (.slice none 0 0) (.slice none 0 0)) 31 rfl rfl (by exact k16) rfl Tryz.size31 (by exact m16.one) ?_; intro wz kz pz))
            refine bodyPost_ret (v := .agg (cmL cc16 (.slice none 0 0) (.slice none 0 0) (.slice none 0 0) (.slice none 0 0) (.slice none 0 0)).toArray) (results_whole rfl _ _ _ _ 31 _ rfl kz Tryz.underlying31 rfl Tryz.size31) rfl (.mkOk (by rw [pz.out]; exact grown_putAll g16 hrw 0 _) HR16.out ⟨_, _, _, _, _, rfl, by rw [pz.out]; exact (m16.putAll hrB 0 _).weak hBw⟩ (by rw [pz.out]; exact s16.putAll hfr 0 _))
        · skip
          have HR17 : Hid (alterP T i = (columnP T j4).then fun c j => .ok { cm0 with kind := 6, name := x2, column := c.name, ty := c.ty } j) := by show _ = _; rw [HR4.out, if_neg (by decide), if_neg (by decide), if_neg (by decide)]
          clear HR4
          have q18a : w4.cell? ⟨cb, 0, none⟩ = some _ := (Lib.cell_of_heap c4 0).trans rfl
          have q18b : w4.frozen? ⟨cb, 0, none⟩ = false := Lib.frozen_of_heap c4 0
          have c18 : (w4.setCell ⟨cb, 0, none⟩ (.int .i64 6)).heap[cb]? = some (.cells (cmL { cm0 with kind := 6, name := x2 } (.slice none 0 0) (.slice none 0 0) (.slice none 0 0) (.slice none 0 0) (.slice none 0 0)).toArray 31) := heap_setCell_same _ _ _ _ 31 _ c4
          have k18 := (heap_setCell_other w4 ⟨cb, 0, none⟩ rb (.int .i64 6) (Nat.ne_of_lt hrc)).trans k4
          have s18 := s4.put hfc 0 (.int .i64 6)
          have g18 := grown_put g4 hcw 0 (.int .i64 6)
          have m18 := CmIn.put (⟨m4.cols, m4.vals, m4.fields, m4.expr, m4.wh⟩ : CmIn (cb + 1) w4 { cm0 with kind := 6, name := x2 } (.slice none 0 0) (.slice none 0 0) (.slice none 0 0) (.slice none 0 0) (.slice none 0 0)) hcB 0 (.int .i64 6)
          generalize hW18 : w4.setCell ⟨cb, 0, none⟩ (.int .i64 6) = w18 at c18 k18 s18 g18 m18
          clear c4 k4 s4 g4 m4
          go_wp2_with fail
          clear hW18 q18a q18b
          refine (column_any s18).mono ?_
          intro e w19 o19
          have g19 := grown_trans g18 o19.grown
          have k19 := (o19.grown.block rb (ltS k18) (by simpa using hfr.1)).trans k18
          have c19 := (o19.grown.block cb (ltS c18) (by simpa using hfc.1)).trans c18
          have m19 := m18.grown hpB o19.grown
          cases hy19 : columnP T j4 with
          | bad j19 =>
            obtain rfl := o19.bad j19 hy19
            exact ⟨rfl, .mkBad g19 (by rw [HR17.out]; simp only [hy19, Rs.then_bad])⟩
          | ok x19 j19 =>
            obtain ⟨u, rfl, hu19, s19⟩ := o19.ok x19 j19 hy19
            have HR19 : Hid (alterP T i = .ok { cm0 with kind := 6, name := x2, column := x19.name, ty := x19.ty } j19) := by show _ = _; rw [HR17.out]; simp only [hy19, Rs.then_ok]
            cases hu19
            rw [clV]
            clear hy19 o19 k18 s18 g18 HR17 c18 m18
            have D3 : ∀ o, (w19.alloc o).cell? ⟨cb, 3, none⟩ = some _ := fun o => (cell_old o (ltS c19)).trans ((Lib.cell_of_heap c19 3).trans rfl)
            have D5 : ∀ o, (w19.alloc o).cell? ⟨cb, 5, none⟩ = some _ := fun o => (cell_old o (ltS c19)).trans ((Lib.cell_of_heap c19 5).trans rfl)
            have F3 : ∀ o, (w19.alloc o).frozen? ⟨cb, 3, none⟩ = false := fun o => (((Below.refl w19.heap.size w19).alloc (Nat.le_refl _) o).frozen (p := ⟨cb, 3, none⟩) (ltS c19)).trans (Lib.frozen_of_heap c19 3)
            have F5 : ∀ o, (w19.alloc o).frozen? ⟨cb, 5, none⟩ = false := fun o => (((Below.refl w19.heap.size w19).alloc (Nat.le_refl _) o).frozen (p := ⟨cb, 5, none⟩) (ltS c19)).trans (Lib.frozen_of_heap c19 5)
            have hnc : cb ≠ w19.heap.size := Nat.ne_of_lt (ltS c19)
            go_wp2_with fail
            go_region
            have cA := (((Below.refl w19.heap.size w19).alloc (Nat.le_refl _) (.cells #[.string ⟨x19.name.toArray⟩, .int .i64 x19.ty] 56)).block _ (ltS c19)).trans c19
            have kA := (((Below.refl w19.heap.size w19).alloc (Nat.le_refl _) (.cells #[.string ⟨x19.name.toArray⟩, .int .i64 x19.ty] 56)).block _ (ltS k19)).trans k19
            have cB : ((w19.alloc (.cells #[.string ⟨x19.name.toArray⟩, .int .i64 x19.ty] 56)).setCell ⟨cb, 3, none⟩ (.string ⟨x19.name.toArray⟩)).heap[cb]? = some (.cells (cmL { cm0 with kind := 6, name := x2, column := x19.name } (.slice none 0 0) (.slice none 0 0) (.slice none 0 0) (.slice none 0 0) (.slice none 0 0)).toArray 31) := heap_setCell_same _ _ _ _ 31 _ cA
            have c20 : (((w19.alloc (.cells #[.string ⟨x19.name.toArray⟩, .int .i64 x19.ty] 56)).setCell ⟨cb, 3, none⟩ (.string ⟨x19.name.toArray⟩)).setCell ⟨cb, 5, none⟩ (.int .i64 x19.ty)).drew.heap[cb]? = some (.cells (cmL { cm0 with kind := 6, name := x2, column := x19.name, ty := x19.ty } (.slice none 0 0) (.slice none 0 0) (.slice none 0 0) (.slice none 0 0) (.slice none 0 0)).toArray 31) := heap_setCell_same _ _ _ _ 31 _ cB
            have k20 : (((w19.alloc (.cells #[.string ⟨x19.name.toArray⟩, .int .i64 x19.ty] 56)).setCell ⟨cb, 3, none⟩ (.string ⟨x19.name.toArray⟩)).setCell ⟨cb, 5, none⟩ (.int .i64 x19.ty)).drew.heap[rb]? = some (.cells (cmL cm0 (.slice none 0 0) (.slice none 0 0) (.slice none 0 0) (.slice none 0 0) (.slice none 0 0)).toArray 31) := (heap_setCell_other ((w19.alloc (.cells #[.string ⟨x19.name.toArray⟩, .int .i64 x19.ty] 56)).setCell ⟨cb, 3, none⟩ (.string ⟨x19.name.toArray⟩)) ⟨cb, 5, none⟩ rb (.int .i64 x19.ty) (Nat.ne_of_lt hrc)).trans ((heap_setCell_other (w19.alloc (.cells #[.string ⟨x19.name.toArray⟩, .int .i64 x19.ty] 56)) ⟨cb, 3, none⟩ rb (.string ⟨x19.name.toArray⟩) (Nat.ne_of_lt hrc)).trans kA)
            have s20 : St (((w19.alloc (.cells #[.string ⟨x19.name.toArray⟩, .int .i64 x19.ty] 56)).setCell ⟨cb, 3, none⟩ (.string ⟨x19.name.toArray⟩)).setCell ⟨cb, 5, none⟩ (.int .i64 x19.ty)).drew base pb v T en j19 := (((s19.alloc (.cells #[.string ⟨x19.name.toArray⟩, .int .i64 x19.ty] 56)).put hfc 3 (.string ⟨x19.name.toArray⟩)).put hfc 5 (.int .i64 x19.ty)).below ((Below.refl _ _).drew)
            have g20 : w.grownBy (((w19.alloc (.cells #[.string ⟨x19.name.toArray⟩, .int .i64 x19.ty] 56)).setCell ⟨cb, 3, none⟩ (.string ⟨x19.name.toArray⟩)).setCell ⟨cb, 5, none⟩ (.int .i64 x19.ty)).drew (some pb) := grown_trans (grown_put (grown_put (grown_alloc g19 (.cells #[.string ⟨x19.name.toArray⟩, .int .i64 x19.ty] 56)) hcw 3 (.string ⟨x19.name.toArray⟩)) hcw 5 (.int .i64 x19.ty)) (grown_below ((Below.refl _ _).drew) _)
            have m20 : CmIn (cb + 1) (((w19.alloc (.cells #[.string ⟨x19.name.toArray⟩, .int .i64 x19.ty] 56)).setCell ⟨cb, 3, none⟩ (.string ⟨x19.name.toArray⟩)).setCell ⟨cb, 5, none⟩ (.int .i64 x19.ty)).drew { cm0 with kind := 6, name := x2, column := x19.name, ty := x19.ty } (.slice none 0 0) (.slice none 0 0) (.slice none 0 0) (.slice none 0 0) (.slice none 0 0) := CmIn.under (((CmIn.alloc (show CmIn (cb + 1) w19 { cm0 with kind := 6, name := x2, column := x19.name, ty := x19.ty } (.slice none 0 0) (.slice none 0 0) (.slice none 0 0) (.slice none 0 0) (.slice none 0 0) from ⟨m19.cols, m19.vals, m19.fields, m19.expr, m19.wh⟩) (.cells #[.string ⟨x19.name.toArray⟩, .int .i64 x19.ty] 56)).put hcB 3 (.string ⟨x19.name.toArray⟩)).put hcB 5 (.int .i64 x19.ty)) ((Below.refl _ _).drew)
            clear cA kA cB D3 D5 F3 F5 hnc c19 k19 s19 g19 m19
            generalize (((w19.alloc (.cells #[.string ⟨x19.name.toArray⟩, .int .i64 x19.ty] 56)).setCell ⟨cb, 3, none⟩ (.string ⟨x19.name.toArray⟩)).setCell ⟨cb, 5, none⟩ (.int .i64 x19.ty)).drew = w20 at *
            go_wp2_with (first | (refine wpList_load_whole 31 _ rfl rfl _ (cmL { cm0 with kind := 6, name := x2, column := x19.name, ty := x19.ty } (.slice none 0 0) (.slice none 0 0) (.slice none 0 0) (.slice none 0 0) (.slice none 0 0)) 31 _ rfl (by exact c20) Tryz.underlying31 rfl Tryz.size31 ?_) | (refine wpList_store_whole 31 _ _ rfl rfl _ (cmL cm0 (.slice none 0 0) (.slice none 0 0) (.slice none 0 0) (.slice none 0 0) (.slice none 0 0)) (cmL { cm0 with kind := 6, name := x2, column := x19.name, ty := x19.ty } (.slice none 0 0) (.slice none 0 0) (.slice none 0 0) (.slice none 0 0) (.slice none 0 0)) 31 rfl rfl (by exact k20) rfl Tryz.size31 (by exact m20.one) ?_; intro wz kz pz))
            refine bodyPost_ret (v := .agg (cmL { cm0 with kind := 6, name := x2, column := x19.name, ty := x19.ty } (.slice none 0 0) (.slice none 0 0) (.slice none 0 0) (.slice none 0 0) (.slice none 0 0)).toArray) (results_whole rfl _ _ _ _ 31 _ rfl kz Tryz.underlying31 rfl Tryz.size31) rfl (.mkOk (by rw [pz.out]; exact grown_putAll g20 hrw 0 _) HR19.out ⟨_, _, _, _, _, rfl, by rw [pz.out]; exact (m20.putAll hrB 0 _).weak hBw⟩ (by rw [pz.out]; exact s20.putAll hfr 0 _))
theorem choose_any {w : World} {base pb : Nat} {v : Value} {T : List Tk} {en : Int} {i : Nat} (h : St w base pb v T en i) :
    Calls Tryz.prog 111 #[.pointer (some ⟨pb, 0, none⟩)] w fun e w' => Out w base pb v T en (repM w.heap.size) (chooseP T i) e w' := by
  have hpl := h.heapLt
  have HR0 : Hid (chooseP T i = ((may T [42] [] i).then fun b j => if b = true then .ok [] j else listP T (nameP T) j).then fun l j => (must T [w_from] j).then fun _ j => (nameP T j).then fun n j => (whereP T { cm0 with kind := 13, limit := -1, fields := l, name := n } j).then fun c j => (orderP T c j).then fun c j => limitP T c j) := by show _ = _; rw [chooseP, fieldsP]
  go_enter Tryz.func111, Tryz.ntmps111
  go_wp2_with (first | (refine wpList_alloc_blk 2 31 (cmL cm0 (.slice none 0 0) (.slice none 0 0) (.slice none 0 0) (.slice none 0 0) (.slice none 0 0)) rfl rfl rfl Tryz.alloc31 ?_; intro W0 rb hrb k0 b0) | (refine wpList_alloc_blk 3 31 (cmL cm0 (.slice none 0 0) (.slice none 0 0) (.slice none 0 0) (.slice none 0 0) (.slice none 0 0)) rfl rfl rfl Tryz.alloc31 ?_; intro wA cb hcb cA bA) | (refine wpList_store_whole 31 _ _ rfl rfl _ (cmL cm0 (.slice none 0 0) (.slice none 0 0) (.slice none 0 0) (.slice none 0 0) (.slice none 0 0)) (cmL { cm0 with kind := 13, limit := -1 } (.slice none 0 0) (.slice none 0 0) (.slice none 0 0) (.slice none 0 0) (.slice none 0 0)) 31 rfl rfl (by exact cA) rfl Tryz.size31 (by exact CmIn.one (cmIn0 0 w { cm0 with kind := 13, limit := -1 } rfl rfl rfl rfl rfl)) ?_; intro w1 c1 p1))
  have hfr := h.fresh (Nat.le_of_eq hrb.out.symm)
  have hrw : w.heap.size ≤ rb := Nat.le_of_eq hrb.out.symm
  have s0 := h.below b0
  have g0 := grown_below b0 (some pb)
  clear b0
  have hrc : rb < cb := by have := (ltS k0); have := hcb.out; omega
  have hcw : w.heap.size ≤ cb := by omega
  have hfc := h.fresh hcw
  have hpB : pb < cb + 1 := by omega
  have hcB : cb < cb + 1 := by omega
  have hrB : rb < cb + 1 := by omega
  have hBw : w.heap.size ≤ cb + 1 := by omega
  have s1 : St w1 base pb v T en i := by rw [p1.out]; exact (s0.below bA).putAll hfc 0 _
  have g1 : w.grownBy w1 (some pb) := by rw [p1.out]; exact grown_putAll (grown_trans g0 (grown_below bA _)) hcw 0 _
  have k1 : w1.heap[rb]? = some (.cells (cmL cm0 (.slice none 0 0) (.slice none 0 0) (.slice none 0 0) (.slice none 0 0) (.slice none 0 0)).toArray 31) := by rw [p1.out]; exact (putAll_other _ _ _ _ _ (Nat.ne_of_lt hrc)).trans ((bA.block rb (ltS k0)).trans k0)
  have m1 : CmIn (cb + 1) w1 { cm0 with kind := 13, limit := -1 } (.slice none 0 0) (.slice none 0 0) (.slice none 0 0) (.slice none 0 0) (.slice none 0 0) := cmIn0 _ _ _ rfl rfl rfl rfl rfl
  clear cA bA p1 hcb k0 s0 g0
  refine (may_one s1 [42] (by decide)).mono ?_
  intro e w2 o2
  have g2 := grown_trans g1 o2.grown
  have k2 := (o2.grown.block rb (ltS k1) (by simpa using hfr.1)).trans k1
  have c2 := (o2.grown.block cb (ltS c1) (by simpa using hfc.1)).trans c1
  have m2 := m1.grown hpB o2.grown
  cases hy2 : may T [42] [] i with
  | bad j2 =>
    obtain rfl := o2.bad j2 hy2
    exact ⟨rfl, .mkBad g2 (by rw [HR0.out]; simp only [hy2, Rs.then_bad])⟩
  | ok x2 j2 =>
    obtain ⟨u, rfl, hu2, s2⟩ := o2.ok x2 j2 hy2
    have HR2 : Hid (chooseP T i = (if x2 = true then .ok [] j2 else listP T (nameP T) j2).then fun l j => (must T [w_from] j).then fun _ j => (nameP T j).then fun n j => (whereP T { cm0 with kind := 13, limit := -1, fields := l, name := n } j).then fun c j => (orderP T c j).then fun c j => limitP T c j) := by show _ = _; rw [HR0.out]; simp only [hy2, Rs.then_ok]
    cases hu2
    clear hy2 o2 k1 s1 g1 HR0 c1 m1
    cases x2 with
    | true =>
      have HR3 : Hid (chooseP T i = (must T [w_from] j2).then fun _ j => (nameP T j).then fun n j => (whereP T { cm0 with kind := 13, limit := -1, fields := [], name := n } j).then fun c j => (orderP T c j).then fun c j => limitP T c j) := by show _ = _; rw [HR2.out]; rfl
      clear HR2
      go_wp2_with fail
      refine (must_new s2 [w_from] 1 _ (by first | rfl | simp) _ (by rfl) (by rfl) (by decide) (by decide)).mono ?_
      intro e w4 o4
      have g4 := grown_trans g2 o4.grown
      have k4 := (o4.grown.block rb (ltS k2) (by simpa using hfr.1)).trans k2
      have c4 := (o4.grown.block cb (ltS c2) (by simpa using hfc.1)).trans c2
      have m4 := m2.grown hpB o4.grown
      cases hy4 : must T [w_from] j2 with
      | bad j4 =>
        obtain rfl := o4.bad j4 hy4
        exact ⟨rfl, .mkBad g4 (by rw [HR3.out]; simp only [hy4, Rs.then_bad])⟩
      | ok x4 j4 =>
        obtain ⟨u, rfl, hu4, s4⟩ := o4.ok x4 j4 hy4
        have HR4 : Hid (chooseP T i = (nameP T j4).then fun n j => (whereP T { cm0 with kind := 13, limit := -1, fields := [], name := n } j).then fun c j => (orderP T c j).then fun c j => limitP T c j) := by show _ = _; rw [HR3.out]; simp only [hy4, Rs.then_ok]
        clear hy4 o4 k2 s2 g2 HR3 c2 m2 hu4
        go_wp2_with fail
        refine (name_any s4).mono ?_
        intro e w5 o5
        have g5 := grown_trans g4 o5.grown
        have k5 := (o5.grown.block rb (ltS k4) (by simpa using hfr.1)).trans k4
        have c5 := (o5.grown.block cb (ltS c4) (by simpa using hfc.1)).trans c4
        have m5 := m4.grown hpB o5.grown
        cases hy5 : nameP T j4 with
        | bad j5 =>
          obtain rfl := o5.bad j5 hy5
          exact ⟨rfl, .mkBad g5 (by rw [HR4.out]; simp only [hy5, Rs.then_bad])⟩
        | ok x5 j5 =>
          obtain ⟨u, rfl, hu5, s5⟩ := o5.ok x5 j5 hy5
          have HR5 : Hid (chooseP T i = (whereP T { cm0 with kind := 13, limit := -1, fields := [], name := x5 } j5).then fun c j => (orderP T c j).then fun c j => limitP T c j) := by show _ = _; rw [HR4.out]; simp only [hy5, Rs.then_ok]
          cases hu5
          clear hy5 o5 k4 s4 g4 HR4 c4 m4
          have q6a : w5.cell? ⟨cb, 1, none⟩ = some _ := (Lib.cell_of_heap c5 1).trans rfl
          have q6b : w5.frozen? ⟨cb, 1, none⟩ = false := Lib.frozen_of_heap c5 1
          have c6 : (w5.setCell ⟨cb, 1, none⟩ (.string ⟨x5.toArray⟩)).heap[cb]? = some (.cells (cmL { cm0 with kind := 13, limit := -1, fields := [], name := x5 } (.slice none 0 0) (.slice none 0 0) (.slice none 0 0) (.slice none 0 0) (.slice none 0 0)).toArray 31) := heap_setCell_same _ _ _ _ 31 _ c5
          have k6 := (heap_setCell_other w5 ⟨cb, 1, none⟩ rb (.string ⟨x5.toArray⟩) (Nat.ne_of_lt hrc)).trans k5
          have s6 := s5.put hfc 1 (.string ⟨x5.toArray⟩)
          have g6 := grown_put g5 hcw 1 (.string ⟨x5.toArray⟩)
          have m6 := CmIn.put (⟨m5.cols, m5.vals, m5.fields, m5.expr, m5.wh⟩ : CmIn (cb + 1) w5 { cm0 with kind := 13, limit := -1, fields := [], name := x5 } (.slice none 0 0) (.slice none 0 0) (.slice none 0 0) (.slice none 0 0) (.slice none 0 0)) hcB 1 (.string ⟨x5.toArray⟩)
          generalize hW6 : w5.setCell ⟨cb, 1, none⟩ (.string ⟨x5.toArray⟩) = w6 at c6 k6 s6 g6 m6
          clear c5 k5 s5 g5 m5
          go_wp2_with fail
          clear hW6 q6a q6b
          refine (where_any s6 cb hfc { cm0 with kind := 13, limit := -1, fields := [], name := x5 } (.slice none 0 0) (.slice none 0 0) (.slice none 0 0) (.slice none 0 0) c6 rfl).mono ?_
          intro e w7 o7
          have g7 : w.grownBy w7 (some pb) := ⟨o7.os.trans g6.os, o7.tape.trans g6.tape, o7.output.trans g6.output, Nat.le_trans g6.size o7.size, fun k hk hp => (o7.block k (Nat.lt_of_lt_of_le hk g6.size) (by simpa using hp) (by omega)).trans (g6.block k hk hp)⟩
          have k7 := (o7.block rb (ltS k6) hfr.1 (Nat.ne_of_lt hrc)).trans k6
          have n7 := m6.keep o7.size fun b hB hs => o7.block b hs (by omega) (by omega)
          have hz7 : cb + 1 ≤ w6.heap.size := by have := (ltS c6); omega
          cases hy7 : whereP T { cm0 with kind := 13, limit := -1, fields := [], name := x5 } j5 with
          | bad j7 =>
            obtain rfl := o7.bad j7 hy7
            exact ⟨rfl, .mkBad g7 (by rw [HR5.out]; simp only [hy7, Rs.then_bad])⟩
          | ok cc7 j7 =>
            obtain ⟨rfl, ⟨wa7, c7, hx7⟩, s7⟩ := o7.ok cc7 j7 hy7
            have HR7 : Hid (chooseP T i = (orderP T cc7 j7).then fun c j => limitP T c j) := by show _ = _; rw [HR5.out]; simp only [hy7, Rs.then_ok]
            obtain ⟨e1, e2, e3, e4⟩ := where_same hy7
            have m7 : CmIn (cb + 1) w7 cc7 (.slice none 0 0) (.slice none 0 0) (.slice none 0 0) (.slice none 0 0) wa7 := ⟨by rw [e1]; exact n7.cols, by rw [e2]; exact n7.vals, by rw [e3]; exact n7.fields, by rw [e4]; exact n7.expr, hx7.weak hz7⟩
            clear hy7 o7 n7 e1 e2 e3 e4 hx7 hz7 k6 s6 g6 HR5 c6 m6
            have HR8 : Hid (chooseP T i = ((may T w_order [w_by] j7).then fun b j => if b = true then (nameP T j).then fun o j => .ok { cc7 with order := o } j else .ok cc7 j).then fun c j => limitP T c j) := by show _ = _; rw [HR7.out, orderP]
            clear HR7
            go_wp2_with fail
            refine (may_new s7 w_order (by decide) [w_by] 1 _ (by first | rfl | simp) _ (by rfl) (by rfl) (by decide) (by decide)).mono ?_
            intro e w9 o9
            have g9 := grown_trans g7 o9.grown
            have k9 := (o9.grown.block rb (ltS k7) (by simpa using hfr.1)).trans k7
            have c9 := (o9.grown.block cb (ltS c7) (by simpa using hfc.1)).trans c7
            have m9 := m7.grown hpB o9.grown
            cases hy9 : may T w_order [w_by] j7 with
            | bad j9 =>
              obtain rfl := o9.bad j9 hy9
              exact ⟨rfl, .mkBad g9 (by rw [HR8.out]; simp only [hy9, Rs.then_bad])⟩
            | ok x9 j9 =>
              obtain ⟨u, rfl, hu9, s9⟩ := o9.ok x9 j9 hy9
              have HR9 : Hid (chooseP T i = (if x9 = true then (nameP T j9).then fun o j => .ok { cc7 with order := o } j else .ok cc7 j9).then fun c j => limitP T c j) := by show _ = _; rw [HR8.out]; simp only [hy9, Rs.then_ok]
              cases hu9
              clear hy9 o9 k7 s7 g7 HR8 c7 m7
              cases x9 with
              | true =>
                have HR10 : Hid (chooseP T i = ((nameP T j9).then fun o j => .ok { cc7 with order := o } j).then fun c j => limitP T c j) := by show _ = _; rw [HR9.out]; rfl
                clear HR9
                go_wp2_with fail
                refine (name_any s9).mono ?_
                intro e w11 o11
                have g11 := grown_trans g9 o11.grown
                have k11 := (o11.grown.block rb (ltS k9) (by simpa using hfr.1)).trans k9
                have c11 := (o11.grown.block cb (ltS c9) (by simpa using hfc.1)).trans c9
                have m11 := m9.grown hpB o11.grown
                cases hy11 : nameP T j9 with
                | bad j11 =>
                  obtain rfl := o11.bad j11 hy11
                  exact ⟨rfl, .mkBad g11 (by rw [HR10.out]; simp only [hy11, Rs.then_bad])⟩
                | ok x11 j11 =>
                  obtain ⟨u, rfl, hu11, s11⟩ := o11.ok x11 j11 hy11
                  have HR11 : Hid (chooseP T i = limitP T { cc7 with order := x11 } j11) := by show _ = _; rw [HR10.out]; simp only [hy11, Rs.then_ok]
                  cases hu11
                  clear hy11 o11 k9 s9 g9 HR10 c9 m9
                  have HR12 : Hid (chooseP T i = (may T w_limit [] j11).then fun b j => if b = true then (numberP T 0 j).then fun n j => .ok { { cc7 with order := x11 } with limit := (n : Nat) } j else .ok { cc7 with order := x11 } j) := by show _ = _; rw [HR11.out, limitP]
                  clear HR11
                  have q13a : w11.cell? ⟨cb, 24, none⟩ = some _ := (Lib.cell_of_heap c11 24).trans rfl
                  have q13b : w11.frozen? ⟨cb, 24, none⟩ = false := Lib.frozen_of_heap c11 24
                  have c13 : (w11.setCell ⟨cb, 24, none⟩ (.string ⟨x11.toArray⟩)).heap[cb]? = some (.cells (cmL { cc7 with order := x11 } (.slice none 0 0) (.slice none 0 0) (.slice none 0 0) (.slice none 0 0) wa7).toArray 31) := heap_setCell_same _ _ _ _ 31 _ c11
                  have k13 := (heap_setCell_other w11 ⟨cb, 24, none⟩ rb (.string ⟨x11.toArray⟩) (Nat.ne_of_lt hrc)).trans k11
                  have s13 := s11.put hfc 24 (.string ⟨x11.toArray⟩)
                  have g13 := grown_put g11 hcw 24 (.string ⟨x11.toArray⟩)
                  have m13 := CmIn.put (⟨m11.cols, m11.vals, m11.fields, m11.expr, m11.wh⟩ : CmIn (cb + 1) w11 { cc7 with order := x11 } (.slice none 0 0) (.slice none 0 0) (.slice none 0 0) (.slice none 0 0) wa7) hcB 24 (.string ⟨x11.toArray⟩)
                  generalize hW13 : w11.setCell ⟨cb, 24, none⟩ (.string ⟨x11.toArray⟩) = w13 at c13 k13 s13 g13 m13
                  clear c11 k11 s11 g11 m11
                  go_wp2_with fail
                  clear hW13 q13a q13b
                  refine (may_one s13 w_limit (by decide)).mono ?_
                  intro e w14 o14
                  have g14 := grown_trans g13 o14.grown
                  have k14 := (o14.grown.block rb (ltS k13) (by simpa using hfr.1)).trans k13
                  have c14 := (o14.grown.block cb (ltS c13) (by simpa using hfc.1)).trans c13
                  have m14 := m13.grown hpB o14.grown
                  cases hy14 : may T w_limit [] j11 with
                  | bad j14 =>
                    obtain rfl := o14.bad j14 hy14
                    exact ⟨rfl, .mkBad g14 (by rw [HR12.out]; simp only [hy14, Rs.then_bad])⟩
                  | ok x14 j14 =>
                    obtain ⟨u, rfl, hu14, s14⟩ := o14.ok x14 j14 hy14
                    have HR14 : Hid (chooseP T i = if x14 = true then (numberP T 0 j14).then fun n j => .ok { { cc7 with order := x11 } with limit := (n : Nat) } j else .ok { cc7 with order := x11 } j14) := by show _ = _; rw [HR12.out]; simp only [hy14, Rs.then_ok]
                    cases hu14
                    clear hy14 o14 k13 s13 g13 HR12 c13 m13
                    cases x14 with
                    | true =>
                      have HR15 : Hid (chooseP T i = (numberP T 0 j14).then fun n j => .ok { { cc7 with order := x11 } with limit := (n : Nat) } j) := by show _ = _; rw [HR14.out]; rfl
                      clear HR14
                      go_wp2_with fail
                      refine (number_any s14 0).mono ?_
                      intro e w16 o16
                      have g16 := grown_trans g14 o16.grown
                      have k16 := (o16.grown.block rb (ltS k14) (by simpa using hfr.1)).trans k14
                      have c16 := (o16.grown.block cb (ltS c14) (by simpa using hfc.1)).trans c14
                      have m16 := m14.grown hpB o16.grown
                      cases hy16 : numberP T 0 j14 with
                      | bad j16 =>
                        obtain rfl := o16.bad j16 hy16
                        exact ⟨rfl, .mkBad g16 (by rw [HR15.out]; simp only [hy16, Rs.then_bad])⟩
                      | ok x16 j16 =>
                        obtain ⟨u, rfl, hu16, s16⟩ := o16.ok x16 j16 hy16
                        have HR16 : Hid (chooseP T i = .ok { { cc7 with order := x11 } with limit := (x16 : Nat) } j16) := by show _ = _; rw [HR15.out]; simp only [hy16, Rs.then_ok]
                        cases hu16
                        clear hy16 o16 k14 s14 g14 HR15 c14 m14
                        have q17a : w16.cell? ⟨cb, 25, none⟩ = some _ := (Lib.cell_of_heap c16 25).trans rfl
                        have q17b : w16.frozen? ⟨cb, 25, none⟩ = false := Lib.frozen_of_heap c16 25
                        have c17 : (w16.setCell ⟨cb, 25, none⟩ (.int .i64 (x16 : Int))).heap[cb]? = some (.cells (cmL { { cc7 with order := x11 } with limit := (x16 : Nat) } (.slice none 0 0) (.slice none 0 0) (.slice none 0 0) (.slice none 0 0) wa7).toArray 31) := heap_setCell_same _ _ _ _ 31 _ c16
                        have k17 := (heap_setCell_other w16 ⟨cb, 25, none⟩ rb (.int .i64 (x16 : Int)) (Nat.ne_of_lt hrc)).trans k16
                        have s17 := s16.put hfc 25 (.int .i64 (x16 : Int))
                        have g17 := grown_put g16 hcw 25 (.int .i64 (x16 : Int))
                        have m17 := CmIn.put (⟨m16.cols, m16.vals, m16.fields, m16.expr, m16.wh⟩ : CmIn (cb + 1) w16 { { cc7 with order := x11 } with limit := (x16 : Nat) } (.slice none 0 0) (.slice none 0 0) (.slice none 0 0) (.slice none 0 0) wa7) hcB 25 (.int .i64 (x16 : Int))
                        generalize hW17 : w16.setCell ⟨cb, 25, none⟩ (.int .i64 (x16 : Int)) = w17 at c17 k17 s17 g17 m17
                        clear c16 k16 s16 g16 m16
                        go_wp2_with (first | (refine wpList_load_whole 31 _ rfl rfl _ (cmL { { cc7 with order := x11 } with limit := (x16 : Nat) } (.slice none 0 0) (.slice none 0 0) (.slice none 0 0) (.slice none 0 0) wa7) 31 _ rfl (by exact c17) Tryz.underlying31 rfl Tryz.size31 ?_) | (refine wpList_store_whole 31 _ _ rfl rfl _ (cmL cm0 (.slice none 0 0) (.slice none 0 0) (.slice none 0 0) (.slice none 0 0) (.slice none 0 0)) (cmL { { cc7 with order := x11 } with limit := (x16 : Nat) } (.slice none 0 0) (.slice none 0 0) (.slice none 0 0) (.slice none 0 0) wa7) 31 rfl rfl (by exact k17) rfl Tryz.size31 (by exact m17.one) ?_; intro wz kz pz))
                        refine bodyPost_ret (v := .agg (cmL { { cc7 with order := x11 } with limit := (x16 : Nat) } (.slice none 0 0) (.slice none 0 0) (.slice none 0 0) (.slice none 0 0) wa7).toArray) (results_whole rfl _ _ _ _ 31 _ rfl kz Tryz.underlying31 rfl Tryz.size31) rfl (.mkOk (by rw [pz.out]; exact grown_putAll g17 hrw 0 _) HR16.out ⟨_, _, _, _, _, rfl, by rw [pz.out]; exact (m17.putAll hrB 0 _).weak hBw⟩ (by rw [pz.out]; exact s17.putAll hfr 0 _))
                    | false =>
                      have HR18 : Hid (chooseP T i = .ok { cc7 with order := x11 } j14) := by show _ = _; rw [HR14.out]; rfl
                      clear HR14
                      go_wp2_with (first | (refine wpList_load_whole 31 _ rfl rfl _ (cmL { cc7 with order := x11 } (.slice none 0 0) (.slice none 0 0) (.slice none 0 0) (.slice none 0 0) wa7) 31 _ rfl (by exact c14) Tryz.underlying31 rfl Tryz.size31 ?_) | (refine wpList_store_whole 31 _ _ rfl rfl _ (cmL cm0 (.slice none 0 0) (.slice none 0 0) (.slice none 0 0) (.slice none 0 0) (.slice none 0 0)) (cmL { cc7 with order := x11 } (.slice none 0 0) (.slice none 0 0) (.slice none 0 0) (.slice none 0 0) wa7) 31 rfl rfl (by exact k14) rfl Tryz.size31 (by exact m14.one) ?_; intro wz kz pz))
                      refine bodyPost_ret (v := .agg (cmL { cc7 with order := x11 } (.slice none 0 0) (.slice none 0 0) (.slice none 0 0) (.slice none 0 0) wa7).toArray) (results_whole rfl _ _ _ _ 31 _ rfl kz Tryz.underlying31 rfl Tryz.size31) rfl (.mkOk (by rw [pz.out]; exact grown_putAll g14 hrw 0 _) HR18.out ⟨_, _, _, _, _, rfl, by rw [pz.out]; exact (m14.putAll hrB 0 _).weak hBw⟩ (by rw [pz.out]; exact s14.putAll hfr 0 _))
              | false =>
                have HR19 : Hid (chooseP T i = (may T w_limit [] j9).then fun b j => if b = true then (numberP T 0 j).then fun n j => .ok { cc7 with limit := (n : Nat) } j else .ok cc7 j) := by show _ = _; rw [HR9.out]; rfl
                clear HR9
                go_wp2_with fail
                refine (may_one s9 w_limit (by decide)).mono ?_
                intro e w20 o20
                have g20 := grown_trans g9 o20.grown
                have k20 := (o20.grown.block rb (ltS k9) (by simpa using hfr.1)).trans k9
                have c20 := (o20.grown.block cb (ltS c9) (by simpa using hfc.1)).trans c9
                have m20 := m9.grown hpB o20.grown
                cases hy20 : may T w_limit [] j9 with
                | bad j20 =>
                  obtain rfl := o20.bad j20 hy20
                  exact ⟨rfl, .mkBad g20 (by rw [HR19.out]; simp only [hy20, Rs.then_bad])⟩
                | ok x20 j20 =>
                  obtain ⟨u, rfl, hu20, s20⟩ := o20.ok x20 j20 hy20
                  have HR20 : Hid (chooseP T i = if x20 = true then (numberP T 0 j20).then fun n j => .ok { cc7 with limit := (n : Nat) } j else .ok cc7 j20) := by show _ = _; rw [HR19.out]; simp only [hy20, Rs.then_ok]
                  cases hu20
                  clear hy20 o20 k9 s9 g9 HR19 c9 m9
                  cases x20 with
                  | true =>
                    have HR21 : Hid (chooseP T i = (numberP T 0 j20).then fun n j => .ok { cc7 with limit := (n : Nat) } j) := by show _ = _; rw [HR20.out]; rfl
                    clear HR20
                    go_wp2_with fail
                    refine (number_any s20 0).mono ?_
                    intro e w22 o22
                    have g22 := grown_trans g20 o22.grown
                    have k22 := (o22.grown.block rb (ltS k20) (by simpa using hfr.1)).trans k20
                    have c22 := (o22.grown.block cb (ltS c20) (by simpa using hfc.1)).trans c20
                    have m22 := m20.grown hpB o22.grown
                    cases hy22 : numberP T 0 j20 with
                    | bad j22 =>
                      obtain rfl := o22.bad j22 hy22
                      exact ⟨rfl, .mkBad g22 (by rw [HR21.out]; simp only [hy22, Rs.then_bad])⟩
                    | ok x22 j22 =>
                      obtain ⟨u, rfl, hu22, s22⟩ := o22.ok x22 j22 hy22
                      have HR22 : Hid (chooseP T i = .ok { cc7 with limit := (x22 : Nat) } j22) := by show _ = _; rw [HR21.out]; simp only [hy22, Rs.then_ok]
                      cases hu22
                      clear hy22 o22 k20 s20 g20 HR21 c20 m20
                      have q23a : w22.cell? ⟨cb, 25, none⟩ = some _ := (Lib.cell_of_heap c22 25).trans rfl
                      have q23b : w22.frozen? ⟨cb, 25, none⟩ = false := Lib.frozen_of_heap c22 25
                      have c23 : (w22.setCell ⟨cb, 25, none⟩ (.int .i64 (x22 : Int))).heap[cb]? = some (.cells (cmL { cc7 with limit := (x22 : Nat) } (.slice none 0 0) (.slice none 0 0) (.slice none 0 0) (.slice none 0 0) wa7).toArray 31) := heap_setCell_same _ _ _ _ 31 _ c22
                      have k23 := (heap_setCell_other w22 ⟨cb, 25, none⟩ rb (.int .i64 (x22 : Int)) (Nat.ne_of_lt hrc)).trans k22
                      have s23 := s22.put hfc 25 (.int .i64 (x22 : Int))
                      have g23 := grown_put g22 hcw 25 (.int .i64 (x22 : Int))
                      have m23 := CmIn.put (⟨m22.cols, m22.vals, m22.fields, m22.expr, m22.wh⟩ : CmIn (cb + 1) w22 { cc7 with limit := (x22 : Nat) } (.slice none 0 0) (.slice none 0 0) (.slice none 0 0) (.slice none 0 0) wa7) hcB 25 (.int .i64 (x22 : Int))
                      generalize hW23 : w22.setCell ⟨cb, 25, none⟩ (.int .i64 (x22 : Int)) = w23 at c23 k23 s23 g23 m23
                      clear c22 k22 s22 g22 m22
                      go_wp2_with (first | (refine wpList_load_whole 31 _ rfl rfl _ (cmL { cc7 with limit := (x22 : Nat) } (.slice none 0 0) (.slice none 0 0) (.slice none 0 0) (.slice none 0 0) wa7) 31 _ rfl (by exact c23) Tryz.underlying31 rfl Tryz.size31 ?_) | (refine wpList_store_whole 31 _ _ rfl rfl _ (cmL cm0 (.slice none 0 0) (.slice none 0 0) (.slice none 0 0) (.slice none 0 0) (.slice none 0 0)) (cmL { cc7 with limit := (x22 : Nat) } (.slice none 0 0) (.slice none 0 0) (.slice none 0 0) (.slice none 0 0) wa7) 31 rfl rfl (by exact k23) rfl Tryz.size31 (by exact m23.one) ?_; intro wz kz pz))
                      refine bodyPost_ret (v := .agg (cmL { cc7 with limit := (x22 : Nat) } (.slice none 0 0) (.slice none 0 0) (.slice none 0 0) (.slice none 0 0) wa7).toArray) (results_whole rfl _ _ _ _ 31 _ rfl kz Tryz.underlying31 rfl Tryz.size31) rfl (.mkOk (by rw [pz.out]; exact grown_putAll g23 hrw 0 _) HR22.out ⟨_, _, _, _, _, rfl, by rw [pz.out]; exact (m23.putAll hrB 0 _).weak hBw⟩ (by rw [pz.out]; exact s23.putAll hfr 0 _))
                  | false =>
                    have HR24 : Hid (chooseP T i = .ok cc7 j20) := by show _ = _; rw [HR20.out]; rfl
                    clear HR20
                    go_wp2_with (first | (refine wpList_load_whole 31 _ rfl rfl _ (cmL cc7 (.slice none 0 0) (.slice none 0 0) (.slice none 0 0) (.slice none 0 0) wa7) 31 _ rfl (by exact c20) Tryz.underlying31 rfl Tryz.size31 ?_) | (refine wpList_store_whole 31 _ _ rfl rfl _ (cmL cm0 (.slice none 0 0) (.slice none 0 0) (.slice none 0 0) (.slice none 0 0) (.slice none 0 0)) (cmL cc7 (.slice none 0 0) (.slice none 0 0) (.slice none 0 0) (.slice none 0 0) wa7) 31 rfl rfl (by exact k20) rfl Tryz.size31 (by exact m20.one) ?_; intro wz kz pz))
                    refine bodyPost_ret (v := .agg (cmL cc7 (.slice none 0 0) (.slice none 0 0) (.slice none 0 0) (.slice none 0 0) wa7).toArray) (results_whole rfl _ _ _ _ 31 _ rfl kz Tryz.underlying31 rfl Tryz.size31) rfl (.mkOk (by rw [pz.out]; exact grown_putAll g20 hrw 0 _) HR24.out ⟨_, _, _, _, _, rfl, by rw [pz.out]; exact (m20.putAll hrB 0 _).weak hBw⟩ (by rw [pz.out]; exact s20.putAll hfr 0 _))
    | false =>
      have HR25 : Hid (chooseP T i = (listP T (nameP T) j2).then fun l j => (must T [w_from] j).then fun _ j => (nameP T j).then fun n j => (whereP T { cm0 with kind := 13, limit := -1, fields := l, name := n } j).then fun c j => (orderP T c j).then fun c j => limitP T c j) := by show _ = _; rw [HR2.out]; rfl
      clear HR2
      go_wp2_with fail
      refine (list_str s2).mono ?_
      intro e w26 o26
      have g26 := grown_trans g2 o26.grown
      have k26 := (o26.grown.block rb (ltS k2) (by simpa using hfr.1)).trans k2
      have c26 := (o26.grown.block cb (ltS c2) (by simpa using hfc.1)).trans c2
      have m26 := m2.grown hpB o26.grown
      cases hy26 : listP T (nameP T) j2 with
      | bad j26 =>
        obtain rfl := o26.bad j26 hy26
        exact ⟨rfl, .mkBad g26 (by rw [HR25.out]; simp only [hy26, Rs.then_bad])⟩
      | ok x26 j26 =>
        obtain ⟨u, rfl, hu26, s26⟩ := o26.ok x26 j26 hy26
        have HR26 : Hid (chooseP T i = (must T [w_from] j26).then fun _ j => (nameP T j).then fun n j => (whereP T { cm0 with kind := 13, limit := -1, fields := x26, name := n } j).then fun c j => (orderP T c j).then fun c j => limitP T c j) := by show _ = _; rw [HR25.out]; simp only [hy26, Rs.then_ok]
        have hz26 : cb + 1 ≤ w2.heap.size := by have := (ltS c2); omega
        have hu26 := row_of hu26
        obtain ⟨ao26, ca26, rfl⟩ := hu26.form
        clear hy26 o26 k2 s2 g2 HR25 c2 m2
        have q27a : w26.cell? ⟨cb, 10, none⟩ = some _ := (Lib.cell_of_heap c26 10).trans rfl
        have q27b : w26.frozen? ⟨cb, 10, none⟩ = false := Lib.frozen_of_heap c26 10
        have c27 : (w26.setCell ⟨cb, 10, none⟩ (.slice ao26 x26.length ca26)).heap[cb]? = some (.cells (cmL { cm0 with kind := 13, limit := -1, fields := x26 } (.slice none 0 0) (.slice none 0 0) (.slice ao26 x26.length ca26) (.slice none 0 0) (.slice none 0 0)).toArray 31) := heap_setCell_same _ _ _ _ 31 _ c26
        have k27 := (heap_setCell_other w26 ⟨cb, 10, none⟩ rb (.slice ao26 x26.length ca26) (Nat.ne_of_lt hrc)).trans k26
        have s27 := s26.put hfc 10 (.slice ao26 x26.length ca26)
        have g27 := grown_put g26 hcw 10 (.slice ao26 x26.length ca26)
        have m27 := CmIn.put (⟨m26.cols, m26.vals, hu26.weak hz26, m26.expr, m26.wh⟩ : CmIn (cb + 1) w26 { cm0 with kind := 13, limit := -1, fields := x26 } (.slice none 0 0) (.slice none 0 0) (.slice ao26 x26.length ca26) (.slice none 0 0) (.slice none 0 0)) hcB 10 (.slice ao26 x26.length ca26)
        generalize hW27 : w26.setCell ⟨cb, 10, none⟩ (.slice ao26 x26.length ca26) = w27 at c27 k27 s27 g27 m27
        clear c26 k26 s26 g26 m26
        go_wp2_with fail
        clear hW27 q27a q27b
        refine (must_new s27 [w_from] 1 _ (by first | rfl | simp) _ (by rfl) (by rfl) (by decide) (by decide)).mono ?_
        intro e w28 o28
        have g28 := grown_trans g27 o28.grown
        have k28 := (o28.grown.block rb (ltS k27) (by simpa using hfr.1)).trans k27
        have c28 := (o28.grown.block cb (ltS c27) (by simpa using hfc.1)).trans c27
        have m28 := m27.grown hpB o28.grown
        cases hy28 : must T [w_from] j26 with
        | bad j28 =>
          obtain rfl := o28.bad j28 hy28
          exact ⟨rfl, .mkBad g28 (by rw [HR26.out]; simp only [hy28, Rs.then_bad])⟩
        | ok x28 j28 =>
          obtain ⟨u, rfl, hu28, s28⟩ := o28.ok x28 j28 hy28
          have HR28 : Hid (chooseP T i = (nameP T j28).then fun n j => (whereP T { cm0 with kind := 13, limit := -1, fields := x26, name := n } j).then fun c j => (orderP T c j).then fun c j => limitP T c j) := by show _ = _; rw [HR26.out]; simp only [hy28, Rs.then_ok]
          clear hy28 o28 k27 s27 g27 HR26 c27 m27 hu28
          go_wp2_with fail
          refine (name_any s28).mono ?_
          intro e w29 o29
          have g29 := grown_trans g28 o29.grown
          have k29 := (o29.grown.block rb (ltS k28) (by simpa using hfr.1)).trans k28
          have c29 := (o29.grown.block cb (ltS c28) (by simpa using hfc.1)).trans c28
          have m29 := m28.grown hpB o29.grown
          cases hy29 : nameP T j28 with
          | bad j29 =>
            obtain rfl := o29.bad j29 hy29
            exact ⟨rfl, .mkBad g29 (by rw [HR28.out]; simp only [hy29, Rs.then_bad])⟩
          | ok x29 j29 =>
            obtain ⟨u, rfl, hu29, s29⟩ := o29.ok x29 j29 hy29
            have HR29 : Hid (chooseP T i = (whereP T { cm0 with kind := 13, limit := -1, fields := x26, name := x29 } j29).then fun c j => (orderP T c j).then fun c j => limitP T c j) := by show _ = _; rw [HR28.out]; simp only [hy29, Rs.then_ok]
            cases hu29
            clear hy29 o29 k28 s28 g28 HR28 c28 m28
            have q30a : w29.cell? ⟨cb, 1, none⟩ = some _ := (Lib.cell_of_heap c29 1).trans rfl
            have q30b : w29.frozen? ⟨cb, 1, none⟩ = false := Lib.frozen_of_heap c29 1
            have c30 : (w29.setCell ⟨cb, 1, none⟩ (.string ⟨x29.toArray⟩)).heap[cb]? = some (.cells (cmL { cm0 with kind := 13, limit := -1, fields := x26, name := x29 } (.slice none 0 0) (.slice none 0 0) (.slice ao26 x26.length ca26) (.slice none 0 0) (.slice none 0 0)).toArray 31) := heap_setCell_same _ _ _ _ 31 _ c29
            have k30 := (heap_setCell_other w29 ⟨cb, 1, none⟩ rb (.string ⟨x29.toArray⟩) (Nat.ne_of_lt hrc)).trans k29
            have s30 := s29.put hfc 1 (.string ⟨x29.toArray⟩)
            have g30 := grown_put g29 hcw 1 (.string ⟨x29.toArray⟩)
            have m30 := CmIn.put (⟨m29.cols, m29.vals, m29.fields, m29.expr, m29.wh⟩ : CmIn (cb + 1) w29 { cm0 with kind := 13, limit := -1, fields := x26, name := x29 } (.slice none 0 0) (.slice none 0 0) (.slice ao26 x26.length ca26) (.slice none 0 0) (.slice none 0 0)) hcB 1 (.string ⟨x29.toArray⟩)
            generalize hW30 : w29.setCell ⟨cb, 1, none⟩ (.string ⟨x29.toArray⟩) = w30 at c30 k30 s30 g30 m30
            clear c29 k29 s29 g29 m29
            go_wp2_with fail
            clear hW30 q30a q30b
            refine (where_any s30 cb hfc { cm0 with kind := 13, limit := -1, fields := x26, name := x29 } (.slice none 0 0) (.slice none 0 0) (.slice ao26 x26.length ca26) (.slice none 0 0) c30 rfl).mono ?_
            intro e w31 o31
            have g31 : w.grownBy w31 (some pb) := ⟨o31.os.trans g30.os, o31.tape.trans g30.tape, o31.output.trans g30.output, Nat.le_trans g30.size o31.size, fun k hk hp => (o31.block k (Nat.lt_of_lt_of_le hk g30.size) (by simpa using hp) (by omega)).trans (g30.block k hk hp)⟩
            have k31 := (o31.block rb (ltS k30) hfr.1 (Nat.ne_of_lt hrc)).trans k30
            have n31 := m30.keep o31.size fun b hB hs => o31.block b hs (by omega) (by omega)
            have hz31 : cb + 1 ≤ w30.heap.size := by have := (ltS c30); omega
            cases hy31 : whereP T { cm0 with kind := 13, limit := -1, fields := x26, name := x29 } j29 with
            | bad j31 =>
              obtain rfl := o31.bad j31 hy31
              exact ⟨rfl, .mkBad g31 (by rw [HR29.out]; simp only [hy31, Rs.then_bad])⟩
            | ok cc31 j31 =>
              obtain ⟨rfl, ⟨wa31, c31, hx31⟩, s31⟩ := o31.ok cc31 j31 hy31
              have HR31 : Hid (chooseP T i = (orderP T cc31 j31).then fun c j => limitP T c j) := by show _ = _; rw [HR29.out]; simp only [hy31, Rs.then_ok]
              obtain ⟨e1, e2, e3, e4⟩ := where_same hy31
              have m31 : CmIn (cb + 1) w31 cc31 (.slice none 0 0) (.slice none 0 0) (.slice ao26 x26.length ca26) (.slice none 0 0) wa31 := ⟨by rw [e1]; exact n31.cols, by rw [e2]; exact n31.vals, by rw [e3]; exact n31.fields, by rw [e4]; exact n31.expr, hx31.weak hz31⟩
              clear hy31 o31 n31 e1 e2 e3 e4 hx31 hz31 k30 s30 g30 HR29 c30 m30
              have HR32 : Hid (chooseP T i = ((may T w_order [w_by] j31).then fun b j => if b = true then (nameP T j).then fun o j => .ok { cc31 with order := o } j else .ok cc31 j).then fun c j => limitP T c j) := by show _ = _; rw [HR31.out, orderP]
              clear HR31
              go_wp2_with fail
              refine (may_new s31 w_order (by decide) [w_by] 1 _ (by first | rfl | simp) _ (by rfl) (by rfl) (by decide) (by decide)).mono ?_
              intro e w33 o33
              have g33 := grown_trans g31 o33.grown
              have k33 := (o33.grown.block rb (ltS k31) (by simpa using hfr.1)).trans k31
              have c33 := (o33.grown.block cb (ltS c31) (by simpa using hfc.1)).trans c31
              have m33 := m31.grown hpB o33.grown
              cases hy33 : may T w_order [w_by] j31 with
              | bad j33 =>
                obtain rfl := o33.bad j33 hy33
                exact ⟨rfl, .mkBad g33 (by rw [HR32.out]; simp only [hy33, Rs.then_bad])⟩
              | ok x33 j33 =>
                obtain ⟨u, rfl, hu33, s33⟩ := o33.ok x33 j33 hy33
                have HR33 : Hid (chooseP T i = (if x33 = true then (nameP T j33).then fun o j => .ok { cc31 with order := o } j else .ok cc31 j33).then fun c j => limitP T c j) := by show _ = _; rw [HR32.out]; simp only [hy33, Rs.then_ok]
                cases hu33
                clear hy33 o33 k31 s31 g31 HR32 c31 m31
                cases x33 with
                | true =>
                  have HR34 : Hid (chooseP T i = ((nameP T j33).then fun o j => .ok { cc31 with order := o } j).then fun c j => limitP T c j) := by show _ = _; rw [HR33.out]; rfl
                  clear HR33
                  go_wp2_with fail
                  refine (name_any s33).mono ?_
                  intro e w35 o35
                  have g35 := grown_trans g33 o35.grown
                  have k35 := (o35.grown.block rb (ltS k33) (by simpa using hfr.1)).trans k33
                  have c35 := (o35.grown.block cb (ltS c33) (by simpa using hfc.1)).trans c33
                  have m35 := m33.grown hpB o35.grown
                  cases hy35 : nameP T j33 with
                  | bad j35 =>
                    obtain rfl := o35.bad j35 hy35
                    exact ⟨rfl, .mkBad g35 (by rw [HR34.out]; simp only [hy35, Rs.then_bad])⟩
                  | ok x35 j35 =>
                    obtain ⟨u, rfl, hu35, s35⟩ := o35.ok x35 j35 hy35
                    have HR35 : Hid (chooseP T i = limitP T { cc31 with order := x35 } j35) := by show _ = _; rw [HR34.out]; simp only [hy35, Rs.then_ok]
                    cases hu35
                    clear hy35 o35 k33 s33 g33 HR34 c33 m33
                    have HR36 : Hid (chooseP T i = (may T w_limit [] j35).then fun b j => if b = true then (numberP T 0 j).then fun n j => .ok { { cc31 with order := x35 } with limit := (n : Nat) } j else .ok { cc31 with order := x35 } j) := by show _ = _; rw [HR35.out, limitP]
                    clear HR35
                    have q37a : w35.cell? ⟨cb, 24, none⟩ = some _ := (Lib.cell_of_heap c35 24).trans rfl
                    have q37b : w35.frozen? ⟨cb, 24, none⟩ = false := Lib.frozen_of_heap c35 24
                    have c37 : (w35.setCell ⟨cb, 24, none⟩ (.string ⟨x35.toArray⟩)).heap[cb]? = some (.cells (cmL { cc31 with order := x35 } (.slice none 0 0) (.slice none 0 0) (.slice ao26 x26.length ca26) (.slice none 0 0) wa31).toArray 31) := heap_setCell_same _ _ _ _ 31 _ c35
                    have k37 := (heap_setCell_other w35 ⟨cb, 24, none⟩ rb (.string ⟨x35.toArray⟩) (Nat.ne_of_lt hrc)).trans k35
                    have s37 := s35.put hfc 24 (.string ⟨x35.toArray⟩)
                    have g37 := grown_put g35 hcw 24 (.string ⟨x35.toArray⟩)
                    have m37 := CmIn.put (⟨m35.cols, m35.vals, m35.fields, m35.expr, m35.wh⟩ : CmIn (cb + 1) w35 { cc31 with order := x35 } (.slice none 0 0) (.slice none 0 0) (.slice ao26 x26.length ca26) (.slice none 0 0) wa31) hcB 24 (.string ⟨x35.toArray⟩)
                    generalize hW37 : w35.setCell ⟨cb, 24, none⟩ (.string ⟨x35.toArray⟩) = w37 at c37 k37 s37 g37 m37
                    clear c35 k35 s35 g35 m35
                    go_wp2_with fail
                    clear hW37 q37a q37b
                    refine (may_one s37 w_limit (by decide)).mono ?_
                    intro e w38 o38
                    have g38 := grown_trans g37 o38.grown
                    have k38 := (o38.grown.block rb (ltS k37) (by simpa using hfr.1)).trans k37
                    have c38 := (o38.grown.block cb (ltS c37) (by simpa using hfc.1)).trans c37
                    have m38 := m37.grown hpB o38.grown
                    cases hy38 : may T w_limit [] j35 with
                    | bad j38 =>
                      obtain rfl := o38.bad j38 hy38
                      exact ⟨rfl, .mkBad g38 (by rw [HR36.out]; simp only [hy38, Rs.then_bad])⟩
                    | ok x38 j38 =>
                      obtain ⟨u, rfl, hu38, s38⟩ := o38.ok x38 j38 hy38
                      have HR38 : Hid (chooseP T i = if x38 = true then (numberP T 0 j38).then fun n j => .ok { { cc31 with order := x35 } with limit := (n : Nat) } j else .ok { cc31 with order := x35 } j38) := by show _ = _; rw [HR36.out]; simp only [hy38, Rs.then_ok]
                      cases hu38
                      clear hy38 o38 k37 s37 g37 HR36 c37 m37
                      cases x38 with
                      | true =>
                        have HR39 : Hid (chooseP T i = (numberP T 0 j38).then fun n j => .ok { { cc31 with order := x35 } with limit := (n : Nat) } j) := by show _ = _; rw [HR38.out]; rfl
                        clear HR38
                        go_wp2_with fail
                        refine (number_any s38 0).mono ?_
                        intro e w40 o40
                        have g40 := grown_trans g38 o40.grown
                        have k40 := (o40.grown.block rb (ltS k38) (by simpa using hfr.1)).trans k38
                        have c40 := (o40.grown.block cb (ltS c38) (by simpa using hfc.1)).trans c38
                        have m40 := m38.grown hpB o40.grown
                        cases hy40 : numberP T 0 j38 with
                        | bad j40 =>
                          obtain rfl := o40.bad j40 hy40
                          exact ⟨rfl, .mkBad g40 (by rw [HR39.out]; simp only [hy40, Rs.then_bad])⟩
                        | ok x40 j40 =>
                          obtain ⟨u, rfl, hu40, s40⟩ := o40.ok x40 j40 hy40
                          have HR40 : Hid (chooseP T i = .ok { { cc31 with order := x35 } with limit := (x40 : Nat) } j40) := by show _ = _; rw [HR39.out]; simp only [hy40, Rs.then_ok]
                          cases hu40
                          clear hy40 o40 k38 s38 g38 HR39 c38 m38
                          have q41a : w40.cell? ⟨cb, 25, none⟩ = some _ := (Lib.cell_of_heap c40 25).trans rfl
                          have q41b : w40.frozen? ⟨cb, 25, none⟩ = false := Lib.frozen_of_heap c40 25
                          have c41 : (w40.setCell ⟨cb, 25, none⟩ (.int .i64 (x40 : Int))).heap[cb]? = some (.cells (cmL { { cc31 with order := x35 } with limit := (x40 : Nat) } (.slice none 0 0) (.slice none 0 0) (.slice ao26 x26.length ca26) (.slice none 0 0) wa31).toArray 31) := heap_setCell_same _ _ _ _ 31 _ c40
                          have k41 := (heap_setCell_other w40 ⟨cb, 25, none⟩ rb (.int .i64 (x40 : Int)) (Nat.ne_of_lt hrc)).trans k40
                          have s41 := s40.put hfc 25 (.int .i64 (x40 : Int))
                          have g41 := grown_put g40 hcw 25 (.int .i64 (x40 : Int))
                          have m41 := CmIn.put (⟨m40.cols, m40.vals, m40.fields, m40.expr, m40.wh⟩ : CmIn (cb + 1) w40 { { cc31 with order := x35 } with limit := (x40 : Nat) } (.slice none 0 0) (.slice none 0 0) (.slice ao26 x26.length ca26) (.slice none 0 0) wa31) hcB 25 (.int .i64 (x40 : Int))
                          generalize hW41 : w40.setCell ⟨cb, 25, none⟩ (.int .i64 (x40 : Int)) = w41 at c41 k41 s41 g41 m41
                          clear c40 k40 s40 g40 m40
                          go_wp2_with (first | (refine wpList_load_whole 31 _ rfl rfl _ (cmL { { cc31 with order := x35 } with limit := (x40 : Nat) } (.slice none 0 0) (.slice none 0 0) (.slice ao26 x26.length ca26) (.slice none 0 0) wa31) 31 _ rfl (by exact c41) Tryz.underlying31 rfl Tryz.size31 ?_) | (refine wpList_store_whole 31 _ _ rfl rfl _ (cmL cm0 (.slice none 0 0) (.slice none 0 0) (.slice none 0 0) (.slice none 0 0) (.slice none 0 0)) (cmL { { cc31 with order := x35 } with limit := (x40 : Nat) } (.slice none 0 0) (.slice none 0 0) (.slice ao26 x26.length ca26) (.slice none 0 0) wa31) 31 rfl rfl (by exact k41) rfl Tryz.size31 (by exact m41.one) ?_; intro wz kz pz))
                          refine bodyPost_ret (v := .agg (cmL { { cc31 with order := x35 } with limit := (x40 : Nat) } (.slice none 0 0) (.slice none 0 0) (.slice ao26 x26.length ca26) (.slice none 0 0) wa31).toArray) (results_whole rfl _ _ _ _ 31 _ rfl kz Tryz.underlying31 rfl Tryz.size31) rfl (.mkOk (by rw [pz.out]; exact grown_putAll g41 hrw 0 _) HR40.out ⟨_, _, _, _, _, rfl, by rw [pz.out]; exact (m41.putAll hrB 0 _).weak hBw⟩ (by rw [pz.out]; exact s41.putAll hfr 0 _))
                      | false =>
                        have HR42 : Hid (chooseP T i = .ok { cc31 with order := x35 } j38) := by show _ = _; rw [HR38.out]; rfl
                        clear HR38
                        go_wp2_with (first | (refine wpList_load_whole 31 _ rfl rfl _ (cmL { cc31 with order := x35 } (.slice none 0 0) (.slice none 0 0) (.slice ao26 x26.length ca26) (.slice none 0 0) wa31) 31 _ rfl (by exact c38) Tryz.underlying31 rfl Tryz.size31 ?_) | (refine wpList_store_whole 31 _ _ rfl rfl _ (cmL cm0 (.slice none 0 0) (.slice none 0 0) (.slice none 0 0) (.slice none 0 0) (.slice none 0 0)) (cmL { cc31 with order := x35 } (.slice none 0 0) (.slice none 0 0) (.slice ao26 x26.length ca26) (.slice none 0 0) wa31) 31 rfl rfl (by exact k38) rfl Tryz.size31 (by exact m38.one) ?_; intro wz kz pz))
                        refine bodyPost_ret (v := .agg (cmL { cc31 with order := x35 } (.slice none 0 0) (.slice none 0 0) (.slice ao26 x26.length ca26) (.slice none 0 0) wa31).toArray) (results_whole rfl _ _ _ _ 31 _ rfl kz Tryz.underlying31 rfl Tryz.size31) rfl (.mkOk (by rw [pz.out]; exact grown_putAll g38 hrw 0 _) HR42.out ⟨_, _, _, _, _, rfl, by rw [pz.out]; exact (m38.putAll hrB 0 _).weak hBw⟩ (by rw [pz.out]; exact s38.putAll hfr 0 _))
                | false =>
                  have HR43 : Hid (chooseP T i = (may T w_limit [] j33).then fun b j => if b = true then (numberP T 0 j).then fun n j => .ok { cc31 with limit := (n : Nat) } j else .ok cc31 j) := by show _ = _; rw [HR33.out]; rfl
                  clear HR33
                  go_wp2_with fail
                  refine (may_one s33 w_limit (by decide)).mono ?_
                  intro e w44 o44
                  have g44 := grown_trans g33 o44.grown
                  have k44 := (o44.grown.block rb (ltS k33) (by simpa using hfr.1)).trans k33
                  have c44 := (o44.grown.block cb (ltS c33) (by simpa using hfc.1)).trans c33
                  have m44 := m33.grown hpB o44.grown
                  cases hy44 : may T w_limit [] j33 with
                  | bad j44 =>
                    obtain rfl := o44.bad j44 hy44
                    exact ⟨rfl, .mkBad g44 (by rw [HR43.out]; simp only [hy44, Rs.then_bad])⟩
                  | ok x44 j44 =>
                    obtain ⟨u, rfl, hu44, s44⟩ := o44.ok x44 j44 hy44
                    have HR44 : Hid (chooseP T i = if x44 = true then (numberP T 0 j44).then fun n j => .ok { cc31 with limit := (n : Nat) } j else .ok cc31 j44) := by show _ = _; rw [HR43.out]; simp only [hy44, Rs.then_ok]
                    cases hu44
                    clear hy44 o44 k33 s33 g33 HR43 c33 m33
                    cases x44 with
                    | true =>
                      have HR45 : Hid (chooseP T i = (numberP T 0 j44).then fun n j => .ok { cc31 with limit := (n : Nat) } j) := by show _ = _; rw [HR44.out]; rfl
                      clear HR44
                      go_wp2_with fail
                      refine (number_any s44 0).mono ?_
                      intro e w46 o46
                      have g46 := grown_trans g44 o46.grown
                      have k46 := (o46.grown.block rb (ltS k44) (by simpa using hfr.1)).trans k44
                      have c46 := (o46.grown.block cb (ltS c44) (by simpa using hfc.1)).trans c44
                      have m46 := m44.grown hpB o46.grown
                      cases hy46 : numberP T 0 j44 with
                      | bad j46 =>
                        obtain rfl := o46.bad j46 hy46
                        exact ⟨rfl, .mkBad g46 (by rw [HR45.out]; simp only [hy46, Rs.then_bad])⟩
                      | ok x46 j46 =>
                        obtain ⟨u, rfl, hu46, s46⟩ := o46.ok x46 j46 hy46
                        have HR46 : Hid (chooseP T i = .ok { cc31 with limit := (x46 : Nat) } j46) := by show _ = _; rw [HR45.out]; simp only [hy46, Rs.then_ok]
                        cases hu46
                        clear hy46 o46 k44 s44 g44 HR45 c44 m44
                        have q47a : w46.cell? ⟨cb, 25, none⟩ = some _ := (Lib.cell_of_heap c46 25).trans rfl
                        have q47b : w46.frozen? ⟨cb, 25, none⟩ = false := Lib.frozen_of_heap c46 25
                        have c47 : (w46.setCell ⟨cb, 25, none⟩ (.int .i64 (x46 : Int))).heap[cb]? = some (.cells (cmL { cc31 with limit := (x46 : Nat) } (.slice none 0 0) (.slice none 0 0) (.slice ao26 x26.length ca26) (.slice none 0 0) wa31).toArray 31) := heap_setCell_same _ _ _ _ 31 _ c46
                        have k47 := (heap_setCell_other w46 ⟨cb, 25, none⟩ rb (.int .i64 (x46 : Int)) (Nat.ne_of_lt hrc)).trans k46
                        have s47 := s46.put hfc 25 (.int .i64 (x46 : Int))
                        have g47 := grown_put g46 hcw 25 (.int .i64 (x46 : Int))
                        have m47 := CmIn.put (⟨m46.cols, m46.vals, m46.fields, m46.expr, m46.wh⟩ : CmIn (cb + 1) w46 { cc31 with limit := (x46 : Nat) } (.slice none 0 0) (.slice none 0 0) (.slice ao26 x26.length ca26) (.slice none 0 0) wa31) hcB 25 (.int .i64 (x46 : Int))
                        generalize hW47 : w46.setCell ⟨cb, 25, none⟩ (.int .i64 (x46 : Int)) = w47 at c47 k47 s47 g47 m47
                        clear c46 k46 s46 g46 m46
                        go_wp2_with (first | (refine wpList_load_whole 31 _ rfl rfl _ (cmL { cc31 with limit := (x46 : Nat) } (.slice none 0 0) (.slice none 0 0) (.slice ao26 x26.length ca26) (.slice none 0 0) wa31) 31 _ rfl (by exact c47) Tryz.underlying31 rfl Tryz.size31 ?_) | (refine wpList_store_whole 31 _ _ rfl rfl _ (cmL cm0 (.slice none 0 0) (.slice none 0 0) (.slice none 0 0) (.slice none 0 0) (.slice none 0 0)) (cmL { cc31 with limit := (x46 : Nat) } (.slice none 0 0) (.slice none 0 0) (.slice ao26 x26.length ca26) (.slice none 0 0) wa31) 31 rfl rfl (by exact k47) rfl Tryz.size31 (by exact m47.one) ?_; intro wz kz pz))
                        refine bodyPost_ret (v := .agg (cmL { cc31 with limit := (x46 : Nat) } (.slice none 0 0) (.slice none 0 0) (.slice ao26 x26.length ca26) (.slice none 0 0) wa31).toArray) (results_whole rfl _ _ _ _ 31 _ rfl kz Tryz.underlying31 rfl Tryz.size31) rfl (.mkOk (by rw [pz.out]; exact grown_putAll g47 hrw 0 _) HR46.out ⟨_, _, _, _, _, rfl, by rw [pz.out]; exact (m47.putAll hrB 0 _).weak hBw⟩ (by rw [pz.out]; exact s47.putAll hfr 0 _))
                    | false =>
                      have HR48 : Hid (chooseP T i = .ok cc31 j44) := by show _ = _; rw [HR44.out]; rfl
                      clear HR44
                      go_wp2_with (first | (refine wpList_load_whole 31 _ rfl rfl _ (cmL cc31 (.slice none 0 0) (.slice none 0 0) (.slice ao26 x26.length ca26) (.slice none 0 0) wa31) 31 _ rfl (by exact c44) Tryz.underlying31 rfl Tryz.size31 ?_) | (refine wpList_store_whole 31 _ _ rfl rfl _ (cmL cm0 (.slice none 0 0) (.slice none 0 0) (.slice none 0 0) (.slice none 0 0) (.slice none 0 0)) (cmL cc31 (.slice none 0 0) (.slice none 0 0) (.slice ao26 x26.length ca26) (.slice none 0 0) wa31) 31 rfl rfl (by exact k44) rfl Tryz.size31 (by exact m44.one) ?_; intro wz kz pz))
                      refine bodyPost_ret (v := .agg (cmL cc31 (.slice none 0 0) (.slice none 0 0) (.slice ao26 x26.length ca26) (.slice none 0 0) wa31).toArray) (results_whole rfl _ _ _ _ 31 _ rfl kz Tryz.underlying31 rfl Tryz.size31) rfl (.mkOk (by rw [pz.out]; exact grown_putAll g44 hrw 0 _) HR48.out ⟨_, _, _, _, _, rfl, by rw [pz.out]; exact (m44.putAll hrB 0 _).weak hBw⟩ (by rw [pz.out]; exact s44.putAll hfr 0 _))
theorem insert_any {w : World} {base pb : Nat} {v : Value} {T : List Tk} {en : Int} {i : Nat} (h : St w base pb v T en i) :
    Calls Tryz.prog 108 #[.pointer (some ⟨pb, 0, none⟩)] w fun e w' => Out w base pb v T en (repM w.heap.size) (insertP T i) e w' := by
  have hpl := h.heapLt
  have HR0 : Hid (insertP T i = (must T [w_into] i).then fun _ j => (nameP T j).then fun n j => (must T [w_values] j).then fun _ j => (inBrP T (valueP T) j).then fun l j => .ok { cm0 with kind := 10, name := n, vals := l } j) := by show _ = _; rw [insertP]
  go_enter Tryz.func108, Tryz.ntmps108
  go_wp2_with (refine wpList_alloc_blk 2 31 (cmL cm0 (.slice none 0 0) (.slice none 0 0) (.slice none 0 0) (.slice none 0 0) (.slice none 0 0)) rfl rfl rfl Tryz.alloc31 ?_; intro W0 rb hrb k0 b0)
  have hfr := h.fresh (Nat.le_of_eq hrb.out.symm)
  have hrw : w.heap.size ≤ rb := Nat.le_of_eq hrb.out.symm
  have s0 := h.below b0
  have g0 := grown_below b0 (some pb)
  clear b0
  refine (must_new s0 [w_into] 1 _ (by first | rfl | simp) _ (by rfl) (by rfl) (by decide) (by decide)).mono ?_
  intro e w1 o1
  have g1 := grown_trans g0 o1.grown
  have k1 := (o1.grown.block rb (ltS k0) (by simpa using hfr.1)).trans k0
  cases hy1 : must T [w_into] i with
  | bad j1 =>
    obtain rfl := o1.bad j1 hy1
    exact ⟨rfl, .mkBad g1 (by rw [HR0.out]; simp only [hy1, Rs.then_bad])⟩
  | ok x1 j1 =>
    obtain ⟨u, rfl, hu1, s1⟩ := o1.ok x1 j1 hy1
    have HR1 : Hid (insertP T i = (nameP T j1).then fun n j => (must T [w_values] j).then fun _ j => (inBrP T (valueP T) j).then fun l j => .ok { cm0 with kind := 10, name := n, vals := l } j) := by show _ = _; rw [HR0.out]; simp only [hy1, Rs.then_ok]
    clear hy1 o1 k0 s0 g0 HR0 hu1
    go_wp2_with fail
    refine (name_any s1).mono ?_
    intro e w2 o2
    have g2 := grown_trans g1 o2.grown
    have k2 := (o2.grown.block rb (ltS k1) (by simpa using hfr.1)).trans k1
    cases hy2 : nameP T j1 with
    | bad j2 =>
      obtain rfl := o2.bad j2 hy2
      exact ⟨rfl, .mkBad g2 (by rw [HR1.out]; simp only [hy2, Rs.then_bad])⟩
    | ok x2 j2 =>
      obtain ⟨u, rfl, hu2, s2⟩ := o2.ok x2 j2 hy2
      have HR2 : Hid (insertP T i = (must T [w_values] j2).then fun _ j => (inBrP T (valueP T) j).then fun l j => .ok { cm0 with kind := 10, name := x2, vals := l } j) := by show _ = _; rw [HR1.out]; simp only [hy2, Rs.then_ok]
      cases hu2
      clear hy2 o2 k1 s1 g1 HR1
      go_wp2_with (first | (refine wpList_alloc_blk 3 31 (cmL cm0 (.slice none 0 0) (.slice none 0 0) (.slice none 0 0) (.slice none 0 0) (.slice none 0 0)) rfl rfl rfl Tryz.alloc31 ?_; intro wA cb hcb cA bA) | (refine wpList_store_whole 31 _ _ rfl rfl _ (cmL cm0 (.slice none 0 0) (.slice none 0 0) (.slice none 0 0) (.slice none 0 0) (.slice none 0 0)) (cmL { cm0 with kind := 10, name := x2 } (.slice none 0 0) (.slice none 0 0) (.slice none 0 0) (.slice none 0 0) (.slice none 0 0)) 31 rfl rfl (by exact cA) rfl Tryz.size31 (by exact CmIn.one (cmIn0 0 w { cm0 with kind := 10, name := x2 } rfl rfl rfl rfl rfl)) ?_; intro w3 c3 p3))
      have hrc : rb < cb := by have := (ltS k2); have := hcb.out; omega
      have hcw : w.heap.size ≤ cb := by omega
      have hfc := h.fresh hcw
      have hpB : pb < cb + 1 := by omega
      have hcB : cb < cb + 1 := by omega
      have hrB : rb < cb + 1 := by omega
      have hBw : w.heap.size ≤ cb + 1 := by omega
      have s3 : St w3 base pb v T en j2 := by rw [p3.out]; exact (s2.below bA).putAll hfc 0 _
      have g3 : w.grownBy w3 (some pb) := by rw [p3.out]; exact grown_putAll (grown_trans g2 (grown_below bA _)) hcw 0 _
      have k3 : w3.heap[rb]? = some (.cells (cmL cm0 (.slice none 0 0) (.slice none 0 0) (.slice none 0 0) (.slice none 0 0) (.slice none 0 0)).toArray 31) := by rw [p3.out]; exact (putAll_other _ _ _ _ _ (Nat.ne_of_lt hrc)).trans ((bA.block rb (ltS k2)).trans k2)
      have m3 : CmIn (cb + 1) w3 { cm0 with kind := 10, name := x2 } (.slice none 0 0) (.slice none 0 0) (.slice none 0 0) (.slice none 0 0) (.slice none 0 0) := cmIn0 _ _ _ rfl rfl rfl rfl rfl
      clear cA bA p3 hcb k2 s2 g2
      refine (must_new s3 [w_values] 1 _ (by first | rfl | simp) _ (by rfl) (by rfl) (by decide) (by decide)).mono ?_
      intro e w4 o4
      have g4 := grown_trans g3 o4.grown
      have k4 := (o4.grown.block rb (ltS k3) (by simpa using hfr.1)).trans k3
      have c4 := (o4.grown.block cb (ltS c3) (by simpa using hfc.1)).trans c3
      have m4 := m3.grown hpB o4.grown
      cases hy4 : must T [w_values] j2 with
      | bad j4 =>
        obtain rfl := o4.bad j4 hy4
        exact ⟨rfl, .mkBad g4 (by rw [HR2.out]; simp only [hy4, Rs.then_bad])⟩
      | ok x4 j4 =>
        obtain ⟨u, rfl, hu4, s4⟩ := o4.ok x4 j4 hy4
        have HR4 : Hid (insertP T i = (inBrP T (valueP T) j4).then fun l j => .ok { cm0 with kind := 10, name := x2, vals := l } j) := by show _ = _; rw [HR2.out]; simp only [hy4, Rs.then_ok]
        clear hy4 o4 k3 s3 g3 HR2 c3 m3 hu4
        go_wp2_with fail
        refine (inBr_val s4).mono ?_
        intro e w5 o5
        have g5 := grown_trans g4 o5.grown
        have k5 := (o5.grown.block rb (ltS k4) (by simpa using hfr.1)).trans k4
        have c5 := (o5.grown.block cb (ltS c4) (by simpa using hfc.1)).trans c4
        have m5 := m4.grown hpB o5.grown
        cases hy5 : inBrP T (valueP T) j4 with
        | bad j5 =>
          obtain rfl := o5.bad j5 hy5
          exact ⟨rfl, .mkBad g5 (by rw [HR4.out]; simp only [hy5, Rs.then_bad])⟩
        | ok x5 j5 =>
          obtain ⟨u, rfl, hu5, s5⟩ := o5.ok x5 j5 hy5
          have HR5 : Hid (insertP T i = .ok { cm0 with kind := 10, name := x2, vals := x5 } j5) := by show _ = _; rw [HR4.out]; simp only [hy5, Rs.then_ok]
          have hz5 : cb + 1 ≤ w4.heap.size := by have := (ltS c4); omega
          obtain ⟨ao5, ca5, rfl⟩ := RowAt.form hu5
          clear hy5 o5 k4 s4 g4 HR4 c4 m4
          have q6a : w5.cell? ⟨cb, 9, none⟩ = some _ := (Lib.cell_of_heap c5 9).trans rfl
          have q6b : w5.frozen? ⟨cb, 9, none⟩ = false := Lib.frozen_of_heap c5 9
          have c6 : (w5.setCell ⟨cb, 9, none⟩ (.slice ao5 x5.length ca5)).heap[cb]? = some (.cells (cmL { cm0 with kind := 10, name := x2, vals := x5 } (.slice none 0 0) (.slice ao5 x5.length ca5) (.slice none 0 0) (.slice none 0 0) (.slice none 0 0)).toArray 31) := heap_setCell_same _ _ _ _ 31 _ c5
          have k6 := (heap_setCell_other w5 ⟨cb, 9, none⟩ rb (.slice ao5 x5.length ca5) (Nat.ne_of_lt hrc)).trans k5
          have s6 := s5.put hfc 9 (.slice ao5 x5.length ca5)
          have g6 := grown_put g5 hcw 9 (.slice ao5 x5.length ca5)
          have m6 := CmIn.put (⟨m5.cols, RowAt.weak hu5 hz5, m5.fields, m5.expr, m5.wh⟩ : CmIn (cb + 1) w5 { cm0 with kind := 10, name := x2, vals := x5 } (.slice none 0 0) (.slice ao5 x5.length ca5) (.slice none 0 0) (.slice none 0 0) (.slice none 0 0)) hcB 9 (.slice ao5 x5.length ca5)
          generalize hW6 : w5.setCell ⟨cb, 9, none⟩ (.slice ao5 x5.length ca5) = w6 at c6 k6 s6 g6 m6
          clear c5 k5 s5 g5 m5
          go_wp2_with (first | (refine wpList_load_whole 31 _ rfl rfl _ (cmL { cm0 with kind := 10, name := x2, vals := x5 } (.slice none 0 0) (.slice ao5 x5.length ca5) (.slice none 0 0) (.slice none 0 0) (.slice none 0 0)) 31 _ rfl (by exact c6) Tryz.underlying31 rfl Tryz.size31 ?_) | (refine wpList_store_whole 31 _ _ rfl rfl _ (cmL cm0 (.slice none 0 0) (.slice none 0 0) (.slice none 0 0) (.slice none 0 0) (.slice none 0 0)) (cmL { cm0 with kind := 10, name := x2, vals := x5 } (.slice none 0 0) (.slice ao5 x5.length ca5) (.slice none 0 0) (.slice none 0 0) (.slice none 0 0)) 31 rfl rfl (by exact k6) rfl Tryz.size31 (by exact m6.one) ?_; intro wz kz pz))
          refine bodyPost_ret (v := .agg (cmL { cm0 with kind := 10, name := x2, vals := x5 } (.slice none 0 0) (.slice ao5 x5.length ca5) (.slice none 0 0) (.slice none 0 0) (.slice none 0 0)).toArray) (results_whole rfl _ _ _ _ 31 _ rfl kz Tryz.underlying31 rfl Tryz.size31) rfl (.mkOk (by rw [pz.out]; exact grown_putAll g6 hrw 0 _) HR5.out ⟨_, _, _, _, _, rfl, by rw [pz.out]; exact (m6.putAll hrB 0 _).weak hBw⟩ (by rw [pz.out]; exact s6.putAll hfr 0 _))
theorem command_any {w : World} {base pb : Nat} {v : Value} {T : List Tk} {en : Int} {i : Nat} (h : St w base pb v T en i) :
    Calls Tryz.prog 56 #[.pointer (some ⟨pb, 0, none⟩)] w fun e w' => Out w base pb v T en (repM w.heap.size) (commandP T i) e w' := by
  have hpl := h.heapLt
  have HR0 : Hid (commandP T i = (oneOf T [w_create, w_drop, w_alter, w_insert, w_delete, w_update, w_select, w_begin, w_commit, w_rollback] i).then fun s j => if s = w_create then createP T j else if s = w_drop then dropP T j else if s = w_alter then alterP T j else if s = w_insert then insertP T j else if s = w_delete then deleteP T j else if s = w_update then updateP T j else if s = w_select then chooseP T j else if s = w_begin then .ok { cm0 with kind := 14 } j else if s = w_commit then .ok { cm0 with kind := 15 } j else .ok { cm0 with kind := 16 } j) := by show _ = _; rw [commandP, firstW]
  go_enter Tryz.func56, Tryz.ntmps56
  go_wp2_with (refine wpList_alloc_blk 2 31 (cmL cm0 (.slice none 0 0) (.slice none 0 0) (.slice none 0 0) (.slice none 0 0) (.slice none 0 0)) rfl rfl rfl Tryz.alloc31 ?_; intro W0 rb hrb k0 b0)
  have hfr := h.fresh (Nat.le_of_eq hrb.out.symm)
  have hrw : w.heap.size ≤ rb := Nat.le_of_eq hrb.out.symm
  have s0 := h.below b0
  have g0 := grown_below b0 (some pb)
  clear b0
  refine (oneOf_new s0 [w_create, w_drop, w_alter, w_insert, w_delete, w_update, w_select, w_begin, w_commit, w_rollback] 10 _ (by first | rfl | simp) _ (by rfl) (by rfl) (by decide) (by decide)).mono ?_
  intro e w1 o1
  have g1 := grown_trans g0 o1.grown
  have k1 := (o1.grown.block rb (ltS k0) (by simpa using hfr.1)).trans k0
  cases hy1 : oneOf T [w_create, w_drop, w_alter, w_insert, w_delete, w_update, w_select, w_begin, w_commit, w_rollback] i with
  | bad j1 =>
    obtain rfl := o1.bad j1 hy1
    exact ⟨rfl, .mkBad g1 (by rw [HR0.out]; simp only [hy1, Rs.then_bad])⟩
  | ok x1 j1 =>
    obtain ⟨u, rfl, hu1, s1⟩ := o1.ok x1 j1 hy1
    have HR1 : Hid (commandP T i = if x1 = w_create then createP T j1 else if x1 = w_drop then dropP T j1 else if x1 = w_alter then alterP T j1 else if x1 = w_insert then insertP T j1 else if x1 = w_delete then deleteP T j1 else if x1 = w_update then updateP T j1 else if x1 = w_select then chooseP T j1 else if x1 = w_begin then .ok { cm0 with kind := 14 } j1 else if x1 = w_commit then .ok { cm0 with kind := 15 } j1 else .ok { cm0 with kind := 16 } j1) := by show _ = _; rw [HR0.out]; simp only [hy1, Rs.then_ok]
    cases hu1
    have hm1 := oneOf_mem _ _ _ _ _ hy1
    simp only [List.mem_cons, List.not_mem_nil, or_false] at hm1
    clear hy1 o1 k0 s0 g0 HR0
    rcases hm1 with rfl | rfl | rfl | rfl | rfl | rfl | rfl | rfl | rfl | rfl
    · skip
      have HR2 : Hid (commandP T i = createP T j1) := by show _ = _; rw [HR1.out, if_pos rfl]
      clear HR1
      go_wp2_with fail
      have hB3 : rb < w1.heap.size := (ltS k1)
      have hw3 : w.heap.size ≤ w1.heap.size := g1.size
      refine (create_any s1).mono ?_
      intro e w3 o3
      have g3 := grown_trans g1 o3.grown
      have k3 := (o3.grown.block rb (ltS k1) (by simpa using hfr.1)).trans k1
      cases hy3 : createP T j1 with
      | bad j3 =>
        obtain rfl := o3.bad j3 hy3
        exact ⟨rfl, .mkBad g3 (by rw [HR2.out, hy3])⟩
      | ok x3 j3 =>
        obtain ⟨u, rfl, ⟨cv, vv, fv, ea, wa, rfl, mi⟩, s3⟩ := o3.ok x3 j3 hy3
        have HR3 : Hid (commandP T i = .ok x3 j3) := by show _ = _; rw [HR2.out, hy3]
        clear hy3 o3 k1 g1 HR2 s1
        go_wp2_with (refine wpList_store_whole 31 _ _ rfl rfl _ (cmL cm0 (.slice none 0 0) (.slice none 0 0) (.slice none 0 0) (.slice none 0 0) (.slice none 0 0)) (cmL x3 cv vv fv ea wa) 31 rfl rfl (by exact k3) rfl Tryz.size31 (by exact mi.one) ?_; intro wz kz pz)
        refine bodyPost_ret (v := .agg (cmL x3 cv vv fv ea wa).toArray) (results_whole rfl _ _ _ _ 31 _ rfl kz Tryz.underlying31 rfl Tryz.size31) rfl (.mkOk (by rw [pz.out]; exact grown_putAll g3 hrw 0 _) HR3.out ⟨_, _, _, _, _, rfl, by rw [pz.out]; exact (mi.putAll hB3 0 _).weak hw3⟩ (by rw [pz.out]; exact s3.putAll hfr 0 _))
    · skip
      have HR4 : Hid (commandP T i = dropP T j1) := by show _ = _; rw [HR1.out, if_neg (by decide), if_pos rfl]
      clear HR1
      go_wp2_with fail
      have hB5 : rb < w1.heap.size := (ltS k1)
      have hw5 : w.heap.size ≤ w1.heap.size := g1.size
      refine (drop_any s1).mono ?_
      intro e w5 o5
      have g5 := grown_trans g1 o5.grown
      have k5 := (o5.grown.block rb (ltS k1) (by simpa using hfr.1)).trans k1
      cases hy5 : dropP T j1 with
      | bad j5 =>
        obtain rfl := o5.bad j5 hy5
        exact ⟨rfl, .mkBad g5 (by rw [HR4.out, hy5])⟩
      | ok x5 j5 =>
        obtain ⟨u, rfl, ⟨cv, vv, fv, ea, wa, rfl, mi⟩, s5⟩ := o5.ok x5 j5 hy5
        have HR5 : Hid (commandP T i = .ok x5 j5) := by show _ = _; rw [HR4.out, hy5]
        clear hy5 o5 k1 g1 HR4 s1
        go_wp2_with (refine wpList_store_whole 31 _ _ rfl rfl _ (cmL cm0 (.slice none 0 0) (.slice none 0 0) (.slice none 0 0) (.slice none 0 0) (.slice none 0 0)) (cmL x5 cv vv fv ea wa) 31 rfl rfl (by exact k5) rfl Tryz.size31 (by exact mi.one) ?_; intro wz kz pz)
        refine bodyPost_ret (v := .agg (cmL x5 cv vv fv ea wa).toArray) (results_whole rfl _ _ _ _ 31 _ rfl kz Tryz.underlying31 rfl Tryz.size31) rfl (.mkOk (by rw [pz.out]; exact grown_putAll g5 hrw 0 _) HR5.out ⟨_, _, _, _, _, rfl, by rw [pz.out]; exact (mi.putAll hB5 0 _).weak hw5⟩ (by rw [pz.out]; exact s5.putAll hfr 0 _))
    · skip
      have HR6 : Hid (commandP T i = alterP T j1) := by show _ = _; rw [HR1.out, if_neg (by decide), if_neg (by decide), if_pos rfl]
      clear HR1
      go_wp2_with fail
      have hB7 : rb < w1.heap.size := (ltS k1)
      have hw7 : w.heap.size ≤ w1.heap.size := g1.size
      refine (alter_any s1).mono ?_
      intro e w7 o7
      have g7 := grown_trans g1 o7.grown
      have k7 := (o7.grown.block rb (ltS k1) (by simpa using hfr.1)).trans k1
      cases hy7 : alterP T j1 with
      | bad j7 =>
        obtain rfl := o7.bad j7 hy7
        exact ⟨rfl, .mkBad g7 (by rw [HR6.out, hy7])⟩
      | ok x7 j7 =>
        obtain ⟨u, rfl, ⟨cv, vv, fv, ea, wa, rfl, mi⟩, s7⟩ := o7.ok x7 j7 hy7
        have HR7 : Hid (commandP T i = .ok x7 j7) := by show _ = _; rw [HR6.out, hy7]
        clear hy7 o7 k1 g1 HR6 s1
        go_wp2_with (refine wpList_store_whole 31 _ _ rfl rfl _ (cmL cm0 (.slice none 0 0) (.slice none 0 0) (.slice none 0 0) (.slice none 0 0) (.slice none 0 0)) (cmL x7 cv vv fv ea wa) 31 rfl rfl (by exact k7) rfl Tryz.size31 (by exact mi.one) ?_; intro wz kz pz)
        refine bodyPost_ret (v := .agg (cmL x7 cv vv fv ea wa).toArray) (results_whole rfl _ _ _ _ 31 _ rfl kz Tryz.underlying31 rfl Tryz.size31) rfl (.mkOk (by rw [pz.out]; exact grown_putAll g7 hrw 0 _) HR7.out ⟨_, _, _, _, _, rfl, by rw [pz.out]; exact (mi.putAll hB7 0 _).weak hw7⟩ (by rw [pz.out]; exact s7.putAll hfr 0 _))
    · skip
      have HR8 : Hid (commandP T i = insertP T j1) := by show _ = _; rw [HR1.out, if_neg (by decide), if_neg (by decide), if_neg (by decide), if_pos rfl]
      clear HR1
      go_wp2_with fail
      have hB9 : rb < w1.heap.size := (ltS k1)
      have hw9 : w.heap.size ≤ w1.heap.size := g1.size
      refine (insert_any s1).mono ?_
      intro e w9 o9
      have g9 := grown_trans g1 o9.grown
      have k9 := (o9.grown.block rb (ltS k1) (by simpa using hfr.1)).trans k1
      cases hy9 : insertP T j1 with
      | bad j9 =>
        obtain rfl := o9.bad j9 hy9
        exact ⟨rfl, .mkBad g9 (by rw [HR8.out, hy9])⟩
      | ok x9 j9 =>
        obtain ⟨u, rfl, ⟨cv, vv, fv, ea, wa, rfl, mi⟩, s9⟩ := o9.ok x9 j9 hy9
        have HR9 : Hid (commandP T i = .ok x9 j9) := by show _ = _; rw [HR8.out, hy9]
        clear hy9 o9 k1 g1 HR8 s1
        go_wp2_with (refine wpList_store_whole 31 _ _ rfl rfl _ (cmL cm0 (.slice none 0 0) (.slice none 0 0) (.slice none 0 0) (.slice none 0 0) (.slice none 0 0)) (cmL x9 cv vv fv ea wa) 31 rfl rfl (by exact k9) rfl Tryz.size31 (by exact mi.one) ?_; intro wz kz pz)
        refine bodyPost_ret (v := .agg (cmL x9 cv vv fv ea wa).toArray) (results_whole rfl _ _ _ _ 31 _ rfl kz Tryz.underlying31 rfl Tryz.size31) rfl (.mkOk (by rw [pz.out]; exact grown_putAll g9 hrw 0 _) HR9.out ⟨_, _, _, _, _, rfl, by rw [pz.out]; exact (mi.putAll hB9 0 _).weak hw9⟩ (by rw [pz.out]; exact s9.putAll hfr 0 _))
    · skip
      have HR10 : Hid (commandP T i = deleteP T j1) := by show _ = _; rw [HR1.out, if_neg (by decide), if_neg (by decide), if_neg (by decide), if_neg (by decide), if_pos rfl]
      clear HR1
      go_wp2_with fail
      have hB11 : rb < w1.heap.size := (ltS k1)
      have hw11 : w.heap.size ≤ w1.heap.size := g1.size
      refine (delete_any s1).mono ?_
      intro e w11 o11
      have g11 := grown_trans g1 o11.grown
      have k11 := (o11.grown.block rb (ltS k1) (by simpa using hfr.1)).trans k1
      cases hy11 : deleteP T j1 with
      | bad j11 =>
        obtain rfl := o11.bad j11 hy11
        exact ⟨rfl, .mkBad g11 (by rw [HR10.out, hy11])⟩
      | ok x11 j11 =>
        obtain ⟨u, rfl, ⟨cv, vv, fv, ea, wa, rfl, mi⟩, s11⟩ := o11.ok x11 j11 hy11
        have HR11 : Hid (commandP T i = .ok x11 j11) := by show _ = _; rw [HR10.out, hy11]
        clear hy11 o11 k1 g1 HR10 s1
        go_wp2_with (refine wpList_store_whole 31 _ _ rfl rfl _ (cmL cm0 (.slice none 0 0) (.slice none 0 0) (.slice none 0 0) (.slice none 0 0) (.slice none 0 0)) (cmL x11 cv vv fv ea wa) 31 rfl rfl (by exact k11) rfl Tryz.size31 (by exact mi.one) ?_; intro wz kz pz)
        refine bodyPost_ret (v := .agg (cmL x11 cv vv fv ea wa).toArray) (results_whole rfl _ _ _ _ 31 _ rfl kz Tryz.underlying31 rfl Tryz.size31) rfl (.mkOk (by rw [pz.out]; exact grown_putAll g11 hrw 0 _) HR11.out ⟨_, _, _, _, _, rfl, by rw [pz.out]; exact (mi.putAll hB11 0 _).weak hw11⟩ (by rw [pz.out]; exact s11.putAll hfr 0 _))
    · skip
      have HR12 : Hid (commandP T i = updateP T j1) := by show _ = _; rw [HR1.out, if_neg (by decide), if_neg (by decide), if_neg (by decide), if_neg (by decide), if_neg (by decide), if_pos rfl]
      clear HR1
      go_wp2_with fail
      have hB13 : rb < w1.heap.size := (ltS k1)
      have hw13 : w.heap.size ≤ w1.heap.size := g1.size
      refine (update_any s1).mono ?_
      intro e w13 o13
      have g13 := grown_trans g1 o13.grown
      have k13 := (o13.grown.block rb (ltS k1) (by simpa using hfr.1)).trans k1
      cases hy13 : updateP T j1 with
      | bad j13 =>
        obtain rfl := o13.bad j13 hy13
        exact ⟨rfl, .mkBad g13 (by rw [HR12.out, hy13])⟩
      | ok x13 j13 =>
        obtain ⟨u, rfl, ⟨cv, vv, fv, ea, wa, rfl, mi⟩, s13⟩ := o13.ok x13 j13 hy13
        have HR13 : Hid (commandP T i = .ok x13 j13) := by show _ = _; rw [HR12.out, hy13]
        clear hy13 o13 k1 g1 HR12 s1
        go_wp2_with (refine wpList_store_whole 31 _ _ rfl rfl _ (cmL cm0 (.slice none 0 0) (.slice none 0 0) (.slice none 0 0) (.slice none 0 0) (.slice none 0 0)) (cmL x13 cv vv fv ea wa) 31 rfl rfl (by exact k13) rfl Tryz.size31 (by exact mi.one) ?_; intro wz kz pz)
        refine bodyPost_ret (v := .agg (cmL x13 cv vv fv ea wa).toArray) (results_whole rfl _ _ _ _ 31 _ rfl kz Tryz.underlying31 rfl Tryz.size31) rfl (.mkOk (by rw [pz.out]; exact grown_putAll g13 hrw 0 _) HR13.out ⟨_, _, _, _, _, rfl, by rw [pz.out]; exact (mi.putAll hB13 0 _).weak hw13⟩ (by rw [pz.out]; exact s13.putAll hfr 0 _))
    · skip
      have HR14 : Hid (commandP T i = chooseP T j1) := by show _ = _; rw [HR1.out, if_neg (by decide), if_neg (by decide), if_neg (by decide), if_neg (by decide), if_neg (by decide), if_neg (by decide), if_pos rfl]
      clear HR1
      go_wp2_with fail
      have hB15 : rb < w1.heap.size := (ltS k1)
      have hw15 : w.heap.size ≤ w1.heap.size := g1.size
      refine (choose_any s1).mono ?_
      intro e w15 o15
      have g15 := grown_trans g1 o15.grown
      have k15 := (o15.grown.block rb (ltS k1) (by simpa using hfr.1)).trans k1
      cases hy15 : chooseP T j1 with
      | bad j15 =>
        obtain rfl := o15.bad j15 hy15
        exact ⟨rfl, .mkBad g15 (by rw [HR14.out, hy15])⟩
      | ok x15 j15 =>
        obtain ⟨u, rfl, ⟨cv, vv, fv, ea, wa, rfl, mi⟩, s15⟩ := o15.ok x15 j15 hy15
        have HR15 : Hid (commandP T i = .ok x15 j15) := by show _ = _; rw [HR14.out, hy15]
        clear hy15 o15 k1 g1 HR14 s1
        go_wp2_with (refine wpList_store_whole 31 _ _ rfl rfl _ (cmL cm0 (.slice none 0 0) (.slice none 0 0) (.slice none 0 0) (.slice none 0 0) (.slice none 0 0)) (cmL x15 cv vv fv ea wa) 31 rfl rfl (by exact k15) rfl Tryz.size31 (by exact mi.one) ?_; intro wz kz pz)
        refine bodyPost_ret (v := .agg (cmL x15 cv vv fv ea wa).toArray) (results_whole rfl _ _ _ _ 31 _ rfl kz Tryz.underlying31 rfl Tryz.size31) rfl (.mkOk (by rw [pz.out]; exact grown_putAll g15 hrw 0 _) HR15.out ⟨_, _, _, _, _, rfl, by rw [pz.out]; exact (mi.putAll hB15 0 _).weak hw15⟩ (by rw [pz.out]; exact s15.putAll hfr 0 _))
    · skip
      have HR16 : Hid (commandP T i = .ok { cm0 with kind := 14 } j1) := by show _ = _; rw [HR1.out, if_neg (by decide), if_neg (by decide), if_neg (by decide), if_neg (by decide), if_neg (by decide), if_neg (by decide), if_neg (by decide), if_pos rfl]
      clear HR1
      go_wp2_with (refine wpList_store_whole 31 _ _ rfl rfl _ (cmL cm0 (.slice none 0 0) (.slice none 0 0) (.slice none 0 0) (.slice none 0 0) (.slice none 0 0)) (cmL { cm0 with kind := 14 } (.slice none 0 0) (.slice none 0 0) (.slice none 0 0) (.slice none 0 0) (.slice none 0 0)) 31 rfl rfl (by exact k1) rfl Tryz.size31 (by exact CmIn.one (cmIn0 0 w { cm0 with kind := 14 } rfl rfl rfl rfl rfl)) ?_; intro wz kz pz)
      refine bodyPost_ret (v := .agg (cmL { cm0 with kind := 14 } (.slice none 0 0) (.slice none 0 0) (.slice none 0 0) (.slice none 0 0) (.slice none 0 0)).toArray) (results_whole rfl _ _ _ _ 31 _ rfl kz Tryz.underlying31 rfl Tryz.size31) rfl (.mkOk (by rw [pz.out]; exact grown_putAll g1 hrw 0 _) HR16.out ⟨_, _, _, _, _, rfl, cmIn0 _ _ _ rfl rfl rfl rfl rfl⟩ (by rw [pz.out]; exact s1.putAll hfr 0 _))
    · skip
      have HR17 : Hid (commandP T i = .ok { cm0 with kind := 15 } j1) := by show _ = _; rw [HR1.out, if_neg (by decide), if_neg (by decide), if_neg (by decide), if_neg (by decide), if_neg (by decide), if_neg (by decide), if_neg (by decide), if_neg (by decide), if_pos rfl]
      clear HR1
      go_wp2_with (refine wpList_store_whole 31 _ _ rfl rfl _ (cmL cm0 (.slice none 0 0) (.slice none 0 0) (.slice none 0 0) (.slice none 0 0) (.slice none 0 0)) (cmL { cm0 with kind := 15 } (.slice none 0 0) (.slice none 0 0) (.slice none 0 0) (.slice none 0 0) (.slice none 0 0)) 31 rfl rfl (by exact k1) rfl Tryz.size31 (by exact CmIn.one (cmIn0 0 w { cm0 with kind := 15 } rfl rfl rfl rfl rfl)) ?_; intro wz kz pz)
      refine bodyPost_ret (v := .agg (cmL { cm0 with kind := 15 } (.slice none 0 0) (.slice none 0 0) (.slice none 0 0) (.slice none 0 0) (.slice none 0 0)).toArray) (results_whole rfl _ _ _ _ 31 _ rfl kz Tryz.underlying31 rfl Tryz.size31) rfl (.mkOk (by rw [pz.out]; exact grown_putAll g1 hrw 0 _) HR17.out ⟨_, _, _, _, _, rfl, cmIn0 _ _ _ rfl rfl rfl rfl rfl⟩ (by rw [pz.out]; exact s1.putAll hfr 0 _))
    · skip
      have HR18 : Hid (commandP T i = .ok { cm0 with kind := 16 } j1) := by show _ = _; rw [HR1.out, if_neg (by decide), if_neg (by decide), if_neg (by decide), if_neg (by decide), if_neg (by decide), if_neg (by decide), if_neg (by decide), if_neg (by decide), if_neg (by decide)]
      clear HR1
      go_wp2_with (refine wpList_store_whole 31 _ _ rfl rfl _ (cmL cm0 (.slice none 0 0) (.slice none 0 0) (.slice none 0 0) (.slice none 0 0) (.slice none 0 0)) (cmL { cm0 with kind := 16 } (.slice none 0 0) (.slice none 0 0) (.slice none 0 0) (.slice none 0 0) (.slice none 0 0)) 31 rfl rfl (by exact k1) rfl Tryz.size31 (by exact CmIn.one (cmIn0 0 w { cm0 with kind := 16 } rfl rfl rfl rfl rfl)) ?_; intro wz kz pz)
      refine bodyPost_ret (v := .agg (cmL { cm0 with kind := 16 } (.slice none 0 0) (.slice none 0 0) (.slice none 0 0) (.slice none 0 0) (.slice none 0 0)).toArray) (results_whole rfl _ _ _ _ 31 _ rfl kz Tryz.underlying31 rfl Tryz.size31) rfl (.mkOk (by rw [pz.out]; exact grown_putAll g1 hrw 0 _) HR18.out ⟨_, _, _, _, _, rfl, cmIn0 _ _ _ rfl rfl rfl rfl rfl⟩ (by rw [pz.out]; exact s1.putAll hfr 0 _))
abbrev cmZ : List Value := cmL cm0 (.slice none 0 0) (.slice none 0 0) (.slice none 0 0) (.slice none 0 0) (.slice none 0 0)
theorem ta90 (at_ : Int) (w : World) : (Instr.typeAssert (.iface 90 (.int .i64 at_)) 20 90 true).run Tryz.prog w = .ok (.tuple #[.int .i64 at_, .bool true]) w := by kernel_rfl
theorem ta90n (w : World) : (Instr.typeAssert .nilIface 20 90 true).run Tryz.prog w = .ok (.tuple #[.int .i64 0, .bool false]) w := by kernel_rfl
theorem catch_panicking (rb ab eb : Nat) (cs' : List Value) (at_ x y : Int) (older : List PanicEntry) (w : World) (hl : cs'.length = 26) (hr : w.heap[rb]? = some (.cells cs'.toArray 31)) (ha : w.heap[ab]? = some (.cells #[.int .i64 x] 3)) (he : w.heap[eb]? = some (.cells #[.int .i64 y] 32)) (h1 : rb ≠ ab) (h2 : rb ≠ eb) (h3 : ab ≠ eb) :
    CallsD Tryz.prog 55 #[.pointer (some ⟨rb, 0, none⟩), .pointer (some ⟨ab, 0, none⟩), .pointer (some ⟨eb, 0, none⟩)] (.panicking ({ v := .iface 90 (.int .i64 at_), recovered := false } :: older)) w fun e u' w' =>
      e = .returned (.tuple #[]) ∧ u' = .panicking ({ v := .iface 90 (.int .i64 at_), recovered := true } :: older) ∧ w' = ((putAll w rb 0 cmZ).setCell ⟨ab, 0, none⟩ (.int .i64 at_)).setCell ⟨eb, 0, none⟩ (.int .i64 1) := by
  refine callsD_of_wpS Tryz.func55 rfl fun c₀ cs hu => ?_
  apply wpS_seq
  apply wpS_region
  simp [wpOpsS, go_sem, recoverD, hu, Tryz.ntmps55, Exit.thenS, ta90, show Array.replicate 10 undef = #[undef, undef, undef, undef, undef, undef, undef, undef, undef, undef] from rfl]
  refine wpS_of_wp ?_
  have hal : (putAll w rb 0 cmZ).heap[ab]? = some (.cells #[.int .i64 x] 3) := (putAll_other rb cmZ w 0 ab (Ne.symm h1)).trans ha
  have hel : (putAll w rb 0 cmZ).heap[eb]? = some (.cells #[.int .i64 y] 32) := (putAll_other rb cmZ w 0 eb (Ne.symm h2)).trans he
  have q1 := (Lib.cell_of_heap hal 0).trans (show _ = some (Value.int .i64 x) from rfl)
  have q2 := Lib.frozen_of_heap hal 0
  have q3 := (Lib.cell_of_heap hel 0).trans (show _ = some (Value.int .i64 y) from rfl)
  have q4 := Lib.frozen_of_heap hel 0
  generalize hW : putAll w rb 0 cmZ = wp at q1 q2 q3 q4 ⊢
  clear hal hel
  go_wp2_with (refine wpList_store_whole 31 _ _ rfl rfl _ cs' cmZ 31 rfl rfl (by exact hr) (by exact hl) Tryz.size31 (by exact CmIn.one (cmIn0 0 w cm0 rfl rfl rfl rfl rfl)) ?_; intro wz kz pz; rw [pz.out.trans hW])
  simp [bodyPostS, results, Tryz.results55]
theorem catch_idle (rb ab eb : Nat) (w : World) :
    CallsD Tryz.prog 55 #[.pointer (some ⟨rb, 0, none⟩), .pointer (some ⟨ab, 0, none⟩), .pointer (some ⟨eb, 0, none⟩)] .returning w fun e u' w' => e = .returned (.tuple #[]) ∧ u' = .returning ∧ w' = w := by
  refine callsD_of_wpS Tryz.func55 rfl fun c₀ cs hu => ?_
  apply wpS_seq
  apply wpS_region
  simp [wpOpsS, go_sem, recoverD, hu, Tryz.ntmps55, Exit.thenS, ta90n, show Array.replicate 10 undef = #[undef, undef, undef, undef, undef, undef, undef, undef, undef, undef] from rfl]
  refine wpS_of_wp ?_
  go_wp2
  cases c₀
  simp_all [bodyPostS, results, Tryz.results55]
theorem newVar3 (w : World) : (Instr.alloc 3 true (.tuple #[])).run Tryz.prog w = .ok (.pointer (some ⟨w.heap.size, 0, none⟩)) (w.alloc (.cells ([.int .i64 0] : List Value).toArray 3)) := by
  simp [Instr.alloc, Tryz.zeroValue3, go_sem]
theorem newVar32 (w : World) : (Instr.alloc 32 true (.tuple #[])).run Tryz.prog w = .ok (.pointer (some ⟨w.heap.size, 0, none⟩)) (w.alloc (.cells ([.int .i64 0] : List Value).toArray 32)) := by
  simp [Instr.alloc, Tryz.zeroValue32, go_sem]
structure Tks (w : World) (base : Nat) (v : Value) (T : List Tk) : Prop where
  own : w.ownsRow base 63 3 v T.length (cellsT T)
  few : T.length ≤ 2000
  toks : ∀ x ∈ T, TokOk x
theorem results_parse (tmps : Array Value) (w : World) (rb ab eb : Nat) (cs : List Value) (x y : Int) (h4 : tmps.getD 4 undef = .pointer (some ⟨rb, 0, none⟩)) (h5 : tmps.getD 5 undef = .pointer (some ⟨ab, 0, none⟩)) (h6 : tmps.getD 6 undef = .pointer (some ⟨eb, 0, none⟩))
    (hl : cs.length = 26) (hr : w.heap[rb]? = some (.cells cs.toArray 31)) (ha : w.cell? ⟨ab, 0, none⟩ = some (.int .i64 x)) (he : w.cell? ⟨eb, 0, none⟩ = some (.int .i64 y)) :
    (results Tryz.f21 tmps).run Tryz.prog w = .ok (.tuple #[.agg cs.toArray, .int .i64 x, .int .i64 y]) w := by
  have h := run_loadVar_mid (P := Tryz.prog) w rb 0 31 cs _ (fun j v hv => by rw [Nat.zero_add, Lib.cell_of_heap hr]; simpa using hv) Tryz.underlying31 rfl (by rw [hl]; exact Tryz.size31)
  have h4' : tmps[4]?.getD undef = .pointer (some ⟨rb, 0, none⟩) := by simpa using h4
  have h5' : tmps[5]?.getD undef = .pointer (some ⟨ab, 0, none⟩) := by simpa using h5
  have h6' : tmps[6]?.getD undef = .pointer (some ⟨eb, 0, none⟩) := by simpa using h6
  have hA : (loadVar 3 ⟨ab, 0, none⟩).run Tryz.prog w = .ok (.int .i64 x) w := by simp [go_sem, ha]
  have hE : (loadVar 32 ⟨eb, 0, none⟩).run Tryz.prog w = .ok (.int .i64 y) w := by simp [go_sem, he]
  simp [results, Tryz.results21, h4', h5', h6', asAddr, h, hA, hE]
structure ParseOut (w : World) (T : List Tk) (en : Int) (e : Ending) (w' : World) : Prop where
  below : Below w.heap.size w w'
  ok : ∀ c j, wholeP T = .ok c j → ∃ u, e = .returned (.tuple #[u, .int .i64 0, .int .i64 0]) ∧ CmAt w.heap.size w' u c
  bad : ∀ j, wholeP T = .bad j → e = .returned (.tuple #[.agg cmZ.toArray, .int .i64 (pl T en j), .int .i64 1])
theorem below_of_grown {w w' : World} {k : Nat} (h : w.grownBy w' (some k)) (hk : w.heap.size ≤ k) : Below w.heap.size w w' :=
  ⟨h.os, h.tape, h.output, h.size, fun i hi => h.block i hi (by simp only [ne_eq, Option.some.injEq]; omega)⟩
theorem caught {w w1 : World} {T : List Tk} {en : Int} {j rb ab eb : Nat} {cs : List Value} {x y : Int} {tmps : Array Value} (kr1 : w1.heap[rb]? = some (.cells cs.toArray 31)) (ka1 : w1.heap[ab]? = some (.cells #[.int .i64 x] 3)) (ke1 : w1.heap[eb]? = some (.cells #[.int .i64 y] 32))
    (h1 : rb ≠ ab) (h2 : rb ≠ eb) (h3 : ab ≠ eb) (hrw : w.heap.size ≤ rb) (haw : w.heap.size ≤ ab) (hew : w.heap.size ≤ eb) (B4 : Below w.heap.size w w1) (H1 : wholeP T = .bad j) (hl : cs.length = 26)
    (h4 : tmps.getD 4 undef = .pointer (some ⟨rb, 0, none⟩)) (h5 : tmps.getD 5 undef = .pointer (some ⟨ab, 0, none⟩)) (h6 : tmps.getD 6 undef = .pointer (some ⟨eb, 0, none⟩)) :
    ∃ v, (results Tryz.f21 tmps).run Tryz.prog (((putAll w1 rb 0 cmZ).setCell ⟨ab, 0, none⟩ (.int .i64 (pl T en j))).setCell ⟨eb, 0, none⟩ (.int .i64 1)) = .ok v (((putAll w1 rb 0 cmZ).setCell ⟨ab, 0, none⟩ (.int .i64 (pl T en j))).setCell ⟨eb, 0, none⟩ (.int .i64 1)) ∧
      ParseOut w T en (.returned v) (((putAll w1 rb 0 cmZ).setCell ⟨ab, 0, none⟩ (.int .i64 (pl T en j))).setCell ⟨eb, 0, none⟩ (.int .i64 1)) := by
  have r1 := putAll_same kr1 cmZ hl
  have a1 := (putAll_other rb cmZ w1 0 ab (Ne.symm h1)).trans ka1
  have e1 := (putAll_other rb cmZ w1 0 eb (Ne.symm h2)).trans ke1
  have r2 := (heap_setCell_other (putAll w1 rb 0 cmZ) ⟨ab, 0, none⟩ rb (.int .i64 (pl T en j)) h1).trans r1
  have a2 := heap_setCell_same (putAll w1 rb 0 cmZ) ab 0 _ 3 (.int .i64 (pl T en j)) a1
  have e2 := (heap_setCell_other (putAll w1 rb 0 cmZ) ⟨ab, 0, none⟩ eb (.int .i64 (pl T en j)) (Ne.symm h3)).trans e1
  have r3 := (heap_setCell_other ((putAll w1 rb 0 cmZ).setCell ⟨ab, 0, none⟩ (.int .i64 (pl T en j))) ⟨eb, 0, none⟩ rb (.int .i64 1) h2).trans r2
  have a3 := (heap_setCell_other ((putAll w1 rb 0 cmZ).setCell ⟨ab, 0, none⟩ (.int .i64 (pl T en j))) ⟨eb, 0, none⟩ ab (.int .i64 1) h3).trans a2
  have e3 := heap_setCell_same ((putAll w1 rb 0 cmZ).setCell ⟨ab, 0, none⟩ (.int .i64 (pl T en j))) eb 0 _ 32 (.int .i64 1) e2
  refine ⟨_, results_parse _ _ rb ab eb cmZ (pl T en j) 1 h4 h5 h6 rfl r3 ((Lib.cell_of_heap a3 0).trans rfl) ((Lib.cell_of_heap e3 0).trans rfl), ⟨?_, ?_, ?_⟩⟩
  · have hB : Below w.heap.size w (putAll w1 rb 0 cmZ) := B4.trans ⟨(putAll_misc rb cmZ w1 0).1, (putAll_misc rb cmZ w1 0).2.1, (putAll_misc rb cmZ w1 0).2.2, Nat.le_of_eq (putAll_size rb cmZ w1 0).symm, fun k hk => putAll_other rb cmZ w1 0 k (by omega)⟩
    exact (hB.setCell (p := ⟨ab, 0, none⟩) haw _).setCell (p := ⟨eb, 0, none⟩) hew _
  · intro c j' hh; rw [H1] at hh; cases hh
  · intro j' hh; rw [H1] at hh; cases hh; rfl
theorem parse_any {w : World} {base : Nat} {v : Value} {T : List Tk} (h : Tks w base v T) (hl : Laid w) (en : Int) :
    Calls Tryz.prog 21 #[v, .int .i64 en] w fun e w' => ParseOut w T en e w' := by
  have hm := hmf
  obtain ⟨ao, cap, hv⟩ := owns_slice h.own
  have hgv : ∀ b, w.heap.size ≤ b → v.ownBlock ≠ some b := by
    intro b hb
    rcases h.own.2 with ⟨hv, -⟩ | ⟨g, cap, cur, hv, -, hg, -⟩
    · rw [hv]; simp [Value.ownBlock]
    · rw [hv]
      have := (ltS hg)
      simp only [Value.ownBlock, ne_eq, Option.some.injEq]
      omega
  have HV : Hid (v = .slice ao T.length cap) := hv
  rw [hv]
  clear hv
  go_enter_defers Tryz.func21, Tryz.ntmps21
  go_wp2_with (first | (refine wpList_alloc_blk 4 31 cmZ rfl rfl rfl Tryz.alloc31 ?_; intro W0 rb hrb k0 b0) | (refine wpList_alloc_blk 5 3 [.int .i64 0] rfl rfl rfl newVar3 ?_; intro W1 ab hab k1 b1) | (refine wpList_alloc_blk 6 32 [.int .i64 0] rfl rfl rfl newVar32 ?_; intro W2 eb heb k2 b2))
  have lt0 := (ltS k0)
  have lt1 := (ltS k1)
  have lt2 := (ltS k2)
  have hrb' := hrb.out
  have hab' := hab.out
  have heb' := heb.out
  have z1 := b1.size
  have z2 := b2.size
  have z0 := b0.size
  have B2 : Below w.heap.size w W2 := (b0.trans (b1.mono z0)).trans (b2.mono (Nat.le_trans z0 z1))
  have kr : (W2.alloc (.cells #[.slice ao T.length cap, .int .i64 0, .int .i64 en] 94)).heap[rb]? = some (.cells cmZ.toArray 31) := (((Below.refl _ _).alloc (Nat.le_refl _) _).block rb (by omega)).trans ((b2.block rb (by omega)).trans ((b1.block rb (by omega)).trans k0))
  have ka : (W2.alloc (.cells #[.slice ao T.length cap, .int .i64 0, .int .i64 en] 94)).heap[ab]? = some (.cells #[.int .i64 0] 3) := (((Below.refl _ _).alloc (Nat.le_refl _) _).block ab (by omega)).trans ((b2.block ab (by omega)).trans k1)
  have ke : (W2.alloc (.cells #[.slice ao T.length cap, .int .i64 0, .int .i64 en] 94)).heap[eb]? = some (.cells #[.int .i64 0] 32) := (((Below.refl _ _).alloc (Nat.le_refl _) _).block eb (by omega)).trans k2
  have B3 : Below w.heap.size w (W2.alloc (.cells #[.slice ao T.length cap, .int .i64 0, .int .i64 en] 94)) := B2.alloc (by omega) _
  have s3 : St (W2.alloc (.cells #[.slice ao T.length cap, .int .i64 0, .int .i64 en] 94)) base W2.heap.size v T en 0 := by
    refine ⟨?_, owns_below h.own B3, hgv _ (by omega), Nat.zero_le _, h.few, by have := hl.sz; omega, hl.below B3, h.toks⟩
    rw [HV.out]; exact heap_alloc_new _ _
  have hpb : w.heap.size ≤ W2.heap.size := by omega
  have h1 : rb ≠ ab := by omega
  have h2 : rb ≠ eb := by omega
  have h3 : ab ≠ eb := by omega
  have n1 : rb ≠ W2.heap.size := by omega
  have n2 : ab ≠ W2.heap.size := by omega
  have n3 : eb ≠ W2.heap.size := by omega
  have hrw : w.heap.size ≤ rb := by omega
  have haw : w.heap.size ≤ ab := by omega
  have hew : w.heap.size ≤ eb := by omega
  have hbB : rb < (W2.alloc (.cells #[.slice ao T.length cap, .int .i64 0, .int .i64 en] 94)).heap.size := (ltS kr)
  have haB : ab < (W2.alloc (.cells #[.slice ao T.length cap, .int .i64 0, .int .i64 en] 94)).heap.size := (ltS ka)
  have heB : eb < (W2.alloc (.cells #[.slice ao T.length cap, .int .i64 0, .int .i64 en] 94)).heap.size := (ltS ke)
  have hsB := B3.size
  clear k0 k1 k2 b0 b1 b2 lt0 lt1 lt2 hrb' hab' heb' z0 z1 z2 B2 hgv hrb hab heb
  refine (command_any s3).mono ?_
  intro e w1 o1
  have kr1 := (o1.grown.block rb (ltS kr) (by simpa using n1)).trans kr
  have ka1 := (o1.grown.block ab (ltS ka) (by simpa using n2)).trans ka
  have ke1 := (o1.grown.block eb (ltS ke) (by simpa using n3)).trans ke
  have B4 : Below w.heap.size w w1 := B3.trans ⟨o1.grown.os, o1.grown.tape, o1.grown.output, o1.grown.size, fun k hk => o1.grown.block k (Nat.lt_of_lt_of_le hk hsB) (by simp only [ne_eq, Option.some.injEq]; omega)⟩
  cases hy : commandP T 0 with
  | bad j =>
    obtain rfl := o1.bad j hy
    have H1 : wholeP T = .bad j := by rw [wholeP, hy]; rfl
    clear o1 hy kr ka ke s3 B3
    refine leaves_cons (f := 55) (args := #[.pointer (some ⟨rb, 0, none⟩), .pointer (some ⟨ab, 0, none⟩), .pointer (some ⟨eb, 0, none⟩)]) (by simp) (by simp [go_sem]) ?_
    refine (catch_panicking rb ab eb cmZ (pl T en j) 0 0 [] w1 rfl kr1 ka1 ke1 h1 h2 h3).mono ?_
    rintro e u' w'' ⟨rfl, rfl, rfl⟩
    exact caught kr1 ka1 ke1 h1 h2 h3 hrw haw hew B4 H1 rfl (by rfl) (by rfl) (by rfl)
  | ok c j =>
    obtain ⟨u, rfl, ⟨cv, vv, fv, ea, wa, rfl, mi⟩, s4⟩ := o1.ok c j hy
    have HY : Hid (commandP T 0 = .ok c j) := hy
    obtain ⟨⟨c0, c1, c2⟩, f0, f1, f2⟩ := three s4.blk
    have hbs := B4.size
    have hjl := s4.le
    clear o1 hy kr ka ke s3 B3
    by_cases hlt : j < T.length
    · have H1 : Hid (wholeP T = .bad j) := by show _ = _; rw [wholeP, HY.out]; simp only [Rs.then_ok]; rw [if_pos hlt]
      have hd : (j : Int) < (T.length : Int) := by omega
      clear c0 c1 c2 f0 f1 f2 HY
      go_wp2_with (first | (refine wpList_alloc_blk 8 31 cmZ rfl rfl rfl Tryz.alloc31 ?_; intro w2 tb htb kt bt) | (refine wpList_store_whole 31 _ _ rfl rfl _ cmZ (cmL c cv vv fv ea wa) 31 rfl rfl (by exact kt) rfl Tryz.size31 (by exact mi.one) ?_; intro w3 k3 p3; have s5 : St w3 base W2.heap.size v T en j := (by rw [p3.out]; exact (s4.below bt).putAll (s4.fresh (Nat.le_of_eq htb.out.symm)) 0 _); obtain ⟨⟨d0, d1, d2⟩, -⟩ := three s5.blk) | (go_at_call 57; refine (giveUp_any s5).mono ?_; rintro e w4 ⟨rfl, b4⟩))
      have htw := htb.out
      have B5 : Below w.heap.size w w3 := by
        rw [p3.out]
        exact (B4.trans (bt.mono hbs)).trans ⟨(putAll_misc tb _ w2 0).1, (putAll_misc tb _ w2 0).2.1, (putAll_misc tb _ w2 0).2.2, Nat.le_of_eq (putAll_size tb _ w2 0).symm, fun k hk => putAll_other tb _ w2 0 k (by omega)⟩
      have l1 := (ltS kr1)
      have l2 := (ltS ka1)
      have l3 := (ltS ke1)
      have kr5 : w3.heap[rb]? = some (.cells cmZ.toArray 31) := by rw [p3.out]; exact (putAll_other tb _ w2 0 rb (by omega)).trans ((bt.block rb l1).trans kr1)
      have ka5 : w3.heap[ab]? = some (.cells #[.int .i64 0] 3) := by rw [p3.out]; exact (putAll_other tb _ w2 0 ab (by omega)).trans ((bt.block ab l2).trans ka1)
      have ke5 : w3.heap[eb]? = some (.cells #[.int .i64 0] 32) := by rw [p3.out]; exact (putAll_other tb _ w2 0 eb (by omega)).trans ((bt.block eb l3).trans ke1)
      refine leaves_cons (f := 55) (args := #[.pointer (some ⟨rb, 0, none⟩), .pointer (some ⟨ab, 0, none⟩), .pointer (some ⟨eb, 0, none⟩)]) (by simp) (by simp [go_sem]) ?_
      have kr6 := (b4.block rb (ltS kr5)).trans kr5
      have ka6 := (b4.block ab (ltS ka5)).trans ka5
      have ke6 := (b4.block eb (ltS ke5)).trans ke5
      refine (catch_panicking rb ab eb cmZ (pl T en j) 0 0 [] w4 rfl kr6 ka6 ke6 h1 h2 h3).mono ?_
      rintro e u' w'' ⟨rfl, rfl, rfl⟩
      exact caught kr6 ka6 ke6 h1 h2 h3 hrw haw hew (B5.trans (b4.mono B5.size)) H1.out rfl (by rfl) (by rfl) (by rfl)
    · have H1 : Hid (wholeP T = .ok c j) := by show _ = _; rw [wholeP, HY.out]; simp only [Rs.then_ok]; rw [if_neg hlt]
      have hd : ¬ (j : Int) < (T.length : Int) := by omega
      have l1 := (ltS kr1)
      have l2 := (ltS ka1)
      have l3 := (ltS ke1)
      clear c0 c1 c2 f0 f1 f2 HY
      go_wp2_with (first | (refine wpList_alloc_blk 8 31 cmZ rfl rfl rfl Tryz.alloc31 ?_; intro w2 tb htb kt bt) | (refine wpList_store_whole 31 _ _ rfl rfl _ cmZ (cmL c cv vv fv ea wa) 31 rfl rfl (by exact kt) rfl Tryz.size31 (by exact mi.one) ?_; intro w3 k3 p3; have s5 : St w3 base W2.heap.size v T en j := (by rw [p3.out]; exact (s4.below bt).putAll (s4.fresh (Nat.le_of_eq htb.out.symm)) 0 _); obtain ⟨⟨d0, d1, d2⟩, -⟩ := three s5.blk) | (refine wpList_load_whole 31 _ rfl rfl _ (cmL c cv vv fv ea wa) 31 _ rfl (by exact k3) Tryz.underlying31 rfl Tryz.size31 ?_; have htw := htb; have kr5 : w3.heap[rb]? = some (.cells cmZ.toArray 31) := (by rw [p3.out]; exact (putAll_other tb _ w2 0 rb (by have := htb.out; omega)).trans ((bt.block rb l1).trans kr1)); have ka5 : w3.heap[ab]? = some (.cells #[.int .i64 0] 3) := (by rw [p3.out]; exact (putAll_other tb _ w2 0 ab (by have := htb.out; omega)).trans ((bt.block ab l2).trans ka1)); have ke5 : w3.heap[eb]? = some (.cells #[.int .i64 0] 32) := (by rw [p3.out]; exact (putAll_other tb _ w2 0 eb (by have := htb.out; omega)).trans ((bt.block eb l3).trans ke1))) | (refine wpList_store_whole 31 _ _ rfl rfl _ cmZ (cmL c cv vv fv ea wa) 31 rfl rfl (by exact kr5) rfl Tryz.size31 (by exact mi.one) ?_; intro w6 k6 p6; have ka6 : w6.heap[ab]? = some (.cells #[.int .i64 0] 3) := (by rw [p6.out]; exact (putAll_other rb _ w3 0 ab (Ne.symm h1)).trans ka5); have ke6 : w6.heap[eb]? = some (.cells #[.int .i64 0] 32) := (by rw [p6.out]; exact (putAll_other rb _ w3 0 eb (Ne.symm h2)).trans ke5); have qa := (Lib.cell_of_heap ka6 0).trans (show _ = some (Value.int .i64 0) from rfl); have qb := Lib.frozen_of_heap ka6 0; have qc := (Lib.cell_of_heap ke6 0).trans (show _ = some (Value.int .i64 0) from rfl); have qd := Lib.frozen_of_heap ke6 0))
      have htw' := htb.out
      refine leaves_cons (f := 55) (args := #[.pointer (some ⟨rb, 0, none⟩), .pointer (some ⟨ab, 0, none⟩), .pointer (some ⟨eb, 0, none⟩)]) (by simp) (by simp [go_sem]) ?_
      refine (catch_idle rb ab eb _).mono ?_
      rintro e u' w'' ⟨rfl, rfl, rfl⟩
      have B5 : Below w.heap.size w w3 := by
        rw [p3.out]
        exact (B4.trans (bt.mono hbs)).trans ⟨(putAll_misc tb _ w2 0).1, (putAll_misc tb _ w2 0).2.1, (putAll_misc tb _ w2 0).2.2, Nat.le_of_eq (putAll_size tb _ w2 0).symm, fun k hk => putAll_other tb _ w2 0 k (by omega)⟩
      have B6 : Below w.heap.size w w6 := by
        rw [p6.out]
        exact B5.trans ⟨(putAll_misc rb _ w3 0).1, (putAll_misc rb _ w3 0).2.1, (putAll_misc rb _ w3 0).2.2, Nat.le_of_eq (putAll_size rb _ w3 0).symm, fun k hk => putAll_other rb _ w3 0 k (by omega)⟩
      have m3 : CmIn (W2.alloc (.cells #[.slice ao T.length cap, .int .i64 0, .int .i64 en] 94)).heap.size w3 c cv vv fv ea wa := by
        rw [p3.out]
        exact mi.keep (by rw [putAll_size]; exact bt.size) fun b hb hs => (putAll_other tb _ w2 0 b (by omega)).trans (bt.block b hs)
      have m6 : CmIn (W2.alloc (.cells #[.slice ao T.length cap, .int .i64 0, .int .i64 en] 94)).heap.size w6 c cv vv fv ea wa := by
        rw [p6.out]; exact m3.putAll hbB 0 _
      have k7 := (heap_setCell_other w6 ⟨ab, 0, none⟩ rb (.int .i64 0) h1).trans k6
      have k8 := (heap_setCell_other (w6.setCell ⟨ab, 0, none⟩ (.int .i64 0)) ⟨eb, 0, none⟩ rb (.int .i64 0) h2).trans k7
      have ka7 := heap_setCell_same w6 ab 0 _ 3 (.int .i64 0) ka6
      have ka8 := (heap_setCell_other (w6.setCell ⟨ab, 0, none⟩ (.int .i64 0)) ⟨eb, 0, none⟩ ab (.int .i64 0) h3).trans ka7
      have ke7 := (heap_setCell_other w6 ⟨ab, 0, none⟩ eb (.int .i64 0) (Ne.symm h3)).trans ke6
      have ke8 := heap_setCell_same (w6.setCell ⟨ab, 0, none⟩ (.int .i64 0)) eb 0 _ 32 (.int .i64 0) ke7
      refine ⟨_, results_parse _ _ rb ab eb (cmL c cv vv fv ea wa) 0 0 (by rfl) (by rfl) (by rfl) rfl k8 ((Lib.cell_of_heap ka8 0).trans rfl) ((Lib.cell_of_heap ke8 0).trans rfl), ⟨(B6.setCell (p := ⟨ab, 0, none⟩) haw _).setCell (p := ⟨eb, 0, none⟩) hew _, ?_, ?_⟩⟩
      · intro c' j' hh
        rw [H1.out] at hh
        cases hh
        exact ⟨_, rfl, ⟨cv, vv, fv, ea, wa, rfl, ((m6.put haB 0 _).put heB 0 _).weak hsB⟩⟩
      · intro j' hh
        rw [H1.out] at hh
        cases hh
def typeB (k : Int) : Bool := decide (atL typesL k ≠ [])
def valB (x : Vl) : Bool := decide (chkV x.k x.n x.s = 0)
def argsN (k : Int) : Nat := if k = 3 ∨ k = 4 then 1 else if atL opersL k ≠ [] then 2 else 0
def colB (c : Cl) : Bool := nameW c.name && typeB c.ty
theorem isType_any (k : Int) (w : World) : Calls Tryz.prog 74 #[.int .i64 k] w fun e w' => e = .returned (.bool (typeB k)) ∧ Below w.heap.size w w' := by
  have h := ofType_any k w
  unfold typeB
  cases hn : decide (atL typesL k ≠ [])
  all_goals
    have hq : (atL typesL k).isEmpty = !(decide (atL typesL k ≠ [])) := by cases atL typesL k <;> simp
    rw [hn] at hq
    clear hn
    generalize atL typesL k = s at h hq
    go_enter Tryz.func74, Tryz.ntmps74
    go_wp2_with (go_at_call 123; refine h.mono ?_; rintro e w1 ⟨rfl, b1⟩)
    go_ret
    exact ⟨ret_bool (by simp), b1⟩
theorem isValue_any (x : Vl) (w : World) (hs : x.s.length ≤ 140737488355328) : Calls Tryz.prog 75 #[.agg #[.int .i64 x.k, .int .i64 x.n, .string ⟨x.s.toArray⟩]] w fun e w' => e = .returned (.bool (valB x)) ∧ Below w.heap.size w w' := by
  have h := check_any x.k x.n ⟨x.s.toArray⟩ (w.alloc (.cells #[.int .i64 x.k, .int .i64 x.n, .string ⟨x.s.toArray⟩] 24)) (by rw [size_mk]; exact hs)
  have e0 : (⟨x.s.toArray⟩ : ByteArray).data.toList = x.s := by simp
  rw [e0] at h
  unfold valB
  generalize chkV x.k x.n x.s = c at h
  go_enter Tryz.func75, Tryz.ntmps75
  go_wp2_with (go_at_call 124; refine h.mono ?_; rintro e w1 ⟨rfl, b1⟩)
  go_ret
  refine ⟨ret_bool ?_, ((Below.refl _ _).alloc (Nat.le_refl _) _).trans (b1.mono (by simp))⟩
  rw [Bool.eq_iff_iff]; simp
theorem argsOf_any (k : Int) (w : World) : Calls Tryz.prog 128 #[.int .i64 k] w fun e w' => e = .returned (.int .i64 (argsN k : Nat)) ∧ Below w.heap.size w w' := by
  have h := ofOperator_any k w
  by_cases h3 : k = 3
  · subst h3
    go_enter Tryz.func128, Tryz.ntmps128
    go_wp2
    go_ret
    exact ⟨rfl, Below.refl _ _⟩
  by_cases h4 : k = 4
  · subst h4
    go_enter Tryz.func128, Tryz.ntmps128
    go_wp2
    go_ret
    exact ⟨rfl, Below.refl _ _⟩
  have q3 : (k == 3) = false := by simpa using h3
  have q4 : (k == 4) = false := by simpa using h4
  have e : argsN k = if atL opersL k ≠ [] then 2 else 0 := by rw [argsN, if_neg (by simp [h3, h4])]
  rw [e]
  clear h3 h4 e
  generalize atL opersL k = s at h ⊢
  by_cases hs : s = []
  · subst hs
    go_enter Tryz.func128, Tryz.ntmps128
    go_wp2_with (go_at_call 138; refine h.mono ?_; rintro e w1 ⟨rfl, b1⟩)
    go_ret
    exact ⟨rfl, b1⟩
  · have hq : s.isEmpty = false := by simpa using hs
    rw [if_pos hs]
    go_enter Tryz.func128, Tryz.ntmps128
    go_wp2_with (go_at_call 138; refine h.mono ?_; rintro e w1 ⟨rfl, b1⟩)
    go_ret
    exact ⟨rfl, b1⟩
theorem isColumn_any (x : Cl) (w : World) (hs : x.name.length ≤ 140737488355328) (hl : Laid w) : Calls Tryz.prog 122 #[.agg #[.string ⟨x.name.toArray⟩, .int .i64 x.ty]] w fun e w' => e = .returned (.bool (colB x)) ∧ Below w.heap.size w w' := by
  have b0 := (Below.refl w.heap.size w).alloc (Nat.le_refl _) (.cells #[.string ⟨x.name.toArray⟩, .int .i64 x.ty] 56)
  have h := isName_any ⟨x.name.toArray⟩ (w.alloc (.cells #[.string ⟨x.name.toArray⟩, .int .i64 x.ty] 56)) (by rw [size_mk]; exact hs) (hl.below b0)
  have e0 : (⟨x.name.toArray⟩ : ByteArray).data.toList = x.name := by simp
  rw [e0] at h
  unfold colB
  cases hn : nameW x.name
  · rw [hn] at h
    go_enter Tryz.func122, Tryz.ntmps122
    go_wp2_with (go_at_call 72; refine h.mono ?_; rintro e w1 ⟨rfl, b1⟩)
    go_ret
    exact ⟨rfl, b0.trans (b1.mono (by simp))⟩
  · rw [hn] at h
    have h2 := isType_any x.ty
    generalize typeB x.ty = t at h2 ⊢
    go_enter Tryz.func122, Tryz.ntmps122
    go_wp2_with (go_at_call 72; refine h.mono ?_; rintro e w1 ⟨rfl, b1⟩; have d1 : w1.cell? ⟨w.heap.size, 1, none⟩ = some (.int .i64 x.ty) := (b1.cell (by simp)).trans (by simp))
    refine (h2 _).mono ?_
    rintro e w2 ⟨rfl, b2⟩
    go_wp2
    go_ret
    exact ⟨rfl, (b0.trans (b1.mono (by simp))).trans (b2.mono (by have := b1.size; simp at this; omega))⟩
theorem notF_str (x : List UInt8) (fb : Nat) (B : Bool) (w : World) (hf : w.cell? ⟨fb, 0, none⟩ = some (.func (.func 72) #[] #[]))
    (hp : ∀ W, Below w.heap.size w W → Calls Tryz.prog 72 #[.string ⟨x.toArray⟩] W fun e w' => e = .returned (.bool B) ∧ Below W.heap.size W w') :
    Calls Tryz.prog 127 #[.string ⟨x.toArray⟩, .pointer (some ⟨fb, 0, none⟩)] w fun e w' => e = .returned (.bool !B) ∧ Below w.heap.size w w' := by
  have h1 := hp w (Below.refl _ _)
  clear hp
  go_enter Tryz.func127, Tryz.ntmps127
  go_wp2_with (go_at_call 72; refine h1.mono ?_; rintro e w1 ⟨rfl, b1⟩)
  go_ret
  exact ⟨rfl, b1⟩
theorem idxF_str (b off cap fb : Nat) (l : List (List UInt8)) (w : World) (hb : b < w.heap.size) (hfb : fb < w.heap.size) (hf : w.cell? ⟨fb, 0, none⟩ = some (.func (.func 72) #[] #[])) (hn : l.length ≤ 1000000000000000)
    (hc : ∀ (k : Nat) x, l[k]? = some x → w.cell? ⟨b, off + k, none⟩ = some (.string ⟨x.toArray⟩))
    (hp : ∀ (k : Nat) x, l[k]? = some x → ∀ W, Below w.heap.size w W → Calls Tryz.prog 72 #[.string ⟨x.toArray⟩] W fun e w' => e = .returned (.bool (nameW x)) ∧ Below W.heap.size W w') :
    Calls Tryz.prog 162 #[.slice (some ⟨b, off, none⟩) l.length cap, .func (.func 127) #[] #[.pointer (some ⟨fb, 0, none⟩)]] w fun e w' => (∃ r : Int, e = .returned (.int .i64 r) ∧ (decide (0 ≤ r) = !(l.all nameW))) ∧ Below w.heap.size w w' := by
  obtain ⟨n, hl⟩ : ∃ n, l.length = n := ⟨_, rfl⟩
  rw [hl] at hn ⊢
  go_enter Tryz.func162, Tryz.ntmps162
  go_wp2
  go_loopw [8] (fun i wr => ∃ k : Nat, k ≤ n ∧ i = .int .i64 k ∧ Below w.heap.size w wr ∧ Hid (∀ j x, j < k → l[j]? = some x → nameW x = true)) (fun i _ => n - (intOf i).toNat)
  case atStart => exact ⟨0, Nat.zero_le _, rfl, Below.refl _ _, fun j _ hj => absurd hj (Nat.not_lt_zero _)⟩
  case round =>
    obtain ⟨k, hk, rfl, hnx, HA⟩ := hrel
    by_cases hlt : k < n
    · obtain ⟨x, hx⟩ : ∃ x, l[k]? = some x := ⟨l[k], List.getElem?_eq_getElem (by omega)⟩
      obtain e0 := hc k x hx
      have a0 := (hnx.cell (p := ⟨b, off + k, none⟩) hb).trans e0
      have hlt' : (k : Int) < (n : Int) := by omega
      have hff := (hnx.cell (p := ⟨fb, 0, none⟩) hfb).trans hf
      have hsz := hnx.size
      have hpk := hp k x hx
      have HX : Hid (l[k]? = some x) := hx
      clear hp hc hx e0 hf
      cases hB : nameW x
      · rw [hB] at hpk
        have hq := notF_str x fb false wr hff fun W hW => hpk W (hnx.trans (hW.mono hsz))
        have HB : Hid (nameW x = false) := hB
        clear hpk hB hff
        go_wp2_with (go_at_call 127; refine hq.mono ?_; rintro e w2 ⟨rfl, b2⟩)
        go_ret
        refine ⟨⟨(k : Nat), rfl, ?_⟩, hnx.trans (b2.mono hsz)⟩
        have : l.all nameW = false := by
          rw [List.all_eq_false]
          exact ⟨x, List.mem_of_getElem? HX.out, by simp [HB.out]⟩
        rw [this]; simp
      · rw [hB] at hpk
        have hq := notF_str x fb true wr hff fun W hW => hpk W (hnx.trans (hW.mono hsz))
        have HB : Hid (nameW x = true) := hB
        clear hpk hB hff
        go_wp2_with (go_at_call 127; refine hq.mono ?_; rintro e w2 ⟨rfl, b2⟩)
        go_roundw
        case rel =>
          refine ⟨k + 1, by omega, by go_num, hnx.trans (b2.mono hsz), fun j y hj hy => ?_⟩
          rcases Nat.lt_or_ge j k with h | h
          · exact HA.out j y h hy
          · rw [show j = k by omega, HX.out] at hy; cases hy; exact HB.out
        case measure => simp [intOf]; omega
    · clear hp hc
      go_wp2
      go_ret
      refine ⟨⟨-1, rfl, ?_⟩, hnx⟩
      have : l.all nameW = true := by
        rw [List.all_eq_true]
        intro x hx
        obtain ⟨j, hj⟩ := List.mem_iff_getElem?.1 hx
        exact HA.out j x (by have := (List.getElem?_eq_some_iff.1 hj).1; omega) hj
      rw [this]; simp
theorem idxN_str (ao : Option Addr) (cap : Nat) (f : Value) (w : World) :
    Calls Tryz.prog 162 #[.slice ao 0 cap, f] w fun e w' => e = .returned (.int .i64 (-1)) ∧ w' = w := by
  go_enter Tryz.func162, Tryz.ntmps162
  go_wp2
  go_loopw [8] (fun k wr => k = .int .i64 0 ∧ wr = w) (fun _ _ => 0)
  case atStart => exact ⟨rfl, rfl⟩
  case round =>
    obtain ⟨rfl, rfl⟩ := hrel
    go_wp2
    go_ret
    exact ⟨rfl, rfl⟩
theorem allN_str (ao : Option Addr) (cap : Nat) (f : Fn) (w : World) :
    Calls Tryz.prog 77 #[.slice ao 0 cap, .func f #[] #[]] w fun e w' => e = .returned (.bool true) ∧ Below w.heap.size w w' := by
  have hm := hmf
  go_enter Tryz.func77, Tryz.ntmps77
  go_wp2_with (first | (go_at_call 126; go_in) | (go_at_call 162; refine (idxN_str _ _ _ _).mono ?_; rintro e w1 ⟨rfl, rfl⟩))
  go_ret
  exact ⟨rfl, (Below.refl _ _).alloc (Nat.le_refl _) _⟩
theorem all_str (b off cap : Nat) (l : List (List UInt8)) (w : World) (hb : b < w.heap.size) (hn : l.length ≤ 1000000000000000)
    (hc : ∀ (k : Nat) x, l[k]? = some x → w.cell? ⟨b, off + k, none⟩ = some (.string ⟨x.toArray⟩))
    (hp : ∀ (k : Nat) x, l[k]? = some x → ∀ W, Below w.heap.size w W → Calls Tryz.prog 72 #[.string ⟨x.toArray⟩] W fun e w' => e = .returned (.bool (nameW x)) ∧ Below W.heap.size W w') :
    Calls Tryz.prog 77 #[.slice (some ⟨b, off, none⟩) l.length cap, .func (.func 72) #[] #[]] w fun e w' => e = .returned (.bool (l.all nameW)) ∧ Below w.heap.size w w' := by
  have hm := hmf
  have hi : ∀ t, Calls Tryz.prog 162 #[.slice (some ⟨b, off, none⟩) l.length cap, .func (.func 127) #[] #[.pointer (some ⟨w.heap.size, 0, none⟩)]] (w.alloc (.cells #[.func (.func 72) #[] #[]] t)) fun e w' => (∃ r : Int, e = .returned (.int .i64 r) ∧ (decide (0 ≤ r) = !(l.all nameW))) ∧ Below w.heap.size w w' := by
    intro t
    have b0 := (Below.refl w.heap.size w).alloc (Nat.le_refl _) (.cells #[.func (.func 72) #[] #[]] t)
    refine (idxF_str b off cap w.heap.size l _ (by simp; omega) (by simp) (by simp) hn ?_ ?_).mono ?_
    · intro k x hx
      have := hc k x hx
      refine (cell_old _ hb).trans this
    · intro k x hx W hW
      exact hp k x hx W (b0.trans (hW.mono (by simp)))
    · rintro e w' ⟨hr, hb⟩
      exact ⟨hr, b0.trans (hb.mono (by simp))⟩
  generalize l.all nameW = A at hi ⊢
  clear hp hc
  go_enter Tryz.func77, Tryz.ntmps77
  go_wp2_with (first | (go_at_call 126; go_in) | (go_at_call 162; refine (hi _).mono ?_; rintro e w1 ⟨⟨r, rfl, hr⟩, b1⟩))
  go_ret
  exact ⟨ret_bool (by simp), b1⟩
theorem notF_col (x : Cl) (fb : Nat) (B : Bool) (w : World) (hfb : fb < w.heap.size) (hf : w.cell? ⟨fb, 0, none⟩ = some (.func (.func 122) #[] #[]))
    (hp : ∀ W, Below w.heap.size w W → Calls Tryz.prog 122 #[.agg #[.string ⟨x.name.toArray⟩, .int .i64 x.ty]] W fun e w' => e = .returned (.bool B) ∧ Below W.heap.size W w') :
    Calls Tryz.prog 155 #[.agg #[.string ⟨x.name.toArray⟩, .int .i64 x.ty], .pointer (some ⟨fb, 0, none⟩)] w fun e w' => e = .returned (.bool !B) ∧ Below w.heap.size w w' := by
  have b0 := (Below.refl w.heap.size w).alloc (Nat.le_refl _) (.cells #[.string ⟨x.name.toArray⟩, .int .i64 x.ty] 56)
  have h1 := hp _ b0
  have hf0 : ∀ o, (w.alloc o).cell? ⟨fb, 0, none⟩ = some (.func (.func 122) #[] #[]) := fun o => (cell_old o hfb).trans hf
  clear hp
  go_enter Tryz.func155, Tryz.ntmps155
  go_wp2_with (go_at_call 122; refine h1.mono ?_; rintro e w1 ⟨rfl, b1⟩)
  go_ret
  exact ⟨rfl, b0.trans (b1.mono (by simp))⟩
theorem idxF_col (b off cap fb : Nat) (l : List (Cl)) (w : World) (hb : b < w.heap.size) (hfb : fb < w.heap.size) (hf : w.cell? ⟨fb, 0, none⟩ = some (.func (.func 122) #[] #[])) (hn : l.length ≤ 1000000000000000)
    (hc : ∀ (k : Nat) x, l[k]? = some x → w.cell? ⟨b, off + k * 2, none⟩ = some (.string ⟨x.name.toArray⟩) ∧ w.cell? ⟨b, off + k * 2 + 1, none⟩ = some (.int .i64 x.ty))
    (hp : ∀ (k : Nat) x, l[k]? = some x → ∀ W, Below w.heap.size w W → Calls Tryz.prog 122 #[.agg #[.string ⟨x.name.toArray⟩, .int .i64 x.ty]] W fun e w' => e = .returned (.bool (colB x)) ∧ Below W.heap.size W w') :
    Calls Tryz.prog 176 #[.slice (some ⟨b, off, none⟩) l.length cap, .func (.func 155) #[] #[.pointer (some ⟨fb, 0, none⟩)]] w fun e w' => (∃ r : Int, e = .returned (.int .i64 r) ∧ (decide (0 ≤ r) = !(l.all colB))) ∧ Below w.heap.size w w' := by
  obtain ⟨n, hl⟩ : ∃ n, l.length = n := ⟨_, rfl⟩
  rw [hl] at hn ⊢
  go_enter Tryz.func176, Tryz.ntmps176
  go_wp2
  go_loopw [8] (fun i wr => ∃ k : Nat, k ≤ n ∧ i = .int .i64 k ∧ Below w.heap.size w wr ∧ Hid (∀ j x, j < k → l[j]? = some x → colB x = true)) (fun i _ => n - (intOf i).toNat)
  case atStart => exact ⟨0, Nat.zero_le _, rfl, Below.refl _ _, fun j _ hj => absurd hj (Nat.not_lt_zero _)⟩
  case round =>
    obtain ⟨k, hk, rfl, hnx, HA⟩ := hrel
    by_cases hlt : k < n
    · obtain ⟨x, hx⟩ : ∃ x, l[k]? = some x := ⟨l[k], List.getElem?_eq_getElem (by omega)⟩
      obtain ⟨e0, e1⟩ := hc k x hx
      have a0 := (hnx.cell (p := ⟨b, off + k * 2, none⟩) hb).trans e0
      have a1 := (hnx.cell (p := ⟨b, off + k * 2 + 1, none⟩) hb).trans e1
      have hlt' : (k : Int) < (n : Int) := by omega
      have hff := (hnx.cell (p := ⟨fb, 0, none⟩) hfb).trans hf
      have hsz := hnx.size
      have hpk := hp k x hx
      have HX : Hid (l[k]? = some x) := hx
      clear hp hc hx e0 e1 hf
      cases hB : colB x
      · rw [hB] at hpk
        have hq := notF_col x fb false wr (by omega) hff fun W hW => hpk W (hnx.trans (hW.mono hsz))
        have HB : Hid (colB x = false) := hB
        clear hpk hB hff
        go_wp2_with (go_at_call 155; refine hq.mono ?_; rintro e w2 ⟨rfl, b2⟩)
        go_ret
        refine ⟨⟨(k : Nat), rfl, ?_⟩, hnx.trans (b2.mono hsz)⟩
        have : l.all colB = false := by
          rw [List.all_eq_false]
          exact ⟨x, List.mem_of_getElem? HX.out, by simp [HB.out]⟩
        rw [this]; simp
      · rw [hB] at hpk
        have hq := notF_col x fb true wr (by omega) hff fun W hW => hpk W (hnx.trans (hW.mono hsz))
        have HB : Hid (colB x = true) := hB
        clear hpk hB hff
        go_wp2_with (go_at_call 155; refine hq.mono ?_; rintro e w2 ⟨rfl, b2⟩)
        go_roundw
        case rel =>
          refine ⟨k + 1, by omega, by go_num, hnx.trans (b2.mono hsz), fun j y hj hy => ?_⟩
          rcases Nat.lt_or_ge j k with h | h
          · exact HA.out j y h hy
          · rw [show j = k by omega, HX.out] at hy; cases hy; exact HB.out
        case measure => simp [intOf]; omega
    · clear hp hc
      go_wp2
      go_ret
      refine ⟨⟨-1, rfl, ?_⟩, hnx⟩
      have : l.all colB = true := by
        rw [List.all_eq_true]
        intro x hx
        obtain ⟨j, hj⟩ := List.mem_iff_getElem?.1 hx
        exact HA.out j x (by have := (List.getElem?_eq_some_iff.1 hj).1; omega) hj
      rw [this]; simp
theorem all_col (b off cap : Nat) (l : List (Cl)) (w : World) (hb : b < w.heap.size) (hn : l.length ≤ 1000000000000000)
    (hc : ∀ (k : Nat) x, l[k]? = some x → w.cell? ⟨b, off + k * 2, none⟩ = some (.string ⟨x.name.toArray⟩) ∧ w.cell? ⟨b, off + k * 2 + 1, none⟩ = some (.int .i64 x.ty))
    (hp : ∀ (k : Nat) x, l[k]? = some x → ∀ W, Below w.heap.size w W → Calls Tryz.prog 122 #[.agg #[.string ⟨x.name.toArray⟩, .int .i64 x.ty]] W fun e w' => e = .returned (.bool (colB x)) ∧ Below W.heap.size W w') :
    Calls Tryz.prog 121 #[.slice (some ⟨b, off, none⟩) l.length cap, .func (.func 122) #[] #[]] w fun e w' => e = .returned (.bool (l.all colB)) ∧ Below w.heap.size w w' := by
  have hm := hmf
  have hi : ∀ t, Calls Tryz.prog 176 #[.slice (some ⟨b, off, none⟩) l.length cap, .func (.func 155) #[] #[.pointer (some ⟨w.heap.size, 0, none⟩)]] (w.alloc (.cells #[.func (.func 122) #[] #[]] t)) fun e w' => (∃ r : Int, e = .returned (.int .i64 r) ∧ (decide (0 ≤ r) = !(l.all colB))) ∧ Below w.heap.size w w' := by
    intro t
    have b0 := (Below.refl w.heap.size w).alloc (Nat.le_refl _) (.cells #[.func (.func 122) #[] #[]] t)
    refine (idxF_col b off cap w.heap.size l _ (by simp; omega) (by simp) (by simp) hn ?_ ?_).mono ?_
    · intro k x hx
      have := hc k x hx
      refine ⟨(cell_old _ hb).trans this.1, (cell_old _ hb).trans this.2⟩
    · intro k x hx W hW
      exact hp k x hx W (b0.trans (hW.mono (by simp)))
    · rintro e w' ⟨hr, hb⟩
      exact ⟨hr, b0.trans (hb.mono (by simp))⟩
  generalize l.all colB = A at hi ⊢
  clear hp hc
  go_enter Tryz.func121, Tryz.ntmps121
  go_wp2_with (first | (go_at_call 154; go_in) | (go_at_call 176; refine (hi _).mono ?_; rintro e w1 ⟨⟨r, rfl, hr⟩, b1⟩))
  go_ret
  exact ⟨ret_bool (by simp), b1⟩
theorem notF_val (x : Vl) (fb : Nat) (B : Bool) (w : World) (hfb : fb < w.heap.size) (hf : w.cell? ⟨fb, 0, none⟩ = some (.func (.func 75) #[] #[]))
    (hp : ∀ W, Below w.heap.size w W → Calls Tryz.prog 75 #[.agg #[.int .i64 x.k, .int .i64 x.n, .string ⟨x.s.toArray⟩]] W fun e w' => e = .returned (.bool B) ∧ Below W.heap.size W w') :
    Calls Tryz.prog 161 #[.agg #[.int .i64 x.k, .int .i64 x.n, .string ⟨x.s.toArray⟩], .pointer (some ⟨fb, 0, none⟩)] w fun e w' => e = .returned (.bool !B) ∧ Below w.heap.size w w' := by
  have b0 := (Below.refl w.heap.size w).alloc (Nat.le_refl _) (.cells #[.int .i64 x.k, .int .i64 x.n, .string ⟨x.s.toArray⟩] 24)
  have h1 := hp _ b0
  have hf0 : ∀ o, (w.alloc o).cell? ⟨fb, 0, none⟩ = some (.func (.func 75) #[] #[]) := fun o => (cell_old o hfb).trans hf
  clear hp
  go_enter Tryz.func161, Tryz.ntmps161
  go_wp2_with (go_at_call 75; refine h1.mono ?_; rintro e w1 ⟨rfl, b1⟩)
  go_ret
  exact ⟨rfl, b0.trans (b1.mono (by simp))⟩
theorem idxF_val (b off cap fb : Nat) (l : List (Vl)) (w : World) (hb : b < w.heap.size) (hfb : fb < w.heap.size) (hf : w.cell? ⟨fb, 0, none⟩ = some (.func (.func 75) #[] #[])) (hn : l.length ≤ 1000000000000000)
    (hc : ∀ (k : Nat) x, l[k]? = some x → w.cell? ⟨b, off + k * 3, none⟩ = some (.int .i64 x.k) ∧ w.cell? ⟨b, off + k * 3 + 1, none⟩ = some (.int .i64 x.n) ∧ w.cell? ⟨b, off + k * 3 + 2, none⟩ = some (.string ⟨x.s.toArray⟩))
    (hp : ∀ (k : Nat) x, l[k]? = some x → ∀ W, Below w.heap.size w W → Calls Tryz.prog 75 #[.agg #[.int .i64 x.k, .int .i64 x.n, .string ⟨x.s.toArray⟩]] W fun e w' => e = .returned (.bool (valB x)) ∧ Below W.heap.size W w') :
    Calls Tryz.prog 177 #[.slice (some ⟨b, off, none⟩) l.length cap, .func (.func 161) #[] #[.pointer (some ⟨fb, 0, none⟩)]] w fun e w' => (∃ r : Int, e = .returned (.int .i64 r) ∧ (decide (0 ≤ r) = !(l.all valB))) ∧ Below w.heap.size w w' := by
  obtain ⟨n, hl⟩ : ∃ n, l.length = n := ⟨_, rfl⟩
  rw [hl] at hn ⊢
  go_enter Tryz.func177, Tryz.ntmps177
  go_wp2
  go_loopw [8] (fun i wr => ∃ k : Nat, k ≤ n ∧ i = .int .i64 k ∧ Below w.heap.size w wr ∧ Hid (∀ j x, j < k → l[j]? = some x → valB x = true)) (fun i _ => n - (intOf i).toNat)
  case atStart => exact ⟨0, Nat.zero_le _, rfl, Below.refl _ _, fun j _ hj => absurd hj (Nat.not_lt_zero _)⟩
  case round =>
    obtain ⟨k, hk, rfl, hnx, HA⟩ := hrel
    by_cases hlt : k < n
    · obtain ⟨x, hx⟩ : ∃ x, l[k]? = some x := ⟨l[k], List.getElem?_eq_getElem (by omega)⟩
      obtain ⟨e0, e1, e2⟩ := hc k x hx
      have a0 := (hnx.cell (p := ⟨b, off + k * 3, none⟩) hb).trans e0
      have a1 := (hnx.cell (p := ⟨b, off + k * 3 + 1, none⟩) hb).trans e1
      have a2 := (hnx.cell (p := ⟨b, off + k * 3 + 2, none⟩) hb).trans e2
      have hlt' : (k : Int) < (n : Int) := by omega
      have hff := (hnx.cell (p := ⟨fb, 0, none⟩) hfb).trans hf
      have hsz := hnx.size
      have hpk := hp k x hx
      have HX : Hid (l[k]? = some x) := hx
      clear hp hc hx e0 e1 e2 hf
      cases hB : valB x
      · rw [hB] at hpk
        have hq := notF_val x fb false wr (by omega) hff fun W hW => hpk W (hnx.trans (hW.mono hsz))
        have HB : Hid (valB x = false) := hB
        clear hpk hB hff
        go_wp2_with (go_at_call 161; refine hq.mono ?_; rintro e w2 ⟨rfl, b2⟩)
        go_ret
        refine ⟨⟨(k : Nat), rfl, ?_⟩, hnx.trans (b2.mono hsz)⟩
        have : l.all valB = false := by
          rw [List.all_eq_false]
          exact ⟨x, List.mem_of_getElem? HX.out, by simp [HB.out]⟩
        rw [this]; simp
      · rw [hB] at hpk
        have hq := notF_val x fb true wr (by omega) hff fun W hW => hpk W (hnx.trans (hW.mono hsz))
        have HB : Hid (valB x = true) := hB
        clear hpk hB hff
        go_wp2_with (go_at_call 161; refine hq.mono ?_; rintro e w2 ⟨rfl, b2⟩)
        go_roundw
        case rel =>
          refine ⟨k + 1, by omega, by go_num, hnx.trans (b2.mono hsz), fun j y hj hy => ?_⟩
          rcases Nat.lt_or_ge j k with h | h
          · exact HA.out j y h hy
          · rw [show j = k by omega, HX.out] at hy; cases hy; exact HB.out
        case measure => simp [intOf]; omega
    · clear hp hc
      go_wp2
      go_ret
      refine ⟨⟨-1, rfl, ?_⟩, hnx⟩
      have : l.all valB = true := by
        rw [List.all_eq_true]
        intro x hx
        obtain ⟨j, hj⟩ := List.mem_iff_getElem?.1 hx
        exact HA.out j x (by have := (List.getElem?_eq_some_iff.1 hj).1; omega) hj
      rw [this]; simp
theorem all_val (b off cap : Nat) (l : List (Vl)) (w : World) (hb : b < w.heap.size) (hn : l.length ≤ 1000000000000000)
    (hc : ∀ (k : Nat) x, l[k]? = some x → w.cell? ⟨b, off + k * 3, none⟩ = some (.int .i64 x.k) ∧ w.cell? ⟨b, off + k * 3 + 1, none⟩ = some (.int .i64 x.n) ∧ w.cell? ⟨b, off + k * 3 + 2, none⟩ = some (.string ⟨x.s.toArray⟩))
    (hp : ∀ (k : Nat) x, l[k]? = some x → ∀ W, Below w.heap.size w W → Calls Tryz.prog 75 #[.agg #[.int .i64 x.k, .int .i64 x.n, .string ⟨x.s.toArray⟩]] W fun e w' => e = .returned (.bool (valB x)) ∧ Below W.heap.size W w') :
    Calls Tryz.prog 125 #[.slice (some ⟨b, off, none⟩) l.length cap, .func (.func 75) #[] #[]] w fun e w' => e = .returned (.bool (l.all valB)) ∧ Below w.heap.size w w' := by
  have hm := hmf
  have hi : ∀ t, Calls Tryz.prog 177 #[.slice (some ⟨b, off, none⟩) l.length cap, .func (.func 161) #[] #[.pointer (some ⟨w.heap.size, 0, none⟩)]] (w.alloc (.cells #[.func (.func 75) #[] #[]] t)) fun e w' => (∃ r : Int, e = .returned (.int .i64 r) ∧ (decide (0 ≤ r) = !(l.all valB))) ∧ Below w.heap.size w w' := by
    intro t
    have b0 := (Below.refl w.heap.size w).alloc (Nat.le_refl _) (.cells #[.func (.func 75) #[] #[]] t)
    refine (idxF_val b off cap w.heap.size l _ (by simp; omega) (by simp) (by simp) hn ?_ ?_).mono ?_
    · intro k x hx
      have := hc k x hx
      refine ⟨(cell_old _ hb).trans this.1, (cell_old _ hb).trans this.2.1, (cell_old _ hb).trans this.2.2⟩
    · intro k x hx W hW
      exact hp k x hx W (b0.trans (hW.mono (by simp)))
    · rintro e w' ⟨hr, hb⟩
      exact ⟨hr, b0.trans (hb.mono (by simp))⟩
  generalize l.all valB = A at hi ⊢
  clear hp hc
  go_enter Tryz.func125, Tryz.ntmps125
  go_wp2_with (first | (go_at_call 160; go_in) | (go_at_call 177; refine (hi _).mono ?_; rintro e w1 ⟨⟨r, rfl, hr⟩, b1⟩))
  go_ret
  exact ⟨ret_bool (by simp), b1⟩
theorem notF_exp (ao : Option Addr) (na ca : Nat) (x : Ex) (fb : Nat) (B : Bool) (w : World) (hfb : fb < w.heap.size) (hf : w.cell? ⟨fb, 0, none⟩ = some (.func (.func 78) #[] #[]))
    (hp : ∀ W, Below w.heap.size w W → Calls Tryz.prog 78 #[.agg #[.int .i64 x.k, .int .i64 x.v.k, .int .i64 x.v.n, .string ⟨x.v.s.toArray⟩, .string ⟨x.nm.toArray⟩, .slice ao na ca]] W fun e w' => e = .returned (.bool B) ∧ Below W.heap.size W w') :
    Calls Tryz.prog 164 #[.agg #[.int .i64 x.k, .int .i64 x.v.k, .int .i64 x.v.n, .string ⟨x.v.s.toArray⟩, .string ⟨x.nm.toArray⟩, .slice ao na ca], .pointer (some ⟨fb, 0, none⟩)] w fun e w' => e = .returned (.bool !B) ∧ Below w.heap.size w w' := by
  have b0 := (Below.refl w.heap.size w).alloc (Nat.le_refl _) (.cells #[.int .i64 x.k, .int .i64 x.v.k, .int .i64 x.v.n, .string ⟨x.v.s.toArray⟩, .string ⟨x.nm.toArray⟩, .slice ao na ca] 29)
  have h1 := hp _ b0
  have hf0 : ∀ o, (w.alloc o).cell? ⟨fb, 0, none⟩ = some (.func (.func 78) #[] #[]) := fun o => (cell_old o hfb).trans hf
  clear hp
  go_enter Tryz.func164, Tryz.ntmps164
  go_wp2_with (go_at_call 78; refine h1.mono ?_; rintro e w1 ⟨rfl, b1⟩)
  go_ret
  exact ⟨rfl, b0.trans (b1.mono (by simp))⟩
theorem idxF_exp (ao : Nat → Option Addr) (na ca : Nat → Nat) (pp : Ex → Bool) (b off cap fb : Nat) (l : List (Ex)) (w : World) (hb : b < w.heap.size) (hfb : fb < w.heap.size) (hf : w.cell? ⟨fb, 0, none⟩ = some (.func (.func 78) #[] #[])) (hn : l.length ≤ 1000000000000000)
    (hc : ∀ (k : Nat) x, l[k]? = some x → w.cell? ⟨b, off + k * 6, none⟩ = some (.int .i64 x.k) ∧ w.cell? ⟨b, off + k * 6 + 1, none⟩ = some (.int .i64 x.v.k) ∧ w.cell? ⟨b, off + k * 6 + 2, none⟩ = some (.int .i64 x.v.n) ∧ w.cell? ⟨b, off + k * 6 + 3, none⟩ = some (.string ⟨x.v.s.toArray⟩) ∧ w.cell? ⟨b, off + k * 6 + 4, none⟩ = some (.string ⟨x.nm.toArray⟩) ∧ w.cell? ⟨b, off + k * 6 + 5, none⟩ = some (.slice (ao k) (na k) (ca k)))
    (hp : ∀ (k : Nat) x, l[k]? = some x → ∀ W, Below w.heap.size w W → Calls Tryz.prog 78 #[.agg #[.int .i64 x.k, .int .i64 x.v.k, .int .i64 x.v.n, .string ⟨x.v.s.toArray⟩, .string ⟨x.nm.toArray⟩, .slice (ao k) (na k) (ca k)]] W fun e w' => e = .returned (.bool (pp x)) ∧ Below W.heap.size W w') :
    Calls Tryz.prog 178 #[.slice (some ⟨b, off, none⟩) l.length cap, .func (.func 164) #[] #[.pointer (some ⟨fb, 0, none⟩)]] w fun e w' => (∃ r : Int, e = .returned (.int .i64 r) ∧ (decide (0 ≤ r) = !(l.all pp))) ∧ Below w.heap.size w w' := by
  obtain ⟨n, hl⟩ : ∃ n, l.length = n := ⟨_, rfl⟩
  rw [hl] at hn ⊢
  go_enter Tryz.func178, Tryz.ntmps178
  go_wp2
  go_loopw [8] (fun i wr => ∃ k : Nat, k ≤ n ∧ i = .int .i64 k ∧ Below w.heap.size w wr ∧ Hid (∀ j x, j < k → l[j]? = some x → pp x = true)) (fun i _ => n - (intOf i).toNat)
  case atStart => exact ⟨0, Nat.zero_le _, rfl, Below.refl _ _, fun j _ hj => absurd hj (Nat.not_lt_zero _)⟩
  case round =>
    obtain ⟨k, hk, rfl, hnx, HA⟩ := hrel
    by_cases hlt : k < n
    · obtain ⟨x, hx⟩ : ∃ x, l[k]? = some x := ⟨l[k], List.getElem?_eq_getElem (by omega)⟩
      obtain ⟨e0, e1, e2, e3, e4, e5⟩ := hc k x hx
      have a0 := (hnx.cell (p := ⟨b, off + k * 6, none⟩) hb).trans e0
      have a1 := (hnx.cell (p := ⟨b, off + k * 6 + 1, none⟩) hb).trans e1
      have a2 := (hnx.cell (p := ⟨b, off + k * 6 + 2, none⟩) hb).trans e2
      have a3 := (hnx.cell (p := ⟨b, off + k * 6 + 3, none⟩) hb).trans e3
      have a4 := (hnx.cell (p := ⟨b, off + k * 6 + 4, none⟩) hb).trans e4
      have a5 := (hnx.cell (p := ⟨b, off + k * 6 + 5, none⟩) hb).trans e5
      have hlt' : (k : Int) < (n : Int) := by omega
      have hff := (hnx.cell (p := ⟨fb, 0, none⟩) hfb).trans hf
      have hsz := hnx.size
      have hpk := hp k x hx
      have HX : Hid (l[k]? = some x) := hx
      clear hp hc hx e0 e1 e2 e3 e4 e5 hf
      cases hB : pp x
      · rw [hB] at hpk
        have hq := notF_exp (ao k) (na k) (ca k) x fb false wr (by omega) hff fun W hW => hpk W (hnx.trans (hW.mono hsz))
        have HB : Hid (pp x = false) := hB
        clear hpk hB hff
        go_wp2_with (go_at_call 164; refine hq.mono ?_; rintro e w2 ⟨rfl, b2⟩)
        go_ret
        refine ⟨⟨(k : Nat), rfl, ?_⟩, hnx.trans (b2.mono hsz)⟩
        have : l.all pp = false := by
          rw [List.all_eq_false]
          exact ⟨x, List.mem_of_getElem? HX.out, by simp [HB.out]⟩
        rw [this]; simp
      · rw [hB] at hpk
        have hq := notF_exp (ao k) (na k) (ca k) x fb true wr (by omega) hff fun W hW => hpk W (hnx.trans (hW.mono hsz))
        have HB : Hid (pp x = true) := hB
        clear hpk hB hff
        go_wp2_with (go_at_call 164; refine hq.mono ?_; rintro e w2 ⟨rfl, b2⟩)
        go_roundw
        case rel =>
          refine ⟨k + 1, by omega, by go_num, hnx.trans (b2.mono hsz), fun j y hj hy => ?_⟩
          rcases Nat.lt_or_ge j k with h | h
          · exact HA.out j y h hy
          · rw [show j = k by omega, HX.out] at hy; cases hy; exact HB.out
        case measure => simp [intOf]; omega
    · clear hp hc
      go_wp2
      go_ret
      refine ⟨⟨-1, rfl, ?_⟩, hnx⟩
      have : l.all pp = true := by
        rw [List.all_eq_true]
        intro x hx
        obtain ⟨j, hj⟩ := List.mem_iff_getElem?.1 hx
        exact HA.out j x (by have := (List.getElem?_eq_some_iff.1 hj).1; omega) hj
      rw [this]; simp
theorem all_exp (ao : Nat → Option Addr) (na ca : Nat → Nat) (pp : Ex → Bool) (b off cap : Nat) (l : List (Ex)) (w : World) (hb : b < w.heap.size) (hn : l.length ≤ 1000000000000000)
    (hc : ∀ (k : Nat) x, l[k]? = some x → w.cell? ⟨b, off + k * 6, none⟩ = some (.int .i64 x.k) ∧ w.cell? ⟨b, off + k * 6 + 1, none⟩ = some (.int .i64 x.v.k) ∧ w.cell? ⟨b, off + k * 6 + 2, none⟩ = some (.int .i64 x.v.n) ∧ w.cell? ⟨b, off + k * 6 + 3, none⟩ = some (.string ⟨x.v.s.toArray⟩) ∧ w.cell? ⟨b, off + k * 6 + 4, none⟩ = some (.string ⟨x.nm.toArray⟩) ∧ w.cell? ⟨b, off + k * 6 + 5, none⟩ = some (.slice (ao k) (na k) (ca k)))
    (hp : ∀ (k : Nat) x, l[k]? = some x → ∀ W, Below w.heap.size w W → Calls Tryz.prog 78 #[.agg #[.int .i64 x.k, .int .i64 x.v.k, .int .i64 x.v.n, .string ⟨x.v.s.toArray⟩, .string ⟨x.nm.toArray⟩, .slice (ao k) (na k) (ca k)]] W fun e w' => e = .returned (.bool (pp x)) ∧ Below W.heap.size W w') :
    Calls Tryz.prog 129 #[.slice (some ⟨b, off, none⟩) l.length cap, .func (.func 78) #[] #[]] w fun e w' => e = .returned (.bool (l.all pp)) ∧ Below w.heap.size w w' := by
  have hm := hmf
  have hi : ∀ t, Calls Tryz.prog 178 #[.slice (some ⟨b, off, none⟩) l.length cap, .func (.func 164) #[] #[.pointer (some ⟨w.heap.size, 0, none⟩)]] (w.alloc (.cells #[.func (.func 78) #[] #[]] t)) fun e w' => (∃ r : Int, e = .returned (.int .i64 r) ∧ (decide (0 ≤ r) = !(l.all pp))) ∧ Below w.heap.size w w' := by
    intro t
    have b0 := (Below.refl w.heap.size w).alloc (Nat.le_refl _) (.cells #[.func (.func 78) #[] #[]] t)
    refine (idxF_exp ao na ca pp b off cap w.heap.size l _ (by simp; omega) (by simp) (by simp) hn ?_ ?_).mono ?_
    · intro k x hx
      have := hc k x hx
      refine ⟨(cell_old _ hb).trans this.1, (cell_old _ hb).trans this.2.1, (cell_old _ hb).trans this.2.2.1, (cell_old _ hb).trans this.2.2.2.1, (cell_old _ hb).trans this.2.2.2.2.1, (cell_old _ hb).trans this.2.2.2.2.2⟩
    · intro k x hx W hW
      exact hp k x hx W (b0.trans (hW.mono (by simp)))
    · rintro e w' ⟨hr, hb⟩
      exact ⟨hr, b0.trans (hb.mono (by simp))⟩
  generalize l.all pp = A at hi ⊢
  clear hp hc
  go_enter Tryz.func129, Tryz.ntmps129
  go_wp2_with (first | (go_at_call 163; go_in) | (go_at_call 178; refine (hi _).mono ?_; rintro e w1 ⟨⟨r, rfl, hr⟩, b1⟩))
  go_ret
  exact ⟨ret_bool (by simp), b1⟩
theorem Tryz.fields24 : (Tryz.prog.fieldsOf 24).toList.map (fun f => (f.name, f.type, f.offset)) = [("Kind", 3, 0), ("N", 3, 1), ("S", 9, 2)] := by kernel_rfl
theorem Tryz.under24 : Tryz.prog.underlying 24 = some (.struct (Tryz.prog.fieldsOf 24)) := by kernel_rfl
theorem Tryz.stood24 : Tryz.prog.stoodInHeld 24 = false := by kernel_rfl
theorem eql24 (k a k' a' : Int) (t t' : ByteArray) (w : World) :
    (binOp .eql 24 (.agg #[.int .i64 k, .int .i64 a, .string t]) (.agg #[.int .i64 k', .int .i64 a', .string t'])).run Tryz.prog w = .ok (.bool (sameTk k a t k' a' t')) w := by
  rw [run_eql_struct, run_equalIn_struct w 9999 24 _ _ Tryz.under24 Tryz.stood24]
  obtain ⟨f0, f1, f2, hf, n0, t0, o0, n1, t1, o1, n2, t2, o2⟩ := fields_three Tryz.fields24
  rw [hf]
  simp [Op.eqFields, n0, t0, o0, n1, t1, o1, n2, t2, o2, go_sem]
  unfold sameTk
  by_cases h1 : k = k' <;> by_cases h2 : a = a' <;> by_cases h3 : t.toList = t'.toList <;> simp [h1, h2, h3]
def noneV (x : Vl) : Bool := decide (x.k = 0) && decide (x.n = 0) && decide (x.s = [])
theorem same0 (x : Vl) : sameTk x.k x.n ⟨x.s.toArray⟩ 0 0 ⟨#[]⟩ = noneV x := by
  unfold sameTk noneV
  have e1 : (⟨x.s.toArray⟩ : ByteArray).toList = x.s := by rw [Lib.toList_data]
  have e2 : (⟨#[]⟩ : ByteArray).toList = [] := by rw [Lib.toList_data]
  rw [e1, e2, Bool.eq_iff_iff]
  simp
def Ex.args : Ex → List Ex | .mk _ _ _ a => a
def noneE (x : Ex) : Bool := decide (x.k = 0) && noneV x.v && decide (x.nm = []) && decide (x.args = [])
theorem isNone_any (x : Ex) (ao : Option Addr) (ca : Nat) (w : World) :
    Calls Tryz.prog 79 #[.agg #[.int .i64 x.k, .int .i64 x.v.k, .int .i64 x.v.n, .string ⟨x.v.s.toArray⟩, .string ⟨x.nm.toArray⟩, .slice ao x.args.length ca]] w fun e w' => e = .returned (.bool (noneE x)) ∧ Below w.heap.size w w' := by
  have hq := eql24
  have hs := same0 x.v
  unfold noneE
  generalize noneV x.v = B at hs ⊢
  have hk : (x.k == 0) = decide (x.k = 0) := by rw [Bool.eq_iff_iff]; simp
  have hn : x.nm.isEmpty = decide (x.nm = []) := by cases x.nm <;> simp
  have ha : ((x.args.length : Int) == 0) = decide (x.args = []) := by rw [Bool.eq_iff_iff]; cases x.args <;> simp; omega
  generalize decide (x.k = 0) = K at hk ⊢
  generalize decide (x.nm = []) = M at hn ⊢
  generalize decide (x.args = []) = A at ha ⊢
  cases K <;> cases B <;> cases M
  all_goals
    go_enter Tryz.func79, Tryz.ntmps79
    go_wp2
    go_ret
    refine ⟨ret_bool ?_, (Below.refl _ _).alloc (Nat.le_refl _) _⟩
    first | rfl | simp_all
theorem isExpr_1 (k : Int) (x : Vl) (nm : List UInt8) (ao : Option Addr) (n ca : Nat) (w : World) (hk : k = 1) (hs : x.s.length ≤ 140737488355328) :
    Calls Tryz.prog 78 #[.agg #[.int .i64 k, .int .i64 x.k, .int .i64 x.n, .string ⟨x.s.toArray⟩, .string ⟨nm.toArray⟩, .slice ao n ca]] w fun e w' => e = .returned (.bool (valB x && decide (nm = []) && decide (n = 0))) ∧ Below w.heap.size w w' := by
  subst hk
  have b0 := (Below.refl w.heap.size w).alloc (Nat.le_refl _) (.cells #[.int .i64 1, .int .i64 x.k, .int .i64 x.n, .string ⟨x.s.toArray⟩, .string ⟨nm.toArray⟩, .slice ao n ca] 29)
  have h := isValue_any x (w.alloc (.cells #[.int .i64 1, .int .i64 x.k, .int .i64 x.n, .string ⟨x.s.toArray⟩, .string ⟨nm.toArray⟩, .slice ao n ca] 29)) hs
  generalize valB x = B at h ⊢
  have hn : nm.isEmpty = decide (nm = []) := by cases nm <;> simp
  have ha : ((n : Int) == 0) = decide (n = 0) := by rw [Bool.eq_iff_iff]; simp
  generalize decide (nm = []) = M at hn ⊢
  generalize decide (n = 0) = A at ha ⊢
  cases B <;> cases M
  all_goals
    go_enter Tryz.func78, Tryz.ntmps78
    go_wp2_with (go_at_call 75; refine h.mono ?_; rintro e w1 ⟨rfl, b1⟩; have d4 : w1.cell? ⟨w.heap.size, 4, none⟩ = some (.string ⟨nm.toArray⟩) := (b1.cell (by simp)).trans (by simp); have d5 : w1.cell? ⟨w.heap.size, 5, none⟩ = some (.slice ao n ca) := (b1.cell (by simp)).trans (by simp))
    go_ret
    refine ⟨ret_bool ?_, b0.trans (b1.mono (by simp))⟩
    first | rfl | simp_all
theorem isExpr_2 (k : Int) (x : Vl) (nm : List UInt8) (ao : Option Addr) (n ca : Nat) (w : World) (hk : k = 2) (hs : nm.length ≤ 140737488355328) (hl : Laid w) :
    Calls Tryz.prog 78 #[.agg #[.int .i64 k, .int .i64 x.k, .int .i64 x.n, .string ⟨x.s.toArray⟩, .string ⟨nm.toArray⟩, .slice ao n ca]] w fun e w' => e = .returned (.bool (noneV x && nameW nm && decide (n = 0))) ∧ Below w.heap.size w w' := by
  subst hk
  have b0 := (Below.refl w.heap.size w).alloc (Nat.le_refl _) (.cells #[.int .i64 2, .int .i64 x.k, .int .i64 x.n, .string ⟨x.s.toArray⟩, .string ⟨nm.toArray⟩, .slice ao n ca] 29)
  have h := isName_any ⟨nm.toArray⟩ (w.alloc (.cells #[.int .i64 2, .int .i64 x.k, .int .i64 x.n, .string ⟨x.s.toArray⟩, .string ⟨nm.toArray⟩, .slice ao n ca] 29)) (by rw [size_mk]; exact hs) (hl.below b0)
  have e0 : (⟨nm.toArray⟩ : ByteArray).data.toList = nm := by simp
  rw [e0] at h
  have hq := eql24
  have hv := same0 x
  generalize noneV x = B at hv ⊢
  generalize nameW nm = M at h ⊢
  have ha : ((n : Int) == 0) = decide (n = 0) := by rw [Bool.eq_iff_iff]; simp
  generalize decide (n = 0) = A at ha ⊢
  cases B
  · go_enter Tryz.func78, Tryz.ntmps78
    go_wp2_with fail
    go_ret
    exact ⟨ret_bool (by first | rfl | simp_all), b0⟩
  · cases M
    all_goals
      go_enter Tryz.func78, Tryz.ntmps78
      go_wp2_with (go_at_call 72; refine h.mono ?_; rintro e w1 ⟨rfl, b1⟩; have d5 : w1.cell? ⟨w.heap.size, 5, none⟩ = some (.slice ao n ca) := (b1.cell (by simp)).trans (by simp))
      go_ret
      refine ⟨ret_bool ?_, b0.trans (b1.mono (by simp))⟩
      first | rfl | simp_all
theorem keep6 {w W W' : World} {k : Int} {x : Vl} {nm : List UInt8} {ao : Option Addr} {n ca : Nat}
    (h : W.cell? ⟨w.heap.size, 0, none⟩ = some (.int .i64 k) ∧ W.cell? ⟨w.heap.size, 1, none⟩ = some (.int .i64 x.k) ∧ W.cell? ⟨w.heap.size, 2, none⟩ = some (.int .i64 x.n) ∧ W.cell? ⟨w.heap.size, 3, none⟩ = some (.string ⟨x.s.toArray⟩) ∧ W.cell? ⟨w.heap.size, 4, none⟩ = some (.string ⟨nm.toArray⟩) ∧ W.cell? ⟨w.heap.size, 5, none⟩ = some (.slice ao n ca) ∧ Below w.heap.size w W ∧ w.heap.size < W.heap.size) (hb : Below W.heap.size W W') :
    W'.cell? ⟨w.heap.size, 0, none⟩ = some (.int .i64 k) ∧ W'.cell? ⟨w.heap.size, 1, none⟩ = some (.int .i64 x.k) ∧ W'.cell? ⟨w.heap.size, 2, none⟩ = some (.int .i64 x.n) ∧ W'.cell? ⟨w.heap.size, 3, none⟩ = some (.string ⟨x.s.toArray⟩) ∧ W'.cell? ⟨w.heap.size, 4, none⟩ = some (.string ⟨nm.toArray⟩) ∧ W'.cell? ⟨w.heap.size, 5, none⟩ = some (.slice ao n ca) ∧ Below w.heap.size w W' ∧ w.heap.size < W'.heap.size := by
  obtain ⟨h0, h1, h2, h3, h4, h5, h6, h7⟩ := h
  exact ⟨(hb.cell h7).trans h0, (hb.cell h7).trans h1, (hb.cell h7).trans h2, (hb.cell h7).trans h3, (hb.cell h7).trans h4, (hb.cell h7).trans h5, h6.trans (hb.mono h6.size), Nat.lt_of_lt_of_le h7 hb.size⟩
theorem isExpr_o (k : Int) (x : Vl) (nm : List UInt8) (ao : Option Addr) (n ca : Nat) (w : World) (h1 : (k == 1) = false) (h2 : (k == 2) = false) (B M : Bool) (hv : sameTk x.k x.n ⟨x.s.toArray⟩ 0 0 ⟨#[]⟩ = B) (hn : nm.isEmpty = M) (hoff : B = false ∨ M = false ∨ n = 0) :
    Calls Tryz.prog 78 #[.agg #[.int .i64 k, .int .i64 x.k, .int .i64 x.n, .string ⟨x.s.toArray⟩, .string ⟨nm.toArray⟩, .slice ao n ca]] w fun e w' => e = .returned (.bool false) ∧ Below w.heap.size w w' := by
  have b0 := (Below.refl w.heap.size w).alloc (Nat.le_refl _) (.cells #[.int .i64 k, .int .i64 x.k, .int .i64 x.n, .string ⟨x.s.toArray⟩, .string ⟨nm.toArray⟩, .slice ao n ca] 29)
  have hq := eql24
  cases B
  · clear hoff
    go_enter Tryz.func78, Tryz.ntmps78
    go_wp2_with fail
    go_quiet (fail)
    go_wp2
    go_ret
    exact ⟨rfl, below_drewN b0 _⟩
  · cases M
    · clear hoff
      go_enter Tryz.func78, Tryz.ntmps78
      go_wp2_with fail
      go_quiet (fail)
      go_wp2
      go_ret
      exact ⟨rfl, below_drewN b0 _⟩
    · have h0 : n = 0 := by simpa using hoff
      subst h0
      clear hoff
      go_enter Tryz.func78, Tryz.ntmps78
      go_wp2_with fail
      go_quiet (fail)
      go_wp2
      go_ret
      exact ⟨rfl, below_drewN b0 _⟩
theorem take_at {P : Program} {ops : Array Oper} {Q : Exit → Act → World → Prop} {md : Region.Mode} {S : World → Prop} (i d : Nat) {oi : Oper} {v : Value} {fuel : Nat} {listed : Array Bool} {a : Act} {w : World} (hi : ops[i]? = some oi) (hd : oi.dst = some d)
    (hs : Region.noSelect ops = true) (hf : Region.free md ops listed i = true) (hr : (Region.ready md ops listed).contains i = true)
    (hQ : ∀ c a w, Q (.panic c) (a.put (some d) v) w → Q (.panic c) a w) (hy : YieldsIf P ops S oi v a) (hS : S w)
    (h : wpAnyH P md ops Q S fuel (listed.setIfInBounds i true) { tmps := a.tmps.setIfInBounds d v, defers := a.defers } w) : wpAnyH P md ops Q S (fuel + 1) listed a w :=
  wpAnyH_take hi hs hf hr (by rw [hd]; exact hQ) hy hS (by rw [hd]; exact h)
theorem isExpr_n (k : Int) (x : Vl) (nm : List UInt8) (ao : Option Addr) (n ca : Nat) (w : World) (h1 : (k == 1) = false) (h2 : (k == 2) = false) (hv : sameTk x.k x.n ⟨x.s.toArray⟩ 0 0 ⟨#[]⟩ = true) (hn : nm.isEmpty = true) (h0 : 0 < n) (r : Nat) (hr : ((n : Int) == (r : Int)) = false)
    (ha : ∀ W, Calls Tryz.prog 128 #[.int .i64 k] W fun e w' => e = .returned (.int .i64 (r : Int)) ∧ Below W.heap.size W w') :
    Calls Tryz.prog 78 #[.agg #[.int .i64 k, .int .i64 x.k, .int .i64 x.n, .string ⟨x.s.toArray⟩, .string ⟨nm.toArray⟩, .slice ao n ca]] w fun e w' => e = .returned (.bool false) ∧ Below w.heap.size w w' := by
  have b0 := (Below.refl w.heap.size w).alloc (Nat.le_refl _) (.cells #[.int .i64 k, .int .i64 x.k, .int .i64 x.n, .string ⟨x.s.toArray⟩, .string ⟨nm.toArray⟩, .slice ao n ca] 29)
  have hq := eql24
  have h0' : (0 : Int) < (n : Int) := by omega
  have hr2 : (n == r) = false := by rw [beq_eq_false_iff_ne] at hr ⊢; omega
  have hr3 : ¬ n = r := by rw [beq_eq_false_iff_ne] at hr; omega
  have hr4 : decide (n = r) = false := by simpa using hr3
  have hr5 : ¬ (n : Int) = (r : Int) := by omega
  have hr6 : decide ((n : Int) = (r : Int)) = false := by simpa using hr5
  have hd0 : decide ((0 : Int) < (n : Int)) = true := by simpa using h0
  have hd1 : decide (0 < n) = true := by simpa using h0
  have y0 : (w.alloc (.cells #[.int .i64 k, .int .i64 x.k, .int .i64 x.n, .string ⟨x.s.toArray⟩, .string ⟨nm.toArray⟩, .slice ao n ca] 29)).drew.cell? ⟨w.heap.size, 0, none⟩ = some (.int .i64 k) := (Lib.cell_of_heap (heap_alloc_new w (.cells #[.int .i64 k, .int .i64 x.k, .int .i64 x.n, .string ⟨x.s.toArray⟩, .string ⟨nm.toArray⟩, .slice ao n ca] 29)) 0).trans rfl
  have y1 : (w.alloc (.cells #[.int .i64 k, .int .i64 x.k, .int .i64 x.n, .string ⟨x.s.toArray⟩, .string ⟨nm.toArray⟩, .slice ao n ca] 29)).drew.cell? ⟨w.heap.size, 1, none⟩ = some (.int .i64 x.k) := (Lib.cell_of_heap (heap_alloc_new w (.cells #[.int .i64 k, .int .i64 x.k, .int .i64 x.n, .string ⟨x.s.toArray⟩, .string ⟨nm.toArray⟩, .slice ao n ca] 29)) 1).trans rfl
  have y2 : (w.alloc (.cells #[.int .i64 k, .int .i64 x.k, .int .i64 x.n, .string ⟨x.s.toArray⟩, .string ⟨nm.toArray⟩, .slice ao n ca] 29)).drew.cell? ⟨w.heap.size, 2, none⟩ = some (.int .i64 x.n) := (Lib.cell_of_heap (heap_alloc_new w (.cells #[.int .i64 k, .int .i64 x.k, .int .i64 x.n, .string ⟨x.s.toArray⟩, .string ⟨nm.toArray⟩, .slice ao n ca] 29)) 2).trans rfl
  have y3 : (w.alloc (.cells #[.int .i64 k, .int .i64 x.k, .int .i64 x.n, .string ⟨x.s.toArray⟩, .string ⟨nm.toArray⟩, .slice ao n ca] 29)).drew.cell? ⟨w.heap.size, 3, none⟩ = some (.string ⟨x.s.toArray⟩) := (Lib.cell_of_heap (heap_alloc_new w (.cells #[.int .i64 k, .int .i64 x.k, .int .i64 x.n, .string ⟨x.s.toArray⟩, .string ⟨nm.toArray⟩, .slice ao n ca] 29)) 3).trans rfl
  have y4 : (w.alloc (.cells #[.int .i64 k, .int .i64 x.k, .int .i64 x.n, .string ⟨x.s.toArray⟩, .string ⟨nm.toArray⟩, .slice ao n ca] 29)).drew.cell? ⟨w.heap.size, 4, none⟩ = some (.string ⟨nm.toArray⟩) := (Lib.cell_of_heap (heap_alloc_new w (.cells #[.int .i64 k, .int .i64 x.k, .int .i64 x.n, .string ⟨x.s.toArray⟩, .string ⟨nm.toArray⟩, .slice ao n ca] 29)) 4).trans rfl
  have y5 : (w.alloc (.cells #[.int .i64 k, .int .i64 x.k, .int .i64 x.n, .string ⟨x.s.toArray⟩, .string ⟨nm.toArray⟩, .slice ao n ca] 29)).drew.cell? ⟨w.heap.size, 5, none⟩ = some (.slice ao n ca) := (Lib.cell_of_heap (heap_alloc_new w (.cells #[.int .i64 k, .int .i64 x.k, .int .i64 x.n, .string ⟨x.s.toArray⟩, .string ⟨nm.toArray⟩, .slice ao n ca] 29)) 5).trans rfl
  have yl : w.heap.size < (w.alloc (.cells #[.int .i64 k, .int .i64 x.k, .int .i64 x.n, .string ⟨x.s.toArray⟩, .string ⟨nm.toArray⟩, .slice ao n ca] 29)).drew.heap.size := (Array.getElem?_eq_some_iff.1 (heap_alloc_new w (.cells #[.int .i64 k, .int .i64 x.k, .int .i64 x.n, .string ⟨x.s.toArray⟩, .string ⟨nm.toArray⟩, .slice ao n ca] 29))).1
  have yb : Below w.heap.size w (w.alloc (.cells #[.int .i64 k, .int .i64 x.k, .int .i64 x.n, .string ⟨x.s.toArray⟩, .string ⟨nm.toArray⟩, .slice ao n ca] 29)).drew := b0.drew
  go_enter Tryz.func78, Tryz.ntmps78
  go_wp2_with fail
  refine wp_region_held_drew (S := (fun w' => w'.cell? ⟨w.heap.size, 0, none⟩ = some (.int .i64 k) ∧ w'.cell? ⟨w.heap.size, 1, none⟩ = some (.int .i64 x.k) ∧ w'.cell? ⟨w.heap.size, 2, none⟩ = some (.int .i64 x.n) ∧ w'.cell? ⟨w.heap.size, 3, none⟩ = some (.string ⟨x.s.toArray⟩) ∧ w'.cell? ⟨w.heap.size, 4, none⟩ = some (.string ⟨nm.toArray⟩) ∧ w'.cell? ⟨w.heap.size, 5, none⟩ = some (.slice ao n ca) ∧ Below w.heap.size w w' ∧ w.heap.size < w'.heap.size)) (by kernel_rfl) ⟨y0, y1, y2, y3, y4, y5, yb, yl⟩ (fun hHeld => ?_)
  refine take_at 0 38 (v := ?_) (by simp only [List.getElem?_toArray, List.getElem?_cons_zero]; rfl) rfl (by kernel_rfl) (by kernel_rfl) (by kernel_rfl) (fun _ _ _ h => h) (Or.inl ⟨by rfl, ?_⟩) (by assumption) ?_
  rotate_left
  · intro W hSw
    obtain ⟨i0, i1, i2, i3, i4, i5, -, -⟩ := hSw
    go_simp
    try with_reducible rfl
  simp only [List.setIfInBounds_toArray, List.set_cons_succ, List.set_cons_zero]
  refine take_at 1 39 (v := ?_) (by simp only [List.getElem?_toArray, List.getElem?_cons_succ, List.getElem?_cons_zero]; rfl) rfl (by kernel_rfl) (by kernel_rfl) (by kernel_rfl) (fun _ _ _ h => h) (Or.inl ⟨by rfl, ?_⟩) (by assumption) ?_
  rotate_left
  · intro W hSw
    obtain ⟨i0, i1, i2, i3, i4, i5, -, -⟩ := hSw
    go_simp
    try with_reducible rfl
  simp only [List.setIfInBounds_toArray, List.set_cons_succ, List.set_cons_zero]
  refine take_at 2 40 (v := ?_) (by simp only [List.getElem?_toArray, List.getElem?_cons_succ, List.getElem?_cons_zero]; rfl) rfl (by kernel_rfl) (by kernel_rfl) (by kernel_rfl) (fun _ _ _ h => h) (Or.inl ⟨by rfl, ?_⟩) (by assumption) ?_
  rotate_left
  · intro W hSw
    obtain ⟨i0, i1, i2, i3, i4, i5, -, -⟩ := hSw
    go_simp
    try with_reducible rfl
  simp only [List.setIfInBounds_toArray, List.set_cons_succ, List.set_cons_zero]
  refine take_at 3 41 (v := ?_) (by simp only [List.getElem?_toArray, List.getElem?_cons_succ, List.getElem?_cons_zero]; rfl) rfl (by kernel_rfl) (by kernel_rfl) (by kernel_rfl) (fun _ _ _ h => h) (Or.inl ⟨by rfl, ?_⟩) (by assumption) ?_
  rotate_left
  · intro W hSw
    obtain ⟨i0, i1, i2, i3, i4, i5, -, -⟩ := hSw
    go_simp
    try with_reducible rfl
  simp only [List.setIfInBounds_toArray, List.set_cons_succ, List.set_cons_zero]
  refine take_at 4 42 (v := ?_) (by simp only [List.getElem?_toArray, List.getElem?_cons_succ, List.getElem?_cons_zero]; rfl) rfl (by kernel_rfl) (by kernel_rfl) (by kernel_rfl) (fun _ _ _ h => h) (Or.inl ⟨by rfl, ?_⟩) (by assumption) ?_
  rotate_left
  · intro W hSw
    obtain ⟨i0, i1, i2, i3, i4, i5, -, -⟩ := hSw
    go_simp
    try with_reducible rfl
  simp only [List.setIfInBounds_toArray, List.set_cons_succ, List.set_cons_zero]
  refine take_at 5 43 (v := ?_) (by simp only [List.getElem?_toArray, List.getElem?_cons_succ, List.getElem?_cons_zero]; rfl) rfl (by kernel_rfl) (by kernel_rfl) (by kernel_rfl) (fun _ _ _ h => h) (Or.inl ⟨by rfl, ?_⟩) (by assumption) ?_
  rotate_left
  · intro W hSw
    obtain ⟨i0, i1, i2, i3, i4, i5, -, -⟩ := hSw
    go_simp
    try with_reducible rfl
  simp only [List.setIfInBounds_toArray, List.set_cons_succ, List.set_cons_zero]
  refine take_at 6 44 (v := ?_) (by simp only [List.getElem?_toArray, List.getElem?_cons_succ, List.getElem?_cons_zero]; rfl) rfl (by kernel_rfl) (by kernel_rfl) (by kernel_rfl) (fun _ _ _ h => h) (Or.inl ⟨by rfl, ?_⟩) (by assumption) ?_
  rotate_left
  · intro W hSw
    obtain ⟨i0, i1, i2, i3, i4, i5, -, -⟩ := hSw
    go_simp
    try with_reducible rfl
  simp only [List.setIfInBounds_toArray, List.set_cons_succ, List.set_cons_zero]
  refine take_at 7 45 (v := ?_) (by simp only [List.getElem?_toArray, List.getElem?_cons_succ, List.getElem?_cons_zero]; rfl) rfl (by kernel_rfl) (by kernel_rfl) (by kernel_rfl) (fun _ _ _ h => h) (Or.inl ⟨by rfl, ?_⟩) (by assumption) ?_
  rotate_left
  · intro W hSw
    obtain ⟨i0, i1, i2, i3, i4, i5, -, -⟩ := hSw
    go_simp
    try with_reducible rfl
  simp only [List.setIfInBounds_toArray, List.set_cons_succ, List.set_cons_zero]
  refine take_at 8 46 (v := ?_) (by simp only [List.getElem?_toArray, List.getElem?_cons_succ, List.getElem?_cons_zero]; rfl) rfl (by kernel_rfl) (by kernel_rfl) (by kernel_rfl) (fun _ _ _ h => h) (Or.inl ⟨by rfl, ?_⟩) (by assumption) ?_
  rotate_left
  · intro W hSw
    obtain ⟨i0, i1, i2, i3, i4, i5, -, -⟩ := hSw
    go_simp
    try with_reducible rfl
  simp only [List.setIfInBounds_toArray, List.set_cons_succ, List.set_cons_zero]
  refine take_at 9 47 (v := ?_) (by simp only [List.getElem?_toArray, List.getElem?_cons_succ, List.getElem?_cons_zero]; rfl) rfl (by kernel_rfl) (by kernel_rfl) (by kernel_rfl) (fun _ _ _ h => h) (Or.inl ⟨by rfl, ?_⟩) (by assumption) ?_
  rotate_left
  · intro W hSw
    obtain ⟨i0, i1, i2, i3, i4, i5, -, -⟩ := hSw
    go_simp
    try with_reducible rfl
  simp only [List.setIfInBounds_toArray, List.set_cons_succ, List.set_cons_zero]
  refine take_at 10 48 (v := ?_) (by simp only [List.getElem?_toArray, List.getElem?_cons_succ, List.getElem?_cons_zero]; rfl) rfl (by kernel_rfl) (by kernel_rfl) (by kernel_rfl) (fun _ _ _ h => h) (Or.inl ⟨by rfl, ?_⟩) (by assumption) ?_
  rotate_left
  · intro W hSw
    obtain ⟨i0, i1, i2, i3, i4, i5, -, -⟩ := hSw
    go_simp
    try with_reducible rfl
  simp only [List.setIfInBounds_toArray, List.set_cons_succ, List.set_cons_zero]
  refine take_at 11 49 (v := ?_) (by simp only [List.getElem?_toArray, List.getElem?_cons_succ, List.getElem?_cons_zero]; rfl) rfl (by kernel_rfl) (by kernel_rfl) (by kernel_rfl) (fun _ _ _ h => h) (Or.inl ⟨by rfl, ?_⟩) (by assumption) ?_
  rotate_left
  · intro W hSw
    obtain ⟨i0, i1, i2, i3, i4, i5, -, -⟩ := hSw
    go_simp
    try with_reducible rfl
  simp only [List.setIfInBounds_toArray, List.set_cons_succ, List.set_cons_zero]
  refine take_at 12 50 (v := ?_) (by simp only [List.getElem?_toArray, List.getElem?_cons_succ, List.getElem?_cons_zero]; rfl) rfl (by kernel_rfl) (by kernel_rfl) (by kernel_rfl) (fun _ _ _ h => h) (Or.inl ⟨by rfl, ?_⟩) (by assumption) ?_
  rotate_left
  · intro W hSw
    obtain ⟨i0, i1, i2, i3, i4, i5, -, -⟩ := hSw
    go_simp
    try with_reducible rfl
  simp only [List.setIfInBounds_toArray, List.set_cons_succ, List.set_cons_zero]
  refine take_at 13 51 (v := ?_) (by simp only [List.getElem?_toArray, List.getElem?_cons_succ, List.getElem?_cons_zero]; rfl) rfl (by kernel_rfl) (by kernel_rfl) (by kernel_rfl) (fun _ _ _ h => h) (Or.inl ⟨by rfl, ?_⟩) (by assumption) ?_
  rotate_left
  · intro W hSw
    obtain ⟨i0, i1, i2, i3, i4, i5, -, -⟩ := hSw
    go_simp
    try with_reducible rfl
  simp only [List.setIfInBounds_toArray, List.set_cons_succ, List.set_cons_zero]
  refine take_at 14 52 (v := ?_) (by simp only [List.getElem?_toArray, List.getElem?_cons_succ, List.getElem?_cons_zero]; rfl) rfl (by kernel_rfl) (by kernel_rfl) (by kernel_rfl) (fun _ _ _ h => h) (Or.inl ⟨by rfl, ?_⟩) (by assumption) ?_
  rotate_left
  · intro W hSw
    obtain ⟨i0, i1, i2, i3, i4, i5, -, -⟩ := hSw
    go_simp
    try with_reducible rfl
  simp only [List.setIfInBounds_toArray, List.set_cons_succ, List.set_cons_zero]
  refine take_at 15 53 (v := ?_) (by simp only [List.getElem?_toArray, List.getElem?_cons_succ, List.getElem?_cons_zero]; rfl) rfl (by kernel_rfl) (by kernel_rfl) (by kernel_rfl) (fun _ _ _ h => h) (Or.inl ⟨by rfl, ?_⟩) (by assumption) ?_
  rotate_left
  · intro W hSw
    obtain ⟨i0, i1, i2, i3, i4, i5, -, -⟩ := hSw
    go_simp
    try with_reducible rfl
  simp only [List.setIfInBounds_toArray, List.set_cons_succ, List.set_cons_zero]
  refine take_at 16 54 (v := ?_) (by simp only [List.getElem?_toArray, List.getElem?_cons_succ, List.getElem?_cons_zero]; rfl) rfl (by kernel_rfl) (by kernel_rfl) (by kernel_rfl) (fun _ _ _ h => h) (Or.inl ⟨by rfl, ?_⟩) (by assumption) ?_
  rotate_left
  · intro W hSw
    obtain ⟨i0, i1, i2, i3, i4, i5, -, -⟩ := hSw
    go_simp
    try with_reducible rfl
  simp only [List.setIfInBounds_toArray, List.set_cons_succ, List.set_cons_zero]
  refine take_at 17 55 (v := ?_) (by simp only [List.getElem?_toArray, List.getElem?_cons_succ, List.getElem?_cons_zero]; rfl) rfl (by kernel_rfl) (by kernel_rfl) (by kernel_rfl) (fun _ _ _ h => h) (Or.inl ⟨by rfl, ?_⟩) (by assumption) ?_
  rotate_left
  · intro W hSw
    obtain ⟨i0, i1, i2, i3, i4, i5, -, -⟩ := hSw
    go_simp
    try with_reducible rfl
  simp only [List.setIfInBounds_toArray, List.set_cons_succ, List.set_cons_zero]
  refine take_at 18 56 (v := ?_) (by simp only [List.getElem?_toArray, List.getElem?_cons_succ, List.getElem?_cons_zero]; rfl) rfl (by kernel_rfl) (by kernel_rfl) (by kernel_rfl) (fun _ _ _ h => h) (Or.inl ⟨by rfl, ?_⟩) (by assumption) ?_
  rotate_left
  · intro W hSw
    obtain ⟨i0, i1, i2, i3, i4, i5, -, -⟩ := hSw
    go_simp
    try with_reducible rfl
  simp only [List.setIfInBounds_toArray, List.set_cons_succ, List.set_cons_zero]
  refine take_at 19 57 (v := ?_) (by simp only [List.getElem?_toArray, List.getElem?_cons_succ, List.getElem?_cons_zero]; rfl) rfl (by kernel_rfl) (by kernel_rfl) (by kernel_rfl) (fun _ _ _ h => h) (Or.inl ⟨by rfl, ?_⟩) (by assumption) ?_
  rotate_left
  · intro W hSw
    obtain ⟨i0, i1, i2, i3, i4, i5, -, -⟩ := hSw
    go_simp
    try with_reducible rfl
  simp only [List.setIfInBounds_toArray, List.set_cons_succ, List.set_cons_zero]
  refine take_at 20 58 (v := ?_) (by simp only [List.getElem?_toArray, List.getElem?_cons_succ, List.getElem?_cons_zero]; rfl) rfl (by kernel_rfl) (by kernel_rfl) (by kernel_rfl) (fun _ _ _ h => h) (Or.inl ⟨by rfl, ?_⟩) (by assumption) ?_
  rotate_left
  · intro W hSw
    obtain ⟨i0, i1, i2, i3, i4, i5, -, -⟩ := hSw
    go_simp
    try with_reducible rfl
  simp only [List.setIfInBounds_toArray, List.set_cons_succ, List.set_cons_zero]
  refine wpAnyH_ready (rs := [21]) (by kernel_rfl) (by simp) ?_
  refine AllReadyH.cons rfl (fun K hK => ?_) AllReadyH.nil
  go_simp
  go_wp2_with (first | (go_at_call 128; refine (ha _).mono ?_; rintro e w1 ⟨rfl, hb⟩))
  refine hK.out _ _ (keep6 hHeld hb) (fun hHeld2 => ?_)
  clear hK K hHeld
  refine take_at 22 60 (v := ?_) (by simp only [List.getElem?_toArray, List.getElem?_cons_succ, List.getElem?_cons_zero]; rfl) rfl (by kernel_rfl) (by kernel_rfl) (by kernel_rfl) (fun _ _ _ h => h) (Or.inl ⟨by rfl, ?_⟩) (by assumption) ?_
  rotate_left
  · intro W hSw
    obtain ⟨i0, i1, i2, i3, i4, i5, -, -⟩ := hSw
    go_simp
    try with_reducible rfl
  simp only [List.setIfInBounds_toArray, List.set_cons_succ, List.set_cons_zero]
  refine take_at 23 61 (v := ?_) (by simp only [List.getElem?_toArray, List.getElem?_cons_succ, List.getElem?_cons_zero]; rfl) rfl (by kernel_rfl) (by kernel_rfl) (by kernel_rfl) (fun _ _ _ h => h) (Or.inl ⟨by rfl, ?_⟩) (by assumption) ?_
  rotate_left
  · intro W hSw
    obtain ⟨i0, i1, i2, i3, i4, i5, -, -⟩ := hSw
    go_simp
    try with_reducible rfl
  simp only [List.setIfInBounds_toArray, List.set_cons_succ, List.set_cons_zero]
  refine take_at 24 62 (v := ?_) (by simp only [List.getElem?_toArray, List.getElem?_cons_succ, List.getElem?_cons_zero]; rfl) rfl (by kernel_rfl) (by kernel_rfl) (by kernel_rfl) (fun _ _ _ h => h) (Or.inl ⟨by rfl, ?_⟩) (by assumption) ?_
  rotate_left
  · intro W hSw
    obtain ⟨i0, i1, i2, i3, i4, i5, -, -⟩ := hSw
    go_simp
    try with_reducible rfl
  simp only [List.setIfInBounds_toArray, List.set_cons_succ, List.set_cons_zero]
  refine take_at 25 63 (v := undef) (by simp only [List.getElem?_toArray, List.getElem?_cons_succ, List.getElem?_cons_zero]; rfl) rfl (by kernel_rfl) (by kernel_rfl) (by kernel_rfl) (fun _ _ _ h => h) (Or.inr ⟨by rfl, rfl⟩) (by assumption) ?_
  simp only [List.setIfInBounds_toArray, List.set_cons_succ, List.set_cons_zero]
  refine take_at 26 64 (v := undef) (by simp only [List.getElem?_toArray, List.getElem?_cons_succ, List.getElem?_cons_zero]; rfl) rfl (by kernel_rfl) (by kernel_rfl) (by kernel_rfl) (fun _ _ _ h => h) (Or.inr ⟨by rfl, rfl⟩) (by assumption) ?_
  simp only [List.setIfInBounds_toArray, List.set_cons_succ, List.set_cons_zero]
  refine take_at 27 65 (v := undef) (by simp only [List.getElem?_toArray, List.getElem?_cons_succ, List.getElem?_cons_zero]; rfl) rfl (by kernel_rfl) (by kernel_rfl) (by kernel_rfl) (fun _ _ _ h => h) (Or.inr ⟨by rfl, rfl⟩) (by assumption) ?_
  simp only [List.setIfInBounds_toArray, List.set_cons_succ, List.set_cons_zero]
  refine take_at 28 66 (v := ?_) (by simp only [List.getElem?_toArray, List.getElem?_cons_succ, List.getElem?_cons_zero]; rfl) rfl (by kernel_rfl) (by kernel_rfl) (by kernel_rfl) (fun _ _ _ h => h) (Or.inl ⟨by rfl, ?_⟩) (by assumption) ?_
  rotate_left
  · intro W hSw
    obtain ⟨i0, i1, i2, i3, i4, i5, -, -⟩ := hSw
    go_simp
    try with_reducible rfl
  simp only [List.setIfInBounds_toArray, List.set_cons_succ, List.set_cons_zero]
  refine take_at 29 2 (v := ?_) (by simp only [List.getElem?_toArray, List.getElem?_cons_succ, List.getElem?_cons_zero]; rfl) rfl (by kernel_rfl) (by kernel_rfl) (by kernel_rfl) (fun _ _ _ h => h) (Or.inl ⟨by rfl, ?_⟩) (by assumption) ?_
  rotate_left
  · intro W hSw
    obtain ⟨i0, i1, i2, i3, i4, i5, -, -⟩ := hSw
    go_simp
    try with_reducible rfl
  simp only [List.setIfInBounds_toArray, List.set_cons_succ, List.set_cons_zero]
  refine wpAnyH_done (by kernel_rfl) ?_ _
  go_wp2
  go_ret
  exact ⟨rfl, hHeld2.2.2.2.2.2.2.1⟩
theorem isExpr_e (k : Int) (x : Vl) (nm : List UInt8) (ao : Option Addr) (n ca : Nat) (w : World) (h1 : (k == 1) = false) (h2 : (k == 2) = false) (hv : sameTk x.k x.n ⟨x.s.toArray⟩ 0 0 ⟨#[]⟩ = true) (hn : nm.isEmpty = true) (h0 : 0 < n) (A : Bool)
    (ha : ∀ W, Calls Tryz.prog 128 #[.int .i64 k] W fun e w' => e = .returned (.int .i64 (n : Int)) ∧ Below W.heap.size W w')
    (hc : ∀ W, Below w.heap.size w W → Calls Tryz.prog 129 #[.slice ao n ca, .func (.func 78) #[] #[]] W fun e w' => e = .returned (.bool A) ∧ Below W.heap.size W w') :
    Calls Tryz.prog 78 #[.agg #[.int .i64 k, .int .i64 x.k, .int .i64 x.n, .string ⟨x.s.toArray⟩, .string ⟨nm.toArray⟩, .slice ao n ca]] w fun e w' => e = .returned (.bool A) ∧ Below w.heap.size w w' := by
  have b0 := (Below.refl w.heap.size w).alloc (Nat.le_refl _) (.cells #[.int .i64 k, .int .i64 x.k, .int .i64 x.n, .string ⟨x.s.toArray⟩, .string ⟨nm.toArray⟩, .slice ao n ca] 29)
  have hq := eql24
  have h0' : (0 : Int) < (n : Int) := by omega
  have hd0 : decide ((0 : Int) < (n : Int)) = true := by simpa using h0
  have hd1 : decide (0 < n) = true := by simpa using h0
  have y0 : (w.alloc (.cells #[.int .i64 k, .int .i64 x.k, .int .i64 x.n, .string ⟨x.s.toArray⟩, .string ⟨nm.toArray⟩, .slice ao n ca] 29)).drew.cell? ⟨w.heap.size, 0, none⟩ = some (.int .i64 k) := (Lib.cell_of_heap (heap_alloc_new w (.cells #[.int .i64 k, .int .i64 x.k, .int .i64 x.n, .string ⟨x.s.toArray⟩, .string ⟨nm.toArray⟩, .slice ao n ca] 29)) 0).trans rfl
  have y1 : (w.alloc (.cells #[.int .i64 k, .int .i64 x.k, .int .i64 x.n, .string ⟨x.s.toArray⟩, .string ⟨nm.toArray⟩, .slice ao n ca] 29)).drew.cell? ⟨w.heap.size, 1, none⟩ = some (.int .i64 x.k) := (Lib.cell_of_heap (heap_alloc_new w (.cells #[.int .i64 k, .int .i64 x.k, .int .i64 x.n, .string ⟨x.s.toArray⟩, .string ⟨nm.toArray⟩, .slice ao n ca] 29)) 1).trans rfl
  have y2 : (w.alloc (.cells #[.int .i64 k, .int .i64 x.k, .int .i64 x.n, .string ⟨x.s.toArray⟩, .string ⟨nm.toArray⟩, .slice ao n ca] 29)).drew.cell? ⟨w.heap.size, 2, none⟩ = some (.int .i64 x.n) := (Lib.cell_of_heap (heap_alloc_new w (.cells #[.int .i64 k, .int .i64 x.k, .int .i64 x.n, .string ⟨x.s.toArray⟩, .string ⟨nm.toArray⟩, .slice ao n ca] 29)) 2).trans rfl
  have y3 : (w.alloc (.cells #[.int .i64 k, .int .i64 x.k, .int .i64 x.n, .string ⟨x.s.toArray⟩, .string ⟨nm.toArray⟩, .slice ao n ca] 29)).drew.cell? ⟨w.heap.size, 3, none⟩ = some (.string ⟨x.s.toArray⟩) := (Lib.cell_of_heap (heap_alloc_new w (.cells #[.int .i64 k, .int .i64 x.k, .int .i64 x.n, .string ⟨x.s.toArray⟩, .string ⟨nm.toArray⟩, .slice ao n ca] 29)) 3).trans rfl
  have y4 : (w.alloc (.cells #[.int .i64 k, .int .i64 x.k, .int .i64 x.n, .string ⟨x.s.toArray⟩, .string ⟨nm.toArray⟩, .slice ao n ca] 29)).drew.cell? ⟨w.heap.size, 4, none⟩ = some (.string ⟨nm.toArray⟩) := (Lib.cell_of_heap (heap_alloc_new w (.cells #[.int .i64 k, .int .i64 x.k, .int .i64 x.n, .string ⟨x.s.toArray⟩, .string ⟨nm.toArray⟩, .slice ao n ca] 29)) 4).trans rfl
  have y5 : (w.alloc (.cells #[.int .i64 k, .int .i64 x.k, .int .i64 x.n, .string ⟨x.s.toArray⟩, .string ⟨nm.toArray⟩, .slice ao n ca] 29)).drew.cell? ⟨w.heap.size, 5, none⟩ = some (.slice ao n ca) := (Lib.cell_of_heap (heap_alloc_new w (.cells #[.int .i64 k, .int .i64 x.k, .int .i64 x.n, .string ⟨x.s.toArray⟩, .string ⟨nm.toArray⟩, .slice ao n ca] 29)) 5).trans rfl
  have yl : w.heap.size < (w.alloc (.cells #[.int .i64 k, .int .i64 x.k, .int .i64 x.n, .string ⟨x.s.toArray⟩, .string ⟨nm.toArray⟩, .slice ao n ca] 29)).drew.heap.size := (Array.getElem?_eq_some_iff.1 (heap_alloc_new w (.cells #[.int .i64 k, .int .i64 x.k, .int .i64 x.n, .string ⟨x.s.toArray⟩, .string ⟨nm.toArray⟩, .slice ao n ca] 29))).1
  have yb : Below w.heap.size w (w.alloc (.cells #[.int .i64 k, .int .i64 x.k, .int .i64 x.n, .string ⟨x.s.toArray⟩, .string ⟨nm.toArray⟩, .slice ao n ca] 29)).drew := b0.drew
  go_enter Tryz.func78, Tryz.ntmps78
  go_wp2_with fail
  refine wp_region_held_drew (S := (fun w' => w'.cell? ⟨w.heap.size, 0, none⟩ = some (.int .i64 k) ∧ w'.cell? ⟨w.heap.size, 1, none⟩ = some (.int .i64 x.k) ∧ w'.cell? ⟨w.heap.size, 2, none⟩ = some (.int .i64 x.n) ∧ w'.cell? ⟨w.heap.size, 3, none⟩ = some (.string ⟨x.s.toArray⟩) ∧ w'.cell? ⟨w.heap.size, 4, none⟩ = some (.string ⟨nm.toArray⟩) ∧ w'.cell? ⟨w.heap.size, 5, none⟩ = some (.slice ao n ca) ∧ Below w.heap.size w w' ∧ w.heap.size < w'.heap.size)) (by kernel_rfl) ⟨y0, y1, y2, y3, y4, y5, yb, yl⟩ (fun hHeld => ?_)
  refine take_at 0 38 (v := ?_) (by simp only [List.getElem?_toArray, List.getElem?_cons_zero]; rfl) rfl (by kernel_rfl) (by kernel_rfl) (by kernel_rfl) (fun _ _ _ h => h) (Or.inl ⟨by rfl, ?_⟩) (by assumption) ?_
  rotate_left
  · intro W hSw
    obtain ⟨i0, i1, i2, i3, i4, i5, -, -⟩ := hSw
    go_simp
    try with_reducible rfl
  simp only [List.setIfInBounds_toArray, List.set_cons_succ, List.set_cons_zero]
  refine take_at 1 39 (v := ?_) (by simp only [List.getElem?_toArray, List.getElem?_cons_succ, List.getElem?_cons_zero]; rfl) rfl (by kernel_rfl) (by kernel_rfl) (by kernel_rfl) (fun _ _ _ h => h) (Or.inl ⟨by rfl, ?_⟩) (by assumption) ?_
  rotate_left
  · intro W hSw
    obtain ⟨i0, i1, i2, i3, i4, i5, -, -⟩ := hSw
    go_simp
    try with_reducible rfl
  simp only [List.setIfInBounds_toArray, List.set_cons_succ, List.set_cons_zero]
  refine take_at 2 40 (v := ?_) (by simp only [List.getElem?_toArray, List.getElem?_cons_succ, List.getElem?_cons_zero]; rfl) rfl (by kernel_rfl) (by kernel_rfl) (by kernel_rfl) (fun _ _ _ h => h) (Or.inl ⟨by rfl, ?_⟩) (by assumption) ?_
  rotate_left
  · intro W hSw
    obtain ⟨i0, i1, i2, i3, i4, i5, -, -⟩ := hSw
    go_simp
    try with_reducible rfl
  simp only [List.setIfInBounds_toArray, List.set_cons_succ, List.set_cons_zero]
  refine take_at 3 41 (v := ?_) (by simp only [List.getElem?_toArray, List.getElem?_cons_succ, List.getElem?_cons_zero]; rfl) rfl (by kernel_rfl) (by kernel_rfl) (by kernel_rfl) (fun _ _ _ h => h) (Or.inl ⟨by rfl, ?_⟩) (by assumption) ?_
  rotate_left
  · intro W hSw
    obtain ⟨i0, i1, i2, i3, i4, i5, -, -⟩ := hSw
    go_simp
    try with_reducible rfl
  simp only [List.setIfInBounds_toArray, List.set_cons_succ, List.set_cons_zero]
  refine take_at 4 42 (v := ?_) (by simp only [List.getElem?_toArray, List.getElem?_cons_succ, List.getElem?_cons_zero]; rfl) rfl (by kernel_rfl) (by kernel_rfl) (by kernel_rfl) (fun _ _ _ h => h) (Or.inl ⟨by rfl, ?_⟩) (by assumption) ?_
  rotate_left
  · intro W hSw
    obtain ⟨i0, i1, i2, i3, i4, i5, -, -⟩ := hSw
    go_simp
    try with_reducible rfl
  simp only [List.setIfInBounds_toArray, List.set_cons_succ, List.set_cons_zero]
  refine take_at 5 43 (v := ?_) (by simp only [List.getElem?_toArray, List.getElem?_cons_succ, List.getElem?_cons_zero]; rfl) rfl (by kernel_rfl) (by kernel_rfl) (by kernel_rfl) (fun _ _ _ h => h) (Or.inl ⟨by rfl, ?_⟩) (by assumption) ?_
  rotate_left
  · intro W hSw
    obtain ⟨i0, i1, i2, i3, i4, i5, -, -⟩ := hSw
    go_simp
    try with_reducible rfl
  simp only [List.setIfInBounds_toArray, List.set_cons_succ, List.set_cons_zero]
  refine take_at 6 44 (v := ?_) (by simp only [List.getElem?_toArray, List.getElem?_cons_succ, List.getElem?_cons_zero]; rfl) rfl (by kernel_rfl) (by kernel_rfl) (by kernel_rfl) (fun _ _ _ h => h) (Or.inl ⟨by rfl, ?_⟩) (by assumption) ?_
  rotate_left
  · intro W hSw
    obtain ⟨i0, i1, i2, i3, i4, i5, -, -⟩ := hSw
    go_simp
    try with_reducible rfl
  simp only [List.setIfInBounds_toArray, List.set_cons_succ, List.set_cons_zero]
  refine take_at 7 45 (v := ?_) (by simp only [List.getElem?_toArray, List.getElem?_cons_succ, List.getElem?_cons_zero]; rfl) rfl (by kernel_rfl) (by kernel_rfl) (by kernel_rfl) (fun _ _ _ h => h) (Or.inl ⟨by rfl, ?_⟩) (by assumption) ?_
  rotate_left
  · intro W hSw
    obtain ⟨i0, i1, i2, i3, i4, i5, -, -⟩ := hSw
    go_simp
    try with_reducible rfl
  simp only [List.setIfInBounds_toArray, List.set_cons_succ, List.set_cons_zero]
  refine take_at 8 46 (v := ?_) (by simp only [List.getElem?_toArray, List.getElem?_cons_succ, List.getElem?_cons_zero]; rfl) rfl (by kernel_rfl) (by kernel_rfl) (by kernel_rfl) (fun _ _ _ h => h) (Or.inl ⟨by rfl, ?_⟩) (by assumption) ?_
  rotate_left
  · intro W hSw
    obtain ⟨i0, i1, i2, i3, i4, i5, -, -⟩ := hSw
    go_simp
    try with_reducible rfl
  simp only [List.setIfInBounds_toArray, List.set_cons_succ, List.set_cons_zero]
  refine take_at 9 47 (v := ?_) (by simp only [List.getElem?_toArray, List.getElem?_cons_succ, List.getElem?_cons_zero]; rfl) rfl (by kernel_rfl) (by kernel_rfl) (by kernel_rfl) (fun _ _ _ h => h) (Or.inl ⟨by rfl, ?_⟩) (by assumption) ?_
  rotate_left
  · intro W hSw
    obtain ⟨i0, i1, i2, i3, i4, i5, -, -⟩ := hSw
    go_simp
    try with_reducible rfl
  simp only [List.setIfInBounds_toArray, List.set_cons_succ, List.set_cons_zero]
  refine take_at 10 48 (v := ?_) (by simp only [List.getElem?_toArray, List.getElem?_cons_succ, List.getElem?_cons_zero]; rfl) rfl (by kernel_rfl) (by kernel_rfl) (by kernel_rfl) (fun _ _ _ h => h) (Or.inl ⟨by rfl, ?_⟩) (by assumption) ?_
  rotate_left
  · intro W hSw
    obtain ⟨i0, i1, i2, i3, i4, i5, -, -⟩ := hSw
    go_simp
    try with_reducible rfl
  simp only [List.setIfInBounds_toArray, List.set_cons_succ, List.set_cons_zero]
  refine take_at 11 49 (v := ?_) (by simp only [List.getElem?_toArray, List.getElem?_cons_succ, List.getElem?_cons_zero]; rfl) rfl (by kernel_rfl) (by kernel_rfl) (by kernel_rfl) (fun _ _ _ h => h) (Or.inl ⟨by rfl, ?_⟩) (by assumption) ?_
  rotate_left
  · intro W hSw
    obtain ⟨i0, i1, i2, i3, i4, i5, -, -⟩ := hSw
    go_simp
    try with_reducible rfl
  simp only [List.setIfInBounds_toArray, List.set_cons_succ, List.set_cons_zero]
  refine take_at 12 50 (v := ?_) (by simp only [List.getElem?_toArray, List.getElem?_cons_succ, List.getElem?_cons_zero]; rfl) rfl (by kernel_rfl) (by kernel_rfl) (by kernel_rfl) (fun _ _ _ h => h) (Or.inl ⟨by rfl, ?_⟩) (by assumption) ?_
  rotate_left
  · intro W hSw
    obtain ⟨i0, i1, i2, i3, i4, i5, -, -⟩ := hSw
    go_simp
    try with_reducible rfl
  simp only [List.setIfInBounds_toArray, List.set_cons_succ, List.set_cons_zero]
  refine take_at 13 51 (v := ?_) (by simp only [List.getElem?_toArray, List.getElem?_cons_succ, List.getElem?_cons_zero]; rfl) rfl (by kernel_rfl) (by kernel_rfl) (by kernel_rfl) (fun _ _ _ h => h) (Or.inl ⟨by rfl, ?_⟩) (by assumption) ?_
  rotate_left
  · intro W hSw
    obtain ⟨i0, i1, i2, i3, i4, i5, -, -⟩ := hSw
    go_simp
    try with_reducible rfl
  simp only [List.setIfInBounds_toArray, List.set_cons_succ, List.set_cons_zero]
  refine take_at 14 52 (v := ?_) (by simp only [List.getElem?_toArray, List.getElem?_cons_succ, List.getElem?_cons_zero]; rfl) rfl (by kernel_rfl) (by kernel_rfl) (by kernel_rfl) (fun _ _ _ h => h) (Or.inl ⟨by rfl, ?_⟩) (by assumption) ?_
  rotate_left
  · intro W hSw
    obtain ⟨i0, i1, i2, i3, i4, i5, -, -⟩ := hSw
    go_simp
    try with_reducible rfl
  simp only [List.setIfInBounds_toArray, List.set_cons_succ, List.set_cons_zero]
  refine take_at 15 53 (v := ?_) (by simp only [List.getElem?_toArray, List.getElem?_cons_succ, List.getElem?_cons_zero]; rfl) rfl (by kernel_rfl) (by kernel_rfl) (by kernel_rfl) (fun _ _ _ h => h) (Or.inl ⟨by rfl, ?_⟩) (by assumption) ?_
  rotate_left
  · intro W hSw
    obtain ⟨i0, i1, i2, i3, i4, i5, -, -⟩ := hSw
    go_simp
    try with_reducible rfl
  simp only [List.setIfInBounds_toArray, List.set_cons_succ, List.set_cons_zero]
  refine take_at 16 54 (v := ?_) (by simp only [List.getElem?_toArray, List.getElem?_cons_succ, List.getElem?_cons_zero]; rfl) rfl (by kernel_rfl) (by kernel_rfl) (by kernel_rfl) (fun _ _ _ h => h) (Or.inl ⟨by rfl, ?_⟩) (by assumption) ?_
  rotate_left
  · intro W hSw
    obtain ⟨i0, i1, i2, i3, i4, i5, -, -⟩ := hSw
    go_simp
    try with_reducible rfl
  simp only [List.setIfInBounds_toArray, List.set_cons_succ, List.set_cons_zero]
  refine take_at 17 55 (v := ?_) (by simp only [List.getElem?_toArray, List.getElem?_cons_succ, List.getElem?_cons_zero]; rfl) rfl (by kernel_rfl) (by kernel_rfl) (by kernel_rfl) (fun _ _ _ h => h) (Or.inl ⟨by rfl, ?_⟩) (by assumption) ?_
  rotate_left
  · intro W hSw
    obtain ⟨i0, i1, i2, i3, i4, i5, -, -⟩ := hSw
    go_simp
    try with_reducible rfl
  simp only [List.setIfInBounds_toArray, List.set_cons_succ, List.set_cons_zero]
  refine take_at 18 56 (v := ?_) (by simp only [List.getElem?_toArray, List.getElem?_cons_succ, List.getElem?_cons_zero]; rfl) rfl (by kernel_rfl) (by kernel_rfl) (by kernel_rfl) (fun _ _ _ h => h) (Or.inl ⟨by rfl, ?_⟩) (by assumption) ?_
  rotate_left
  · intro W hSw
    obtain ⟨i0, i1, i2, i3, i4, i5, -, -⟩ := hSw
    go_simp
    try with_reducible rfl
  simp only [List.setIfInBounds_toArray, List.set_cons_succ, List.set_cons_zero]
  refine take_at 19 57 (v := ?_) (by simp only [List.getElem?_toArray, List.getElem?_cons_succ, List.getElem?_cons_zero]; rfl) rfl (by kernel_rfl) (by kernel_rfl) (by kernel_rfl) (fun _ _ _ h => h) (Or.inl ⟨by rfl, ?_⟩) (by assumption) ?_
  rotate_left
  · intro W hSw
    obtain ⟨i0, i1, i2, i3, i4, i5, -, -⟩ := hSw
    go_simp
    try with_reducible rfl
  simp only [List.setIfInBounds_toArray, List.set_cons_succ, List.set_cons_zero]
  refine take_at 20 58 (v := ?_) (by simp only [List.getElem?_toArray, List.getElem?_cons_succ, List.getElem?_cons_zero]; rfl) rfl (by kernel_rfl) (by kernel_rfl) (by kernel_rfl) (fun _ _ _ h => h) (Or.inl ⟨by rfl, ?_⟩) (by assumption) ?_
  rotate_left
  · intro W hSw
    obtain ⟨i0, i1, i2, i3, i4, i5, -, -⟩ := hSw
    go_simp
    try with_reducible rfl
  simp only [List.setIfInBounds_toArray, List.set_cons_succ, List.set_cons_zero]
  refine wpAnyH_ready (rs := [21]) (by kernel_rfl) (by simp) ?_
  refine AllReadyH.cons rfl (fun K hK => ?_) AllReadyH.nil
  go_simp
  go_wp2_with (first | (go_at_call 128; refine (ha _).mono ?_; rintro e w1 ⟨rfl, hb⟩))
  refine hK.out _ _ (keep6 hHeld hb) (fun hHeld2 => ?_)
  clear hK K hHeld hb
  refine take_at 22 60 (v := ?_) (by simp only [List.getElem?_toArray, List.getElem?_cons_succ, List.getElem?_cons_zero]; rfl) rfl (by kernel_rfl) (by kernel_rfl) (by kernel_rfl) (fun _ _ _ h => h) (Or.inl ⟨by rfl, ?_⟩) (by assumption) ?_
  rotate_left
  · intro W hSw
    obtain ⟨i0, i1, i2, i3, i4, i5, -, -⟩ := hSw
    go_simp
    try with_reducible rfl
  simp only [List.setIfInBounds_toArray, List.set_cons_succ, List.set_cons_zero]
  refine take_at 23 61 (v := ?_) (by simp only [List.getElem?_toArray, List.getElem?_cons_succ, List.getElem?_cons_zero]; rfl) rfl (by kernel_rfl) (by kernel_rfl) (by kernel_rfl) (fun _ _ _ h => h) (Or.inl ⟨by rfl, ?_⟩) (by assumption) ?_
  rotate_left
  · intro W hSw
    obtain ⟨i0, i1, i2, i3, i4, i5, -, -⟩ := hSw
    go_simp
    try with_reducible rfl
  simp only [List.setIfInBounds_toArray, List.set_cons_succ, List.set_cons_zero]
  refine take_at 24 62 (v := ?_) (by simp only [List.getElem?_toArray, List.getElem?_cons_succ, List.getElem?_cons_zero]; rfl) rfl (by kernel_rfl) (by kernel_rfl) (by kernel_rfl) (fun _ _ _ h => h) (Or.inl ⟨by rfl, ?_⟩) (by assumption) ?_
  rotate_left
  · intro W hSw
    obtain ⟨i0, i1, i2, i3, i4, i5, -, -⟩ := hSw
    go_simp
    try with_reducible rfl
  simp only [List.setIfInBounds_toArray, List.set_cons_succ, List.set_cons_zero]
  refine take_at 25 63 (v := ?_) (by simp only [List.getElem?_toArray, List.getElem?_cons_succ, List.getElem?_cons_zero]; rfl) rfl (by kernel_rfl) (by kernel_rfl) (by kernel_rfl) (fun _ _ _ h => h) (Or.inl ⟨by rfl, ?_⟩) (by assumption) ?_
  rotate_left
  · intro W hSw
    obtain ⟨i0, i1, i2, i3, i4, i5, -, -⟩ := hSw
    go_simp
    try with_reducible rfl
  simp only [List.setIfInBounds_toArray, List.set_cons_succ, List.set_cons_zero]
  refine take_at 26 64 (v := ?_) (by simp only [List.getElem?_toArray, List.getElem?_cons_succ, List.getElem?_cons_zero]; rfl) rfl (by kernel_rfl) (by kernel_rfl) (by kernel_rfl) (fun _ _ _ h => h) (Or.inl ⟨by rfl, ?_⟩) (by assumption) ?_
  rotate_left
  · intro W hSw
    obtain ⟨i0, i1, i2, i3, i4, i5, -, -⟩ := hSw
    go_simp
    try with_reducible rfl
  simp only [List.setIfInBounds_toArray, List.set_cons_succ, List.set_cons_zero]
  refine wpAnyH_ready (rs := [27]) (by kernel_rfl) (by simp) ?_
  refine AllReadyH.cons rfl (fun K hK => ?_) AllReadyH.nil
  go_simp
  go_wp2_with (first | (go_at_call 129; refine (hc _ hHeld2.2.2.2.2.2.2.1).mono ?_; rintro e w2 ⟨rfl, hb⟩))
  refine hK.out _ _ (keep6 hHeld2 hb) (fun hHeld3 => ?_)
  clear hK K hHeld2 hb
  refine take_at 28 66 (v := ?_) (by simp only [List.getElem?_toArray, List.getElem?_cons_succ, List.getElem?_cons_zero]; rfl) rfl (by kernel_rfl) (by kernel_rfl) (by kernel_rfl) (fun _ _ _ h => h) (Or.inl ⟨by rfl, ?_⟩) (by assumption) ?_
  rotate_left
  · intro W hSw
    obtain ⟨i0, i1, i2, i3, i4, i5, -, -⟩ := hSw
    go_simp
    try with_reducible rfl
  simp only [List.setIfInBounds_toArray, List.set_cons_succ, List.set_cons_zero]
  refine take_at 29 2 (v := ?_) (by simp only [List.getElem?_toArray, List.getElem?_cons_succ, List.getElem?_cons_zero]; rfl) rfl (by kernel_rfl) (by kernel_rfl) (by kernel_rfl) (fun _ _ _ h => h) (Or.inl ⟨by rfl, ?_⟩) (by assumption) ?_
  rotate_left
  · intro W hSw
    obtain ⟨i0, i1, i2, i3, i4, i5, -, -⟩ := hSw
    go_simp
    try with_reducible rfl
  simp only [List.setIfInBounds_toArray, List.set_cons_succ, List.set_cons_zero]
  refine wpAnyH_done (by kernel_rfl) ?_ _
  go_wp2
  go_ret
  exact ⟨rfl, hHeld3.2.2.2.2.2.2.1⟩
end Go.Proofs.YtkpeklealgicpabGreatDoor
