/-
  Rows of one's own, and stores into blocks.
-/
import Derived.Test.YtppgkhcmdajolaaDsc
import Derived.Test.YtppgkhcmdajolaaShelf
import Derived.Deep.MidRow
import Derived.Deep.AppendLies
import Derived.Deep.RegionHeld3
namespace Go.Proofs.Ytppgkhcmdajolaa
open Go.RowKit

theorem owns_slice {w : World} {base : Nat} {e : TypeId} {size : Nat} {v : Value} {n : Nat} {xs : List Value} (h : w.ownsRow base e size v n xs) : ∃ ao cap, v = .slice ao n cap := by
  rcases h.2 with ⟨hv, h0⟩ | ⟨g, cap, cur, hv, _⟩
  · exact ⟨none, 0, by rw [hv, h0]⟩
  · exact ⟨_, _, hv⟩

theorem owns_some {w : World} {base : Nat} {e : TypeId} {size : Nat} {v : Value} {n : Nat} {xs : List Value} (h : w.ownsRow base e size v n xs) (hn : n ≠ 0) : ∃ g cap, v = .slice (some ⟨g, 0, none⟩) n cap ∧ base ≤ g ∧ g < w.heap.size := by
  rcases h.2 with ⟨hv, h0⟩ | ⟨g, cap, cur, hv, hb, hg, _⟩
  · exact absurd h0 hn
  · exact ⟨g, cap, hv, hb, (Array.getElem?_eq_some_iff.1 hg).1⟩

theorem owns_keep {w w' : World} {B : Nat} {e : TypeId} {m : Nat} {v : Value} {n : Nat} {xs : List Value} (h : w.ownsRow B e m v n xs) (hb : Below w.heap.size w w') : w'.ownsRow B e m v n xs := by
  refine ⟨h.1, ?_⟩
  rcases h.2 with h' | ⟨g, cap, cur, hv, hB, hg, r⟩
  · exact .inl h'
  · exact .inr ⟨g, cap, cur, hv, hB, (hb.block g (Array.getElem?_eq_some_iff.1 hg).1).trans hg, r⟩

/-- what is of one type stays where what is of another one grows -/
theorem owns_other {w w' : World} {B B' : Nat} {e e' : TypeId} {m m' : Nat} {v x : Value} {n n' : Nat} {xs ys : List Value} (h : w.ownsRow B e m v n xs) (hx : w.ownsRow B' e' m' x n' ys) (hne : e ≠ e') (hg : w.grownBy w' x.ownBlock) : w'.ownsRow B e m v n xs := by
  refine ⟨h.1, ?_⟩
  rcases h.2 with h' | ⟨g, cap, cur, hv, hB, hc, r⟩
  · exact .inl h'
  · refine .inr ⟨g, cap, cur, hv, hB, (hg.block g (Array.getElem?_eq_some_iff.1 hc).1 fun e1 => ?_).trans hc, r⟩
    rcases hx.2 with ⟨rfl, -⟩ | ⟨g', cap', cur', rfl, -, hc', -⟩
    · cases e1
    · simp [Value.ownBlock] at e1
      subst e1
      rw [hc] at hc'
      cases hc'
      exact hne rfl

theorem own_lower {w : World} {B B' : Nat} {e : TypeId} {m : Nat} {v : Value} {n : Nat} {xs : List Value} (h : w.ownsRow B' e m v n xs) (hB : B ≤ B') : w.ownsRow B e m v n xs := by
  refine ⟨h.1, ?_⟩
  rcases h.2 with h' | ⟨g, cap, cur, hv, hB', r⟩
  · exact .inl h'
  · exact .inr ⟨g, cap, cur, hv, by omega, r⟩

/-- a store ahead of it leaves a row as it is -/
theorem owns_put0 {w : World} {B : Nat} {e : TypeId} {m : Nat} {v : Value} {n : Nat} {xs : List Value} (h : w.ownsRow B e m v n xs) {g : Nat} (hg : g < B) (i : Nat) (x : Value) : (w.setCell ⟨g, i, none⟩ x).ownsRow B e m v n xs := by
  refine ⟨h.1, ?_⟩
  rcases h.2 with h' | ⟨b, cap, cur, hv, hB, hc, r⟩
  · exact .inl h'
  · exact .inr ⟨b, cap, cur, hv, hB, (heap_setCell_other w _ b x (by show b ≠ g; omega)).trans hc, r⟩

/-- a store into a row of one's own -/
theorem own_put {w : World} {B : Nat} {e : TypeId} {m : Nat} {g n cap : Nat} {xs : List Value} (h : w.ownsRow B e m (.slice (some ⟨g, 0, none⟩) n cap) n xs) (j : Nat) (v : Value) :
    (w.setCell ⟨g, j, none⟩ v).ownsRow B e m (.slice (some ⟨g, 0, none⟩) n cap) n (xs.set j v) := by
  refine ⟨by rw [List.length_set]; exact h.1, .inr ?_⟩
  rcases h.2 with ⟨e, -⟩ | ⟨g', cap', cur, hv, hB, hg, h1, h2, h3, h4⟩
  · cases e
  · cases hv
    refine ⟨g, cap, cur.setIfInBounds j v, rfl, hB, heap_setCell_same w g j cur e v hg, h1, h2, by simpa using h3, ?_⟩
    rw [Array.toList_setIfInBounds, ← h4, List.take_set]

theorem own_at {w : World} {B : Nat} {e : TypeId} {m : Nat} {g n cap : Nat} {xs : List Value} (h : w.ownsRow B e m (.slice (some ⟨g, 0, none⟩) n cap) n xs) (j : Nat) (hj : j < n * m) : (∃ x, w.cell? ⟨g, j, none⟩ = some x) ∧ w.frozen? ⟨g, j, none⟩ = false := by
  rcases h.2 with ⟨e, -⟩ | ⟨g', cap', cur, hv, hB, hg, h1, h2, h3, h4⟩
  · cases e
  · cases hv
    refine ⟨⟨cur[j]'(by have := Nat.mul_le_mul_right m h1; omega), ?_⟩, Lib.frozen_of_heap hg _⟩
    rw [Lib.cell_of_heap hg]
    exact Array.getElem?_eq_getElem _

theorem grown_refl (w : World) (r : Option Nat) : w.grownBy w r := ⟨rfl, rfl, rfl, Nat.le_refl _, fun _ _ _ => rfl⟩

def putAll (W : World) (b : Nat) : Nat → List Value → World
  | _, [] => W
  | o, x :: xs => putAll (W.setCell ⟨b, o, none⟩ x) b (o + 1) xs

theorem putAll_size (b : Nat) : ∀ (xs : List Value) (W : World) (o : Nat), (putAll W b o xs).heap.size = W.heap.size := by
  intro xs
  induction xs with
  | nil => intro W o; rfl
  | cons x xs ih => intro W o; rw [putAll, ih]; simp [World.setCell]
theorem putAll_other (b : Nat) : ∀ (xs : List Value) (W : World) (o k : Nat), k ≠ b → (putAll W b o xs).heap[k]? = W.heap[k]? := by
  intro xs
  induction xs with
  | nil => intro W o k _; rfl
  | cons x xs ih => intro W o k hk; rw [putAll, ih _ _ _ hk]; exact heap_setCell_other W ⟨b, o, none⟩ k x hk
theorem putAll_misc (b : Nat) : ∀ (xs : List Value) (W : World) (o : Nat), (putAll W b o xs).os = W.os ∧ (putAll W b o xs).tape = W.tape ∧ (putAll W b o xs).output = W.output := by
  intro xs
  induction xs with
  | nil => intro W o; exact ⟨rfl, rfl, rfl⟩
  | cons x xs ih => intro W o; rw [putAll]; exact ih _ _
theorem putAll_grown (b : Nat) (xs : List Value) (W : World) (o : Nat) : W.grownBy (putAll W b o xs) (some b) :=
  ⟨(putAll_misc b xs W o).1, (putAll_misc b xs W o).2.1, (putAll_misc b xs W o).2.2, Nat.le_of_eq (putAll_size b xs W o).symm, fun k _ hk => putAll_other b xs W o k (by intro e; exact hk (by rw [e]))⟩
theorem setCells_putAll (b : Nat) : ∀ (vs : List Value) (w : World) (o : Nat), w.setCells b o vs = putAll w b o vs := by
  intro vs
  induction vs with
  | nil => intro w o; rfl
  | cons x vs ih => intro w o; rw [World.setCells, putAll, ih]

theorem putAll_mid {b : Nat} {t : TypeId} : ∀ (xs mid : List Value) (W : World) (pre post : List Value), mid.length = xs.length → W.heap[b]? = some (.cells (pre ++ mid ++ post).toArray t) →
    (putAll W b pre.length xs).heap[b]? = some (.cells (pre ++ xs ++ post).toArray t) := by
  intro xs
  induction xs with
  | nil => intro mid W pre post hl h; cases mid with
    | nil => exact h
    | cons _ _ => cases hl
  | cons x xs ih =>
    intro mid W pre post hl h
    cases mid with
    | nil => cases hl
    | cons y mid =>
      have h1 := heap_setCell_same W b pre.length _ t x h
      have e : (pre ++ y :: mid ++ post).toArray.setIfInBounds pre.length x = ((pre ++ [x]) ++ mid ++ post).toArray := by simp
      rw [e] at h1
      have := ih mid (W.setCell ⟨b, pre.length, none⟩ x) (pre ++ [x]) post (by simpa using hl) h1
      rw [putAll]
      simpa using this

theorem there_of {w : World} {b : Nat} {cs : List Value} {t : TypeId} (hb : w.heap[b]? = some (.cells cs.toArray t)) (o n : Nat) (hn : o + n ≤ cs.length) : w.there b o n := by
  intro j hj
  refine ⟨?_, Lib.frozen_of_heap hb _⟩
  rw [Lib.cell_of_heap hb]
  have : cs.toArray[o + j]? = some (cs[o + j]'(by omega)) := by simp [List.getElem?_eq_getElem (show o + j < cs.length by omega)]
  rw [this]; rfl

section
variable {P : Program} {ops : Array Oper} {rest : List Oper} {op : Oper} {a : Act} {w : World} {Q : Exit → Act → World → Prop}

/-- a struct into the middle of a block; the world behind it a letter -/
theorem wpList_store_part (ty : TypeId) (x y : Operand) (hgd : op.guard = none) (ho : op.op = .store ty x y) (b : Nat) (pre mid post xs : List Value) (t : TypeId)
    (hx : a.eval x = .pointer (some ⟨b, pre.length, none⟩)) (hy : a.eval y = .agg xs.toArray) (hb : w.heap[b]? = some (.cells (pre ++ mid ++ post).toArray t)) (hl : mid.length = xs.length)
    (hi : (P.info? ty).map (·.size) = some xs.length) (h1 : ∀ v ∈ xs, v.oneCell' = true)
    (h : ∀ w', w'.heap[b]? = some (.cells (pre ++ xs ++ post).toArray t) → Hid (w' = putAll w b pre.length xs) → wpList P ops Q rest (a.put op.dst undef) w') : wpList P ops Q (op :: rest) a w := by
  refine wpList_store_mid hgd ty x y ho b pre.length xs.toArray hx hy (there_of hb _ _ (by simp; omega)) (by simpa using hi) (all_oneCell_toArray h1) ?_
  have e : w.setCells b pre.length xs.toArray.toList = putAll w b pre.length xs := by simpa using setCells_putAll b xs w pre.length
  rw [e]
  exact h _ (putAll_mid xs mid w pre post hl hb) (hide rfl)

/-- a struct into a whole block -/
theorem wpList_store_whole (ty : TypeId) (x y : Operand) (hgd : op.guard = none) (ho : op.op = .store ty x y) (b : Nat) (cs xs : List Value) (t : TypeId)
    (hx : a.eval x = .pointer (some ⟨b, 0, none⟩)) (hy : a.eval y = .agg xs.toArray) (hb : w.heap[b]? = some (.cells cs.toArray t)) (hl : cs.length = xs.length)
    (hi : (P.info? ty).map (·.size) = some xs.length) (h1 : ∀ v ∈ xs, v.oneCell' = true)
    (h : ∀ w', w'.heap[b]? = some (.cells xs.toArray t) → Hid (w' = putAll w b 0 xs) → wpList P ops Q rest (a.put op.dst undef) w') : wpList P ops Q (op :: rest) a w := by
  refine wpList_store_part ty x y hgd ho b [] cs [] xs t hx hy (by simpa using hb) hl hi h1 fun w' hw hp => h w' (by simpa using hw) hp

end


theorem below_putAll {base b : Nat} {w : World} (hb : base ≤ b) : ∀ (xs : List Value) (W : World) (o : Nat), Below base w W → Below base w (putAll W b o xs) := by
  intro xs
  induction xs with
  | nil => intro W o h; exact h
  | cons x xs ih => intro W o h; rw [putAll]; exact ih _ _ (h.setCell (p := ⟨b, o, none⟩) hb x)

theorem Try.size25 : (Try.prog.info? 25).map (·.size) = some 2 := by kernel_rfl

/-- a slice of texts of one's own is one in memory -/
theorem st_of_own {w : World} {B : Nat} {v : Value} {L : List ByteArray} (h : w.ownsRow B 9 1 v L.length (L.map Value.string)) (hn : L.length ≤ 1000) : StAt w v L := by
  rcases h.2 with ⟨rfl, h0⟩ | ⟨g, cap, cur, rfl, hB, hg, -⟩
  · refine ⟨none, 0, by rw [h0], by omega, fun _ => ⟨h0, rfl⟩, fun hne => absurd (List.eq_nil_of_length_eq_zero h0) hne⟩
  · refine ⟨some ⟨g, 0, none⟩, cap, rfl, by omega, (fun e => by cases e), fun hne => ⟨g, 0, rfl, (Array.getElem?_eq_some_iff.1 hg).1, fun i x hx => ?_⟩⟩
    have hi := (List.getElem?_eq_some_iff.1 hx).1
    have := h.cellAt i (by omega)
    rw [List.getElem?_map, hx] at this
    rw [Nat.zero_add]
    exact this

def wrC (x : Wr) : List Value := [.int .i64 x.n, .string x.s]

theorem flat_get {α : Type} (cf : α → List Value) (sz : Nat) (hsz : ∀ x, (cf x).length = sz) : ∀ (l : List α) (k : Nat) (x : α), l[k]? = some x → ∀ q, q < sz → (l.flatMap cf)[k * sz + q]? = (cf x)[q]? := by
  intro l
  induction l with
  | nil => intro k x h; simp at h
  | cons y r ih =>
    intro k x h q hq
    rw [List.flatMap_cons]
    cases k with
    | zero =>
      simp only [List.getElem?_cons_zero, Option.some.injEq] at h
      subst h
      rw [Nat.zero_mul, Nat.zero_add, List.getElem?_append_left (by rw [hsz]; exact hq)]
    | succ k =>
      have e : (k + 1) * sz + q = (cf y).length + (k * sz + q) := by rw [hsz, Nat.succ_mul]; omega
      rw [e, List.getElem?_append_right (by omega), Nat.add_sub_cancel_left]
      exact ih k x (by simpa using h) q hq

theorem wr_of_own {w : World} {B : Nat} {v : Value} {L : List Wr} (h : w.ownsRow B 56 2 v L.length (L.flatMap wrC)) (hn : L.length ≤ 1000) : WrAt w v L := by
  have h1 := h.1
  rcases h.2 with ⟨rfl, h0⟩ | ⟨g, cap, cur, rfl, hB, hg, -⟩
  · exact ⟨none, 0, by rw [h0], by omega, fun _ => ⟨h0, rfl⟩, fun hne => absurd (List.eq_nil_of_length_eq_zero h0) hne⟩
  · refine ⟨some ⟨g, 0, none⟩, cap, rfl, by omega, (fun e => by cases e), fun hne => ⟨g, 0, rfl, (Array.getElem?_eq_some_iff.1 hg).1, fun i x hx => ?_⟩⟩
    have hi := (List.getElem?_eq_some_iff.1 hx).1
    have at' : ∀ q, q < 2 → w.cell? ⟨g, i * 2 + q, none⟩ = (wrC x)[q]? := by
      intro q hq
      have := h.cellAt (i * 2 + q) (by omega)
      rw [flat_get wrC 2 (fun _ => rfl) L i x hx q hq] at this
      exact this
    rw [Nat.zero_add]
    exact ⟨at' 0 (by decide), at' 1 (by decide)⟩

/-- slices.Clone of texts -/
theorem clone_any (L : List ByteArray) (u : Value) (w : World) (h : StAt w u L) :
    Calls Try.prog 29 #[u] w fun e w' => ∃ v, e = .returned v ∧ w'.ownsRow w.heap.size 9 1 v L.length (L.map Value.string) ∧ Below w.heap.size w w' := by
  obtain ⟨ao, cap, rfl, hl, hnil, hc⟩ := h
  cases ao with
  | none =>
    obtain ⟨h0, -⟩ := hnil rfl
    have hL : L = [] := List.eq_nil_of_length_eq_zero h0
    subst hL
    refine (Try.slices_Clone_string_nil _ _ w).mono ?_
    rintro e w' ⟨rfl, rfl⟩
    exact ⟨_, rfl, World.ownsRow_nil _ _ _ _, Below.refl _ _⟩
  | some a =>
    by_cases hL : L = []
    · subst hL
      refine (Try.slices_Clone_string_zero a cap w).mono ?_
      rintro e w' ⟨v, rfl, h1, -, h2⟩
      exact ⟨_, rfl, h1, h2⟩
    · obtain ⟨g, o, e, hg, hcc⟩ := hc hL
      cases e
      refine (Try.slices_Clone_string g o L.length cap L w (Nat.le_refl _) hl (fun j hj => ?_)).mono ?_
      · have := hcc j (L[j]) (List.getElem?_eq_getElem hj)
        rw [this, List.getD_eq_getElem?_getD, List.getElem?_eq_getElem hj]; rfl
      · rintro e w' ⟨v, rfl, h1, -, h2⟩
        rw [List.take_length] at h1
        exact ⟨_, rfl, h1, h2⟩

end Go.Proofs.Ytppgkhcmdajolaa
