/-
  ExprKinds is proved for every slice of columns, every slice of values and every expression: what Eval answers is of the kind that Kind answers, or nothing, and right, and what is not so is so; no condition of ours.
-/
import Derived.Test.YtjmhkeooiimpfaaGreatCol
import Derived.ProofKit
import Derived.Deep.Slices
import Derived.Deep.Strs
import Derived.Lib.SmallJoins
import Derived.SizedLaws
import Derived.ChangeOld
import Derived.Test.YtjmhkeooiimpfaaGreatRows
import Derived.Test.YtjmhkeooiimpfaaGreatLwk
import Derived.WalkKit
import Derived.OpenShut
import Derived.ShutString
import Derived.Below
namespace Go.Proofs.YtjmhkeooiimpfaaGreat

section
open Go.RowKit

theorem oc3 : Tryz.prog.cellsOf 3 = 1 := by kernel_rfl

theorem oc9 : Tryz.prog.cellsOf 9 = 1 := by kernel_rfl

theorem oc56 : Tryz.prog.cellsOf 43 = 2 := by kernel_rfl

theorem oc24 : Tryz.prog.cellsOf 25 = 3 := by kernel_rfl

theorem oc27 : Tryz.prog.cellsOf 26 = 1 := by kernel_rfl

theorem oc29 : Tryz.prog.cellsOf 28 = 6 := by kernel_rfl

theorem ob29 : Tryz.prog.bytesOf 28 = 80 := by kernel_rfl

theorem mem_weightsAll {H : Type} {P : Program} {e : TypeId} : ∀ {l : List (DataW H)} {d : DataW H} {n : Nat}, d ∈ l → n ∈ d.weights P e → n ∈ DataW.weightsAll P e l
  | [], _, _, h, _ => by cases h
  | x :: r, d, n, h, hn => by
    simp only [DataW.weightsAll, List.mem_append]
    rcases List.mem_cons.1 h with rfl | h
    · exact Or.inl hn
    · exact Or.inr (mem_weightsAll h hn)

theorem len2 {α : Type} {l : List α} (h : l.length = 2) : ∃ a b, l = [a, b] := by
  match l, h with
  | [a, b], _ => exact ⟨a, b, rfl⟩

theorem len3 {α : Type} {l : List α} (h : l.length = 3) : ∃ a b c, l = [a, b, c] := by
  match l, h with
  | [a, b, c], _ => exact ⟨a, b, c, rfl⟩

theorem len6 {α : Type} {l : List α} (h : l.length = 6) : ∃ a b c d e f, l = [a, b, c, d, e, f] := by
  match l, h with
  | [a, b, c, d, e, f], _ => exact ⟨a, b, c, d, e, f, rfl⟩

theorem flat_list {α : Type} (C : α → List Value) {m : Nat} (hC : ∀ y, (C y).length = m) : ∀ (L : List α) (j : Nat) (x : Value), (L.flatMap C)[j]? = some x → ∃ i k y, k < m ∧ L[i]? = some y ∧ j = i * m + k ∧ (C y)[k]? = some x
  | [], j, x, h => by simp at h
  | y :: r, j, x, h => by
    rw [List.flatMap_cons] at h
    by_cases hj : j < m
    · rw [List.getElem?_append_left (by rw [hC]; exact hj)] at h
      exact ⟨0, j, y, hj, rfl, by omega, h⟩
    · rw [List.getElem?_append_right (by rw [hC]; omega), hC] at h
      obtain ⟨i, k, z, hk, hz, e, hx⟩ := flat_list C hC r _ x h
      exact ⟨i + 1, k, z, hk, by simpa using hz, by rw [Nat.add_mul]; omega, hx⟩

theorem flat_at {α : Type} (F : Nat → α) (C : α → List Value) {m l j : Nat} {x : Value} (hC : ∀ y, (C y).length = m) (hj : (((List.range l).map F).flatMap C)[j]? = some x) : ∃ i k, k < m ∧ i < l ∧ j = i * m + k ∧ (C (F i))[k]? = some x := by
  obtain ⟨i, k, y, hk, hy, e, hx⟩ := flat_list C hC _ _ _ hj
  rw [List.getElem?_map] at hy
  obtain ⟨i', h1, h2⟩ := Option.map_eq_some_iff.1 hy
  obtain ⟨h3, h4⟩ := List.getElem?_eq_some_iff.1 h1
  simp at h3 h4
  subst h4 h2
  exact ⟨_, k, hk, h3, e, hx⟩


section
variable {H : Type} {enc : TypeId × Value → H} {W : World} {spare : Nat → Bool} {held : Bool}
theorem fld {n k off : Nat} {t : TypeId} {l cs : List Value} {y : Option (DataW H × List MemPlace)} (hk : Tryz.prog.cellsOf t = k) (h : DataW.trod enc Tryz.prog W 0 spare held n t ((l.drop off).take (Tryz.prog.cellsOf t)) = y) (hc : (l.drop off).take k = cs) : DataW.trod enc Tryz.prog W 0 spare held n t cs = y := by
  rw [← hc, ← hk]; exact h

end

section
variable {H : Type} {enc : TypeId × Value → H} {W : World} {spare : Nat → Bool} {held : Bool}
theorem open_int {fuel : Nat} {v : Value} {x : DataW H × List MemPlace} (h : DataW.trod enc Tryz.prog W 0 spare held fuel 3 [v] = some x) : ∃ k : Int, v = .int .i64 k := by
  obtain ⟨k, e0, _, _⟩ := DataW.trod_int Tryz.underlying3 h
  simp at e0
  exact ⟨k, e0⟩

end

section
variable {H : Type} {enc : TypeId × Value → H} {W : World} {spare : Nat → Bool} {held : Bool}
theorem open_str {fuel : Nat} {v : Value} {x : DataW H × List MemPlace} (h : DataW.trod enc Tryz.prog W 0 spare held fuel 9 [v] = some x) : ∃ s : List UInt8, v = .string ⟨s.toArray⟩ ∧ x.1 = .lit (.string s) := by
  obtain ⟨s, e0, rfl, _⟩ := DataW.trod_string Tryz.underlying9 h
  simp at e0
  exact ⟨s.data.toList, by rw [e0], rfl⟩

end

section
variable {H : Type} {enc : TypeId × Value → H} {W : World} {spare : Nat → Bool} {held : Bool}
theorem str_size {s : List UInt8} (h : ∀ n ∈ (DataW.lit (.string s) : DataW H).weights Tryz.prog 9, n ≤ reachBytes) : s.length ≤ 140737488355328 := by
  have hr := reachBytes_lt
  have := h s.length (by simp [DataW.weights])
  omega

end

section
variable {H : Type} {enc : TypeId × Value → H} {W : World} {spare : Nat → Bool} {held : Bool}
theorem open_vl {fuel : Nat} {cs : List Value} {x : DataW H × List MemPlace}
    (h : DataW.trod enc Tryz.prog W 0 spare held fuel 25 cs = some x) : ∃ y : Vl, cs = vlC y ∧ x.1 = .agg [.lit (.int .i64 y.k), .lit (.int .i64 y.n), .lit (.string y.s)] := by
  obtain ⟨y0, y1, y2, n, rfl, hl, h0, h1, h2⟩ := Deep.trod_struct3 Tryz.underlying25 h
  obtain ⟨c0, c1, c2, rfl⟩ := len3 (hl.trans oc24)
  have g0 := fld (cs := [c0]) oc3 h0 rfl
  have g1 := fld (cs := [c1]) oc3 h1 rfl
  have g2 := fld (cs := [c2]) oc9 h2 rfl
  obtain ⟨k, e0, rfl, _⟩ := DataW.trod_int Tryz.underlying3 g0
  obtain ⟨a, e1, rfl, _⟩ := DataW.trod_int Tryz.underlying3 g1
  obtain ⟨s, e2, rfl, _⟩ := DataW.trod_string Tryz.underlying9 g2
  simp at e0 e1 e2
  subst e0 e1 e2
  exact ⟨⟨k, a, s.data.toList⟩, rfl, rfl⟩

end

section
variable {H : Type} {enc : TypeId × Value → H} {W : World} {spare : Nat → Bool} {held : Bool}
theorem vl_size {y : Vl} {d : DataW H} (hd : d = .agg [.lit (.int .i64 y.k), .lit (.int .i64 y.n), .lit (.string y.s)]) (h : ∀ n ∈ d.weights Tryz.prog 25, n ≤ reachBytes) : y.s.length ≤ 140737488355328 := by
  have hr := reachBytes_lt
  have := h y.s.length (by rw [hd]; simp [DataW.weights, DataW.weightsEach, Tryz.underlying25])
  omega

end

section
variable {H : Type} {enc : TypeId × Value → H} {W : World} {spare : Nat → Bool} {held : Bool}
theorem open_cl {fuel : Nat} {cs : List Value} {x : DataW H × List MemPlace}
    (h : DataW.trod enc Tryz.prog W 0 spare held fuel 43 cs = some x) : ∃ y : Cl, cs = clC y ∧ x.1 = .agg [.lit (.string y.name), .lit (.int .i64 y.ty)] := by
  obtain ⟨y0, y1, n, rfl, hl, h0, h1⟩ := ChangeShapes.trod_struct2 Tryz.underlying43 h
  obtain ⟨c0, c1, rfl⟩ := len2 (hl.trans oc56)
  have g0 := fld (cs := [c0]) oc9 h0 rfl
  have g1 := fld (cs := [c1]) oc3 h1 rfl
  obtain ⟨s, e0, rfl, _⟩ := DataW.trod_string Tryz.underlying9 g0
  obtain ⟨a, e1, rfl, _⟩ := DataW.trod_int Tryz.underlying3 g1
  simp at e0 e1
  subst e0 e1
  exact ⟨⟨s.data.toList, a⟩, rfl, rfl⟩

end

section
variable {H : Type} {enc : TypeId × Value → H} {W : World} {spare : Nat → Bool} {held : Bool}
theorem cl_size {y : Cl} {d : DataW H} (hd : d = .agg [.lit (.string y.name), .lit (.int .i64 y.ty)]) (h : ∀ n ∈ d.weights Tryz.prog 43, n ≤ reachBytes) : y.name.length ≤ 140737488355328 := by
  have hr := reachBytes_lt
  have := h y.name.length (by rw [hd]; simp [DataW.weights, DataW.weightsEach, Tryz.underlying43])
  omega

end

section
variable {H : Type} {enc : TypeId × Value → H} {W : World} {spare : Nat → Bool} {held : Bool}
/-- a slice of elements of a few cells each -/
theorem open_row {α : Type} [Inhabited α] {t e : TypeId} {fuel : Nat} {v : Value} {x : DataW H × List MemPlace} (C : α → List Value) (D0 : α → DataW H) (m : Nat) (bs : Nat) (hm : 0 < m) (hbs : 0 < bs) (hC : ∀ y, (C y).length = m)
    (ht : Tryz.prog.underlying t = some (.slice e)) (hc : Tryz.prog.cellsOf e = m) (hb : Tryz.prog.bytesOf e = bs)
    (one : ∀ {fuel : Nat} {cs : List Value} {x : DataW H × List MemPlace}, DataW.trod enc Tryz.prog W 0 spare held fuel e cs = some x → ∃ y : α, cs = C y ∧ x.1 = D0 y)
    (h : DataW.trod enc Tryz.prog W 0 spare held fuel t [v] = some x) (hsz : ∀ n ∈ x.1.weights Tryz.prog t, n ≤ reachBytes) :
    ∃ L : List α, RowAt 0 W v L.length (L.flatMap C) ∧ L.length ≤ 1000000000000000 ∧ ∀ y ∈ L, ∀ n ∈ (D0 y).weights Tryz.prog e, n ≤ reachBytes := by
  have hr := reachBytes_lt
  rcases Deep.open_slice ht h with ⟨hcs, _⟩ | ⟨a, l, c, m', n, D, Pl, hcs, hb', hl, hm', hmm, hx, hel⟩
  · simp at hcs
    subst hcs
    exact ⟨[], .inl ⟨rfl, _, _, rfl⟩, Nat.zero_le _, (by intro y hy; cases hy)⟩
  · simp at hcs
    subst hcs
    have hlm : l ≤ m' := by rw [hmm]; split <;> omega
    have hex : ∀ i, i < l → ∃ y : α, W.cells? 0 (a.add (i * m)) m = some (C y) ∧ D i = D0 y := by
      intro i hi
      obtain ⟨cs', h1, h2⟩ := hel i (by omega)
      rw [hc] at h1
      obtain ⟨y, rfl, hy⟩ := one h2
      exact ⟨y, h1, hy⟩
    obtain ⟨F, hF⟩ := Deep.choose_lt (α := α) hex
    have hw1 : (l + (m' - l)) * bs ≤ reachBytes := by
      have := hsz ((l + (m' - l)) * bs) (by rw [hx]; simp [DataW.weights, ht, hb])
      exact this
    have hl0 : l ≤ reachBytes := by
      have : l * 1 ≤ (l + (m' - l)) * bs := Nat.mul_le_mul (by omega) hbs
      omega
    have hll : ((List.range l).map F).length = l := by simp
    refine ⟨(List.range l).map F, ?_, by rw [hll]; omega, ?_⟩
    · rw [hll]
      rcases Nat.eq_zero_or_pos l with h0 | h0
      · subst h0; exact .inl ⟨rfl, _, _, rfl⟩
      · right
        obtain ⟨b, off, spot⟩ := a
        have add_plain : ∀ j, (⟨b, off, none⟩ : Addr).add j = ⟨b, off + j, none⟩ := fun j => Go.WideShapes.add_plain b off j
        have hspot : spot = none := by
          have := (World.cells?_some (hF 0 h0).1).2.2 0 (by omega)
          simp only [Nat.zero_mul] at this
          have hne : (C (F 0))[0]? ≠ none := by
            have := hC (F 0)
            intro hh
            have := List.getElem?_eq_none_iff.1 hh
            omega
          obtain ⟨q, hq⟩ := Option.ne_none_iff_exists'.1 hne
          rw [hq] at this
          have := World.cell?_spot this
          simpa [Addr.add] using this
        subst hspot
        refine ⟨b, off, c, rfl, Nat.zero_le _, ?_, ?_⟩
        · have := World.cells?_block (hF 0 h0).1 (by omega)
          simpa [Addr.add] using this
        · intro j x hj
          obtain ⟨i, k, hk, hi, e1, e2⟩ : ∃ i k, k < m ∧ i < l ∧ j = i * m + k ∧ (C (F i))[k]? = some x := flat_at F C hC hj
          have h3 := (World.cells?_some (hF i hi).1).2.2 k (by omega)
          rw [add_plain, Go.WideShapes.add_plain, e2] at h3
          rw [e1, ← Nat.add_assoc]
          exact h3
    · intro y hy n hn
      obtain ⟨i, hi, rfl⟩ := List.mem_map.1 hy
      have hi' : i < l := by simpa using hi
      apply hsz
      rw [hx]
      simp only [DataW.weights, ht, List.mem_cons, List.mem_append]
      right; left
      refine mem_weightsAll (List.mem_map.2 ⟨i, hi, rfl⟩) ?_
      rw [(hF i hi').2]
      exact hn

end

section
variable {H : Type} {enc : TypeId × Value → H} {W : World} {spare : Nat → Bool} {held : Bool}
/-- an expression, read off six cells -/
theorem open_ex (N : Nat) : ∀ {fuel : Nat} {cs : List Value} {x : DataW H × List MemPlace}, SizeOf.sizeOf x.1 ≤ N → DataW.trod enc Tryz.prog W 0 spare held fuel 28 cs = some x → (∀ n ∈ x.1.weights Tryz.prog 28, n ≤ reachBytes) →
    ∃ (y : Ex) (a : Value), cs = [.int .i64 y.k, .int .i64 y.v.k, .int .i64 y.v.n, .string ⟨y.v.s.toArray⟩, .string ⟨y.nm.toArray⟩, a] ∧ ExAt 0 W (exV y.k y.v y.nm a) y ∧ Fit y := by
  induction N with
  | zero =>
    intro fuel cs x hN h hsz
    obtain ⟨y0, y1, y2, y3, n, rfl, hl, h0, h1, h2, h3⟩ := Joins.trod_struct4 Tryz.underlying28 h
    simp at hN
  | succ N ih =>
    intro fuel cs x hN h hsz
    have hr := reachBytes_lt
    obtain ⟨y0, y1, y2, y3, n, rfl, hl, h0, h1, h2, h3⟩ := Joins.trod_struct4 Tryz.underlying28 h
    obtain ⟨c0, c1, c2, c3, c4, c5, rfl⟩ := len6 (hl.trans oc29)
    · replace h0 := fld (cs := [c0]) oc3 h0 rfl
      replace h1 := fld (cs := [c1, c2, c3]) oc24 h1 rfl
      replace h2 := fld (cs := [c4]) oc9 h2 rfl
      replace h3 := fld (cs := [c5]) oc27 h3 rfl
      obtain ⟨k, rfl⟩ := open_int h0
      obtain ⟨v, hv, dv⟩ := open_vl h1
      obtain ⟨s, rfl, ds⟩ := open_str h2
      simp only [vlC, List.cons.injEq, and_true] at hv
      obtain ⟨rfl, rfl, rfl⟩ := hv
      have w1 : ∀ n ∈ y1.1.weights Tryz.prog 25, n ≤ reachBytes := fun n hn => hsz n (by simp [DataW.weights, DataW.weightsEach, Tryz.underlying28, hn])
      have w2 : ∀ n ∈ y2.1.weights Tryz.prog 9, n ≤ reachBytes := fun n hn => hsz n (by simp [DataW.weights, DataW.weightsEach, Tryz.underlying28, hn])
      have w3 : ∀ n ∈ y3.1.weights Tryz.prog 26, n ≤ reachBytes := fun n hn => hsz n (by simp [DataW.weights, DataW.weightsEach, Tryz.underlying28, hn])
      have z1 := vl_size dv w1
      have z2 := str_size (by rw [← ds]; exact w2)
      have hN' : SizeOf.sizeOf y3.1 ≤ N := by simp at hN; omega
      rcases Deep.open_slice Tryz.underlying26 h3 with ⟨hcs, _⟩ | ⟨a, l, c, m', n', D, Pl, hcs, hb', hl, hm', hmm, hx, hel⟩
      · simp at hcs
        subst hcs
        exact ⟨.mk k v s [], _, rfl, .nil k v s none 0 (fun _ => rfl), .mk k v s [] z1 z2 (by simp) (by intro y hy; cases hy)⟩
      · simp at hcs
        subst hcs
        have hlm : l ≤ m' := by rw [hmm]; split <;> omega
        have hw1 : (l + (m' - l)) * 80 ≤ reachBytes := by
          have := w3 ((l + (m' - l)) * 80) (by rw [hx]; simp [DataW.weights, Tryz.underlying26, ob29])
          exact this
        have hex : ∀ i, i < l → ∃ y : Ex × Value, W.cells? 0 (a.add (i * 6)) 6 = some [.int .i64 y.1.k, .int .i64 y.1.v.k, .int .i64 y.1.v.n, .string ⟨y.1.v.s.toArray⟩, .string ⟨y.1.nm.toArray⟩, y.2] ∧ ExAt 0 W (exV y.1.k y.1.v y.1.nm y.2) y.1 ∧ Fit y.1 := by
          intro i hi
          obtain ⟨cs', g1, g2⟩ := hel i (by omega)
          rw [oc29] at g1
          have hmem : D i ∈ (List.range l).map D := List.mem_map.2 ⟨i, by simpa using hi, rfl⟩
          have hlt : SizeOf.sizeOf (D i) ≤ N := by
            have h5 := List.sizeOf_lt_of_mem hmem
            rw [hx] at hN'
            simp only [DataW.slice.sizeOf_spec] at hN'
            omega
          obtain ⟨y, b, rfl, hy1, hy2⟩ := ih (x := (D i, Pl i)) hlt g2 (fun n hn => w3 n (by
            rw [hx]
            simp only [DataW.weights, Tryz.underlying26, List.mem_cons, List.mem_append]
            right; left
            exact mem_weightsAll hmem hn))
          exact ⟨(y, b), g1, hy1, hy2⟩
        have inh : Inhabited (Ex × Value) := ⟨(.mk 0 ⟨0, 0, []⟩ [] [], .bool true)⟩
        obtain ⟨F, hF⟩ := Deep.choose_lt (α := Ex × Value) hex
        have hll : ((List.range l).map fun i => (F i).1).length = l := by simp
        have hget : ∀ i y, ((List.range l).map fun i => (F i).1)[i]? = some y → i < l ∧ y = (F i).1 := by
          intro i y h
          rw [List.getElem?_map] at h
          obtain ⟨j, h1, h2⟩ := Option.map_eq_some_iff.1 h
          obtain ⟨h3, h4⟩ := List.getElem?_eq_some_iff.1 h1
          simp at h3 h4
          subst h4
          exact ⟨h3, h2.symm⟩
        rcases Nat.eq_zero_or_pos l with h0 | h0
        · subst h0
          exact ⟨.mk k v s [], _, rfl, .nil k v s (some a) c (fun e => by cases e), .mk k v s [] z1 z2 (by simp) (by intro y hy; cases hy)⟩
        · obtain ⟨b, off, spot⟩ := a
          have add_plain : ∀ j, (⟨b, off, none⟩ : Addr).add j = ⟨b, off + j, none⟩ := fun j => Go.WideShapes.add_plain b off j
          have hspot : spot = none := by
            have := (World.cells?_some (hF 0 h0).1).2.2 0 (by omega)
            simp [Addr.add] at this
            exact World.cell?_spot this
          subst hspot
          refine ⟨.mk k v s ((List.range l).map fun i => (F i).1), .slice (some ⟨b, off, none⟩) l c, rfl, ?_, ?_⟩
          · have := ExAt.args (B := 0) (w := W) k v s b off c ((List.range l).map fun i => (F i).1) (fun i => exV (F i).1.k (F i).1.v (F i).1.nm (F i).2) (by intro hh; have := congrArg List.length hh; rw [hll] at this; simp at this; omega) (Nat.zero_le _)
              (by have := World.cells?_block (hF 0 h0).1 (by omega); simpa [Addr.add] using this) ?_ ?_
            · rw [hll] at this; exact this
            · intro i hi
              rw [hll] at hi
              have hc := (World.cells?_some (hF i hi).1).2.2
              have e0 := hc 0 (by omega)
              have e1 := hc 1 (by omega)
              have e2 := hc 2 (by omega)
              have e3 := hc 3 (by omega)
              have e4 := hc 4 (by omega)
              have e5 := hc 5 (by omega)
              rw [add_plain, Go.WideShapes.add_plain, Nat.mul_comm i 6] at e0 e1 e2 e3 e4 e5
              exact ⟨_, _, _, _, rfl, e0, e1, e2, e3, e4, e5⟩
            · intro i y hy
              obtain ⟨hi, rfl⟩ := hget i y hy
              exact (hF i hi).2.1
          · refine .mk k v s _ z1 z2 ?_ ?_
            · rw [hll]
              have e1 : reachBytes = 140737488351232 := by decide
              have : l * 80 ≤ (l + (m' - l)) * 80 := Nat.mul_le_mul_right _ (by omega)
              omega
            · intro y hy
              obtain ⟨i, hi, rfl⟩ := List.mem_map.1 hy
              exact (hF i (by simpa using hi)).2.2

end

theorem Tryz.cells25 : Tryz.prog.cellsOf 25 = 3 := by kernel_rfl
theorem Tryz.bytes25 : Tryz.prog.bytesOf 25 = 32 := by kernel_rfl
theorem Tryz.cells43 : Tryz.prog.cellsOf 43 = 2 := by kernel_rfl
theorem Tryz.bytes43 : Tryz.prog.bytesOf 43 = 24 := by kernel_rfl

theorem open_vls {H : Type} {enc : TypeId × Value → H} {W : World} {spare : Nat → Bool} {held : Bool} {fuel : Nat} {a0 : Option Addr} {len cap : Nat} {x : DataW H × List MemPlace}
    (h : DataW.trod enc Tryz.prog W 0 spare held fuel 23 [.slice a0 len cap] = some x) (hsz : ∀ n ∈ x.1.weights Tryz.prog 23, n ≤ reachBytes) :
    ∃ L : List Vl, VsAt W (.slice a0 len cap) L := by
  have hr := reachBytes_lt
  rcases Deep.open_slice Tryz.underlying23 h with ⟨hcs, _⟩ | ⟨a, l, c, m, n, D, Pl, hcs, hb, hl, hm, hmm, hx, hel⟩
  · simp at hcs
    obtain ⟨rfl, rfl, rfl⟩ := hcs
    exact ⟨[], none, 0, rfl, by decide, (by intro y hy; cases hy), fun e => absurd rfl e⟩
  · simp at hcs
    obtain ⟨rfl, rfl, rfl⟩ := hcs
    have hlm : len ≤ m := by rw [hmm]; split <;> omega
    have hex : ∀ i, i < len → ∃ y : Vl, W.cells? 0 (a.add (i * 3)) 3 = some (vlC y) ∧ D i = .agg [.lit (.int .i64 y.k), .lit (.int .i64 y.n), .lit (.string y.s)] := by
      intro i hi
      obtain ⟨cs', h1, h2⟩ := hel i (by omega)
      rw [Tryz.cells25] at h1
      obtain ⟨y, rfl, hy⟩ := open_vl h2
      exact ⟨y, h1, hy⟩
    have inh : Inhabited Vl := ⟨⟨0, 0, []⟩⟩
    obtain ⟨F, hF⟩ := Deep.choose_lt (α := Vl) hex
    have hget : ∀ i y, ((List.range len).map F)[i]? = some y → i < len ∧ y = F i := by
      intro i y h
      rw [List.getElem?_map] at h
      obtain ⟨j, h1, h2⟩ := Option.map_eq_some_iff.1 h
      obtain ⟨h3, h4⟩ := List.getElem?_eq_some_iff.1 h1
      simp at h3 h4
      subst h4
      exact ⟨h3, h2.symm⟩
    have hw1 : (len + (m - len)) * 32 ≤ reachBytes := by
      have := hsz ((len + (m - len)) * 32) (by rw [hx]; simp [DataW.weights, Tryz.underlying23, Tryz.bytes25])
      exact this
    have hll : ((List.range len).map F).length = len := by simp
    refine ⟨(List.range len).map F, some a, cap, by rw [hll], by rw [hll]; omega, ?_, ?_⟩
    · intro y hy
      obtain ⟨i, hi, rfl⟩ := List.mem_map.1 hy
      have hi' : i < len := by simpa using hi
      have : (F i).s.length ≤ reachBytes := by
        apply hsz
        rw [hx]
        simp only [DataW.weights, Tryz.underlying23, List.mem_cons, List.mem_append]
        right; left
        refine mem_weightsAll (List.mem_map.2 ⟨i, hi, rfl⟩) ?_
        rw [(hF i hi').2]
        simp [DataW.weights, DataW.weightsEach, Tryz.underlying25]
      omega
    · intro hne
      have h0 : 0 < len := by
        rcases Nat.eq_zero_or_pos len with h | h
        · subst h; exact absurd rfl hne
        · exact h
      obtain ⟨b, off, spot⟩ := a
      have hspot : spot = none := by
        have := (World.cells?_some (hF 0 h0).1).2.2 0 (by omega)
        simp [Addr.add, vlC] at this
        exact World.cell?_spot this
      subst hspot
      refine ⟨b, off, rfl, ?_, ?_⟩
      · have := World.cells?_block (hF 0 h0).1 (by omega)
        simpa [Addr.add] using this
      · intro i y hy
        obtain ⟨hi, rfl⟩ := hget i y hy
        have hc := (World.cells?_some (hF i hi).1).2.2
        have add_plain : ∀ j, (⟨b, off, none⟩ : Addr).add j = ⟨b, off + j, none⟩ := fun j => Go.WideShapes.add_plain b off j
        have c0 := hc 0 (by omega)
        have c1 := hc 1 (by omega)
        have c2 := hc 2 (by omega)
        rw [add_plain, Go.WideShapes.add_plain] at c0 c1 c2
        exact ⟨c0, c1, c2⟩


theorem open_cls {H : Type} {enc : TypeId × Value → H} {W : World} {spare : Nat → Bool} {held : Bool} {fuel : Nat} {a0 : Option Addr} {len cap : Nat} {x : DataW H × List MemPlace}
    (h : DataW.trod enc Tryz.prog W 0 spare held fuel 22 [.slice a0 len cap] = some x) (hsz : ∀ n ∈ x.1.weights Tryz.prog 22, n ≤ reachBytes) :
    ∃ L : List Cl, CsAt W (.slice a0 len cap) L ∧ len ≤ cap := by
  have hr := reachBytes_lt
  rcases Deep.open_slice Tryz.underlying22 h with ⟨hcs, _⟩ | ⟨a, l, c, m, n, D, Pl, hcs, hb, hl, hm, hmm, hx, hel⟩
  · simp at hcs
    obtain ⟨rfl, rfl, rfl⟩ := hcs
    exact ⟨[], ⟨none, 0, rfl, by decide, fun e => absurd rfl e⟩, Nat.le_refl _⟩
  · simp at hcs
    obtain ⟨rfl, rfl, rfl⟩ := hcs
    have hlm : len ≤ m := by rw [hmm]; split <;> omega
    have hex : ∀ i, i < len → ∃ y : Cl, W.cells? 0 (a.add (i * 2)) 2 = some [.string ⟨y.name.toArray⟩, .int .i64 y.ty] := by
      intro i hi
      obtain ⟨cs', h1, h2⟩ := hel i (by omega)
      rw [Tryz.cells43] at h1
      obtain ⟨y, rfl, -⟩ := open_cl h2
      exact ⟨y, h1⟩
    have inh : Inhabited Cl := ⟨⟨[], 0⟩⟩
    obtain ⟨F, hF⟩ := Deep.choose_lt (α := Cl) hex
    have hget : ∀ i y, ((List.range len).map F)[i]? = some y → i < len ∧ y = F i := by
      intro i y h
      rw [List.getElem?_map] at h
      obtain ⟨j, h1, h2⟩ := Option.map_eq_some_iff.1 h
      obtain ⟨h3, h4⟩ := List.getElem?_eq_some_iff.1 h1
      simp at h3 h4
      subst h4
      exact ⟨h3, h2.symm⟩
    have hw1 : (len + (m - len)) * 24 ≤ reachBytes := by
      have := hsz ((len + (m - len)) * 24) (by rw [hx]; simp [DataW.weights, Tryz.underlying22, Tryz.bytes43])
      exact this
    have hll : ((List.range len).map F).length = len := by simp
    refine ⟨(List.range len).map F, ⟨some a, cap, by rw [hll], by rw [hll]; omega, ?_⟩, by omega⟩
    intro hne
    have h0 : 0 < len := by
      rcases Nat.eq_zero_or_pos len with h | h
      · subst h; exact absurd rfl hne
      · exact h
    obtain ⟨b, off, spot⟩ := a
    have hspot : spot = none := by
      have := (World.cells?_some (hF 0 h0)).2.2 0 (by omega)
      simp [Addr.add] at this
      exact World.cell?_spot this
    subst hspot
    refine ⟨b, off, rfl, ?_, ?_⟩
    · have := World.cells?_block (hF 0 h0) (by omega)
      simpa [Addr.add] using this
    · intro i y hy
      obtain ⟨hi, rfl⟩ := hget i y hy
      have hc := (World.cells?_some (hF i hi)).2.2
      have c0 := hc 0 (by omega)
      have c1 := hc 1 (by omega)
      rw [Go.WideShapes.add_plain, Go.WideShapes.add_plain] at c0 c1
      exact ⟨c0, c1⟩
end

section
open Go.ChangeShapes Go.WideShapes Go.ChangeAt Go.RowKit

theorem exprKinds_own : ownKnob Tryz.prog.godebug = none := by kernel_rfl
theorem exprKinds_laidOut : laidOutB Tryz.prog = true := by kernel_rfl

set_option maxRecDepth 100000 in
set_option maxHeartbeats 1600000 in
theorem exprKinds_lifted (os : Os) (started : os.Started) (H : Type) (enc : TypeId × Value → H) :
    ReturnsInHanded {} Tryz.checked os 3 .any (Rows.exprKindsSpec.pre6 enc Tryz.prog Tryz.f3 Rows.exprKindsRow.domain false) (Rows.exprKindsSpec.post enc Tryz.prog Tryz.f3 false true false false) := by
  refine returnsInHanded_of_change_sized (C := Tryz.checked) exprKinds_own started (by kernel_rfl) Tryz.func3
    (ChangeSpec.witness6 (enc := enc) (C := Tryz.checked) false ⟨#[], #[.slice none 0 0, .slice none 0 0, .agg #[.int .i64 0, .int .i64 0, .int .i64 0, .string ⟨#[]⟩, .string ⟨#[]⟩, .slice none 0 0]], []⟩ 8 (by kernel_rfl) (by kernel_rfl) (by kernel_rfl) (by kernel_rfl)) ?_
  intro W base args ds gs before hval0 hW _ hsz0 _
  have hsz : (DataW.weightsEach Tryz.prog (Tryz.f3.params.toList ++ Rows.exprKindsSpec.plain.varTypes Tryz.prog) (ds ++ gs)).all (· ≤ reachBytes) = true := hsz0
  have hval : ∀ (j : Nat) t v, Tryz.f3.params[j]? = some t → args[j]? = some v → Value.okWide Tryz.prog W .any base t v := hval0
  have hW' := hW
  obtain ⟨p, q, hA0, hV, rfl, hfz, hnd⟩ := hW
  have hA : DataW.TrodAll enc Tryz.prog W 0 (fun _ => true) true Tryz.f3.params.toList args.toList ds p := hA0
  rw [Tryz.params3] at hA hval hsz
  obtain ⟨v0, v1, v2, d0, d1, d2, p0, p1, p2, rfl, rfl, rfl, h0, h1, h2⟩ := trodAll_three hA
  obtain ⟨rfl, rfl⟩ := trodVars_none hV
  obtain ⟨a0, len0, cap0, rfl⟩ := okWide_slice Tryz.underlying22 (hval 0 22 v0 rfl rfl)
  obtain ⟨a1, len1, cap1, rfl⟩ := okWide_slice Tryz.underlying23 (hval 1 23 v1 rfl rfl)
  obtain ⟨cs, rfl, hcn⟩ := WideShapes.okWide_struct Tryz.underlying28 (hval 2 28 v2 rfl rfl)
  have k0 := h0
  have k1 := h1
  have k2 := h2
  have lt0 : ∀ x ∈ p0, x.block < W.heap.size := by obtain ⟨m, hm⟩ := k0; exact DataW.trod_lt m _ _ _ hm
  have lt1 : ∀ x ∈ p1, x.block < W.heap.size := by obtain ⟨m, hm⟩ := k1; exact DataW.trod_lt m _ _ _ hm
  have lt2 : ∀ x ∈ p2, x.block < W.heap.size := by obtain ⟨m, hm⟩ := k2; exact DataW.trod_lt m _ _ _ hm
  obtain ⟨L, hC, hcap⟩ : ∃ L : List Cl, CsAt W (.slice a0 len0 cap0) L ∧ len0 ≤ cap0 := by
    obtain ⟨fuel, hf⟩ := h0
    exact open_cls (by simpa [Value.cells] using hf) (fun n hn => by
      have := List.all_eq_true.1 hsz n (DataW.weights_mem_each (j := 0) (t := 22) rfl rfl n hn)
      simpa using this)
  obtain ⟨R, hT⟩ : ∃ R : List Vl, VsAt W (.slice a1 len1 cap1) R := by
    obtain ⟨fuel, hf⟩ := h1
    exact open_vls (by simpa [Value.cells] using hf) (fun n hn => by
      have := List.all_eq_true.1 hsz n (DataW.weights_mem_each (j := 1) (t := 23) rfl rfl n hn)
      simpa using this)
  obtain ⟨y, a, hcs, hX, hF⟩ : ∃ (y : Ex) (a : Value), cs.toList = [.int .i64 y.k, .int .i64 y.v.k, .int .i64 y.v.n, .string ⟨y.v.s.toArray⟩, .string ⟨y.nm.toArray⟩, a] ∧ ExAt 0 W (exV y.k y.v y.nm a) y ∧ Fit y := by
    obtain ⟨fuel, hf⟩ := h2
    exact open_ex (SizeOf.sizeOf d2) (Nat.le_refl _) (by simpa [Value.cells] using hf) (fun n hn => by
      have := List.all_eq_true.1 hsz n (DataW.weights_mem_each (j := 2) (t := 28) rfl rfl n hn)
      simpa using this)
  obtain rfl : cs = #[.int .i64 y.k, .int .i64 y.v.k, .int .i64 y.v.n, .string ⟨y.v.s.toArray⟩, .string ⟨y.nm.toArray⟩, a] := by
    apply Array.toList_inj.1; rw [hcs]
  clear hA0 hval0 hsz0
  have hrun := kinds_any L _ R _ hX hF hC (fun ao n cap e => by cases e; exact hcap) hT
  unfold exV at hrun
  refine hrun.mono fun e W' ⟨he, bel⟩ => ?_
  subst he
  exact ⟨_, rfl, _, _, _, [], _, [], hW', trodAll_mk1 (shut_bool Tryz.underlying4 _), trodAll_mk3 (Below.trod exprKinds_laidOut (by kernel_rfl) (of_decide_eq_true (by kernel_rfl)) k0 bel lt0) (Below.trod exprKinds_laidOut (by kernel_rfl) (of_decide_eq_true (by kernel_rfl)) k1 bel lt1) (Below.trod exprKinds_laidOut (by kernel_rfl) (of_decide_eq_true (by kernel_rfl)) k2 bel lt2), rfl, bel.frame _, fun h => by cases h⟩

theorem exprKinds_holds : Rows.ExprKindsSaid :=
  OpenClaim.holds_of_wide 3 Tryz.f3 rfl rfl rfl rfl rfl rfl rfl ⟨rfl, rfl, rfl, rfl, rfl⟩ rfl rfl rfl rfl rfl (by kernel_rfl) Tryz.func3 (by kernel_rfl)
    (of_decide_eq_true (by kernel_rfl)) (by unfold Func.isWrapper; first | (rw [if_pos (by decide +kernel)]; kernel_rfl) | (rw [if_neg (by decide +kernel)]; exact ⟨rfl, rfl⟩))
    (fun os started H enc _ => exprKinds_lifted os started H enc)
end

end Go.Proofs.YtjmhkeooiimpfaaGreat
