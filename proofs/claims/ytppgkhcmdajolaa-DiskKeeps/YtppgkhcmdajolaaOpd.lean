/-
  A disk that came in: what its reading says of its cells.
-/
import Derived.Test.YtppgkhcmdajolaaDsf
import Derived.ProofKit
import Derived.Deep.Slices
import Derived.Deep.Strs
import Derived.SizedLaws
import Derived.ChangeOld
namespace Go.Proofs.Ytppgkhcmdajolaa
open Go.RowKit

theorem oc9 : Try.prog.cellsOf 9 = 1 := by kernel_rfl
theorem oc3 : Try.prog.cellsOf 3 = 1 := by kernel_rfl
theorem oc4 : Try.prog.cellsOf 4 = 1 := by kernel_rfl
theorem oc22 : Try.prog.cellsOf 22 = 1 := by kernel_rfl
theorem oc23 : Try.prog.cellsOf 23 = 1 := by kernel_rfl
theorem oc25 : Try.prog.cellsOf 25 = 2 := by kernel_rfl
theorem oc56 : Try.prog.cellsOf 56 = 2 := by kernel_rfl
theorem ob9 : Try.prog.bytesOf 9 = 16 := by kernel_rfl
theorem ob4 : Try.prog.bytesOf 4 = 1 := by kernel_rfl
theorem ob56 : Try.prog.bytesOf 56 = 24 := by kernel_rfl

theorem len2' {α : Type} {l : List α} (h : l.length = 2) : ∃ a b, l = [a, b] := by
  match l, h with
  | [a, b], _ => exact ⟨a, b, rfl⟩

theorem mem_weightsAll {H : Type} {P : Program} {e : TypeId} : ∀ {l : List (DataW H)} {d : DataW H} {n : Nat}, d ∈ l → n ∈ d.weights P e → n ∈ DataW.weightsAll P e l
  | [], _, _, h, _ => by cases h
  | x :: r, d, n, h, hn => by
    simp only [DataW.weightsAll, List.mem_append]
    rcases List.mem_cons.1 h with rfl | h
    · exact Or.inl hn
    · exact Or.inr (mem_weightsAll h hn)

section
variable {H : Type} {enc : TypeId × Value → H} {W : World} {spare : Nat → Bool} {held : Bool}

theorem fld {n k off : Nat} {t : TypeId} {l cs : List Value} {y : Option (DataW H × List MemPlace)} (hk : Try.prog.cellsOf t = k) (h : DataW.trod enc Try.prog W 0 spare held n t ((l.drop off).take (Try.prog.cellsOf t)) = y) (hc : (l.drop off).take k = cs) : DataW.trod enc Try.prog W 0 spare held n t cs = y := by
  rw [← hc, ← hk]; exact h

/-- a slice of elements of a few cells each, of which something is known -/
structure SeqAt (W : World) (v : Value) {α : Type} (m bs : Nat) (P : List Value → α → Prop) (L : List α) : Prop where
  ex : ∃ ao cap, v = .slice ao L.length cap ∧ L.length ≤ cap ∧ cap ≤ 9223372036854775807 ∧ L.length * bs ≤ reachBytes ∧ (ao = none → L.length = 0 ∧ cap = 0) ∧
    (L ≠ [] → ∃ g o, ao = some ⟨g, o, none⟩ ∧ g < W.heap.size ∧ ∀ i y, L[i]? = some y → ∃ cs, (∀ q, q < m → W.cell? ⟨g, o + i * m + q, none⟩ = cs[q]?) ∧ P cs y)

theorem open_seq {α : Type} [Inhabited α] {t e : TypeId} {fuel : Nat} {v : Value} {x : DataW H × List MemPlace} (m bs : Nat) (P : List Value → α → Prop) (hm : 0 < m)
    (ht : Try.prog.underlying t = some (.slice e)) (hc : Try.prog.cellsOf e = m) (hb : Try.prog.bytesOf e = bs)
    (one : ∀ {fuel : Nat} {cs : List Value} {x : DataW H × List MemPlace}, DataW.trod enc Try.prog W 0 spare held fuel e cs = some x → (∀ n ∈ x.1.weights Try.prog e, n ≤ reachBytes) → ∃ y : α, cs.length = m ∧ P cs y)
    (h : DataW.trod enc Try.prog W 0 spare held fuel t [v] = some x) (hsz : ∀ n ∈ x.1.weights Try.prog t, n ≤ reachBytes) : ∃ L : List α, SeqAt W v m bs P L := by
  have hmx : maxLen = 9223372036854775807 := by rfl
  rcases Deep.open_slice ht h with ⟨hcs, _⟩ | ⟨a, l, c, m', n, D, Pl, hcs, hb', hl, hm', hmm, hx, hel⟩
  · simp at hcs
    subst hcs
    exact ⟨[], ⟨none, 0, rfl, Nat.le_refl _, by decide, by simp, fun _ => ⟨rfl, rfl⟩, fun e => absurd rfl e⟩⟩
  · simp at hcs
    subst hcs
    have hlm : l ≤ m' := by rw [hmm]; split <;> omega
    have hex : ∀ i, i < l → ∃ y : α, ∃ cs, W.cells? 0 (a.add (i * m)) m = some cs ∧ cs.length = m ∧ P cs y := by
      intro i hi
      obtain ⟨cs', h1, h2⟩ := hel i (by omega)
      rw [hc] at h1
      obtain ⟨y, h3, h4⟩ := one h2 (fun n hn => by
        apply hsz
        rw [hx]
        simp only [DataW.weights, ht, List.mem_cons, List.mem_append]
        right; left
        exact mem_weightsAll (List.mem_map.2 ⟨i, by simpa using hi, rfl⟩) hn)
      exact ⟨y, cs', h1, h3, h4⟩
    obtain ⟨F, hF⟩ := Deep.choose_lt (α := α) hex
    have hw1 : (l + (m' - l)) * bs ≤ reachBytes := by
      have := hsz ((l + (m' - l)) * bs) (by rw [hx]; simp [DataW.weights, ht, hb])
      exact this
    have hw2 : l * bs ≤ (l + (m' - l)) * bs := Nat.mul_le_mul (by omega) (Nat.le_refl _)
    have hll : ((List.range l).map F).length = l := by simp
    refine ⟨(List.range l).map F, ⟨some a, c, by rw [hll], by rw [hll]; exact hl, by omega, by rw [hll]; omega, fun e => (by cases e), fun hne => ?_⟩⟩
    have h0 : 0 < l := by
      rcases Nat.eq_zero_or_pos l with h | h
      · subst h; exact absurd rfl hne
      · exact h
    obtain ⟨b, off, spot⟩ := a
    have add_plain : ∀ j, (⟨b, off, none⟩ : Addr).add j = ⟨b, off + j, none⟩ := fun j => Go.WideShapes.add_plain b off j
    have hspot : spot = none := by
      obtain ⟨cs, h1, h2, -⟩ := hF 0 h0
      have := (World.cells?_some h1).2.2 0 (by omega)
      simp only [Nat.zero_mul] at this
      have hne : cs[0]? ≠ none := by
        intro hh
        have := List.getElem?_eq_none_iff.1 hh
        omega
      obtain ⟨q, hq⟩ := Option.ne_none_iff_exists'.1 hne
      rw [hq] at this
      have := World.cell?_spot this
      simpa [Addr.add] using this
    subst hspot
    refine ⟨b, off, rfl, ?_, fun i y hy => ?_⟩
    · obtain ⟨cs, h1, -, -⟩ := hF 0 h0
      have := World.cells?_block h1 (by omega)
      simpa [Addr.add] using this
    · rw [List.getElem?_map] at hy
      obtain ⟨j, h1, h2⟩ := Option.map_eq_some_iff.1 hy
      obtain ⟨h3, h4⟩ := List.getElem?_eq_some_iff.1 h1
      simp at h3 h4
      subst h4 h2
      obtain ⟨cs, e1, e2, e3⟩ := hF i h3
      refine ⟨cs, fun q hq => ?_, e3⟩
      have := (World.cells?_some e1).2.2 q (by omega)
      rw [add_plain, Go.WideShapes.add_plain] at this
      exact this


def stP (cs : List Value) (y : ByteArray) : Prop := cs = [.string y]
def wrP (cs : List Value) (y : Wr) : Prop := cs = [.int .i64 y.n, .string y.s]
def boP (cs : List Value) (y : Bool) : Prop := cs = [.bool y]

theorem open_wr56 {fuel : Nat} {cs : List Value} {x : DataW H × List MemPlace} (h : DataW.trod enc Try.prog W 0 spare held fuel 56 cs = some x) : ∃ y : Wr, cs.length = 2 ∧ wrP cs y := by
  obtain ⟨y0, y1, n, rfl, hl, h0, h1⟩ := ChangeShapes.trod_struct2 Try.underlying56 h
  obtain ⟨c0, c1, rfl⟩ := len2' (hl.trans oc56)
  have g0 := fld (cs := [c0]) oc3 h0 rfl
  have g1 := fld (cs := [c1]) oc9 h1 rfl
  obtain ⟨a, e0, rfl, _⟩ := DataW.trod_int Try.underlying3 g0
  obtain ⟨s, e1, rfl, _⟩ := DataW.trod_string Try.underlying9 g1
  simp at e0 e1
  subst e0 e1
  exact ⟨⟨a, s⟩, rfl, rfl⟩

theorem st_seq {v : Value} {L : List ByteArray} (h : SeqAt W v 1 16 stP L) : StAt W v L := by
  have hr := reachBytes_lt
  obtain ⟨ao, cap, rfl, h1, h2, h3, h0, h4⟩ := h.ex
  refine ⟨ao, cap, rfl, by omega, h0, fun hne => ?_⟩
  obtain ⟨g, o, e, hg, hc⟩ := h4 hne
  refine ⟨g, o, e, hg, fun i y hy => ?_⟩
  obtain ⟨cs, e1, rfl⟩ := hc i y hy
  have := e1 0 (by decide)
  simpa using this

theorem wr_seq {v : Value} {L : List Wr} (h : SeqAt W v 2 24 wrP L) : WrAt W v L := by
  have hr := reachBytes_lt
  obtain ⟨ao, cap, rfl, h1, h2, h3, h0, h4⟩ := h.ex
  refine ⟨ao, cap, rfl, by omega, h0, fun hne => ?_⟩
  obtain ⟨g, o, e, hg, hc⟩ := h4 hne
  refine ⟨g, o, e, hg, fun i y hy => ?_⟩
  obtain ⟨cs, e1, rfl⟩ := hc i y hy
  exact ⟨e1 0 (by decide), e1 1 (by decide)⟩

theorem bo_seq {v : Value} {L : List Bool} (h : SeqAt W v 1 1 boP L) : BoAt W v L := by
  have hr := reachBytes_lt
  obtain ⟨ao, cap, rfl, h1, h2, h3, h0, h4⟩ := h.ex
  refine ⟨ao, cap, rfl, by omega, fun hne => ?_⟩
  obtain ⟨g, o, e, hg, hc⟩ := h4 hne
  refine ⟨g, o, e, hg, fun i y hy => ?_⟩
  obtain ⟨cs, e1, rfl⟩ := hc i y hy
  have := e1 0 (by decide)
  simpa using this

theorem open_st {fuel : Nat} {v : Value} {x : DataW H × List MemPlace} (h : DataW.trod enc Try.prog W 0 spare held fuel 22 [v] = some x) (hsz : ∀ n ∈ x.1.weights Try.prog 22, n ≤ reachBytes) : ∃ L, StAt W v L := by
  obtain ⟨L, hL⟩ := open_seq (α := ByteArray) 1 16 stP (by decide) Try.underlying22 oc9 ob9 (fun h _ => by
    obtain ⟨s, e1, rfl, _⟩ := DataW.trod_string Try.underlying9 h
    exact ⟨s, by rw [e1]; rfl, e1⟩) h hsz
  exact ⟨L, st_seq hL⟩

theorem open_wr {fuel : Nat} {v : Value} {x : DataW H × List MemPlace} (h : DataW.trod enc Try.prog W 0 spare held fuel 23 [v] = some x) (hsz : ∀ n ∈ x.1.weights Try.prog 23, n ≤ reachBytes) : ∃ L, WrAt W v L := by
  obtain ⟨L, hL⟩ := open_seq (α := Wr) 2 24 wrP (by decide) Try.underlying23 oc56 ob56 (fun h _ => open_wr56 h) h hsz
  exact ⟨L, wr_seq hL⟩

theorem open_bo {fuel : Nat} {v : Value} {x : DataW H × List MemPlace} (h : DataW.trod enc Try.prog W 0 spare held fuel 26 [v] = some x) (hsz : ∀ n ∈ x.1.weights Try.prog 26, n ≤ reachBytes) : ∃ L, BoAt W v L := by
  obtain ⟨L, hL⟩ := open_seq (α := Bool) 1 1 boP (by decide) Try.underlying26 oc4 ob4 (fun h _ => by
    obtain ⟨s, e1, rfl, _⟩ := DataW.trod_bool Try.underlying4 h
    exact ⟨s, by rw [e1]; rfl, e1⟩) h hsz
  exact ⟨L, bo_seq hL⟩

theorem open_dk {fuel : Nat} {cs : List Value} {x : DataW H × List MemPlace} (h : DataW.trod enc Try.prog W 0 spare held fuel 25 cs = some x) (hsz : ∀ n ∈ x.1.weights Try.prog 25, n ≤ reachBytes) : ∃ ku wu d, cs = [ku, wu] ∧ DkAt W ku wu d := by
  obtain ⟨y0, y1, n, rfl, hl, h0, h1⟩ := ChangeShapes.trod_struct2 Try.underlying25 h
  obtain ⟨c0, c1, rfl⟩ := len2' (hl.trans oc25)
  have g0 := fld (cs := [c0]) oc22 h0 rfl
  have g1 := fld (cs := [c1]) oc23 h1 rfl
  obtain ⟨K, hK⟩ := open_st g0 (fun n hn => hsz n (by simp [DataW.weights, DataW.weightsEach, Try.underlying25, hn]))
  obtain ⟨L, hL⟩ := open_wr g1 (fun n hn => hsz n (by simp [DataW.weights, DataW.weightsEach, Try.underlying25, hn]))
  exact ⟨c0, c1, ⟨K, L⟩, rfl, hK, hL⟩
end

end Go.Proofs.Ytppgkhcmdajolaa
