/-
  Slices of values and of deltas that came in: what their reading says of their cells.
-/
import Derived.Test.YtcnnjladaoaeiaaGreatDoorSmo
namespace Go.Proofs.YtcnnjladaoaeiaaGreatDoor
open Go.RowKit

theorem Tryz.bytes49 : Tryz.prog.bytesOf 49 = 32 := by kernel_rfl
theorem Tryz.cells51 : Tryz.prog.cellsOf 51 = 6 := by kernel_rfl
theorem Tryz.bytes51 : Tryz.prog.bytesOf 51 = 56 := by kernel_rfl

def dlC (d : Dl) : List Value := [.int .i64 d.k, .int .i64 d.a, .int .i64 d.ty, .int .i64 d.v.k, .int .i64 d.v.n, .string ⟨d.v.s.toArray⟩]

/-- a row's data, as far as it is wanted: cells, bounds, texts -/
theorem open_vs {H : Type} {enc : TypeId × Value → H} {W : World} {spare : Nat → Bool} {held : Bool} {fuel : Nat} {v : Value} {x : DataW H × List MemPlace}
    (h : DataW.trod enc Tryz.prog W 0 spare held fuel 41 [v] = some x) (hsz : ∀ n ∈ x.1.weights Tryz.prog 41, n ≤ reachBytes) :
    ∃ L : List Vl, VsAt W v L ∧ ∀ ao cap, v = .slice ao 0 cap → ao = none → cap = 0 := by
  have hr := reachBytes_lt
  rcases Deep.open_slice Tryz.underlying41 h with ⟨hcs, _⟩ | ⟨a, len, cap, m, n, D, Pl, hcs, hb, hl, hm, hmm, hx, hel⟩
  · simp at hcs
    subst hcs
    refine ⟨[], ⟨none, 0, rfl, by decide, (by intro y hy; cases hy), fun e => absurd rfl e⟩, ?_⟩
    intro ao cap e _
    cases e; rfl
  · simp at hcs
    subst hcs
    have hlm : len ≤ m := by rw [hmm]; split <;> omega
    have hex : ∀ i, i < len → ∃ y : Vl, W.cells? 0 (a.add (i * 3)) 3 = some (vlC y) ∧ D i = .agg [.lit (.int .i64 y.k), .lit (.int .i64 y.n), .lit (.string y.s)] := by
      intro i hi
      obtain ⟨cs', h1, h2⟩ := hel i (by omega)
      rw [Tryz.cells49] at h1
      obtain ⟨y, rfl, hy⟩ := open_vl h2
      exact ⟨y, h1, hy⟩
    have inh : Inhabited Vl := ⟨⟨0, 0, []⟩⟩
    obtain ⟨F, hF⟩ := Deep.choose_lt (α := Vl) hex
    have hget : ∀ i y, ((List.range len).map F)[i]? = some y → i < len ∧ y = F i := by
      intro i y h
      rw [List.getElem?_map] at h
      obtain ⟨j, h1, h2⟩ := Option.map_eq_some_iff.1 h
      obtain ⟨h3, h4⟩ := List.getElem?_eq_some_iff.1 h1
      simp at h3 h4
      subst h4
      exact ⟨h3, h2.symm⟩
    have hw1 : (len + (m - len)) * 32 ≤ reachBytes := by
      have := hsz ((len + (m - len)) * 32) (by rw [hx]; simp [DataW.weights, Tryz.underlying41, Tryz.bytes49])
      exact this
    have hll : ((List.range len).map F).length = len := by simp
    refine ⟨(List.range len).map F, ⟨some a, cap, by rw [hll], by rw [hll]; omega, ?_, ?_⟩, ?_⟩
    · intro y hy
      obtain ⟨i, hi, rfl⟩ := List.mem_map.1 hy
      have hi' : i < len := by simpa using hi
      have : (F i).s.length ≤ reachBytes := by
        apply hsz
        rw [hx]
        simp only [DataW.weights, Tryz.underlying41, List.mem_cons, List.mem_append]
        right; left
        refine mem_weightsAll (List.mem_map.2 ⟨i, hi, rfl⟩) ?_
        rw [(hF i hi').2]
        simp [DataW.weights, DataW.weightsEach, Tryz.underlying49]
      omega
    · intro hne
      have h0 : 0 < len := by
        rcases Nat.eq_zero_or_pos len with h | h
        · subst h; exact absurd rfl hne
        · exact h
      obtain ⟨b, off, spot⟩ := a
      have hspot : spot = none := by
        have := (World.cells?_some (hF 0 h0).1).2.2 0 (by omega)
        simp [Addr.add, vlC] at this
        exact World.cell?_spot this
      subst hspot
      refine ⟨b, off, rfl, ?_, ?_⟩
      · have := World.cells?_block (hF 0 h0).1 (by omega)
        simpa [Addr.add] using this
      · intro i y hy
        obtain ⟨hi, rfl⟩ := hget i y hy
        have hc := (World.cells?_some (hF i hi).1).2.2
        have add_plain : ∀ j, (⟨b, off, none⟩ : Addr).add j = ⟨b, off + j, none⟩ := fun j => Go.WideShapes.add_plain b off j
        have c0 := hc 0 (by omega)
        have c1 := hc 1 (by omega)
        have c2 := hc 2 (by omega)
        rw [add_plain, Go.WideShapes.add_plain] at c0 c1 c2
        exact ⟨c0, c1, c2⟩
    · intro ao cap' e h0
      cases e
      cases h0

/-- one delta, read off six cells -/
theorem open_dl {H : Type} {enc : TypeId × Value → H} {W : World} {spare : Nat → Bool} {held : Bool} {fuel : Nat} {cs : List Value} {x : DataW H × List MemPlace}
    (h : DataW.trod enc Tryz.prog W 0 spare held fuel 51 cs = some x) : ∃ y : Dl, cs = dlC y ∧ x.1 = .agg [.lit (.int .i64 y.k), .lit (.int .i64 y.a), .lit (.int .i64 y.ty), .agg [.lit (.int .i64 y.v.k), .lit (.int .i64 y.v.n), .lit (.string y.v.s)]] := by
  obtain ⟨y0, y1, y2, y3, n, rfl, hl, h0, h1, h2, h3⟩ := Joins.trod_struct4 Tryz.underlying51 h
  rw [Tryz.cells51] at hl
  obtain ⟨c0, c1, c2, c3, c4, c5, rfl⟩ := len6 hl
  · simp only [Tryz.cells3, Tryz.cells49, List.take, List.drop] at h0 h1 h2 h3
    obtain ⟨k, e0, rfl, _⟩ := DataW.trod_int Tryz.underlying3 h0
    obtain ⟨a, e1, rfl, _⟩ := DataW.trod_int Tryz.underlying3 h1
    obtain ⟨t, e2, rfl, _⟩ := DataW.trod_int Tryz.underlying3 h2
    obtain ⟨v, e3, e4⟩ := open_vl h3
    simp at e0 e1 e2
    simp only [vlC, List.cons.injEq, and_true] at e3
    obtain ⟨rfl, rfl, rfl⟩ := e3
    subst e0 e1 e2
    exact ⟨⟨k, a, t, v⟩, rfl, by rw [e4]⟩

theorem open_ds {H : Type} {enc : TypeId × Value → H} {W : World} {spare : Nat → Bool} {held : Bool} {fuel : Nat} {v : Value} {x : DataW H × List MemPlace}
    (h : DataW.trod enc Tryz.prog W 0 spare held fuel 23 [v] = some x) (hsz : ∀ n ∈ x.1.weights Tryz.prog 23, n ≤ reachBytes) :
    ∃ L : List Dl, DsAt W v L := by
  have hr := reachBytes_lt
  have hmx : maxLen = 9223372036854775807 := by rfl
  rcases Deep.open_slice Tryz.underlying23 h with ⟨hcs, _⟩ | ⟨a, len, cap, m, n, D, Pl, hcs, hb, hl, hm, hmm, hx, hel⟩
  · simp at hcs
    subst hcs
    exact ⟨[], none, 0, rfl, by decide, by decide, by decide, (by intro y hy; cases hy), fun e => absurd rfl e⟩
  · simp at hcs
    subst hcs
    have hlm : len ≤ m := by rw [hmm]; split <;> omega
    have hex : ∀ i, i < len → ∃ y : Dl, W.cells? 0 (a.add (i * 6)) 6 = some (dlC y) ∧ D i = .agg [.lit (.int .i64 y.k), .lit (.int .i64 y.a), .lit (.int .i64 y.ty), .agg [.lit (.int .i64 y.v.k), .lit (.int .i64 y.v.n), .lit (.string y.v.s)]] := by
      intro i hi
      obtain ⟨cs', h1, h2⟩ := hel i (by omega)
      rw [Tryz.cells51] at h1
      obtain ⟨y, rfl, hy⟩ := open_dl h2
      exact ⟨y, h1, hy⟩
    have inh : Inhabited Dl := ⟨⟨0, 0, 0, ⟨0, 0, []⟩⟩⟩
    obtain ⟨F, hF⟩ := Deep.choose_lt (α := Dl) hex
    have hget : ∀ i y, ((List.range len).map F)[i]? = some y → i < len ∧ y = F i := by
      intro i y h
      rw [List.getElem?_map] at h
      obtain ⟨j, h1, h2⟩ := Option.map_eq_some_iff.1 h
      obtain ⟨h3, h4⟩ := List.getElem?_eq_some_iff.1 h1
      simp at h3 h4
      subst h4
      exact ⟨h3, h2.symm⟩
    have hw1 : (len + (m - len)) * 56 ≤ reachBytes := by
      have := hsz ((len + (m - len)) * 56) (by rw [hx]; simp [DataW.weights, Tryz.underlying23, Tryz.bytes51])
      exact this
    have hll : ((List.range len).map F).length = len := by simp
    refine ⟨(List.range len).map F, some a, cap, by rw [hll], by rw [hll]; exact hl, by omega, by rw [hll]; omega, ?_, ?_⟩
    · intro y hy
      obtain ⟨i, hi, rfl⟩ := List.mem_map.1 hy
      have hi' : i < len := by simpa using hi
      have : (F i).v.s.length ≤ reachBytes := by
        apply hsz
        rw [hx]
        simp only [DataW.weights, Tryz.underlying23, List.mem_cons, List.mem_append]
        right; left
        refine mem_weightsAll (List.mem_map.2 ⟨i, hi, rfl⟩) ?_
        rw [(hF i hi').2]
        simp [DataW.weights, DataW.weightsEach, Tryz.underlying51, Tryz.underlying49]
      omega
    · intro hne
      have h0 : 0 < len := by
        rcases Nat.eq_zero_or_pos len with h | h
        · subst h; exact absurd rfl hne
        · exact h
      obtain ⟨b, off, spot⟩ := a
      have hspot : spot = none := by
        have := (World.cells?_some (hF 0 h0).1).2.2 0 (by omega)
        simp [Addr.add, dlC] at this
        exact World.cell?_spot this
      subst hspot
      refine ⟨b, off, rfl, ?_, ?_⟩
      · have := World.cells?_block (hF 0 h0).1 (by omega)
        simpa [Addr.add] using this
      · intro i y hy
        obtain ⟨hi, rfl⟩ := hget i y hy
        have hc := (World.cells?_some (hF i hi).1).2.2
        have add_plain : ∀ j, (⟨b, off, none⟩ : Addr).add j = ⟨b, off + j, none⟩ := fun j => Go.WideShapes.add_plain b off j
        have c0 := hc 0 (by omega)
        have c1 := hc 1 (by omega)
        have c2 := hc 2 (by omega)
        have c3 := hc 3 (by omega)
        have c4 := hc 4 (by omega)
        have c5 := hc 5 (by omega)
        rw [add_plain, Go.WideShapes.add_plain] at c0 c1 c2 c3 c4 c5
        exact ⟨c0, c1, c2, c3, c4, c5⟩

end Go.Proofs.YtcnnjladaoaeiaaGreatDoor
