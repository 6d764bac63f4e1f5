/-
  A slice of values that came in: what its reading says of its cells.
-/
import Derived.Test.YtkpeklealgicpacFlt
import Derived.ProofKit
import Derived.Deep.Slices
import Derived.Deep.Strs
import Derived.SizedLaws
import Derived.ChangeOld
namespace Go.Proofs.Ytkpeklealgicpac
open Go.RowKit

theorem Try.cells36 : Try.prog.cellsOf 36 = 3 := by kernel_rfl
theorem Try.cells3 : Try.prog.cellsOf 3 = 1 := by kernel_rfl
theorem Try.cells9 : Try.prog.cellsOf 9 = 1 := by kernel_rfl
theorem Try.bytes36 : Try.prog.bytesOf 36 = 32 := by kernel_rfl

theorem mem_weightsAll {H : Type} {P : Program} {e : TypeId} : ∀ {l : List (DataW H)} {d : DataW H} {n : Nat}, d ∈ l → n ∈ d.weights P e → n ∈ DataW.weightsAll P e l
  | [], _, _, h, _ => by cases h
  | x :: r, d, n, h, hn => by
    simp only [DataW.weightsAll, List.mem_append]
    rcases List.mem_cons.1 h with rfl | h
    · exact Or.inl hn
    · exact Or.inr (mem_weightsAll h hn)

/-- one value, read off three cells -/
theorem open_vl {H : Type} {enc : TypeId × Value → H} {W : World} {spare : Nat → Bool} {held : Bool} {fuel : Nat} {cs : List Value} {x : DataW H × List MemPlace}
    (h : DataW.trod enc Try.prog W 0 spare held fuel 36 cs = some x) : ∃ y : Vl, cs = vlC y ∧ x.1 = .agg [.lit (.int .i64 y.k), .lit (.int .i64 y.n), .lit (.string y.s)] := by
  obtain ⟨y0, y1, y2, n, rfl, hl, h0, h1, h2⟩ := Deep.trod_struct3 Try.underlying36 h
  rw [Try.cells36] at hl
  match cs, hl with
  | [c0, c1, c2], _ =>
    simp only [Try.cells3, Try.cells9, List.take, List.drop] at h0 h1 h2
    obtain ⟨k, e0, rfl, _⟩ := DataW.trod_int Try.underlying3 h0
    obtain ⟨a, e1, rfl, _⟩ := DataW.trod_int Try.underlying3 h1
    obtain ⟨s, e2, rfl, _⟩ := DataW.trod_string Try.underlying9 h2
    simp at e0 e1 e2
    subst e0 e1 e2
    exact ⟨⟨k, a, s.data.toList⟩, rfl, rfl⟩

theorem open_vls {H : Type} {enc : TypeId × Value → H} {W : World} {spare : Nat → Bool} {held : Bool} {fuel : Nat} {a0 : Option Addr} {len cap : Nat} {x : DataW H × List MemPlace}
    (h : DataW.trod enc Try.prog W 0 spare held fuel 22 [.slice a0 len cap] = some x) (hsz : ∀ n ∈ x.1.weights Try.prog 22, n ≤ reachBytes) :
    ∃ L : List Vl, VsAt W (.slice a0 len cap) L := by
  have hr := reachBytes_lt
  rcases Deep.open_slice Try.underlying22 h with ⟨hcs, _⟩ | ⟨a, l, c, m, n, D, Pl, hcs, hb, hl, hm, hmm, hx, hel⟩
  · simp at hcs
    obtain ⟨rfl, rfl, rfl⟩ := hcs
    exact ⟨[], none, 0, rfl, by decide, (by intro y hy; cases hy), fun e => absurd rfl e⟩
  · simp at hcs
    obtain ⟨rfl, rfl, rfl⟩ := hcs
    have hlm : len ≤ m := by rw [hmm]; split <;> omega
    have hex : ∀ i, i < len → ∃ y : Vl, W.cells? 0 (a.add (i * 3)) 3 = some (vlC y) ∧ D i = .agg [.lit (.int .i64 y.k), .lit (.int .i64 y.n), .lit (.string y.s)] := by
      intro i hi
      obtain ⟨cs', h1, h2⟩ := hel i (by omega)
      rw [Try.cells36] at h1
      obtain ⟨y, rfl, hy⟩ := open_vl h2
      exact ⟨y, h1, hy⟩
    have inh : Inhabited Vl := ⟨⟨0, 0, []⟩⟩
    obtain ⟨F, hF⟩ := Deep.choose_lt (α := Vl) hex
    have hget : ∀ i y, ((List.range len).map F)[i]? = some y → i < len ∧ y = F i := by
      intro i y h
      rw [List.getElem?_map] at h
      obtain ⟨j, h1, h2⟩ := Option.map_eq_some_iff.1 h
      obtain ⟨h3, h4⟩ := List.getElem?_eq_some_iff.1 h1
      simp at h3 h4
      subst h4
      exact ⟨h3, h2.symm⟩
    have hw1 : (len + (m - len)) * 32 ≤ reachBytes := by
      have := hsz ((len + (m - len)) * 32) (by rw [hx]; simp [DataW.weights, Try.underlying22, Try.bytes36])
      exact this
    have hll : ((List.range len).map F).length = len := by simp
    refine ⟨(List.range len).map F, some a, cap, by rw [hll], by rw [hll]; omega, ?_, ?_⟩
    · intro y hy
      obtain ⟨i, hi, rfl⟩ := List.mem_map.1 hy
      have hi' : i < len := by simpa using hi
      have : (F i).s.length ≤ reachBytes := by
        apply hsz
        rw [hx]
        simp only [DataW.weights, Try.underlying22, List.mem_cons, List.mem_append]
        right; left
        refine mem_weightsAll (List.mem_map.2 ⟨i, hi, rfl⟩) ?_
        rw [(hF i hi').2]
        simp [DataW.weights, DataW.weightsEach, Try.underlying36]
      omega
    · intro hne
      have h0 : 0 < len := by
        rcases Nat.eq_zero_or_pos len with h | h
        · subst h; exact absurd rfl hne
        · exact h
      obtain ⟨b, off, spot⟩ := a
      have hspot : spot = none := by
        have := (World.cells?_some (hF 0 h0).1).2.2 0 (by omega)
        simp [Addr.add, vlC] at this
        exact World.cell?_spot this
      subst hspot
      refine ⟨b, off, rfl, ?_, ?_⟩
      · have := World.cells?_block (hF 0 h0).1 (by omega)
        simpa [Addr.add] using this
      · intro i y hy
        obtain ⟨hi, rfl⟩ := hget i y hy
        have hc := (World.cells?_some (hF i hi).1).2.2
        have add_plain : ∀ j, (⟨b, off, none⟩ : Addr).add j = ⟨b, off + j, none⟩ := fun j => Go.WideShapes.add_plain b off j
        have c0 := hc 0 (by omega)
        have c1 := hc 1 (by omega)
        have c2 := hc 2 (by omega)
        rw [add_plain, Go.WideShapes.add_plain] at c0 c1 c2
        exact ⟨c0, c1, c2⟩

end Go.Proofs.Ytkpeklealgicpac
