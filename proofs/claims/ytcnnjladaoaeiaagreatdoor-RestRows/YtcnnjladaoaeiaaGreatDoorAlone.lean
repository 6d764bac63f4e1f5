/-
  'Scan' and 'alone' of package token, at every input.
-/
import Derived.Test.YtcnnjladaoaeiaaGreatDoorBuild
import Derived.Laws.StructEq
namespace Go.Proofs.YtcnnjladaoaeiaaGreatDoor
open Go.RowKit

theorem owns_slice {w : World} {base : Nat} {e : TypeId} {size : Nat} {v : Value} {n : Nat} {xs : List Value} (h : w.ownsRow base e size v n xs) : ∃ ao cap, v = .slice ao n cap := by
  rcases h.2 with ⟨hv, h0⟩ | ⟨g, cap, cur, hv, _⟩
  · exact ⟨none, 0, by rw [hv, h0]⟩
  · exact ⟨_, _, hv⟩
theorem owns_some {w : World} {base : Nat} {e : TypeId} {size : Nat} {v : Value} {n : Nat} {xs : List Value} (h : w.ownsRow base e size v n xs) (hn : n ≠ 0) : ∃ g cap, v = .slice (some ⟨g, 0, none⟩) n cap ∧ base ≤ g ∧ g < w.heap.size := by
  rcases h.2 with ⟨hv, h0⟩ | ⟨g, cap, cur, hv, hb, hg, _⟩
  · exact absurd h0 hn
  · exact ⟨g, cap, hv, hb, (Array.getElem?_eq_some_iff.1 hg).1⟩

theorem scan_any (s : ByteArray) (w : World) (hm : s.size ≤ 9223372036854775000) :
    Calls Tryz.prog 175 #[.string s] w fun e w' => ∃ v, e = .returned (.tuple #[v, .int .i64 ((scanS s.data.toList).2.1 : Nat), .int .i64 ((scanS s.data.toList).2.2 : Nat)]) ∧
      w'.ownsRow w.heap.size 160 3 v (scanS s.data.toList).1.length (cellsT (scanS s.data.toList).1) ∧ Below w.heap.size w w' := by
  have hl : s.data.toList.length = s.size := by simp
  by_cases h : 2000 < s.size
  · refine (scan_long s w h hm).mono ?_
    rintro e w' ⟨rfl, rfl⟩
    have : scanS s.data.toList = ([], 0, 2) := by unfold scanS; rw [if_pos (by omega)]
    rw [this]
    exact ⟨_, rfl, World.ownsRow_nil _ _ _ _, Below.refl _ _⟩
  · have : scanS s.data.toList = scanL 0 s.data.toList [] := by unfold scanS; rw [if_neg (by omega)]
    rw [this]
    exact scan_short s w (by omega)

theorem Tryz.fields34 : (Tryz.prog.fieldsOf 160).toList.map (fun f => (f.name, f.type, f.offset)) = [("Kind", 3, 0), ("At", 3, 1), ("Text", 9, 2)] := by kernel_rfl
theorem Tryz.under34 : Tryz.prog.underlying 160 = some (.struct (Tryz.prog.fieldsOf 160)) := by kernel_rfl
theorem Tryz.stood34 : Tryz.prog.stoodInHeld 160 = false := by kernel_rfl

theorem fields_three {l : List Field} {a b c : String} {i j k m n o : Nat} (h : l.map (fun f => (f.name, f.type, f.offset)) = [(a, i, j), (b, k, m), (c, n, o)]) :
    ∃ f0 f1 f2 : Field, l = [f0, f1, f2] ∧ f0.name = a ∧ f0.type = i ∧ f0.offset = j ∧ f1.name = b ∧ f1.type = k ∧ f1.offset = m ∧ f2.name = c ∧ f2.type = n ∧ f2.offset = o := by
  obtain ⟨f0, l1, rfl, h0, h1⟩ := List.map_eq_cons_iff.1 h
  obtain ⟨f1, l2, rfl, h2, h3⟩ := List.map_eq_cons_iff.1 h1
  obtain ⟨f2, l3, rfl, h4, h5⟩ := List.map_eq_cons_iff.1 h3
  have h6 := List.map_eq_nil_iff.1 h5
  subst h6
  simp only [Prod.mk.injEq] at h0 h2 h4
  exact ⟨f0, f1, f2, rfl, h0.1, h0.2.1, h0.2.2, h2.1, h2.2.1, h2.2.2, h4.1, h4.2.1, h4.2.2⟩

/-- two tokens, held against each other -/
def sameTk (k a : Int) (t : ByteArray) (k' a' : Int) (t' : ByteArray) : Bool := (k == k') && (a == a') && (t.toList == t'.toList)

theorem eql34 (k a k' a' : Int) (t t' : ByteArray) (w : World) :
    (binOp .eql 160 (.agg #[.int .i64 k, .int .i64 a, .string t]) (.agg #[.int .i64 k', .int .i64 a', .string t'])).run Tryz.prog w = .ok (.bool (sameTk k a t k' a' t')) w := by
  rw [run_eql_struct, run_equalIn_struct w 9999 160 _ _ Tryz.under34 Tryz.stood34]
  obtain ⟨f0, f1, f2, hf, n0, t0, o0, n1, t1, o1, n2, t2, o2⟩ := fields_three Tryz.fields34
  rw [hf]
  simp [Op.eqFields, n0, t0, o0, n1, t1, o1, n2, t2, o2, go_sem]
  unfold sameTk
  by_cases h1 : k = k' <;> by_cases h2 : a = a' <;> by_cases h3 : t.toList = t'.toList <;> simp [h1, h2, h3]

/-- is a token the only one of its text? -/
def aloneB (K : Int) (l : List UInt8) : Bool :=
  match scanS l with
  | ([x], _, 0) => decide (x.k = K ∧ x.a = 0 ∧ x.t = l)
  | _ => false

set_option maxRecDepth 100000 in
set_option maxHeartbeats 800000 in
theorem alone_err (K A : Int) (t : ByteArray) (w : World) (hm : t.size ≤ 9223372036854775000) (L : List Tk) (at_ E : Nat) (hr : scanS t.data.toList = (L, at_, E)) (hE : E ≠ 0) :
    Calls Tryz.prog 157 #[.agg #[.int .i64 K, .int .i64 A, .string t]] w fun e w' => e = .returned (.bool false) ∧ Below w.heap.size w w' := by
  have hs := fun W => scan_any t W hm
  rw [hr] at hs
  have hEb : ((E : Int) == 0) = false := by simp; omega
  clear hr hE
  go_enter Tryz.func157, Tryz.ntmps157
  go_wp2_with (go_at_call 175; refine (hs _).mono ?_; rintro e w1 ⟨v, rfl, hown, hb1⟩)
  go_quiet (fail)
  go_wp2
  go_ret
  exact ⟨rfl, below_drewN (((Below.refl _ _).alloc (Nat.le_refl _) _).trans (hb1.mono (by simp))) _⟩

set_option maxRecDepth 100000 in
set_option maxHeartbeats 800000 in
theorem alone_many (K A : Int) (t : ByteArray) (w : World) (hm : t.size ≤ 9223372036854775000) (L : List Tk) (at_ : Nat) (hr : scanS t.data.toList = (L, at_, 0)) (hL : L.length ≠ 1) :
    Calls Tryz.prog 157 #[.agg #[.int .i64 K, .int .i64 A, .string t]] w fun e w' => e = .returned (.bool false) ∧ Below w.heap.size w w' := by
  have hs := fun W => scan_any t W hm
  rw [hr] at hs
  have hEb : ((L.length : Int) == 1) = false := by simp; omega
  clear hr hL
  go_enter Tryz.func157, Tryz.ntmps157
  go_wp2_with (go_at_call 175; refine (hs _).mono ?_; rintro e w1 ⟨v, rfl, hown, hb1⟩; obtain ⟨ao, cap, hv⟩ := owns_slice hown; subst hv; clear hown)
  go_quiet (fail)
  go_wp2
  go_ret
  exact ⟨rfl, below_drewN (((Below.refl _ _).alloc (Nat.le_refl _) _).trans (hb1.mono (by simp))) _⟩

set_option maxRecDepth 100000 in
set_option maxHeartbeats 800000 in
theorem alone_one (K A : Int) (t : ByteArray) (w : World) (hm : t.size ≤ 9223372036854775000) (x : Tk) (at_ : Nat) (hr : scanS t.data.toList = ([x], at_, 0)) :
    Calls Tryz.prog 157 #[.agg #[.int .i64 K, .int .i64 A, .string t]] w fun e w' => e = .returned (.bool (decide (x.k = K ∧ x.a = 0 ∧ x.t = t.data.toList))) ∧ Below w.heap.size w w' := by
  have hs := fun W => scan_any t W hm
  rw [hr] at hs
  clear hr
  obtain ⟨xk, xa, xt⟩ := x
  simp only [List.length_cons, List.length_nil, Nat.zero_add, cellsT, List.flatMap_cons, List.flatMap_nil, List.append_nil, Tk.cells] at hs ⊢
  have hq := eql34
  go_enter Tryz.func157, Tryz.ntmps157
  go_wp2_with (go_at_call 175; refine (hs _).mono ?_)
  rintro e w1 ⟨v, rfl, hown, hb1⟩
  obtain ⟨g, cap, hv, hg1, hg2⟩ := owns_some hown (by decide)
  rw [hv] at hown
  have c0 : w1.cell? ⟨g, 0, none⟩ = some (.int .i64 xk) := hown.cellAt 0 (by decide)
  have c1 : w1.cell? ⟨g, 1, none⟩ = some (.int .i64 xa) := hown.cellAt 1 (by decide)
  have c2 : w1.cell? ⟨g, 2, none⟩ = some (.string ⟨xt.toArray⟩) := hown.cellAt 2 (by decide)
  have d0 : w1.cell? ⟨w.heap.size, 0, none⟩ = some (.int .i64 K) := (hb1.cell (by simp)).trans (by simp)
  have d2 : w1.cell? ⟨w.heap.size, 2, none⟩ = some (.string t) := (hb1.cell (by simp)).trans (by simp)
  rw [hv]
  clear hv hown
  go_wp2
  go_quiet (fail)
  go_wp2
  go_ret
  refine ⟨ret_bool ?_, below_drewN (((Below.refl _ _).alloc (Nat.le_refl _) _).trans (hb1.mono (by simp))) _⟩
  unfold sameTk
  rw [show (⟨xt.toArray⟩ : ByteArray).toList = xt by rw [Lib.toList_data], Lib.toList_data, Bool.eq_iff_iff]
  simp [and_assoc]

theorem alone_any (K A : Int) (t : ByteArray) (w : World) (hm : t.size ≤ 9223372036854775000) :
    Calls Tryz.prog 157 #[.agg #[.int .i64 K, .int .i64 A, .string t]] w fun e w' => e = .returned (.bool (aloneB K t.data.toList)) ∧ Below w.heap.size w w' := by
  obtain ⟨L, a, E, hr⟩ : ∃ L a E, scanS t.data.toList = (L, a, E) := ⟨_, _, _, rfl⟩
  by_cases hE : E = 0
  · subst hE
    match L, hr with
    | [x], hr =>
      rw [show aloneB K t.data.toList = decide (x.k = K ∧ x.a = 0 ∧ x.t = t.data.toList) by unfold aloneB; rw [hr]; rfl]
      exact alone_one K A t w hm x a hr
    | [], hr =>
      rw [show aloneB K t.data.toList = false by unfold aloneB; rw [hr]]
      exact alone_many K A t w hm _ a hr (by simp)
    | x :: y :: r, hr =>
      rw [show aloneB K t.data.toList = false by unfold aloneB; rw [hr]]
      exact alone_many K A t w hm _ a hr (by simp)
  · rw [show aloneB K t.data.toList = false by unfold aloneB; rw [hr]; split <;> simp_all]
    exact alone_err K A t w hm L a E hr hE

end Go.Proofs.YtcnnjladaoaeiaaGreatDoor
