/-
  The plain function that scanning comes to, over lists of bytes, and its small laws; what 'fault' answers, in its words.
-/
import Derived.Test.YtcnnjladaoaeiaaGreatDoorFault
namespace Go.Proofs.YtcnnjladaoaeiaaGreatDoor
open Go.RowKit

/-- what is wrong with a token of a kind and a text -/
def wrongL (k : Nat) (l : List UInt8) : Nat :=
  if k = 0 then 1
  else if (k = 1 ∧ 12 < l.length) ∨ (k = 2 ∧ 9 < l.length) ∨ (k = 3 ∧ 22 < l.length) then 2
  else if k = 2 ∧ 1 < l.length ∧ l.head? = some 48 then 1
  else 0

/-- a token: its kind, where it begins, its text -/
structure Tk where
  k : Int
  a : Int
  t : List UInt8

def Tk.cells (x : Tk) : List Value := [.int .i64 x.k, .int .i64 x.a, .string ⟨x.t.toArray⟩]
def cellsT (l : List Tk) : List Value := l.flatMap Tk.cells

theorem cellsT_length (l : List Tk) : (cellsT l).length = l.length * 3 := by
  induction l with
  | nil => rfl
  | cons x l ih => simp only [cellsT, List.flatMap_cons, List.length_append, Tk.cells, List.length_cons, List.length_nil] at *; omega
theorem cellsT_snoc (l : List Tk) (x : Tk) : cellsT (l ++ [x]) = cellsT l ++ x.cells := by simp [cellsT]

def scanGo : Nat → Nat → List UInt8 → List Tk → List Tk × Nat × Nat
  | 0, _, _, acc => (acc, 0, 0)
  | _ + 1, _, [], acc => (acc, 0, 0)
  | f + 1, a, c :: r, acc =>
    if isB c = true then scanGo f (a + 1) r acc
    else if wrongL (tokL (c :: r)).1 ((c :: r).take (tokL (c :: r)).2) = 0 then
      scanGo f (a + (tokL (c :: r)).2) ((c :: r).drop (tokL (c :: r)).2) (acc ++ [⟨((tokL (c :: r)).1 : Nat), (a : Nat), (c :: r).take (tokL (c :: r)).2⟩])
    else ([], a, wrongL (tokL (c :: r)).1 ((c :: r).take (tokL (c :: r)).2))

def scanL (a : Nat) (l : List UInt8) (acc : List Tk) : List Tk × Nat × Nat := scanGo (l.length + 1) a l acc

theorem tokL_pos (c : UInt8) (r : List UInt8) (h : (tokL (c :: r)).1 ≠ 0) : 1 ≤ (tokL (c :: r)).2 := by
  revert h
  rw [tokL]
  split
  · intro _; simp
  · split
    · intro _; simp
    · split
      · split
        · intro _; simp
        · intro h; exact absurd rfl h
      · split
        · intro _; simp
        · split
          · intro _; simp
          · intro h; exact absurd rfl h

theorem tokL_le (l : List UInt8) : (tokL l).2 ≤ l.length := by
  cases l with
  | nil => simp [tokL]
  | cons c r =>
    have h1 := runL_le isW r
    have h2 := runL_le isD r
    have h3 := runL_le isQ r
    rw [tokL]
    split
    · simp; omega
    · split
      · simp; omega
      · split
        · split
          · rename_i h
            have : runL isQ r < r.length := by
              rcases Nat.lt_or_ge (runL isQ r) r.length with g | g
              · exact g
              · rw [List.getElem?_eq_none g] at h; cases h
            simp; omega
          · simp
        · split
          · rename_i h
            have := List.IsPrefix.length_le (List.isPrefixOf_iff_prefix.1 h)
            simpa using this
          · split
            · simp
            · simp

theorem tokL_kind (l : List UInt8) : (tokL l).1 ≤ 4 ∧ ((tokL l).1 = 4 → (tokL l).2 ≤ 2) := by
  cases l with
  | nil => simp [tokL]
  | cons c r =>
    rw [tokL]
    split
    · simp
    · split
      · simp
      · split
        · split
          · simp
          · simp
        · split
          · simp
          · split
            · simp
            · simp

theorem wrongL_zero {k : Nat} {l : List UInt8} (h : wrongL k l = 0) : k ≠ 0 := by
  intro e; subst e; simp [wrongL] at h

theorem scanGo_fuel (f : Nat) : ∀ (g a : Nat) (l : List UInt8) (acc : List Tk), l.length < f → l.length < g → scanGo f a l acc = scanGo g a l acc := by
  induction f with
  | zero => intro g a l acc h; omega
  | succ f ih =>
    intro g a l acc hf hg
    cases g with
    | zero => omega
    | succ g =>
      cases l with
      | nil => rfl
      | cons c r =>
        simp only [List.length_cons] at hf hg
        unfold scanGo
        split
        · exact ih g (a + 1) r acc (by omega) (by omega)
        · split
          · rename_i h
            have := tokL_pos c r (wrongL_zero h)
            exact ih g _ _ _ (by simp only [List.length_drop, List.length_cons]; omega) (by simp only [List.length_drop, List.length_cons]; omega)
          · rfl

theorem scanL_nil (a : Nat) (acc : List Tk) : scanL a [] acc = (acc, 0, 0) := rfl
theorem scanL_blank (a : Nat) (c : UInt8) (r : List UInt8) (acc : List Tk) (h : isB c = true) : scanL a (c :: r) acc = scanL (a + 1) r acc := by
  unfold scanL; rw [scanGo, if_pos h]; rfl
theorem scanL_tok (a : Nat) (c : UInt8) (r : List UInt8) (acc : List Tk) (h : isB c = false) (hw : wrongL (tokL (c :: r)).1 ((c :: r).take (tokL (c :: r)).2) = 0) :
    scanL a (c :: r) acc = scanL (a + (tokL (c :: r)).2) ((c :: r).drop (tokL (c :: r)).2) (acc ++ [⟨((tokL (c :: r)).1 : Nat), (a : Nat), (c :: r).take (tokL (c :: r)).2⟩]) := by
  have := tokL_pos c r (wrongL_zero hw)
  unfold scanL; rw [scanGo, if_neg (by simp [h]), if_pos hw]
  exact scanGo_fuel _ _ _ _ _ (by simp only [List.length_drop, List.length_cons]; omega) (by omega)
theorem scanL_bad (a : Nat) (c : UInt8) (r : List UInt8) (acc : List Tk) (h : isB c = false) (hw : wrongL (tokL (c :: r)).1 ((c :: r).take (tokL (c :: r)).2) ≠ 0) :
    scanL a (c :: r) acc = ([], a, wrongL (tokL (c :: r)).1 ((c :: r).take (tokL (c :: r)).2)) := by
  unfold scanL; rw [scanGo, if_neg (by simp [h]), if_neg hw]
theorem scanL_blanks (l : List UInt8) : ∀ (a : Nat) (acc : List Tk), scanL a l acc = scanL (a + runL isB l) (l.drop (runL isB l)) acc := by
  induction l with
  | nil => intro a acc; rfl
  | cons c r ih =>
    intro a acc
    rw [runL_cons]
    split
    · rename_i h; rw [scanL_blank a c r acc h, ih (a + 1) acc, List.drop_succ_cons]; congr 1; omega
    · rfl

/-- what Scan answers: tokens, a place, an error -/
def scanS (s : List UInt8) : List Tk × Nat × Nat := if 2000 < s.length then ([], 0, 2) else scanL 0 s []

theorem fault_any (k : Nat) (A : Int) (t : ByteArray) (w : World) (hs : t.size ≤ 2000) (hk : k ≤ 4) (h4 : k = 4 → t.size ≤ 2) :
    Calls Tryz.prog 195 #[.agg #[.int .i64 (k : Int), .int .i64 A, .string t]] w fun e w' => e = .returned (.int .i64 (wrongL k t.data.toList : Nat)) ∧ Below w.heap.size w w' := by
  have hl : t.data.toList.length = t.size := by simp
  match k, hk, h4 with
  | 0, _, _ => exact fault_0 A t w
  | 1, _, _ =>
    by_cases h : 12 < t.size
    · rw [show wrongL 1 t.data.toList = 2 by simp [wrongL, h]]; exact fault_1_many A t w hs h
    · rw [show wrongL 1 t.data.toList = 0 by simp [wrongL]; omega]; exact fault_1_ok A t w hs (by omega)
  | 2, _, _ =>
    by_cases h : 9 < t.size
    · rw [show wrongL 2 t.data.toList = 2 by simp [wrongL, h]]; exact fault_2_many A t w hs h
    · by_cases h1 : 1 < t.size
      · have hh : t.data.toList.head? = some t[0] := by
          rw [List.head?_eq_getElem?, List.getElem?_eq_getElem (by simp; omega)]; rfl
        cases hz : ((t[0].toNat : Int) == 48)
        · have hz' : ¬ t[0] = 48 := by
            intro e; rw [e] at hz; revert hz; decide
          rw [show wrongL 2 t.data.toList = 0 by unfold wrongL; rw [hh]; simp [h, hz']]; exact fault_2_ok A t w hs (by omega) h1 hz
        · have hz' : t[0] = 48 := by
            apply UInt8.toNat_inj.1; have := eq_of_beq hz; simp; omega
          rw [show wrongL 2 t.data.toList = 1 by unfold wrongL; rw [hh]; simp [h, h1, hz']]; exact fault_2_nought A t w hs (by omega) h1 hz
      · rw [show wrongL 2 t.data.toList = 0 by simp [wrongL, h, h1]]; exact fault_2_one A t w hs (by omega)
  | 3, _, _ =>
    by_cases h : 22 < t.size
    · rw [show wrongL 3 t.data.toList = 2 by simp [wrongL, h]]; exact fault_3_many A t w hs h
    · rw [show wrongL 3 t.data.toList = 0 by simp [wrongL, h]]; exact fault_3_ok A t w hs (by omega)
  | 4, _, h4 => rw [show wrongL 4 t.data.toList = 0 by simp [wrongL]]; exact fault_4_ok A t w hs (h4 rfl)

end Go.Proofs.YtcnnjladaoaeiaaGreatDoor
