/-
  'isType', 'isValue', 'argsOf', and 'all' at its four kinds.
  'isNone' of package command.
  'isExpr' of package command.
  'isExpr' of package command, whole.
  'areColumns', 'areValues', 'isWhere', 'namedBy' of package command.
  'isWhere', what 'namedBy' answers of no kind, and the choice in 'isRight'.
  'isLong' of package command.
  'isLong' of package command: the loop.
  'hasMany' of package command.
  What Check takes, and what the document's Check takes: they are the same.
  Regions that draw their order, of which nothing is wanted any more: whatever the order, each slot that is not guarded holds false.
  'isRight' of package command.
  'Check' of package command, out of what 'hasMany' and 'isRight' answer.
  Regions that draw their order, with calls: what each operation leaves is known beforehand; whatever the order, that is what is left.
  The region of 'isRight', and what its operations do one by one.
  What the operations of isRight's region do.
  Regions that draw their order, with guards and calls: what a program needs that writes their walks.
  A region that keeps its order, with guards and calls, on any frame; what some more operations do.
  Regions with guards and calls, an operation a row.
  CheckCmd of the document: what is set.
  CheckCmd of the document: its first regions.
  CheckCmd of the document: Type and Value.
-/
import Derived.Deep.RegionHeld3
import Derived.Deep.QuietTactic
import Derived.BigQuiet
import Derived.Laws.AppendOwnNone
import Derived.Test.YtkpeklealgicpabGreatDoorKb

namespace Go.Proofs.YtkpeklealgicpabGreatDoor
open Go.RowKit

def typeB (k : Int) : Bool := decide (atL typesL k ≠ [])
def valB (x : Vl) : Bool := decide (chkV x.k x.n x.s = 0)
def argsN (k : Int) : Nat := if k = 3 ∨ k = 4 then 1 else if atL opersL k ≠ [] then 2 else 0
def colB (c : Cl) : Bool := nameW c.name && typeB c.ty

set_option maxRecDepth 100000 in
set_option maxHeartbeats 1600000 in
theorem isType_any (k : Int) (w : World) : Calls Tryz.prog 74 #[.int .i64 k] w fun e w' => e = .returned (.bool (typeB k)) ∧ Below w.heap.size w w' := by
  have h := ofType_any k w
  unfold typeB
  cases hn : decide (atL typesL k ≠ [])
  all_goals
    have hq : (atL typesL k).isEmpty = !(decide (atL typesL k ≠ [])) := by cases atL typesL k <;> simp
    rw [hn] at hq
    clear hn
    generalize atL typesL k = s at h hq
    go_enter Tryz.func74, Tryz.ntmps74
    go_wp2_with (go_at_call 123; refine h.mono ?_; rintro e w1 ⟨rfl, b1⟩)
    go_ret
    exact ⟨ret_bool (by simp), b1⟩

set_option maxRecDepth 100000 in
set_option maxHeartbeats 1600000 in
theorem isValue_any (x : Vl) (w : World) (hs : x.s.length ≤ 140737488355328) : Calls Tryz.prog 75 #[.agg #[.int .i64 x.k, .int .i64 x.n, .string ⟨x.s.toArray⟩]] w fun e w' => e = .returned (.bool (valB x)) ∧ Below w.heap.size w w' := by
  have h := check_any x.k x.n ⟨x.s.toArray⟩ (w.alloc (.cells #[.int .i64 x.k, .int .i64 x.n, .string ⟨x.s.toArray⟩] 24)) (by rw [size_mk]; exact hs)
  have e0 : (⟨x.s.toArray⟩ : ByteArray).data.toList = x.s := by simp
  rw [e0] at h
  unfold valB
  generalize chkV x.k x.n x.s = c at h
  go_enter Tryz.func75, Tryz.ntmps75
  go_wp2_with (go_at_call 124; refine h.mono ?_; rintro e w1 ⟨rfl, b1⟩)
  go_ret
  refine ⟨ret_bool ?_, ((Below.refl _ _).alloc (Nat.le_refl _) _).trans (b1.mono (by simp))⟩
  rw [Bool.eq_iff_iff]; simp

set_option maxRecDepth 100000 in
set_option maxHeartbeats 1600000 in
theorem argsOf_any (k : Int) (w : World) : Calls Tryz.prog 128 #[.int .i64 k] w fun e w' => e = .returned (.int .i64 (argsN k : Nat)) ∧ Below w.heap.size w w' := by
  have h := ofOperator_any k w
  by_cases h3 : k = 3
  · subst h3
    go_enter Tryz.func128, Tryz.ntmps128
    go_wp2
    go_ret
    exact ⟨rfl, Below.refl _ _⟩
  by_cases h4 : k = 4
  · subst h4
    go_enter Tryz.func128, Tryz.ntmps128
    go_wp2
    go_ret
    exact ⟨rfl, Below.refl _ _⟩
  have q3 : (k == 3) = false := by simpa using h3
  have q4 : (k == 4) = false := by simpa using h4
  have e : argsN k = if atL opersL k ≠ [] then 2 else 0 := by rw [argsN, if_neg (by simp [h3, h4])]
  rw [e]
  clear h3 h4 e
  generalize atL opersL k = s at h ⊢
  by_cases hs : s = []
  · subst hs
    go_enter Tryz.func128, Tryz.ntmps128
    go_wp2_with (go_at_call 138; refine h.mono ?_; rintro e w1 ⟨rfl, b1⟩)
    go_ret
    exact ⟨rfl, b1⟩
  · have hq : s.isEmpty = false := by simpa using hs
    rw [if_pos hs]
    go_enter Tryz.func128, Tryz.ntmps128
    go_wp2_with (go_at_call 138; refine h.mono ?_; rintro e w1 ⟨rfl, b1⟩)
    go_ret
    exact ⟨rfl, b1⟩

set_option maxRecDepth 100000 in
set_option maxHeartbeats 1600000 in
theorem isColumn_any (x : Cl) (w : World) (hs : x.name.length ≤ 140737488355328) (hl : Laid w) : Calls Tryz.prog 122 #[.agg #[.string ⟨x.name.toArray⟩, .int .i64 x.ty]] w fun e w' => e = .returned (.bool (colB x)) ∧ Below w.heap.size w w' := by
  have b0 := (Below.refl w.heap.size w).alloc (Nat.le_refl _) (.cells #[.string ⟨x.name.toArray⟩, .int .i64 x.ty] 56)
  have h := isName_any ⟨x.name.toArray⟩ (w.alloc (.cells #[.string ⟨x.name.toArray⟩, .int .i64 x.ty] 56)) (by rw [size_mk]; exact hs) (hl.below b0)
  have e0 : (⟨x.name.toArray⟩ : ByteArray).data.toList = x.name := by simp
  rw [e0] at h
  unfold colB
  cases hn : nameW x.name
  · rw [hn] at h
    go_enter Tryz.func122, Tryz.ntmps122
    go_wp2_with (go_at_call 72; refine h.mono ?_; rintro e w1 ⟨rfl, b1⟩)
    go_ret
    exact ⟨rfl, b0.trans (b1.mono (by simp))⟩
  · rw [hn] at h
    have h2 := isType_any x.ty
    generalize typeB x.ty = t at h2 ⊢
    go_enter Tryz.func122, Tryz.ntmps122
    go_wp2_with (go_at_call 72; refine h.mono ?_; rintro e w1 ⟨rfl, b1⟩; have d1 : w1.cell? ⟨w.heap.size, 1, none⟩ = some (.int .i64 x.ty) := (b1.cell (by simp)).trans (by simp))
    refine (h2 _).mono ?_
    rintro e w2 ⟨rfl, b2⟩
    go_wp2
    go_ret
    exact ⟨rfl, (b0.trans (b1.mono (by simp))).trans (b2.mono (by have := b1.size; simp at this; omega))⟩

set_option maxRecDepth 100000 in
set_option maxHeartbeats 1600000 in
theorem notF_str (x : List UInt8) (fb : Nat) (B : Bool) (w : World) (hf : w.cell? ⟨fb, 0, none⟩ = some (.func (.func 72) #[] #[]))
    (hp : ∀ W, Below w.heap.size w W → Calls Tryz.prog 72 #[.string ⟨x.toArray⟩] W fun e w' => e = .returned (.bool B) ∧ Below W.heap.size W w') :
    Calls Tryz.prog 127 #[.string ⟨x.toArray⟩, .pointer (some ⟨fb, 0, none⟩)] w fun e w' => e = .returned (.bool !B) ∧ Below w.heap.size w w' := by
  have h1 := hp w (Below.refl _ _)
  clear hp
  go_enter Tryz.func127, Tryz.ntmps127
  go_wp2_with (go_at_call 72; refine h1.mono ?_; rintro e w1 ⟨rfl, b1⟩)
  go_ret
  exact ⟨rfl, b1⟩

set_option maxRecDepth 100000 in
set_option maxHeartbeats 1600000 in
theorem idxF_str (b off cap fb : Nat) (l : List (List UInt8)) (w : World) (hb : b < w.heap.size) (hfb : fb < w.heap.size) (hf : w.cell? ⟨fb, 0, none⟩ = some (.func (.func 72) #[] #[])) (hn : l.length ≤ 1000000000000000)
    (hc : ∀ (k : Nat) x, l[k]? = some x → w.cell? ⟨b, off + k, none⟩ = some (.string ⟨x.toArray⟩))
    (hp : ∀ (k : Nat) x, l[k]? = some x → ∀ W, Below w.heap.size w W → Calls Tryz.prog 72 #[.string ⟨x.toArray⟩] W fun e w' => e = .returned (.bool (nameW x)) ∧ Below W.heap.size W w') :
    Calls Tryz.prog 162 #[.slice (some ⟨b, off, none⟩) l.length cap, .func (.func 127) #[] #[.pointer (some ⟨fb, 0, none⟩)]] w fun e w' => (∃ r : Int, e = .returned (.int .i64 r) ∧ (decide (0 ≤ r) = !(l.all nameW))) ∧ Below w.heap.size w w' := by
  obtain ⟨n, hl⟩ : ∃ n, l.length = n := ⟨_, rfl⟩
  rw [hl] at hn ⊢
  go_enter Tryz.func162, Tryz.ntmps162
  go_wp2
  go_loopw [8] (fun i wr => ∃ k : Nat, k ≤ n ∧ i = .int .i64 k ∧ Below w.heap.size w wr ∧ Hid (∀ j x, j < k → l[j]? = some x → nameW x = true)) (fun i _ => n - (intOf i).toNat)
  case atStart => exact ⟨0, Nat.zero_le _, rfl, Below.refl _ _, fun j _ hj => absurd hj (Nat.not_lt_zero _)⟩
  case round =>
    obtain ⟨k, hk, rfl, hnx, HA⟩ := hrel
    by_cases hlt : k < n
    · obtain ⟨x, hx⟩ : ∃ x, l[k]? = some x := ⟨l[k], List.getElem?_eq_getElem (by omega)⟩
      obtain e0 := hc k x hx
      have a0 := (hnx.cell (p := ⟨b, off + k, none⟩) hb).trans e0
      have hlt' : (k : Int) < (n : Int) := by omega
      have hff := (hnx.cell (p := ⟨fb, 0, none⟩) hfb).trans hf
      have hsz := hnx.size
      have hpk := hp k x hx
      have HX : Hid (l[k]? = some x) := hx
      clear hp hc hx e0 hf
      cases hB : nameW x
      · rw [hB] at hpk
        have hq := notF_str x fb false wr hff fun W hW => hpk W (hnx.trans (hW.mono hsz))
        have HB : Hid (nameW x = false) := hB
        clear hpk hB hff
        go_wp2_with (go_at_call 127; refine hq.mono ?_; rintro e w2 ⟨rfl, b2⟩)
        go_ret
        refine ⟨⟨(k : Nat), rfl, ?_⟩, hnx.trans (b2.mono hsz)⟩
        have : l.all nameW = false := by
          rw [List.all_eq_false]
          exact ⟨x, List.mem_of_getElem? HX.out, by simp [HB.out]⟩
        rw [this]; simp
      · rw [hB] at hpk
        have hq := notF_str x fb true wr hff fun W hW => hpk W (hnx.trans (hW.mono hsz))
        have HB : Hid (nameW x = true) := hB
        clear hpk hB hff
        go_wp2_with (go_at_call 127; refine hq.mono ?_; rintro e w2 ⟨rfl, b2⟩)
        go_roundw
        case rel =>
          refine ⟨k + 1, by omega, by go_num, hnx.trans (b2.mono hsz), fun j y hj hy => ?_⟩
          rcases Nat.lt_or_ge j k with h | h
          · exact HA.out j y h hy
          · rw [show j = k by omega, HX.out] at hy; cases hy; exact HB.out
        case measure => simp [intOf]; omega
    · clear hp hc
      go_wp2
      go_ret
      refine ⟨⟨-1, rfl, ?_⟩, hnx⟩
      have : l.all nameW = true := by
        rw [List.all_eq_true]
        intro x hx
        obtain ⟨j, hj⟩ := List.mem_iff_getElem?.1 hx
        exact HA.out j x (by have := (List.getElem?_eq_some_iff.1 hj).1; omega) hj
      rw [this]; simp

set_option maxRecDepth 100000 in
set_option maxHeartbeats 1600000 in
theorem idxN_str (ao : Option Addr) (cap : Nat) (f : Value) (w : World) :
    Calls Tryz.prog 162 #[.slice ao 0 cap, f] w fun e w' => e = .returned (.int .i64 (-1)) ∧ w' = w := by
  go_enter Tryz.func162, Tryz.ntmps162
  go_wp2
  go_loopw [8] (fun k wr => k = .int .i64 0 ∧ wr = w) (fun _ _ => 0)
  case atStart => exact ⟨rfl, rfl⟩
  case round =>
    obtain ⟨rfl, rfl⟩ := hrel
    go_wp2
    go_ret
    exact ⟨rfl, rfl⟩

set_option maxRecDepth 100000 in
set_option maxHeartbeats 1600000 in
theorem allN_str (ao : Option Addr) (cap : Nat) (f : Fn) (w : World) :
    Calls Tryz.prog 77 #[.slice ao 0 cap, .func f #[] #[]] w fun e w' => e = .returned (.bool true) ∧ Below w.heap.size w w' := by
  have hm := hmf
  go_enter Tryz.func77, Tryz.ntmps77
  go_wp2_with (first | (go_at_call 126; go_in) | (go_at_call 162; refine (idxN_str _ _ _ _).mono ?_; rintro e w1 ⟨rfl, rfl⟩))
  go_ret
  exact ⟨rfl, (Below.refl _ _).alloc (Nat.le_refl _) _⟩

set_option maxRecDepth 100000 in
set_option maxHeartbeats 1600000 in
theorem all_str (b off cap : Nat) (l : List (List UInt8)) (w : World) (hb : b < w.heap.size) (hn : l.length ≤ 1000000000000000)
    (hc : ∀ (k : Nat) x, l[k]? = some x → w.cell? ⟨b, off + k, none⟩ = some (.string ⟨x.toArray⟩))
    (hp : ∀ (k : Nat) x, l[k]? = some x → ∀ W, Below w.heap.size w W → Calls Tryz.prog 72 #[.string ⟨x.toArray⟩] W fun e w' => e = .returned (.bool (nameW x)) ∧ Below W.heap.size W w') :
    Calls Tryz.prog 77 #[.slice (some ⟨b, off, none⟩) l.length cap, .func (.func 72) #[] #[]] w fun e w' => e = .returned (.bool (l.all nameW)) ∧ Below w.heap.size w w' := by
  have hm := hmf
  have hi : ∀ t, Calls Tryz.prog 162 #[.slice (some ⟨b, off, none⟩) l.length cap, .func (.func 127) #[] #[.pointer (some ⟨w.heap.size, 0, none⟩)]] (w.alloc (.cells #[.func (.func 72) #[] #[]] t)) fun e w' => (∃ r : Int, e = .returned (.int .i64 r) ∧ (decide (0 ≤ r) = !(l.all nameW))) ∧ Below w.heap.size w w' := by
    intro t
    have b0 := (Below.refl w.heap.size w).alloc (Nat.le_refl _) (.cells #[.func (.func 72) #[] #[]] t)
    refine (idxF_str b off cap w.heap.size l _ (by simp; omega) (by simp) (by simp) hn ?_ ?_).mono ?_
    · intro k x hx
      have := hc k x hx
      refine (cell_old _ hb).trans this
    · intro k x hx W hW
      exact hp k x hx W (b0.trans (hW.mono (by simp)))
    · rintro e w' ⟨hr, hb⟩
      exact ⟨hr, b0.trans (hb.mono (by simp))⟩
  generalize l.all nameW = A at hi ⊢
  clear hp hc
  go_enter Tryz.func77, Tryz.ntmps77
  go_wp2_with (first | (go_at_call 126; go_in) | (go_at_call 162; refine (hi _).mono ?_; rintro e w1 ⟨⟨r, rfl, hr⟩, b1⟩))
  go_ret
  exact ⟨ret_bool (by simp), b1⟩

set_option maxRecDepth 100000 in
set_option maxHeartbeats 1600000 in
theorem notF_col (x : Cl) (fb : Nat) (B : Bool) (w : World) (hfb : fb < w.heap.size) (hf : w.cell? ⟨fb, 0, none⟩ = some (.func (.func 122) #[] #[]))
    (hp : ∀ W, Below w.heap.size w W → Calls Tryz.prog 122 #[.agg #[.string ⟨x.name.toArray⟩, .int .i64 x.ty]] W fun e w' => e = .returned (.bool B) ∧ Below W.heap.size W w') :
    Calls Tryz.prog 155 #[.agg #[.string ⟨x.name.toArray⟩, .int .i64 x.ty], .pointer (some ⟨fb, 0, none⟩)] w fun e w' => e = .returned (.bool !B) ∧ Below w.heap.size w w' := by
  have b0 := (Below.refl w.heap.size w).alloc (Nat.le_refl _) (.cells #[.string ⟨x.name.toArray⟩, .int .i64 x.ty] 56)
  have h1 := hp _ b0
  have hf0 : ∀ o, (w.alloc o).cell? ⟨fb, 0, none⟩ = some (.func (.func 122) #[] #[]) := fun o => (cell_old o hfb).trans hf
  clear hp
  go_enter Tryz.func155, Tryz.ntmps155
  go_wp2_with (go_at_call 122; refine h1.mono ?_; rintro e w1 ⟨rfl, b1⟩)
  go_ret
  exact ⟨rfl, b0.trans (b1.mono (by simp))⟩

set_option maxRecDepth 100000 in
set_option maxHeartbeats 1600000 in
theorem idxF_col (b off cap fb : Nat) (l : List (Cl)) (w : World) (hb : b < w.heap.size) (hfb : fb < w.heap.size) (hf : w.cell? ⟨fb, 0, none⟩ = some (.func (.func 122) #[] #[])) (hn : l.length ≤ 1000000000000000)
    (hc : ∀ (k : Nat) x, l[k]? = some x → w.cell? ⟨b, off + k * 2, none⟩ = some (.string ⟨x.name.toArray⟩) ∧ w.cell? ⟨b, off + k * 2 + 1, none⟩ = some (.int .i64 x.ty))
    (hp : ∀ (k : Nat) x, l[k]? = some x → ∀ W, Below w.heap.size w W → Calls Tryz.prog 122 #[.agg #[.string ⟨x.name.toArray⟩, .int .i64 x.ty]] W fun e w' => e = .returned (.bool (colB x)) ∧ Below W.heap.size W w') :
    Calls Tryz.prog 176 #[.slice (some ⟨b, off, none⟩) l.length cap, .func (.func 155) #[] #[.pointer (some ⟨fb, 0, none⟩)]] w fun e w' => (∃ r : Int, e = .returned (.int .i64 r) ∧ (decide (0 ≤ r) = !(l.all colB))) ∧ Below w.heap.size w w' := by
  obtain ⟨n, hl⟩ : ∃ n, l.length = n := ⟨_, rfl⟩
  rw [hl] at hn ⊢
  go_enter Tryz.func176, Tryz.ntmps176
  go_wp2
  go_loopw [8] (fun i wr => ∃ k : Nat, k ≤ n ∧ i = .int .i64 k ∧ Below w.heap.size w wr ∧ Hid (∀ j x, j < k → l[j]? = some x → colB x = true)) (fun i _ => n - (intOf i).toNat)
  case atStart => exact ⟨0, Nat.zero_le _, rfl, Below.refl _ _, fun j _ hj => absurd hj (Nat.not_lt_zero _)⟩
  case round =>
    obtain ⟨k, hk, rfl, hnx, HA⟩ := hrel
    by_cases hlt : k < n
    · obtain ⟨x, hx⟩ : ∃ x, l[k]? = some x := ⟨l[k], List.getElem?_eq_getElem (by omega)⟩
      obtain ⟨e0, e1⟩ := hc k x hx
      have a0 := (hnx.cell (p := ⟨b, off + k * 2, none⟩) hb).trans e0
      have a1 := (hnx.cell (p := ⟨b, off + k * 2 + 1, none⟩) hb).trans e1
      have hlt' : (k : Int) < (n : Int) := by omega
      have hff := (hnx.cell (p := ⟨fb, 0, none⟩) hfb).trans hf
      have hsz := hnx.size
      have hpk := hp k x hx
      have HX : Hid (l[k]? = some x) := hx
      clear hp hc hx e0 e1 hf
      cases hB : colB x
      · rw [hB] at hpk
        have hq := notF_col x fb false wr (by omega) hff fun W hW => hpk W (hnx.trans (hW.mono hsz))
        have HB : Hid (colB x = false) := hB
        clear hpk hB hff
        go_wp2_with (go_at_call 155; refine hq.mono ?_; rintro e w2 ⟨rfl, b2⟩)
        go_ret
        refine ⟨⟨(k : Nat), rfl, ?_⟩, hnx.trans (b2.mono hsz)⟩
        have : l.all colB = false := by
          rw [List.all_eq_false]
          exact ⟨x, List.mem_of_getElem? HX.out, by simp [HB.out]⟩
        rw [this]; simp
      · rw [hB] at hpk
        have hq := notF_col x fb true wr (by omega) hff fun W hW => hpk W (hnx.trans (hW.mono hsz))
        have HB : Hid (colB x = true) := hB
        clear hpk hB hff
        go_wp2_with (go_at_call 155; refine hq.mono ?_; rintro e w2 ⟨rfl, b2⟩)
        go_roundw
        case rel =>
          refine ⟨k + 1, by omega, by go_num, hnx.trans (b2.mono hsz), fun j y hj hy => ?_⟩
          rcases Nat.lt_or_ge j k with h | h
          · exact HA.out j y h hy
          · rw [show j = k by omega, HX.out] at hy; cases hy; exact HB.out
        case measure => simp [intOf]; omega
    · clear hp hc
      go_wp2
      go_ret
      refine ⟨⟨-1, rfl, ?_⟩, hnx⟩
      have : l.all colB = true := by
        rw [List.all_eq_true]
        intro x hx
        obtain ⟨j, hj⟩ := List.mem_iff_getElem?.1 hx
        exact HA.out j x (by have := (List.getElem?_eq_some_iff.1 hj).1; omega) hj
      rw [this]; simp

set_option maxRecDepth 100000 in
set_option maxHeartbeats 1600000 in
theorem all_col (b off cap : Nat) (l : List (Cl)) (w : World) (hb : b < w.heap.size) (hn : l.length ≤ 1000000000000000)
    (hc : ∀ (k : Nat) x, l[k]? = some x → w.cell? ⟨b, off + k * 2, none⟩ = some (.string ⟨x.name.toArray⟩) ∧ w.cell? ⟨b, off + k * 2 + 1, none⟩ = some (.int .i64 x.ty))
    (hp : ∀ (k : Nat) x, l[k]? = some x → ∀ W, Below w.heap.size w W → Calls Tryz.prog 122 #[.agg #[.string ⟨x.name.toArray⟩, .int .i64 x.ty]] W fun e w' => e = .returned (.bool (colB x)) ∧ Below W.heap.size W w') :
    Calls Tryz.prog 121 #[.slice (some ⟨b, off, none⟩) l.length cap, .func (.func 122) #[] #[]] w fun e w' => e = .returned (.bool (l.all colB)) ∧ Below w.heap.size w w' := by
  have hm := hmf
  have hi : ∀ t, Calls Tryz.prog 176 #[.slice (some ⟨b, off, none⟩) l.length cap, .func (.func 155) #[] #[.pointer (some ⟨w.heap.size, 0, none⟩)]] (w.alloc (.cells #[.func (.func 122) #[] #[]] t)) fun e w' => (∃ r : Int, e = .returned (.int .i64 r) ∧ (decide (0 ≤ r) = !(l.all colB))) ∧ Below w.heap.size w w' := by
    intro t
    have b0 := (Below.refl w.heap.size w).alloc (Nat.le_refl _) (.cells #[.func (.func 122) #[] #[]] t)
    refine (idxF_col b off cap w.heap.size l _ (by simp; omega) (by simp) (by simp) hn ?_ ?_).mono ?_
    · intro k x hx
      have := hc k x hx
      refine ⟨(cell_old _ hb).trans this.1, (cell_old _ hb).trans this.2⟩
    · intro k x hx W hW
      exact hp k x hx W (b0.trans (hW.mono (by simp)))
    · rintro e w' ⟨hr, hb⟩
      exact ⟨hr, b0.trans (hb.mono (by simp))⟩
  generalize l.all colB = A at hi ⊢
  clear hp hc
  go_enter Tryz.func121, Tryz.ntmps121
  go_wp2_with (first | (go_at_call 154; go_in) | (go_at_call 176; refine (hi _).mono ?_; rintro e w1 ⟨⟨r, rfl, hr⟩, b1⟩))
  go_ret
  exact ⟨ret_bool (by simp), b1⟩

set_option maxRecDepth 100000 in
set_option maxHeartbeats 1600000 in
theorem notF_val (x : Vl) (fb : Nat) (B : Bool) (w : World) (hfb : fb < w.heap.size) (hf : w.cell? ⟨fb, 0, none⟩ = some (.func (.func 75) #[] #[]))
    (hp : ∀ W, Below w.heap.size w W → Calls Tryz.prog 75 #[.agg #[.int .i64 x.k, .int .i64 x.n, .string ⟨x.s.toArray⟩]] W fun e w' => e = .returned (.bool B) ∧ Below W.heap.size W w') :
    Calls Tryz.prog 161 #[.agg #[.int .i64 x.k, .int .i64 x.n, .string ⟨x.s.toArray⟩], .pointer (some ⟨fb, 0, none⟩)] w fun e w' => e = .returned (.bool !B) ∧ Below w.heap.size w w' := by
  have b0 := (Below.refl w.heap.size w).alloc (Nat.le_refl _) (.cells #[.int .i64 x.k, .int .i64 x.n, .string ⟨x.s.toArray⟩] 24)
  have h1 := hp _ b0
  have hf0 : ∀ o, (w.alloc o).cell? ⟨fb, 0, none⟩ = some (.func (.func 75) #[] #[]) := fun o => (cell_old o hfb).trans hf
  clear hp
  go_enter Tryz.func161, Tryz.ntmps161
  go_wp2_with (go_at_call 75; refine h1.mono ?_; rintro e w1 ⟨rfl, b1⟩)
  go_ret
  exact ⟨rfl, b0.trans (b1.mono (by simp))⟩

set_option maxRecDepth 100000 in
set_option maxHeartbeats 1600000 in
theorem idxF_val (b off cap fb : Nat) (l : List (Vl)) (w : World) (hb : b < w.heap.size) (hfb : fb < w.heap.size) (hf : w.cell? ⟨fb, 0, none⟩ = some (.func (.func 75) #[] #[])) (hn : l.length ≤ 1000000000000000)
    (hc : ∀ (k : Nat) x, l[k]? = some x → w.cell? ⟨b, off + k * 3, none⟩ = some (.int .i64 x.k) ∧ w.cell? ⟨b, off + k * 3 + 1, none⟩ = some (.int .i64 x.n) ∧ w.cell? ⟨b, off + k * 3 + 2, none⟩ = some (.string ⟨x.s.toArray⟩))
    (hp : ∀ (k : Nat) x, l[k]? = some x → ∀ W, Below w.heap.size w W → Calls Tryz.prog 75 #[.agg #[.int .i64 x.k, .int .i64 x.n, .string ⟨x.s.toArray⟩]] W fun e w' => e = .returned (.bool (valB x)) ∧ Below W.heap.size W w') :
    Calls Tryz.prog 177 #[.slice (some ⟨b, off, none⟩) l.length cap, .func (.func 161) #[] #[.pointer (some ⟨fb, 0, none⟩)]] w fun e w' => (∃ r : Int, e = .returned (.int .i64 r) ∧ (decide (0 ≤ r) = !(l.all valB))) ∧ Below w.heap.size w w' := by
  obtain ⟨n, hl⟩ : ∃ n, l.length = n := ⟨_, rfl⟩
  rw [hl] at hn ⊢
  go_enter Tryz.func177, Tryz.ntmps177
  go_wp2
  go_loopw [8] (fun i wr => ∃ k : Nat, k ≤ n ∧ i = .int .i64 k ∧ Below w.heap.size w wr ∧ Hid (∀ j x, j < k → l[j]? = some x → valB x = true)) (fun i _ => n - (intOf i).toNat)
  case atStart => exact ⟨0, Nat.zero_le _, rfl, Below.refl _ _, fun j _ hj => absurd hj (Nat.not_lt_zero _)⟩
  case round =>
    obtain ⟨k, hk, rfl, hnx, HA⟩ := hrel
    by_cases hlt : k < n
    · obtain ⟨x, hx⟩ : ∃ x, l[k]? = some x := ⟨l[k], List.getElem?_eq_getElem (by omega)⟩
      obtain ⟨e0, e1, e2⟩ := hc k x hx
      have a0 := (hnx.cell (p := ⟨b, off + k * 3, none⟩) hb).trans e0
      have a1 := (hnx.cell (p := ⟨b, off + k * 3 + 1, none⟩) hb).trans e1
      have a2 := (hnx.cell (p := ⟨b, off + k * 3 + 2, none⟩) hb).trans e2
      have hlt' : (k : Int) < (n : Int) := by omega
      have hff := (hnx.cell (p := ⟨fb, 0, none⟩) hfb).trans hf
      have hsz := hnx.size
      have hpk := hp k x hx
      have HX : Hid (l[k]? = some x) := hx
      clear hp hc hx e0 e1 e2 hf
      cases hB : valB x
      · rw [hB] at hpk
        have hq := notF_val x fb false wr (by omega) hff fun W hW => hpk W (hnx.trans (hW.mono hsz))
        have HB : Hid (valB x = false) := hB
        clear hpk hB hff
        go_wp2_with (go_at_call 161; refine hq.mono ?_; rintro e w2 ⟨rfl, b2⟩)
        go_ret
        refine ⟨⟨(k : Nat), rfl, ?_⟩, hnx.trans (b2.mono hsz)⟩
        have : l.all valB = false := by
          rw [List.all_eq_false]
          exact ⟨x, List.mem_of_getElem? HX.out, by simp [HB.out]⟩
        rw [this]; simp
      · rw [hB] at hpk
        have hq := notF_val x fb true wr (by omega) hff fun W hW => hpk W (hnx.trans (hW.mono hsz))
        have HB : Hid (valB x = true) := hB
        clear hpk hB hff
        go_wp2_with (go_at_call 161; refine hq.mono ?_; rintro e w2 ⟨rfl, b2⟩)
        go_roundw
        case rel =>
          refine ⟨k + 1, by omega, by go_num, hnx.trans (b2.mono hsz), fun j y hj hy => ?_⟩
          rcases Nat.lt_or_ge j k with h | h
          · exact HA.out j y h hy
          · rw [show j = k by omega, HX.out] at hy; cases hy; exact HB.out
        case measure => simp [intOf]; omega
    · clear hp hc
      go_wp2
      go_ret
      refine ⟨⟨-1, rfl, ?_⟩, hnx⟩
      have : l.all valB = true := by
        rw [List.all_eq_true]
        intro x hx
        obtain ⟨j, hj⟩ := List.mem_iff_getElem?.1 hx
        exact HA.out j x (by have := (List.getElem?_eq_some_iff.1 hj).1; omega) hj
      rw [this]; simp

set_option maxRecDepth 100000 in
set_option maxHeartbeats 1600000 in
theorem all_val (b off cap : Nat) (l : List (Vl)) (w : World) (hb : b < w.heap.size) (hn : l.length ≤ 1000000000000000)
    (hc : ∀ (k : Nat) x, l[k]? = some x → w.cell? ⟨b, off + k * 3, none⟩ = some (.int .i64 x.k) ∧ w.cell? ⟨b, off + k * 3 + 1, none⟩ = some (.int .i64 x.n) ∧ w.cell? ⟨b, off + k * 3 + 2, none⟩ = some (.string ⟨x.s.toArray⟩))
    (hp : ∀ (k : Nat) x, l[k]? = some x → ∀ W, Below w.heap.size w W → Calls Tryz.prog 75 #[.agg #[.int .i64 x.k, .int .i64 x.n, .string ⟨x.s.toArray⟩]] W fun e w' => e = .returned (.bool (valB x)) ∧ Below W.heap.size W w') :
    Calls Tryz.prog 125 #[.slice (some ⟨b, off, none⟩) l.length cap, .func (.func 75) #[] #[]] w fun e w' => e = .returned (.bool (l.all valB)) ∧ Below w.heap.size w w' := by
  have hm := hmf
  have hi : ∀ t, Calls Tryz.prog 177 #[.slice (some ⟨b, off, none⟩) l.length cap, .func (.func 161) #[] #[.pointer (some ⟨w.heap.size, 0, none⟩)]] (w.alloc (.cells #[.func (.func 75) #[] #[]] t)) fun e w' => (∃ r : Int, e = .returned (.int .i64 r) ∧ (decide (0 ≤ r) = !(l.all valB))) ∧ Below w.heap.size w w' := by
    intro t
    have b0 := (Below.refl w.heap.size w).alloc (Nat.le_refl _) (.cells #[.func (.func 75) #[] #[]] t)
    refine (idxF_val b off cap w.heap.size l _ (by simp; omega) (by simp) (by simp) hn ?_ ?_).mono ?_
    · intro k x hx
      have := hc k x hx
      refine ⟨(cell_old _ hb).trans this.1, (cell_old _ hb).trans this.2.1, (cell_old _ hb).trans this.2.2⟩
    · intro k x hx W hW
      exact hp k x hx W (b0.trans (hW.mono (by simp)))
    · rintro e w' ⟨hr, hb⟩
      exact ⟨hr, b0.trans (hb.mono (by simp))⟩
  generalize l.all valB = A at hi ⊢
  clear hp hc
  go_enter Tryz.func125, Tryz.ntmps125
  go_wp2_with (first | (go_at_call 160; go_in) | (go_at_call 177; refine (hi _).mono ?_; rintro e w1 ⟨⟨r, rfl, hr⟩, b1⟩))
  go_ret
  exact ⟨ret_bool (by simp), b1⟩

set_option maxRecDepth 100000 in
set_option maxHeartbeats 1600000 in
theorem notF_exp (ao : Option Addr) (na ca : Nat) (x : Ex) (fb : Nat) (B : Bool) (w : World) (hfb : fb < w.heap.size) (hf : w.cell? ⟨fb, 0, none⟩ = some (.func (.func 78) #[] #[]))
    (hp : ∀ W, Below w.heap.size w W → Calls Tryz.prog 78 #[.agg #[.int .i64 x.k, .int .i64 x.v.k, .int .i64 x.v.n, .string ⟨x.v.s.toArray⟩, .string ⟨x.nm.toArray⟩, .slice ao na ca]] W fun e w' => e = .returned (.bool B) ∧ Below W.heap.size W w') :
    Calls Tryz.prog 164 #[.agg #[.int .i64 x.k, .int .i64 x.v.k, .int .i64 x.v.n, .string ⟨x.v.s.toArray⟩, .string ⟨x.nm.toArray⟩, .slice ao na ca], .pointer (some ⟨fb, 0, none⟩)] w fun e w' => e = .returned (.bool !B) ∧ Below w.heap.size w w' := by
  have b0 := (Below.refl w.heap.size w).alloc (Nat.le_refl _) (.cells #[.int .i64 x.k, .int .i64 x.v.k, .int .i64 x.v.n, .string ⟨x.v.s.toArray⟩, .string ⟨x.nm.toArray⟩, .slice ao na ca] 29)
  have h1 := hp _ b0
  have hf0 : ∀ o, (w.alloc o).cell? ⟨fb, 0, none⟩ = some (.func (.func 78) #[] #[]) := fun o => (cell_old o hfb).trans hf
  clear hp
  go_enter Tryz.func164, Tryz.ntmps164
  go_wp2_with (go_at_call 78; refine h1.mono ?_; rintro e w1 ⟨rfl, b1⟩)
  go_ret
  exact ⟨rfl, b0.trans (b1.mono (by simp))⟩

set_option maxRecDepth 100000 in
set_option maxHeartbeats 1600000 in
theorem idxF_exp (ao : Nat → Option Addr) (na ca : Nat → Nat) (pp : Ex → Bool) (b off cap fb : Nat) (l : List (Ex)) (w : World) (hb : b < w.heap.size) (hfb : fb < w.heap.size) (hf : w.cell? ⟨fb, 0, none⟩ = some (.func (.func 78) #[] #[])) (hn : l.length ≤ 1000000000000000)
    (hc : ∀ (k : Nat) x, l[k]? = some x → w.cell? ⟨b, off + k * 6, none⟩ = some (.int .i64 x.k) ∧ w.cell? ⟨b, off + k * 6 + 1, none⟩ = some (.int .i64 x.v.k) ∧ w.cell? ⟨b, off + k * 6 + 2, none⟩ = some (.int .i64 x.v.n) ∧ w.cell? ⟨b, off + k * 6 + 3, none⟩ = some (.string ⟨x.v.s.toArray⟩) ∧ w.cell? ⟨b, off + k * 6 + 4, none⟩ = some (.string ⟨x.nm.toArray⟩) ∧ w.cell? ⟨b, off + k * 6 + 5, none⟩ = some (.slice (ao k) (na k) (ca k)))
    (hp : ∀ (k : Nat) x, l[k]? = some x → ∀ W, Below w.heap.size w W → Calls Tryz.prog 78 #[.agg #[.int .i64 x.k, .int .i64 x.v.k, .int .i64 x.v.n, .string ⟨x.v.s.toArray⟩, .string ⟨x.nm.toArray⟩, .slice (ao k) (na k) (ca k)]] W fun e w' => e = .returned (.bool (pp x)) ∧ Below W.heap.size W w') :
    Calls Tryz.prog 178 #[.slice (some ⟨b, off, none⟩) l.length cap, .func (.func 164) #[] #[.pointer (some ⟨fb, 0, none⟩)]] w fun e w' => (∃ r : Int, e = .returned (.int .i64 r) ∧ (decide (0 ≤ r) = !(l.all pp))) ∧ Below w.heap.size w w' := by
  obtain ⟨n, hl⟩ : ∃ n, l.length = n := ⟨_, rfl⟩
  rw [hl] at hn ⊢
  go_enter Tryz.func178, Tryz.ntmps178
  go_wp2
  go_loopw [8] (fun i wr => ∃ k : Nat, k ≤ n ∧ i = .int .i64 k ∧ Below w.heap.size w wr ∧ Hid (∀ j x, j < k → l[j]? = some x → pp x = true)) (fun i _ => n - (intOf i).toNat)
  case atStart => exact ⟨0, Nat.zero_le _, rfl, Below.refl _ _, fun j _ hj => absurd hj (Nat.not_lt_zero _)⟩
  case round =>
    obtain ⟨k, hk, rfl, hnx, HA⟩ := hrel
    by_cases hlt : k < n
    · obtain ⟨x, hx⟩ : ∃ x, l[k]? = some x := ⟨l[k], List.getElem?_eq_getElem (by omega)⟩
      obtain ⟨e0, e1, e2, e3, e4, e5⟩ := hc k x hx
      have a0 := (hnx.cell (p := ⟨b, off + k * 6, none⟩) hb).trans e0
      have a1 := (hnx.cell (p := ⟨b, off + k * 6 + 1, none⟩) hb).trans e1
      have a2 := (hnx.cell (p := ⟨b, off + k * 6 + 2, none⟩) hb).trans e2
      have a3 := (hnx.cell (p := ⟨b, off + k * 6 + 3, none⟩) hb).trans e3
      have a4 := (hnx.cell (p := ⟨b, off + k * 6 + 4, none⟩) hb).trans e4
      have a5 := (hnx.cell (p := ⟨b, off + k * 6 + 5, none⟩) hb).trans e5
      have hlt' : (k : Int) < (n : Int) := by omega
      have hff := (hnx.cell (p := ⟨fb, 0, none⟩) hfb).trans hf
      have hsz := hnx.size
      have hpk := hp k x hx
      have HX : Hid (l[k]? = some x) := hx
      clear hp hc hx e0 e1 e2 e3 e4 e5 hf
      cases hB : pp x
      · rw [hB] at hpk
        have hq := notF_exp (ao k) (na k) (ca k) x fb false wr (by omega) hff fun W hW => hpk W (hnx.trans (hW.mono hsz))
        have HB : Hid (pp x = false) := hB
        clear hpk hB hff
        go_wp2_with (go_at_call 164; refine hq.mono ?_; rintro e w2 ⟨rfl, b2⟩)
        go_ret
        refine ⟨⟨(k : Nat), rfl, ?_⟩, hnx.trans (b2.mono hsz)⟩
        have : l.all pp = false := by
          rw [List.all_eq_false]
          exact ⟨x, List.mem_of_getElem? HX.out, by simp [HB.out]⟩
        rw [this]; simp
      · rw [hB] at hpk
        have hq := notF_exp (ao k) (na k) (ca k) x fb true wr (by omega) hff fun W hW => hpk W (hnx.trans (hW.mono hsz))
        have HB : Hid (pp x = true) := hB
        clear hpk hB hff
        go_wp2_with (go_at_call 164; refine hq.mono ?_; rintro e w2 ⟨rfl, b2⟩)
        go_roundw
        case rel =>
          refine ⟨k + 1, by omega, by go_num, hnx.trans (b2.mono hsz), fun j y hj hy => ?_⟩
          rcases Nat.lt_or_ge j k with h | h
          · exact HA.out j y h hy
          · rw [show j = k by omega, HX.out] at hy; cases hy; exact HB.out
        case measure => simp [intOf]; omega
    · clear hp hc
      go_wp2
      go_ret
      refine ⟨⟨-1, rfl, ?_⟩, hnx⟩
      have : l.all pp = true := by
        rw [List.all_eq_true]
        intro x hx
        obtain ⟨j, hj⟩ := List.mem_iff_getElem?.1 hx
        exact HA.out j x (by have := (List.getElem?_eq_some_iff.1 hj).1; omega) hj
      rw [this]; simp

set_option maxRecDepth 100000 in
set_option maxHeartbeats 1600000 in
theorem all_exp (ao : Nat → Option Addr) (na ca : Nat → Nat) (pp : Ex → Bool) (b off cap : Nat) (l : List (Ex)) (w : World) (hb : b < w.heap.size) (hn : l.length ≤ 1000000000000000)
    (hc : ∀ (k : Nat) x, l[k]? = some x → w.cell? ⟨b, off + k * 6, none⟩ = some (.int .i64 x.k) ∧ w.cell? ⟨b, off + k * 6 + 1, none⟩ = some (.int .i64 x.v.k) ∧ w.cell? ⟨b, off + k * 6 + 2, none⟩ = some (.int .i64 x.v.n) ∧ w.cell? ⟨b, off + k * 6 + 3, none⟩ = some (.string ⟨x.v.s.toArray⟩) ∧ w.cell? ⟨b, off + k * 6 + 4, none⟩ = some (.string ⟨x.nm.toArray⟩) ∧ w.cell? ⟨b, off + k * 6 + 5, none⟩ = some (.slice (ao k) (na k) (ca k)))
    (hp : ∀ (k : Nat) x, l[k]? = some x → ∀ W, Below w.heap.size w W → Calls Tryz.prog 78 #[.agg #[.int .i64 x.k, .int .i64 x.v.k, .int .i64 x.v.n, .string ⟨x.v.s.toArray⟩, .string ⟨x.nm.toArray⟩, .slice (ao k) (na k) (ca k)]] W fun e w' => e = .returned (.bool (pp x)) ∧ Below W.heap.size W w') :
    Calls Tryz.prog 129 #[.slice (some ⟨b, off, none⟩) l.length cap, .func (.func 78) #[] #[]] w fun e w' => e = .returned (.bool (l.all pp)) ∧ Below w.heap.size w w' := by
  have hm := hmf
  have hi : ∀ t, Calls Tryz.prog 178 #[.slice (some ⟨b, off, none⟩) l.length cap, .func (.func 164) #[] #[.pointer (some ⟨w.heap.size, 0, none⟩)]] (w.alloc (.cells #[.func (.func 78) #[] #[]] t)) fun e w' => (∃ r : Int, e = .returned (.int .i64 r) ∧ (decide (0 ≤ r) = !(l.all pp))) ∧ Below w.heap.size w w' := by
    intro t
    have b0 := (Below.refl w.heap.size w).alloc (Nat.le_refl _) (.cells #[.func (.func 78) #[] #[]] t)
    refine (idxF_exp ao na ca pp b off cap w.heap.size l _ (by simp; omega) (by simp) (by simp) hn ?_ ?_).mono ?_
    · intro k x hx
      have := hc k x hx
      refine ⟨(cell_old _ hb).trans this.1, (cell_old _ hb).trans this.2.1, (cell_old _ hb).trans this.2.2.1, (cell_old _ hb).trans this.2.2.2.1, (cell_old _ hb).trans this.2.2.2.2.1, (cell_old _ hb).trans this.2.2.2.2.2⟩
    · intro k x hx W hW
      exact hp k x hx W (b0.trans (hW.mono (by simp)))
    · rintro e w' ⟨hr, hb⟩
      exact ⟨hr, b0.trans (hb.mono (by simp))⟩
  generalize l.all pp = A at hi ⊢
  clear hp hc
  go_enter Tryz.func129, Tryz.ntmps129
  go_wp2_with (first | (go_at_call 163; go_in) | (go_at_call 178; refine (hi _).mono ?_; rintro e w1 ⟨⟨r, rfl, hr⟩, b1⟩))
  go_ret
  exact ⟨ret_bool (by simp), b1⟩

end Go.Proofs.YtkpeklealgicpabGreatDoor

namespace Go.Proofs.YtkpeklealgicpabGreatDoor
open Go.RowKit

theorem Tryz.fields24 : (Tryz.prog.fieldsOf 24).toList.map (fun f => (f.name, f.type, f.offset)) = [("Kind", 3, 0), ("N", 3, 1), ("S", 9, 2)] := by kernel_rfl
theorem Tryz.under24 : Tryz.prog.underlying 24 = some (.struct (Tryz.prog.fieldsOf 24)) := by kernel_rfl
theorem Tryz.stood24 : Tryz.prog.stoodInHeld 24 = false := by kernel_rfl

theorem eql24 (k a k' a' : Int) (t t' : ByteArray) (w : World) :
    (binOp .eql 24 (.agg #[.int .i64 k, .int .i64 a, .string t]) (.agg #[.int .i64 k', .int .i64 a', .string t'])).run Tryz.prog w = .ok (.bool (sameTk k a t k' a' t')) w := by
  rw [run_eql_struct, run_equalIn_struct w 9999 24 _ _ Tryz.under24 Tryz.stood24]
  obtain ⟨f0, f1, f2, hf, n0, t0, o0, n1, t1, o1, n2, t2, o2⟩ := fields_three Tryz.fields24
  rw [hf]
  simp [Op.eqFields, n0, t0, o0, n1, t1, o1, n2, t2, o2, go_sem]
  unfold sameTk
  by_cases h1 : k = k' <;> by_cases h2 : a = a' <;> by_cases h3 : t.toList = t'.toList <;> simp [h1, h2, h3]

set_option maxRecDepth 100000 in

def noneV (x : Vl) : Bool := decide (x.k = 0) && decide (x.n = 0) && decide (x.s = [])
theorem same0 (x : Vl) : sameTk x.k x.n ⟨x.s.toArray⟩ 0 0 ⟨#[]⟩ = noneV x := by
  unfold sameTk noneV
  have e1 : (⟨x.s.toArray⟩ : ByteArray).toList = x.s := by rw [Lib.toList_data]
  have e2 : (⟨#[]⟩ : ByteArray).toList = [] := by rw [Lib.toList_data]
  rw [e1, e2, Bool.eq_iff_iff]
  simp

def Ex.args : Ex → List Ex | .mk _ _ _ a => a
def noneE (x : Ex) : Bool := decide (x.k = 0) && noneV x.v && decide (x.nm = []) && decide (x.args = [])

set_option maxRecDepth 100000 in
set_option maxHeartbeats 1600000 in
theorem isNone_any (x : Ex) (ao : Option Addr) (ca : Nat) (w : World) :
    Calls Tryz.prog 79 #[.agg #[.int .i64 x.k, .int .i64 x.v.k, .int .i64 x.v.n, .string ⟨x.v.s.toArray⟩, .string ⟨x.nm.toArray⟩, .slice ao x.args.length ca]] w fun e w' => e = .returned (.bool (noneE x)) ∧ Below w.heap.size w w' := by
  have hq := eql24
  have hs := same0 x.v
  unfold noneE
  generalize noneV x.v = B at hs ⊢
  have hk : (x.k == 0) = decide (x.k = 0) := by rw [Bool.eq_iff_iff]; simp
  have hn : x.nm.isEmpty = decide (x.nm = []) := by cases x.nm <;> simp
  have ha : ((x.args.length : Int) == 0) = decide (x.args = []) := by rw [Bool.eq_iff_iff]; cases x.args <;> simp; omega
  generalize decide (x.k = 0) = K at hk ⊢
  generalize decide (x.nm = []) = M at hn ⊢
  generalize decide (x.args = []) = A at ha ⊢
  cases K <;> cases B <;> cases M
  all_goals
    go_enter Tryz.func79, Tryz.ntmps79
    go_wp2
    go_ret
    refine ⟨ret_bool ?_, (Below.refl _ _).alloc (Nat.le_refl _) _⟩
    first | rfl | simp_all

end Go.Proofs.YtkpeklealgicpabGreatDoor

namespace Go.Proofs.YtkpeklealgicpabGreatDoor
open Go.RowKit

set_option maxRecDepth 100000 in
set_option maxHeartbeats 1600000 in
theorem isExpr_1 (k : Int) (x : Vl) (nm : List UInt8) (ao : Option Addr) (n ca : Nat) (w : World) (hk : k = 1) (hs : x.s.length ≤ 140737488355328) :
    Calls Tryz.prog 78 #[.agg #[.int .i64 k, .int .i64 x.k, .int .i64 x.n, .string ⟨x.s.toArray⟩, .string ⟨nm.toArray⟩, .slice ao n ca]] w fun e w' => e = .returned (.bool (valB x && decide (nm = []) && decide (n = 0))) ∧ Below w.heap.size w w' := by
  subst hk
  have b0 := (Below.refl w.heap.size w).alloc (Nat.le_refl _) (.cells #[.int .i64 1, .int .i64 x.k, .int .i64 x.n, .string ⟨x.s.toArray⟩, .string ⟨nm.toArray⟩, .slice ao n ca] 29)
  have h := isValue_any x (w.alloc (.cells #[.int .i64 1, .int .i64 x.k, .int .i64 x.n, .string ⟨x.s.toArray⟩, .string ⟨nm.toArray⟩, .slice ao n ca] 29)) hs
  generalize valB x = B at h ⊢
  have hn : nm.isEmpty = decide (nm = []) := by cases nm <;> simp
  have ha : ((n : Int) == 0) = decide (n = 0) := by rw [Bool.eq_iff_iff]; simp
  generalize decide (nm = []) = M at hn ⊢
  generalize decide (n = 0) = A at ha ⊢
  cases B <;> cases M
  all_goals
    go_enter Tryz.func78, Tryz.ntmps78
    go_wp2_with (go_at_call 75; refine h.mono ?_; rintro e w1 ⟨rfl, b1⟩; have d4 : w1.cell? ⟨w.heap.size, 4, none⟩ = some (.string ⟨nm.toArray⟩) := (b1.cell (by simp)).trans (by simp); have d5 : w1.cell? ⟨w.heap.size, 5, none⟩ = some (.slice ao n ca) := (b1.cell (by simp)).trans (by simp))
    go_ret
    refine ⟨ret_bool ?_, b0.trans (b1.mono (by simp))⟩
    first | rfl | simp_all

set_option maxRecDepth 100000 in
set_option maxHeartbeats 1600000 in
theorem isExpr_2 (k : Int) (x : Vl) (nm : List UInt8) (ao : Option Addr) (n ca : Nat) (w : World) (hk : k = 2) (hs : nm.length ≤ 140737488355328) (hl : Laid w) :
    Calls Tryz.prog 78 #[.agg #[.int .i64 k, .int .i64 x.k, .int .i64 x.n, .string ⟨x.s.toArray⟩, .string ⟨nm.toArray⟩, .slice ao n ca]] w fun e w' => e = .returned (.bool (noneV x && nameW nm && decide (n = 0))) ∧ Below w.heap.size w w' := by
  subst hk
  have b0 := (Below.refl w.heap.size w).alloc (Nat.le_refl _) (.cells #[.int .i64 2, .int .i64 x.k, .int .i64 x.n, .string ⟨x.s.toArray⟩, .string ⟨nm.toArray⟩, .slice ao n ca] 29)
  have h := isName_any ⟨nm.toArray⟩ (w.alloc (.cells #[.int .i64 2, .int .i64 x.k, .int .i64 x.n, .string ⟨x.s.toArray⟩, .string ⟨nm.toArray⟩, .slice ao n ca] 29)) (by rw [size_mk]; exact hs) (hl.below b0)
  have e0 : (⟨nm.toArray⟩ : ByteArray).data.toList = nm := by simp
  rw [e0] at h
  have hq := eql24
  have hv := same0 x
  generalize noneV x = B at hv ⊢
  generalize nameW nm = M at h ⊢
  have ha : ((n : Int) == 0) = decide (n = 0) := by rw [Bool.eq_iff_iff]; simp
  generalize decide (n = 0) = A at ha ⊢
  cases B
  · go_enter Tryz.func78, Tryz.ntmps78
    go_wp2_with fail
    go_ret
    exact ⟨ret_bool (by first | rfl | simp_all), b0⟩
  · cases M
    all_goals
      go_enter Tryz.func78, Tryz.ntmps78
      go_wp2_with (go_at_call 72; refine h.mono ?_; rintro e w1 ⟨rfl, b1⟩; have d5 : w1.cell? ⟨w.heap.size, 5, none⟩ = some (.slice ao n ca) := (b1.cell (by simp)).trans (by simp))
      go_ret
      refine ⟨ret_bool ?_, b0.trans (b1.mono (by simp))⟩
      first | rfl | simp_all

theorem keep6 {w W W' : World} {k : Int} {x : Vl} {nm : List UInt8} {ao : Option Addr} {n ca : Nat}
    (h : W.cell? ⟨w.heap.size, 0, none⟩ = some (.int .i64 k) ∧ W.cell? ⟨w.heap.size, 1, none⟩ = some (.int .i64 x.k) ∧ W.cell? ⟨w.heap.size, 2, none⟩ = some (.int .i64 x.n) ∧ W.cell? ⟨w.heap.size, 3, none⟩ = some (.string ⟨x.s.toArray⟩) ∧ W.cell? ⟨w.heap.size, 4, none⟩ = some (.string ⟨nm.toArray⟩) ∧ W.cell? ⟨w.heap.size, 5, none⟩ = some (.slice ao n ca) ∧ Below w.heap.size w W ∧ w.heap.size < W.heap.size) (hb : Below W.heap.size W W') :
    W'.cell? ⟨w.heap.size, 0, none⟩ = some (.int .i64 k) ∧ W'.cell? ⟨w.heap.size, 1, none⟩ = some (.int .i64 x.k) ∧ W'.cell? ⟨w.heap.size, 2, none⟩ = some (.int .i64 x.n) ∧ W'.cell? ⟨w.heap.size, 3, none⟩ = some (.string ⟨x.s.toArray⟩) ∧ W'.cell? ⟨w.heap.size, 4, none⟩ = some (.string ⟨nm.toArray⟩) ∧ W'.cell? ⟨w.heap.size, 5, none⟩ = some (.slice ao n ca) ∧ Below w.heap.size w W' ∧ w.heap.size < W'.heap.size := by
  obtain ⟨h0, h1, h2, h3, h4, h5, h6, h7⟩ := h
  exact ⟨(hb.cell h7).trans h0, (hb.cell h7).trans h1, (hb.cell h7).trans h2, (hb.cell h7).trans h3, (hb.cell h7).trans h4, (hb.cell h7).trans h5, h6.trans (hb.mono h6.size), Nat.lt_of_lt_of_le h7 hb.size⟩

set_option maxRecDepth 100000 in
set_option maxHeartbeats 1600000 in
theorem isExpr_o (k : Int) (x : Vl) (nm : List UInt8) (ao : Option Addr) (n ca : Nat) (w : World) (h1 : (k == 1) = false) (h2 : (k == 2) = false) (B M : Bool) (hv : sameTk x.k x.n ⟨x.s.toArray⟩ 0 0 ⟨#[]⟩ = B) (hn : nm.isEmpty = M) (hoff : B = false ∨ M = false ∨ n = 0) :
    Calls Tryz.prog 78 #[.agg #[.int .i64 k, .int .i64 x.k, .int .i64 x.n, .string ⟨x.s.toArray⟩, .string ⟨nm.toArray⟩, .slice ao n ca]] w fun e w' => e = .returned (.bool false) ∧ Below w.heap.size w w' := by
  have b0 := (Below.refl w.heap.size w).alloc (Nat.le_refl _) (.cells #[.int .i64 k, .int .i64 x.k, .int .i64 x.n, .string ⟨x.s.toArray⟩, .string ⟨nm.toArray⟩, .slice ao n ca] 29)
  have hq := eql24
  cases B
  · clear hoff
    go_enter Tryz.func78, Tryz.ntmps78
    go_wp2_with fail
    go_quiet (fail)
    go_wp2
    go_ret
    exact ⟨rfl, below_drewN b0 _⟩
  · cases M
    · clear hoff
      go_enter Tryz.func78, Tryz.ntmps78
      go_wp2_with fail
      go_quiet (fail)
      go_wp2
      go_ret
      exact ⟨rfl, below_drewN b0 _⟩
    · have h0 : n = 0 := by simpa using hoff
      subst h0
      clear hoff
      go_enter Tryz.func78, Tryz.ntmps78
      go_wp2_with fail
      go_quiet (fail)
      go_wp2
      go_ret
      exact ⟨rfl, below_drewN b0 _⟩

theorem take_at {P : Program} {ops : Array Oper} {Q : Exit → Act → World → Prop} {md : Region.Mode} {S : World → Prop} (i d : Nat) {oi : Oper} {v : Value} {fuel : Nat} {listed : Array Bool} {a : Act} {w : World} (hi : ops[i]? = some oi) (hd : oi.dst = some d)
    (hs : Region.noSelect ops = true) (hf : Region.free md ops listed i = true) (hr : (Region.ready md ops listed).contains i = true)
    (hQ : ∀ c a w, Q (.panic c) (a.put (some d) v) w → Q (.panic c) a w) (hy : YieldsIf P ops S oi v a) (hS : S w)
    (h : wpAnyH P md ops Q S fuel (listed.setIfInBounds i true) { tmps := a.tmps.setIfInBounds d v, defers := a.defers } w) : wpAnyH P md ops Q S (fuel + 1) listed a w :=
  wpAnyH_take hi hs hf hr (by rw [hd]; exact hQ) hy hS (by rw [hd]; exact h)

set_option maxRecDepth 100000 in
set_option maxHeartbeats 1600000 in
theorem isExpr_n (k : Int) (x : Vl) (nm : List UInt8) (ao : Option Addr) (n ca : Nat) (w : World) (h1 : (k == 1) = false) (h2 : (k == 2) = false) (hv : sameTk x.k x.n ⟨x.s.toArray⟩ 0 0 ⟨#[]⟩ = true) (hn : nm.isEmpty = true) (h0 : 0 < n) (r : Nat) (hr : ((n : Int) == (r : Int)) = false)
    (ha : ∀ W, Calls Tryz.prog 128 #[.int .i64 k] W fun e w' => e = .returned (.int .i64 (r : Int)) ∧ Below W.heap.size W w') :
    Calls Tryz.prog 78 #[.agg #[.int .i64 k, .int .i64 x.k, .int .i64 x.n, .string ⟨x.s.toArray⟩, .string ⟨nm.toArray⟩, .slice ao n ca]] w fun e w' => e = .returned (.bool false) ∧ Below w.heap.size w w' := by
  have b0 := (Below.refl w.heap.size w).alloc (Nat.le_refl _) (.cells #[.int .i64 k, .int .i64 x.k, .int .i64 x.n, .string ⟨x.s.toArray⟩, .string ⟨nm.toArray⟩, .slice ao n ca] 29)
  have hq := eql24
  have h0' : (0 : Int) < (n : Int) := by omega
  have hr2 : (n == r) = false := by rw [beq_eq_false_iff_ne] at hr ⊢; omega
  have hr3 : ¬ n = r := by rw [beq_eq_false_iff_ne] at hr; omega
  have hr4 : decide (n = r) = false := by simpa using hr3
  have hr5 : ¬ (n : Int) = (r : Int) := by omega
  have hr6 : decide ((n : Int) = (r : Int)) = false := by simpa using hr5
  have hd0 : decide ((0 : Int) < (n : Int)) = true := by simpa using h0
  have hd1 : decide (0 < n) = true := by simpa using h0
  have y0 : (w.alloc (.cells #[.int .i64 k, .int .i64 x.k, .int .i64 x.n, .string ⟨x.s.toArray⟩, .string ⟨nm.toArray⟩, .slice ao n ca] 29)).drew.cell? ⟨w.heap.size, 0, none⟩ = some (.int .i64 k) := (Lib.cell_of_heap (heap_alloc_new w (.cells #[.int .i64 k, .int .i64 x.k, .int .i64 x.n, .string ⟨x.s.toArray⟩, .string ⟨nm.toArray⟩, .slice ao n ca] 29)) 0).trans rfl
  have y1 : (w.alloc (.cells #[.int .i64 k, .int .i64 x.k, .int .i64 x.n, .string ⟨x.s.toArray⟩, .string ⟨nm.toArray⟩, .slice ao n ca] 29)).drew.cell? ⟨w.heap.size, 1, none⟩ = some (.int .i64 x.k) := (Lib.cell_of_heap (heap_alloc_new w (.cells #[.int .i64 k, .int .i64 x.k, .int .i64 x.n, .string ⟨x.s.toArray⟩, .string ⟨nm.toArray⟩, .slice ao n ca] 29)) 1).trans rfl
  have y2 : (w.alloc (.cells #[.int .i64 k, .int .i64 x.k, .int .i64 x.n, .string ⟨x.s.toArray⟩, .string ⟨nm.toArray⟩, .slice ao n ca] 29)).drew.cell? ⟨w.heap.size, 2, none⟩ = some (.int .i64 x.n) := (Lib.cell_of_heap (heap_alloc_new w (.cells #[.int .i64 k, .int .i64 x.k, .int .i64 x.n, .string ⟨x.s.toArray⟩, .string ⟨nm.toArray⟩, .slice ao n ca] 29)) 2).trans rfl
  have y3 : (w.alloc (.cells #[.int .i64 k, .int .i64 x.k, .int .i64 x.n, .string ⟨x.s.toArray⟩, .string ⟨nm.toArray⟩, .slice ao n ca] 29)).drew.cell? ⟨w.heap.size, 3, none⟩ = some (.string ⟨x.s.toArray⟩) := (Lib.cell_of_heap (heap_alloc_new w (.cells #[.int .i64 k, .int .i64 x.k, .int .i64 x.n, .string ⟨x.s.toArray⟩, .string ⟨nm.toArray⟩, .slice ao n ca] 29)) 3).trans rfl
  have y4 : (w.alloc (.cells #[.int .i64 k, .int .i64 x.k, .int .i64 x.n, .string ⟨x.s.toArray⟩, .string ⟨nm.toArray⟩, .slice ao n ca] 29)).drew.cell? ⟨w.heap.size, 4, none⟩ = some (.string ⟨nm.toArray⟩) := (Lib.cell_of_heap (heap_alloc_new w (.cells #[.int .i64 k, .int .i64 x.k, .int .i64 x.n, .string ⟨x.s.toArray⟩, .string ⟨nm.toArray⟩, .slice ao n ca] 29)) 4).trans rfl
  have y5 : (w.alloc (.cells #[.int .i64 k, .int .i64 x.k, .int .i64 x.n, .string ⟨x.s.toArray⟩, .string ⟨nm.toArray⟩, .slice ao n ca] 29)).drew.cell? ⟨w.heap.size, 5, none⟩ = some (.slice ao n ca) := (Lib.cell_of_heap (heap_alloc_new w (.cells #[.int .i64 k, .int .i64 x.k, .int .i64 x.n, .string ⟨x.s.toArray⟩, .string ⟨nm.toArray⟩, .slice ao n ca] 29)) 5).trans rfl
  have yl : w.heap.size < (w.alloc (.cells #[.int .i64 k, .int .i64 x.k, .int .i64 x.n, .string ⟨x.s.toArray⟩, .string ⟨nm.toArray⟩, .slice ao n ca] 29)).drew.heap.size := (Array.getElem?_eq_some_iff.1 (heap_alloc_new w (.cells #[.int .i64 k, .int .i64 x.k, .int .i64 x.n, .string ⟨x.s.toArray⟩, .string ⟨nm.toArray⟩, .slice ao n ca] 29))).1
  have yb : Below w.heap.size w (w.alloc (.cells #[.int .i64 k, .int .i64 x.k, .int .i64 x.n, .string ⟨x.s.toArray⟩, .string ⟨nm.toArray⟩, .slice ao n ca] 29)).drew := b0.drew
  go_enter Tryz.func78, Tryz.ntmps78
  go_wp2_with fail
  refine wp_region_held_drew (S := (fun w' => w'.cell? ⟨w.heap.size, 0, none⟩ = some (.int .i64 k) ∧ w'.cell? ⟨w.heap.size, 1, none⟩ = some (.int .i64 x.k) ∧ w'.cell? ⟨w.heap.size, 2, none⟩ = some (.int .i64 x.n) ∧ w'.cell? ⟨w.heap.size, 3, none⟩ = some (.string ⟨x.s.toArray⟩) ∧ w'.cell? ⟨w.heap.size, 4, none⟩ = some (.string ⟨nm.toArray⟩) ∧ w'.cell? ⟨w.heap.size, 5, none⟩ = some (.slice ao n ca) ∧ Below w.heap.size w w' ∧ w.heap.size < w'.heap.size)) (by kernel_rfl) ⟨y0, y1, y2, y3, y4, y5, yb, yl⟩ (fun hHeld => ?_)
  refine take_at 0 38 (v := ?_) (by simp only [List.getElem?_toArray, List.getElem?_cons_zero]; rfl) rfl (by kernel_rfl) (by kernel_rfl) (by kernel_rfl) (fun _ _ _ h => h) (Or.inl ⟨by rfl, ?_⟩) (by assumption) ?_
  rotate_left
  · intro W hSw
    obtain ⟨i0, i1, i2, i3, i4, i5, -, -⟩ := hSw
    go_simp
    try with_reducible rfl
  simp only [List.setIfInBounds_toArray, List.set_cons_succ, List.set_cons_zero]
  refine take_at 1 39 (v := ?_) (by simp only [List.getElem?_toArray, List.getElem?_cons_succ, List.getElem?_cons_zero]; rfl) rfl (by kernel_rfl) (by kernel_rfl) (by kernel_rfl) (fun _ _ _ h => h) (Or.inl ⟨by rfl, ?_⟩) (by assumption) ?_
  rotate_left
  · intro W hSw
    obtain ⟨i0, i1, i2, i3, i4, i5, -, -⟩ := hSw
    go_simp
    try with_reducible rfl
  simp only [List.setIfInBounds_toArray, List.set_cons_succ, List.set_cons_zero]
  refine take_at 2 40 (v := ?_) (by simp only [List.getElem?_toArray, List.getElem?_cons_succ, List.getElem?_cons_zero]; rfl) rfl (by kernel_rfl) (by kernel_rfl) (by kernel_rfl) (fun _ _ _ h => h) (Or.inl ⟨by rfl, ?_⟩) (by assumption) ?_
  rotate_left
  · intro W hSw
    obtain ⟨i0, i1, i2, i3, i4, i5, -, -⟩ := hSw
    go_simp
    try with_reducible rfl
  simp only [List.setIfInBounds_toArray, List.set_cons_succ, List.set_cons_zero]
  refine take_at 3 41 (v := ?_) (by simp only [List.getElem?_toArray, List.getElem?_cons_succ, List.getElem?_cons_zero]; rfl) rfl (by kernel_rfl) (by kernel_rfl) (by kernel_rfl) (fun _ _ _ h => h) (Or.inl ⟨by rfl, ?_⟩) (by assumption) ?_
  rotate_left
  · intro W hSw
    obtain ⟨i0, i1, i2, i3, i4, i5, -, -⟩ := hSw
    go_simp
    try with_reducible rfl
  simp only [List.setIfInBounds_toArray, List.set_cons_succ, List.set_cons_zero]
  refine take_at 4 42 (v := ?_) (by simp only [List.getElem?_toArray, List.getElem?_cons_succ, List.getElem?_cons_zero]; rfl) rfl (by kernel_rfl) (by kernel_rfl) (by kernel_rfl) (fun _ _ _ h => h) (Or.inl ⟨by rfl, ?_⟩) (by assumption) ?_
  rotate_left
  · intro W hSw
    obtain ⟨i0, i1, i2, i3, i4, i5, -, -⟩ := hSw
    go_simp
    try with_reducible rfl
  simp only [List.setIfInBounds_toArray, List.set_cons_succ, List.set_cons_zero]
  refine take_at 5 43 (v := ?_) (by simp only [List.getElem?_toArray, List.getElem?_cons_succ, List.getElem?_cons_zero]; rfl) rfl (by kernel_rfl) (by kernel_rfl) (by kernel_rfl) (fun _ _ _ h => h) (Or.inl ⟨by rfl, ?_⟩) (by assumption) ?_
  rotate_left
  · intro W hSw
    obtain ⟨i0, i1, i2, i3, i4, i5, -, -⟩ := hSw
    go_simp
    try with_reducible rfl
  simp only [List.setIfInBounds_toArray, List.set_cons_succ, List.set_cons_zero]
  refine take_at 6 44 (v := ?_) (by simp only [List.getElem?_toArray, List.getElem?_cons_succ, List.getElem?_cons_zero]; rfl) rfl (by kernel_rfl) (by kernel_rfl) (by kernel_rfl) (fun _ _ _ h => h) (Or.inl ⟨by rfl, ?_⟩) (by assumption) ?_
  rotate_left
  · intro W hSw
    obtain ⟨i0, i1, i2, i3, i4, i5, -, -⟩ := hSw
    go_simp
    try with_reducible rfl
  simp only [List.setIfInBounds_toArray, List.set_cons_succ, List.set_cons_zero]
  refine take_at 7 45 (v := ?_) (by simp only [List.getElem?_toArray, List.getElem?_cons_succ, List.getElem?_cons_zero]; rfl) rfl (by kernel_rfl) (by kernel_rfl) (by kernel_rfl) (fun _ _ _ h => h) (Or.inl ⟨by rfl, ?_⟩) (by assumption) ?_
  rotate_left
  · intro W hSw
    obtain ⟨i0, i1, i2, i3, i4, i5, -, -⟩ := hSw
    go_simp
    try with_reducible rfl
  simp only [List.setIfInBounds_toArray, List.set_cons_succ, List.set_cons_zero]
  refine take_at 8 46 (v := ?_) (by simp only [List.getElem?_toArray, List.getElem?_cons_succ, List.getElem?_cons_zero]; rfl) rfl (by kernel_rfl) (by kernel_rfl) (by kernel_rfl) (fun _ _ _ h => h) (Or.inl ⟨by rfl, ?_⟩) (by assumption) ?_
  rotate_left
  · intro W hSw
    obtain ⟨i0, i1, i2, i3, i4, i5, -, -⟩ := hSw
    go_simp
    try with_reducible rfl
  simp only [List.setIfInBounds_toArray, List.set_cons_succ, List.set_cons_zero]
  refine take_at 9 47 (v := ?_) (by simp only [List.getElem?_toArray, List.getElem?_cons_succ, List.getElem?_cons_zero]; rfl) rfl (by kernel_rfl) (by kernel_rfl) (by kernel_rfl) (fun _ _ _ h => h) (Or.inl ⟨by rfl, ?_⟩) (by assumption) ?_
  rotate_left
  · intro W hSw
    obtain ⟨i0, i1, i2, i3, i4, i5, -, -⟩ := hSw
    go_simp
    try with_reducible rfl
  simp only [List.setIfInBounds_toArray, List.set_cons_succ, List.set_cons_zero]
  refine take_at 10 48 (v := ?_) (by simp only [List.getElem?_toArray, List.getElem?_cons_succ, List.getElem?_cons_zero]; rfl) rfl (by kernel_rfl) (by kernel_rfl) (by kernel_rfl) (fun _ _ _ h => h) (Or.inl ⟨by rfl, ?_⟩) (by assumption) ?_
  rotate_left
  · intro W hSw
    obtain ⟨i0, i1, i2, i3, i4, i5, -, -⟩ := hSw
    go_simp
    try with_reducible rfl
  simp only [List.setIfInBounds_toArray, List.set_cons_succ, List.set_cons_zero]
  refine take_at 11 49 (v := ?_) (by simp only [List.getElem?_toArray, List.getElem?_cons_succ, List.getElem?_cons_zero]; rfl) rfl (by kernel_rfl) (by kernel_rfl) (by kernel_rfl) (fun _ _ _ h => h) (Or.inl ⟨by rfl, ?_⟩) (by assumption) ?_
  rotate_left
  · intro W hSw
    obtain ⟨i0, i1, i2, i3, i4, i5, -, -⟩ := hSw
    go_simp
    try with_reducible rfl
  simp only [List.setIfInBounds_toArray, List.set_cons_succ, List.set_cons_zero]
  refine take_at 12 50 (v := ?_) (by simp only [List.getElem?_toArray, List.getElem?_cons_succ, List.getElem?_cons_zero]; rfl) rfl (by kernel_rfl) (by kernel_rfl) (by kernel_rfl) (fun _ _ _ h => h) (Or.inl ⟨by rfl, ?_⟩) (by assumption) ?_
  rotate_left
  · intro W hSw
    obtain ⟨i0, i1, i2, i3, i4, i5, -, -⟩ := hSw
    go_simp
    try with_reducible rfl
  simp only [List.setIfInBounds_toArray, List.set_cons_succ, List.set_cons_zero]
  refine take_at 13 51 (v := ?_) (by simp only [List.getElem?_toArray, List.getElem?_cons_succ, List.getElem?_cons_zero]; rfl) rfl (by kernel_rfl) (by kernel_rfl) (by kernel_rfl) (fun _ _ _ h => h) (Or.inl ⟨by rfl, ?_⟩) (by assumption) ?_
  rotate_left
  · intro W hSw
    obtain ⟨i0, i1, i2, i3, i4, i5, -, -⟩ := hSw
    go_simp
    try with_reducible rfl
  simp only [List.setIfInBounds_toArray, List.set_cons_succ, List.set_cons_zero]
  refine take_at 14 52 (v := ?_) (by simp only [List.getElem?_toArray, List.getElem?_cons_succ, List.getElem?_cons_zero]; rfl) rfl (by kernel_rfl) (by kernel_rfl) (by kernel_rfl) (fun _ _ _ h => h) (Or.inl ⟨by rfl, ?_⟩) (by assumption) ?_
  rotate_left
  · intro W hSw
    obtain ⟨i0, i1, i2, i3, i4, i5, -, -⟩ := hSw
    go_simp
    try with_reducible rfl
  simp only [List.setIfInBounds_toArray, List.set_cons_succ, List.set_cons_zero]
  refine take_at 15 53 (v := ?_) (by simp only [List.getElem?_toArray, List.getElem?_cons_succ, List.getElem?_cons_zero]; rfl) rfl (by kernel_rfl) (by kernel_rfl) (by kernel_rfl) (fun _ _ _ h => h) (Or.inl ⟨by rfl, ?_⟩) (by assumption) ?_
  rotate_left
  · intro W hSw
    obtain ⟨i0, i1, i2, i3, i4, i5, -, -⟩ := hSw
    go_simp
    try with_reducible rfl
  simp only [List.setIfInBounds_toArray, List.set_cons_succ, List.set_cons_zero]
  refine take_at 16 54 (v := ?_) (by simp only [List.getElem?_toArray, List.getElem?_cons_succ, List.getElem?_cons_zero]; rfl) rfl (by kernel_rfl) (by kernel_rfl) (by kernel_rfl) (fun _ _ _ h => h) (Or.inl ⟨by rfl, ?_⟩) (by assumption) ?_
  rotate_left
  · intro W hSw
    obtain ⟨i0, i1, i2, i3, i4, i5, -, -⟩ := hSw
    go_simp
    try with_reducible rfl
  simp only [List.setIfInBounds_toArray, List.set_cons_succ, List.set_cons_zero]
  refine take_at 17 55 (v := ?_) (by simp only [List.getElem?_toArray, List.getElem?_cons_succ, List.getElem?_cons_zero]; rfl) rfl (by kernel_rfl) (by kernel_rfl) (by kernel_rfl) (fun _ _ _ h => h) (Or.inl ⟨by rfl, ?_⟩) (by assumption) ?_
  rotate_left
  · intro W hSw
    obtain ⟨i0, i1, i2, i3, i4, i5, -, -⟩ := hSw
    go_simp
    try with_reducible rfl
  simp only [List.setIfInBounds_toArray, List.set_cons_succ, List.set_cons_zero]
  refine take_at 18 56 (v := ?_) (by simp only [List.getElem?_toArray, List.getElem?_cons_succ, List.getElem?_cons_zero]; rfl) rfl (by kernel_rfl) (by kernel_rfl) (by kernel_rfl) (fun _ _ _ h => h) (Or.inl ⟨by rfl, ?_⟩) (by assumption) ?_
  rotate_left
  · intro W hSw
    obtain ⟨i0, i1, i2, i3, i4, i5, -, -⟩ := hSw
    go_simp
    try with_reducible rfl
  simp only [List.setIfInBounds_toArray, List.set_cons_succ, List.set_cons_zero]
  refine take_at 19 57 (v := ?_) (by simp only [List.getElem?_toArray, List.getElem?_cons_succ, List.getElem?_cons_zero]; rfl) rfl (by kernel_rfl) (by kernel_rfl) (by kernel_rfl) (fun _ _ _ h => h) (Or.inl ⟨by rfl, ?_⟩) (by assumption) ?_
  rotate_left
  · intro W hSw
    obtain ⟨i0, i1, i2, i3, i4, i5, -, -⟩ := hSw
    go_simp
    try with_reducible rfl
  simp only [List.setIfInBounds_toArray, List.set_cons_succ, List.set_cons_zero]
  refine take_at 20 58 (v := ?_) (by simp only [List.getElem?_toArray, List.getElem?_cons_succ, List.getElem?_cons_zero]; rfl) rfl (by kernel_rfl) (by kernel_rfl) (by kernel_rfl) (fun _ _ _ h => h) (Or.inl ⟨by rfl, ?_⟩) (by assumption) ?_
  rotate_left
  · intro W hSw
    obtain ⟨i0, i1, i2, i3, i4, i5, -, -⟩ := hSw
    go_simp
    try with_reducible rfl
  simp only [List.setIfInBounds_toArray, List.set_cons_succ, List.set_cons_zero]
  refine wpAnyH_ready (rs := [21]) (by kernel_rfl) (by simp) ?_
  refine AllReadyH.cons rfl (fun K hK => ?_) AllReadyH.nil
  go_simp
  go_wp2_with (first | (go_at_call 128; refine (ha _).mono ?_; rintro e w1 ⟨rfl, hb⟩))
  refine hK.out _ _ (keep6 hHeld hb) (fun hHeld2 => ?_)
  clear hK K hHeld
  refine take_at 22 60 (v := ?_) (by simp only [List.getElem?_toArray, List.getElem?_cons_succ, List.getElem?_cons_zero]; rfl) rfl (by kernel_rfl) (by kernel_rfl) (by kernel_rfl) (fun _ _ _ h => h) (Or.inl ⟨by rfl, ?_⟩) (by assumption) ?_
  rotate_left
  · intro W hSw
    obtain ⟨i0, i1, i2, i3, i4, i5, -, -⟩ := hSw
    go_simp
    try with_reducible rfl
  simp only [List.setIfInBounds_toArray, List.set_cons_succ, List.set_cons_zero]
  refine take_at 23 61 (v := ?_) (by simp only [List.getElem?_toArray, List.getElem?_cons_succ, List.getElem?_cons_zero]; rfl) rfl (by kernel_rfl) (by kernel_rfl) (by kernel_rfl) (fun _ _ _ h => h) (Or.inl ⟨by rfl, ?_⟩) (by assumption) ?_
  rotate_left
  · intro W hSw
    obtain ⟨i0, i1, i2, i3, i4, i5, -, -⟩ := hSw
    go_simp
    try with_reducible rfl
  simp only [List.setIfInBounds_toArray, List.set_cons_succ, List.set_cons_zero]
  refine take_at 24 62 (v := ?_) (by simp only [List.getElem?_toArray, List.getElem?_cons_succ, List.getElem?_cons_zero]; rfl) rfl (by kernel_rfl) (by kernel_rfl) (by kernel_rfl) (fun _ _ _ h => h) (Or.inl ⟨by rfl, ?_⟩) (by assumption) ?_
  rotate_left
  · intro W hSw
    obtain ⟨i0, i1, i2, i3, i4, i5, -, -⟩ := hSw
    go_simp
    try with_reducible rfl
  simp only [List.setIfInBounds_toArray, List.set_cons_succ, List.set_cons_zero]
  refine take_at 25 63 (v := undef) (by simp only [List.getElem?_toArray, List.getElem?_cons_succ, List.getElem?_cons_zero]; rfl) rfl (by kernel_rfl) (by kernel_rfl) (by kernel_rfl) (fun _ _ _ h => h) (Or.inr ⟨by rfl, rfl⟩) (by assumption) ?_
  simp only [List.setIfInBounds_toArray, List.set_cons_succ, List.set_cons_zero]
  refine take_at 26 64 (v := undef) (by simp only [List.getElem?_toArray, List.getElem?_cons_succ, List.getElem?_cons_zero]; rfl) rfl (by kernel_rfl) (by kernel_rfl) (by kernel_rfl) (fun _ _ _ h => h) (Or.inr ⟨by rfl, rfl⟩) (by assumption) ?_
  simp only [List.setIfInBounds_toArray, List.set_cons_succ, List.set_cons_zero]
  refine take_at 27 65 (v := undef) (by simp only [List.getElem?_toArray, List.getElem?_cons_succ, List.getElem?_cons_zero]; rfl) rfl (by kernel_rfl) (by kernel_rfl) (by kernel_rfl) (fun _ _ _ h => h) (Or.inr ⟨by rfl, rfl⟩) (by assumption) ?_
  simp only [List.setIfInBounds_toArray, List.set_cons_succ, List.set_cons_zero]
  refine take_at 28 66 (v := ?_) (by simp only [List.getElem?_toArray, List.getElem?_cons_succ, List.getElem?_cons_zero]; rfl) rfl (by kernel_rfl) (by kernel_rfl) (by kernel_rfl) (fun _ _ _ h => h) (Or.inl ⟨by rfl, ?_⟩) (by assumption) ?_
  rotate_left
  · intro W hSw
    obtain ⟨i0, i1, i2, i3, i4, i5, -, -⟩ := hSw
    go_simp
    try with_reducible rfl
  simp only [List.setIfInBounds_toArray, List.set_cons_succ, List.set_cons_zero]
  refine take_at 29 2 (v := ?_) (by simp only [List.getElem?_toArray, List.getElem?_cons_succ, List.getElem?_cons_zero]; rfl) rfl (by kernel_rfl) (by kernel_rfl) (by kernel_rfl) (fun _ _ _ h => h) (Or.inl ⟨by rfl, ?_⟩) (by assumption) ?_
  rotate_left
  · intro W hSw
    obtain ⟨i0, i1, i2, i3, i4, i5, -, -⟩ := hSw
    go_simp
    try with_reducible rfl
  simp only [List.setIfInBounds_toArray, List.set_cons_succ, List.set_cons_zero]
  refine wpAnyH_done (by kernel_rfl) ?_ _
  go_wp2
  go_ret
  exact ⟨rfl, hHeld2.2.2.2.2.2.2.1⟩

set_option maxRecDepth 100000 in
set_option maxHeartbeats 1600000 in
theorem isExpr_e (k : Int) (x : Vl) (nm : List UInt8) (ao : Option Addr) (n ca : Nat) (w : World) (h1 : (k == 1) = false) (h2 : (k == 2) = false) (hv : sameTk x.k x.n ⟨x.s.toArray⟩ 0 0 ⟨#[]⟩ = true) (hn : nm.isEmpty = true) (h0 : 0 < n) (A : Bool)
    (ha : ∀ W, Calls Tryz.prog 128 #[.int .i64 k] W fun e w' => e = .returned (.int .i64 (n : Int)) ∧ Below W.heap.size W w')
    (hc : ∀ W, Below w.heap.size w W → Calls Tryz.prog 129 #[.slice ao n ca, .func (.func 78) #[] #[]] W fun e w' => e = .returned (.bool A) ∧ Below W.heap.size W w') :
    Calls Tryz.prog 78 #[.agg #[.int .i64 k, .int .i64 x.k, .int .i64 x.n, .string ⟨x.s.toArray⟩, .string ⟨nm.toArray⟩, .slice ao n ca]] w fun e w' => e = .returned (.bool A) ∧ Below w.heap.size w w' := by
  have b0 := (Below.refl w.heap.size w).alloc (Nat.le_refl _) (.cells #[.int .i64 k, .int .i64 x.k, .int .i64 x.n, .string ⟨x.s.toArray⟩, .string ⟨nm.toArray⟩, .slice ao n ca] 29)
  have hq := eql24
  have h0' : (0 : Int) < (n : Int) := by omega
  have hd0 : decide ((0 : Int) < (n : Int)) = true := by simpa using h0
  have hd1 : decide (0 < n) = true := by simpa using h0
  have y0 : (w.alloc (.cells #[.int .i64 k, .int .i64 x.k, .int .i64 x.n, .string ⟨x.s.toArray⟩, .string ⟨nm.toArray⟩, .slice ao n ca] 29)).drew.cell? ⟨w.heap.size, 0, none⟩ = some (.int .i64 k) := (Lib.cell_of_heap (heap_alloc_new w (.cells #[.int .i64 k, .int .i64 x.k, .int .i64 x.n, .string ⟨x.s.toArray⟩, .string ⟨nm.toArray⟩, .slice ao n ca] 29)) 0).trans rfl
  have y1 : (w.alloc (.cells #[.int .i64 k, .int .i64 x.k, .int .i64 x.n, .string ⟨x.s.toArray⟩, .string ⟨nm.toArray⟩, .slice ao n ca] 29)).drew.cell? ⟨w.heap.size, 1, none⟩ = some (.int .i64 x.k) := (Lib.cell_of_heap (heap_alloc_new w (.cells #[.int .i64 k, .int .i64 x.k, .int .i64 x.n, .string ⟨x.s.toArray⟩, .string ⟨nm.toArray⟩, .slice ao n ca] 29)) 1).trans rfl
  have y2 : (w.alloc (.cells #[.int .i64 k, .int .i64 x.k, .int .i64 x.n, .string ⟨x.s.toArray⟩, .string ⟨nm.toArray⟩, .slice ao n ca] 29)).drew.cell? ⟨w.heap.size, 2, none⟩ = some (.int .i64 x.n) := (Lib.cell_of_heap (heap_alloc_new w (.cells #[.int .i64 k, .int .i64 x.k, .int .i64 x.n, .string ⟨x.s.toArray⟩, .string ⟨nm.toArray⟩, .slice ao n ca] 29)) 2).trans rfl
  have y3 : (w.alloc (.cells #[.int .i64 k, .int .i64 x.k, .int .i64 x.n, .string ⟨x.s.toArray⟩, .string ⟨nm.toArray⟩, .slice ao n ca] 29)).drew.cell? ⟨w.heap.size, 3, none⟩ = some (.string ⟨x.s.toArray⟩) := (Lib.cell_of_heap (heap_alloc_new w (.cells #[.int .i64 k, .int .i64 x.k, .int .i64 x.n, .string ⟨x.s.toArray⟩, .string ⟨nm.toArray⟩, .slice ao n ca] 29)) 3).trans rfl
  have y4 : (w.alloc (.cells #[.int .i64 k, .int .i64 x.k, .int .i64 x.n, .string ⟨x.s.toArray⟩, .string ⟨nm.toArray⟩, .slice ao n ca] 29)).drew.cell? ⟨w.heap.size, 4, none⟩ = some (.string ⟨nm.toArray⟩) := (Lib.cell_of_heap (heap_alloc_new w (.cells #[.int .i64 k, .int .i64 x.k, .int .i64 x.n, .string ⟨x.s.toArray⟩, .string ⟨nm.toArray⟩, .slice ao n ca] 29)) 4).trans rfl
  have y5 : (w.alloc (.cells #[.int .i64 k, .int .i64 x.k, .int .i64 x.n, .string ⟨x.s.toArray⟩, .string ⟨nm.toArray⟩, .slice ao n ca] 29)).drew.cell? ⟨w.heap.size, 5, none⟩ = some (.slice ao n ca) := (Lib.cell_of_heap (heap_alloc_new w (.cells #[.int .i64 k, .int .i64 x.k, .int .i64 x.n, .string ⟨x.s.toArray⟩, .string ⟨nm.toArray⟩, .slice ao n ca] 29)) 5).trans rfl
  have yl : w.heap.size < (w.alloc (.cells #[.int .i64 k, .int .i64 x.k, .int .i64 x.n, .string ⟨x.s.toArray⟩, .string ⟨nm.toArray⟩, .slice ao n ca] 29)).drew.heap.size := (Array.getElem?_eq_some_iff.1 (heap_alloc_new w (.cells #[.int .i64 k, .int .i64 x.k, .int .i64 x.n, .string ⟨x.s.toArray⟩, .string ⟨nm.toArray⟩, .slice ao n ca] 29))).1
  have yb : Below w.heap.size w (w.alloc (.cells #[.int .i64 k, .int .i64 x.k, .int .i64 x.n, .string ⟨x.s.toArray⟩, .string ⟨nm.toArray⟩, .slice ao n ca] 29)).drew := b0.drew
  go_enter Tryz.func78, Tryz.ntmps78
  go_wp2_with fail
  refine wp_region_held_drew (S := (fun w' => w'.cell? ⟨w.heap.size, 0, none⟩ = some (.int .i64 k) ∧ w'.cell? ⟨w.heap.size, 1, none⟩ = some (.int .i64 x.k) ∧ w'.cell? ⟨w.heap.size, 2, none⟩ = some (.int .i64 x.n) ∧ w'.cell? ⟨w.heap.size, 3, none⟩ = some (.string ⟨x.s.toArray⟩) ∧ w'.cell? ⟨w.heap.size, 4, none⟩ = some (.string ⟨nm.toArray⟩) ∧ w'.cell? ⟨w.heap.size, 5, none⟩ = some (.slice ao n ca) ∧ Below w.heap.size w w' ∧ w.heap.size < w'.heap.size)) (by kernel_rfl) ⟨y0, y1, y2, y3, y4, y5, yb, yl⟩ (fun hHeld => ?_)
  refine take_at 0 38 (v := ?_) (by simp only [List.getElem?_toArray, List.getElem?_cons_zero]; rfl) rfl (by kernel_rfl) (by kernel_rfl) (by kernel_rfl) (fun _ _ _ h => h) (Or.inl ⟨by rfl, ?_⟩) (by assumption) ?_
  rotate_left
  · intro W hSw
    obtain ⟨i0, i1, i2, i3, i4, i5, -, -⟩ := hSw
    go_simp
    try with_reducible rfl
  simp only [List.setIfInBounds_toArray, List.set_cons_succ, List.set_cons_zero]
  refine take_at 1 39 (v := ?_) (by simp only [List.getElem?_toArray, List.getElem?_cons_succ, List.getElem?_cons_zero]; rfl) rfl (by kernel_rfl) (by kernel_rfl) (by kernel_rfl) (fun _ _ _ h => h) (Or.inl ⟨by rfl, ?_⟩) (by assumption) ?_
  rotate_left
  · intro W hSw
    obtain ⟨i0, i1, i2, i3, i4, i5, -, -⟩ := hSw
    go_simp
    try with_reducible rfl
  simp only [List.setIfInBounds_toArray, List.set_cons_succ, List.set_cons_zero]
  refine take_at 2 40 (v := ?_) (by simp only [List.getElem?_toArray, List.getElem?_cons_succ, List.getElem?_cons_zero]; rfl) rfl (by kernel_rfl) (by kernel_rfl) (by kernel_rfl) (fun _ _ _ h => h) (Or.inl ⟨by rfl, ?_⟩) (by assumption) ?_
  rotate_left
  · intro W hSw
    obtain ⟨i0, i1, i2, i3, i4, i5, -, -⟩ := hSw
    go_simp
    try with_reducible rfl
  simp only [List.setIfInBounds_toArray, List.set_cons_succ, List.set_cons_zero]
  refine take_at 3 41 (v := ?_) (by simp only [List.getElem?_toArray, List.getElem?_cons_succ, List.getElem?_cons_zero]; rfl) rfl (by kernel_rfl) (by kernel_rfl) (by kernel_rfl) (fun _ _ _ h => h) (Or.inl ⟨by rfl, ?_⟩) (by assumption) ?_
  rotate_left
  · intro W hSw
    obtain ⟨i0, i1, i2, i3, i4, i5, -, -⟩ := hSw
    go_simp
    try with_reducible rfl
  simp only [List.setIfInBounds_toArray, List.set_cons_succ, List.set_cons_zero]
  refine take_at 4 42 (v := ?_) (by simp only [List.getElem?_toArray, List.getElem?_cons_succ, List.getElem?_cons_zero]; rfl) rfl (by kernel_rfl) (by kernel_rfl) (by kernel_rfl) (fun _ _ _ h => h) (Or.inl ⟨by rfl, ?_⟩) (by assumption) ?_
  rotate_left
  · intro W hSw
    obtain ⟨i0, i1, i2, i3, i4, i5, -, -⟩ := hSw
    go_simp
    try with_reducible rfl
  simp only [List.setIfInBounds_toArray, List.set_cons_succ, List.set_cons_zero]
  refine take_at 5 43 (v := ?_) (by simp only [List.getElem?_toArray, List.getElem?_cons_succ, List.getElem?_cons_zero]; rfl) rfl (by kernel_rfl) (by kernel_rfl) (by kernel_rfl) (fun _ _ _ h => h) (Or.inl ⟨by rfl, ?_⟩) (by assumption) ?_
  rotate_left
  · intro W hSw
    obtain ⟨i0, i1, i2, i3, i4, i5, -, -⟩ := hSw
    go_simp
    try with_reducible rfl
  simp only [List.setIfInBounds_toArray, List.set_cons_succ, List.set_cons_zero]
  refine take_at 6 44 (v := ?_) (by simp only [List.getElem?_toArray, List.getElem?_cons_succ, List.getElem?_cons_zero]; rfl) rfl (by kernel_rfl) (by kernel_rfl) (by kernel_rfl) (fun _ _ _ h => h) (Or.inl ⟨by rfl, ?_⟩) (by assumption) ?_
  rotate_left
  · intro W hSw
    obtain ⟨i0, i1, i2, i3, i4, i5, -, -⟩ := hSw
    go_simp
    try with_reducible rfl
  simp only [List.setIfInBounds_toArray, List.set_cons_succ, List.set_cons_zero]
  refine take_at 7 45 (v := ?_) (by simp only [List.getElem?_toArray, List.getElem?_cons_succ, List.getElem?_cons_zero]; rfl) rfl (by kernel_rfl) (by kernel_rfl) (by kernel_rfl) (fun _ _ _ h => h) (Or.inl ⟨by rfl, ?_⟩) (by assumption) ?_
  rotate_left
  · intro W hSw
    obtain ⟨i0, i1, i2, i3, i4, i5, -, -⟩ := hSw
    go_simp
    try with_reducible rfl
  simp only [List.setIfInBounds_toArray, List.set_cons_succ, List.set_cons_zero]
  refine take_at 8 46 (v := ?_) (by simp only [List.getElem?_toArray, List.getElem?_cons_succ, List.getElem?_cons_zero]; rfl) rfl (by kernel_rfl) (by kernel_rfl) (by kernel_rfl) (fun _ _ _ h => h) (Or.inl ⟨by rfl, ?_⟩) (by assumption) ?_
  rotate_left
  · intro W hSw
    obtain ⟨i0, i1, i2, i3, i4, i5, -, -⟩ := hSw
    go_simp
    try with_reducible rfl
  simp only [List.setIfInBounds_toArray, List.set_cons_succ, List.set_cons_zero]
  refine take_at 9 47 (v := ?_) (by simp only [List.getElem?_toArray, List.getElem?_cons_succ, List.getElem?_cons_zero]; rfl) rfl (by kernel_rfl) (by kernel_rfl) (by kernel_rfl) (fun _ _ _ h => h) (Or.inl ⟨by rfl, ?_⟩) (by assumption) ?_
  rotate_left
  · intro W hSw
    obtain ⟨i0, i1, i2, i3, i4, i5, -, -⟩ := hSw
    go_simp
    try with_reducible rfl
  simp only [List.setIfInBounds_toArray, List.set_cons_succ, List.set_cons_zero]
  refine take_at 10 48 (v := ?_) (by simp only [List.getElem?_toArray, List.getElem?_cons_succ, List.getElem?_cons_zero]; rfl) rfl (by kernel_rfl) (by kernel_rfl) (by kernel_rfl) (fun _ _ _ h => h) (Or.inl ⟨by rfl, ?_⟩) (by assumption) ?_
  rotate_left
  · intro W hSw
    obtain ⟨i0, i1, i2, i3, i4, i5, -, -⟩ := hSw
    go_simp
    try with_reducible rfl
  simp only [List.setIfInBounds_toArray, List.set_cons_succ, List.set_cons_zero]
  refine take_at 11 49 (v := ?_) (by simp only [List.getElem?_toArray, List.getElem?_cons_succ, List.getElem?_cons_zero]; rfl) rfl (by kernel_rfl) (by kernel_rfl) (by kernel_rfl) (fun _ _ _ h => h) (Or.inl ⟨by rfl, ?_⟩) (by assumption) ?_
  rotate_left
  · intro W hSw
    obtain ⟨i0, i1, i2, i3, i4, i5, -, -⟩ := hSw
    go_simp
    try with_reducible rfl
  simp only [List.setIfInBounds_toArray, List.set_cons_succ, List.set_cons_zero]
  refine take_at 12 50 (v := ?_) (by simp only [List.getElem?_toArray, List.getElem?_cons_succ, List.getElem?_cons_zero]; rfl) rfl (by kernel_rfl) (by kernel_rfl) (by kernel_rfl) (fun _ _ _ h => h) (Or.inl ⟨by rfl, ?_⟩) (by assumption) ?_
  rotate_left
  · intro W hSw
    obtain ⟨i0, i1, i2, i3, i4, i5, -, -⟩ := hSw
    go_simp
    try with_reducible rfl
  simp only [List.setIfInBounds_toArray, List.set_cons_succ, List.set_cons_zero]
  refine take_at 13 51 (v := ?_) (by simp only [List.getElem?_toArray, List.getElem?_cons_succ, List.getElem?_cons_zero]; rfl) rfl (by kernel_rfl) (by kernel_rfl) (by kernel_rfl) (fun _ _ _ h => h) (Or.inl ⟨by rfl, ?_⟩) (by assumption) ?_
  rotate_left
  · intro W hSw
    obtain ⟨i0, i1, i2, i3, i4, i5, -, -⟩ := hSw
    go_simp
    try with_reducible rfl
  simp only [List.setIfInBounds_toArray, List.set_cons_succ, List.set_cons_zero]
  refine take_at 14 52 (v := ?_) (by simp only [List.getElem?_toArray, List.getElem?_cons_succ, List.getElem?_cons_zero]; rfl) rfl (by kernel_rfl) (by kernel_rfl) (by kernel_rfl) (fun _ _ _ h => h) (Or.inl ⟨by rfl, ?_⟩) (by assumption) ?_
  rotate_left
  · intro W hSw
    obtain ⟨i0, i1, i2, i3, i4, i5, -, -⟩ := hSw
    go_simp
    try with_reducible rfl
  simp only [List.setIfInBounds_toArray, List.set_cons_succ, List.set_cons_zero]
  refine take_at 15 53 (v := ?_) (by simp only [List.getElem?_toArray, List.getElem?_cons_succ, List.getElem?_cons_zero]; rfl) rfl (by kernel_rfl) (by kernel_rfl) (by kernel_rfl) (fun _ _ _ h => h) (Or.inl ⟨by rfl, ?_⟩) (by assumption) ?_
  rotate_left
  · intro W hSw
    obtain ⟨i0, i1, i2, i3, i4, i5, -, -⟩ := hSw
    go_simp
    try with_reducible rfl
  simp only [List.setIfInBounds_toArray, List.set_cons_succ, List.set_cons_zero]
  refine take_at 16 54 (v := ?_) (by simp only [List.getElem?_toArray, List.getElem?_cons_succ, List.getElem?_cons_zero]; rfl) rfl (by kernel_rfl) (by kernel_rfl) (by kernel_rfl) (fun _ _ _ h => h) (Or.inl ⟨by rfl, ?_⟩) (by assumption) ?_
  rotate_left
  · intro W hSw
    obtain ⟨i0, i1, i2, i3, i4, i5, -, -⟩ := hSw
    go_simp
    try with_reducible rfl
  simp only [List.setIfInBounds_toArray, List.set_cons_succ, List.set_cons_zero]
  refine take_at 17 55 (v := ?_) (by simp only [List.getElem?_toArray, List.getElem?_cons_succ, List.getElem?_cons_zero]; rfl) rfl (by kernel_rfl) (by kernel_rfl) (by kernel_rfl) (fun _ _ _ h => h) (Or.inl ⟨by rfl, ?_⟩) (by assumption) ?_
  rotate_left
  · intro W hSw
    obtain ⟨i0, i1, i2, i3, i4, i5, -, -⟩ := hSw
    go_simp
    try with_reducible rfl
  simp only [List.setIfInBounds_toArray, List.set_cons_succ, List.set_cons_zero]
  refine take_at 18 56 (v := ?_) (by simp only [List.getElem?_toArray, List.getElem?_cons_succ, List.getElem?_cons_zero]; rfl) rfl (by kernel_rfl) (by kernel_rfl) (by kernel_rfl) (fun _ _ _ h => h) (Or.inl ⟨by rfl, ?_⟩) (by assumption) ?_
  rotate_left
  · intro W hSw
    obtain ⟨i0, i1, i2, i3, i4, i5, -, -⟩ := hSw
    go_simp
    try with_reducible rfl
  simp only [List.setIfInBounds_toArray, List.set_cons_succ, List.set_cons_zero]
  refine take_at 19 57 (v := ?_) (by simp only [List.getElem?_toArray, List.getElem?_cons_succ, List.getElem?_cons_zero]; rfl) rfl (by kernel_rfl) (by kernel_rfl) (by kernel_rfl) (fun _ _ _ h => h) (Or.inl ⟨by rfl, ?_⟩) (by assumption) ?_
  rotate_left
  · intro W hSw
    obtain ⟨i0, i1, i2, i3, i4, i5, -, -⟩ := hSw
    go_simp
    try with_reducible rfl
  simp only [List.setIfInBounds_toArray, List.set_cons_succ, List.set_cons_zero]
  refine take_at 20 58 (v := ?_) (by simp only [List.getElem?_toArray, List.getElem?_cons_succ, List.getElem?_cons_zero]; rfl) rfl (by kernel_rfl) (by kernel_rfl) (by kernel_rfl) (fun _ _ _ h => h) (Or.inl ⟨by rfl, ?_⟩) (by assumption) ?_
  rotate_left
  · intro W hSw
    obtain ⟨i0, i1, i2, i3, i4, i5, -, -⟩ := hSw
    go_simp
    try with_reducible rfl
  simp only [List.setIfInBounds_toArray, List.set_cons_succ, List.set_cons_zero]
  refine wpAnyH_ready (rs := [21]) (by kernel_rfl) (by simp) ?_
  refine AllReadyH.cons rfl (fun K hK => ?_) AllReadyH.nil
  go_simp
  go_wp2_with (first | (go_at_call 128; refine (ha _).mono ?_; rintro e w1 ⟨rfl, hb⟩))
  refine hK.out _ _ (keep6 hHeld hb) (fun hHeld2 => ?_)
  clear hK K hHeld hb
  refine take_at 22 60 (v := ?_) (by simp only [List.getElem?_toArray, List.getElem?_cons_succ, List.getElem?_cons_zero]; rfl) rfl (by kernel_rfl) (by kernel_rfl) (by kernel_rfl) (fun _ _ _ h => h) (Or.inl ⟨by rfl, ?_⟩) (by assumption) ?_
  rotate_left
  · intro W hSw
    obtain ⟨i0, i1, i2, i3, i4, i5, -, -⟩ := hSw
    go_simp
    try with_reducible rfl
  simp only [List.setIfInBounds_toArray, List.set_cons_succ, List.set_cons_zero]
  refine take_at 23 61 (v := ?_) (by simp only [List.getElem?_toArray, List.getElem?_cons_succ, List.getElem?_cons_zero]; rfl) rfl (by kernel_rfl) (by kernel_rfl) (by kernel_rfl) (fun _ _ _ h => h) (Or.inl ⟨by rfl, ?_⟩) (by assumption) ?_
  rotate_left
  · intro W hSw
    obtain ⟨i0, i1, i2, i3, i4, i5, -, -⟩ := hSw
    go_simp
    try with_reducible rfl
  simp only [List.setIfInBounds_toArray, List.set_cons_succ, List.set_cons_zero]
  refine take_at 24 62 (v := ?_) (by simp only [List.getElem?_toArray, List.getElem?_cons_succ, List.getElem?_cons_zero]; rfl) rfl (by kernel_rfl) (by kernel_rfl) (by kernel_rfl) (fun _ _ _ h => h) (Or.inl ⟨by rfl, ?_⟩) (by assumption) ?_
  rotate_left
  · intro W hSw
    obtain ⟨i0, i1, i2, i3, i4, i5, -, -⟩ := hSw
    go_simp
    try with_reducible rfl
  simp only [List.setIfInBounds_toArray, List.set_cons_succ, List.set_cons_zero]
  refine take_at 25 63 (v := ?_) (by simp only [List.getElem?_toArray, List.getElem?_cons_succ, List.getElem?_cons_zero]; rfl) rfl (by kernel_rfl) (by kernel_rfl) (by kernel_rfl) (fun _ _ _ h => h) (Or.inl ⟨by rfl, ?_⟩) (by assumption) ?_
  rotate_left
  · intro W hSw
    obtain ⟨i0, i1, i2, i3, i4, i5, -, -⟩ := hSw
    go_simp
    try with_reducible rfl
  simp only [List.setIfInBounds_toArray, List.set_cons_succ, List.set_cons_zero]
  refine take_at 26 64 (v := ?_) (by simp only [List.getElem?_toArray, List.getElem?_cons_succ, List.getElem?_cons_zero]; rfl) rfl (by kernel_rfl) (by kernel_rfl) (by kernel_rfl) (fun _ _ _ h => h) (Or.inl ⟨by rfl, ?_⟩) (by assumption) ?_
  rotate_left
  · intro W hSw
    obtain ⟨i0, i1, i2, i3, i4, i5, -, -⟩ := hSw
    go_simp
    try with_reducible rfl
  simp only [List.setIfInBounds_toArray, List.set_cons_succ, List.set_cons_zero]
  refine wpAnyH_ready (rs := [27]) (by kernel_rfl) (by simp) ?_
  refine AllReadyH.cons rfl (fun K hK => ?_) AllReadyH.nil
  go_simp
  go_wp2_with (first | (go_at_call 129; refine (hc _ hHeld2.2.2.2.2.2.2.1).mono ?_; rintro e w2 ⟨rfl, hb⟩))
  refine hK.out _ _ (keep6 hHeld2 hb) (fun hHeld3 => ?_)
  clear hK K hHeld2 hb
  refine take_at 28 66 (v := ?_) (by simp only [List.getElem?_toArray, List.getElem?_cons_succ, List.getElem?_cons_zero]; rfl) rfl (by kernel_rfl) (by kernel_rfl) (by kernel_rfl) (fun _ _ _ h => h) (Or.inl ⟨by rfl, ?_⟩) (by assumption) ?_
  rotate_left
  · intro W hSw
    obtain ⟨i0, i1, i2, i3, i4, i5, -, -⟩ := hSw
    go_simp
    try with_reducible rfl
  simp only [List.setIfInBounds_toArray, List.set_cons_succ, List.set_cons_zero]
  refine take_at 29 2 (v := ?_) (by simp only [List.getElem?_toArray, List.getElem?_cons_succ, List.getElem?_cons_zero]; rfl) rfl (by kernel_rfl) (by kernel_rfl) (by kernel_rfl) (fun _ _ _ h => h) (Or.inl ⟨by rfl, ?_⟩) (by assumption) ?_
  rotate_left
  · intro W hSw
    obtain ⟨i0, i1, i2, i3, i4, i5, -, -⟩ := hSw
    go_simp
    try with_reducible rfl
  simp only [List.setIfInBounds_toArray, List.set_cons_succ, List.set_cons_zero]
  refine wpAnyH_done (by kernel_rfl) ?_ _
  go_wp2
  go_ret
  exact ⟨rfl, hHeld3.2.2.2.2.2.2.1⟩

end Go.Proofs.YtkpeklealgicpabGreatDoor

namespace Go.Proofs.YtkpeklealgicpabGreatDoor
open Go.RowKit

mutual
/-- an expression of its kind alone -/
def rightE : Ex → Bool
  | .mk k v nm args =>
    if k = 1 then valB v && decide (nm = []) && decide (args.length = 0)
    else if k = 2 then noneV v && nameW nm && decide (args.length = 0)
    else noneV v && decide (nm = []) && decide (0 < args.length) && decide (args.length = argsN k) && rightL args
def rightL : List Ex → Bool
  | [] => true
  | x :: xs => rightE x && rightL xs
end

theorem rightL_all : ∀ l : List Ex, rightL l = l.all rightE := by
  intro l
  induction l with
  | nil => rw [rightL]; rfl
  | cons x xs ih => rw [rightL, ih]; rfl

/-- what a machine's reach lets an expression hold -/
inductive Fit : Ex → Prop where
  | mk (k : Int) (v : Vl) (nm : List UInt8) (args : List Ex) (hv : v.s.length ≤ 140737488355328) (hn : nm.length ≤ 140737488355328) (ha : args.length * 80 ≤ 140737488351232) (h : ∀ y ∈ args, Fit y) : Fit (.mk k v nm args)

theorem isExpr_any {B : Nat} {w0 : World} {u : Value} {x : Ex} (h : ExAt B w0 u x) : Fit x → ∀ W : World, Below w0.heap.size w0 W → Laid W →
    Calls Tryz.prog 78 #[u] W fun e w' => e = .returned (.bool (rightE x)) ∧ Below W.heap.size W w' := by
  induction h with
  | nil k v nm ao cap _ =>
    intro hf W hb hl
    cases hf with
    | mk _ _ _ _ hv hn ha hh =>
    rw [rightE, exV]
    by_cases h1 : k = 1
    · rw [if_pos h1]
      exact isExpr_1 k v nm ao 0 cap W h1 hv
    rw [if_neg h1]
    by_cases h2 : k = 2
    · rw [if_pos h2]
      exact isExpr_2 k v nm ao 0 cap W h2 hn hl
    rw [if_neg h2]
    have := isExpr_o k v nm ao 0 cap W (by simpa using h1) (by simpa using h2) _ _ rfl rfl (.inr (.inr rfl))
    simpa using this
  | args k v nm b off cap xs us hx hB hsz hc h ih =>
    intro hf W hb hl
    cases hf with
    | mk _ _ _ _ hv hn ha hh =>
    have hpos : 0 < xs.length := List.length_pos_iff.2 hx
    rw [rightE, exV]
    by_cases h1 : k = 1
    · rw [if_pos h1]
      exact isExpr_1 k v nm _ xs.length cap W h1 hv
    rw [if_neg h1]
    by_cases h2 : k = 2
    · rw [if_pos h2]
      exact isExpr_2 k v nm _ xs.length cap W h2 hn hl
    rw [if_neg h2]
    have q1 : (k == 1) = false := by simpa using h1
    have q2 : (k == 2) = false := by simpa using h2
    have hs := same0 v
    have hne : nm.isEmpty = decide (nm = []) := by cases nm <;> simp
    cases hN : noneV v
    · rw [hN] at hs
      have := isExpr_o k v nm (some ⟨b, off, none⟩) xs.length cap W q1 q2 false _ hs rfl (.inl rfl)
      simpa using this
    rw [hN] at hs
    by_cases hm : nm = []
    · have hne' : nm.isEmpty = true := by rw [hne]; simp [hm]
      by_cases hr : xs.length = argsN k
      · have hall : ∀ W', Below W.heap.size W W' → Calls Tryz.prog 129 #[.slice (some ⟨b, off, none⟩) xs.length cap, .func (.func 78) #[] #[]] W' fun e w' => e = .returned (.bool (xs.all rightE)) ∧ Below W'.heap.size W' w' := by
          intro W' hW'
          have hb' : Below w0.heap.size w0 W' := hb.trans (hW'.mono hb.size)
          have hform : ∀ i : Nat, ∃ p : Option Addr × Nat × Nat, ∀ y, xs[i]? = some y → us i = exV y.k y.v y.nm (.slice p.1 p.2.1 p.2.2) := by
            intro i
            cases hi : xs[i]? with
            | none => exact ⟨(none, 0, 0), fun y hy => by cases hy⟩
            | some z =>
              obtain ⟨k', v', nm', ao, n, ca, e⟩ := (h i z hi).form
              have hp := ExAt.parts (e ▸ h i z hi)
              refine ⟨(ao, n, ca), fun y hy => ?_⟩
              cases hy
              rw [e, hp.1, hp.2.1, hp.2.2]
          have hf := fun i => Classical.choose_spec (hform i)
          refine all_exp (fun i => (Classical.choose (hform i)).1) (fun i => (Classical.choose (hform i)).2.1) (fun i => (Classical.choose (hform i)).2.2) rightE b off cap xs W' (Nat.lt_of_lt_of_le hsz hb'.size) (by omega) ?_ ?_
          · intro i y hy
            obtain ⟨k', v', nm', a', e, c0, c1, c2, c3, c4, c5⟩ := hc i (List.getElem?_eq_some_iff.1 hy).1
            have e2 := e.symm.trans (hf i y hy)
            simp only [exV, Value.agg.injEq, Array.mk.injEq, List.cons.injEq, and_true] at e2
            obtain ⟨r0, r1, r2, r3, r4, r5⟩ := e2
            have cl : ∀ o, W'.cell? ⟨b, o, none⟩ = w0.cell? ⟨b, o, none⟩ := fun o => hb'.cell (p := ⟨b, o, none⟩) hsz
            rw [Nat.mul_comm i 6]
            exact ⟨(cl _).trans (c0.trans (congrArg some r0)), (cl _).trans (c1.trans (congrArg some r1)), (cl _).trans (c2.trans (congrArg some r2)), (cl _).trans (c3.trans (congrArg some r3)), (cl _).trans (c4.trans (congrArg some r4)), (cl _).trans (c5.trans (congrArg some r5))⟩
          · intro i y hy W2 hW2
            have := ih i y hy (hh y (List.mem_of_getElem? hy)) W2 (hb'.trans (hW2.mono hb'.size)) ((hl.below hW').below hW2)
            rw [hf i y hy] at this
            exact this
        have := isExpr_e k v nm (some ⟨b, off, none⟩) xs.length cap W q1 q2 hs hne' hpos (xs.all rightE) (fun W' => by have := argsOf_any k W'; rw [← hr] at this; exact this) hall
        rw [rightL_all, decide_eq_true hm, decide_eq_true hpos, decide_eq_true hr]
        simpa only [Bool.true_and] using this
      · have := isExpr_n k v nm (some ⟨b, off, none⟩) xs.length cap W q1 q2 hs hne' hpos (argsN k) (by rw [beq_eq_false_iff_ne]; omega) (fun W' => argsOf_any k W')
        simpa [hr] using this
    · have hne' : nm.isEmpty = false := by rw [hne]; simp [hm]
      have := isExpr_o k v nm (some ⟨b, off, none⟩) xs.length cap W q1 q2 true false hs hne' (.inr (.inl rfl))
      simpa [hm] using this

end Go.Proofs.YtkpeklealgicpabGreatDoor

namespace Go.Proofs.YtkpeklealgicpabGreatDoor
open Go.RowKit

theorem flat_get {α : Type} (cf : α → List Value) (sz : Nat) (hsz : ∀ x, (cf x).length = sz) : ∀ (l : List α) (k : Nat) (x : α), l[k]? = some x → ∀ q, q < sz → (l.flatMap cf)[k * sz + q]? = (cf x)[q]? := by
  intro l
  induction l with
  | nil => intro k x h; simp at h
  | cons y r ih =>
    intro k x h q hq
    rw [List.flatMap_cons]
    cases k with
    | zero =>
      simp only [List.getElem?_cons_zero, Option.some.injEq] at h
      subst h
      rw [Nat.zero_mul, Nat.zero_add, List.getElem?_append_left (by rw [hsz]; exact hq)]
    | succ k =>
      have e : (k + 1) * sz + q = (cf y).length + (k * sz + q) := by rw [hsz, Nat.succ_mul]; omega
      rw [e, List.getElem?_append_right (by omega), Nat.add_sub_cancel_left]
      exact ih k x (by simpa using h) q hq

def areCols (l : List Cl) : Bool := decide (0 < l.length) && l.all colB
def areVals (l : List Vl) : Bool := decide (0 < l.length) && l.all valB

set_option maxRecDepth 100000 in
set_option maxHeartbeats 1600000 in
theorem cols_any {B : Nat} {u : Value} (l : List Cl) (w : World) (h : RowAt B w u l.length (l.flatMap clC)) (hn : l.length ≤ 1000000000000000) (hs : ∀ x ∈ l, x.name.length ≤ 140737488355328) (hl : Laid w) :
    Calls Tryz.prog 73 #[u] w fun e w' => e = .returned (.bool (areCols l)) ∧ Below w.heap.size w w' := by
  unfold areCols
  rcases h with ⟨h0, ao, cap, rfl⟩ | ⟨b, off, cap, rfl, hB, hlt, hc⟩
  · rw [h0]
    go_enter Tryz.func73, Tryz.ntmps73
    go_wp2
    go_ret
    exact ⟨rfl, Below.refl _ _⟩
  · have ha := all_col b off cap l w hlt hn (fun k x hx => ?_) (fun k x hx W hW => isColumn_any x W (hs x (List.mem_of_getElem? hx)) (hl.below hW))
    rotate_left
    · have g := flat_get clC 2 (fun _ => rfl) l k x hx
      exact ⟨hc _ _ (g 0 (by decide)), hc _ _ (g 1 (by decide))⟩
    by_cases hp : 0 < l.length
    · have hp' : (0 : Int) < (l.length : Int) := by omega
      rw [decide_eq_true hp, Bool.true_and]
      generalize l.all colB = A at ha ⊢
      generalize l.length = n at ha hp hp' ⊢
      go_enter Tryz.func73, Tryz.ntmps73
      go_wp2_with (go_at_call 121; refine ha.mono ?_; rintro e w1 ⟨rfl, b1⟩)
      go_ret
      exact ⟨rfl, b1⟩
    · have h0 : l.length = 0 := by omega
      rw [h0]
      clear ha
      go_enter Tryz.func73, Tryz.ntmps73
      go_wp2
      go_ret
      exact ⟨rfl, Below.refl _ _⟩

set_option maxRecDepth 100000 in
set_option maxHeartbeats 1600000 in
theorem vals_any {B : Nat} {u : Value} (l : List Vl) (w : World) (h : RowAt B w u l.length (l.flatMap vlC)) (hn : l.length ≤ 1000000000000000) (hs : ∀ x ∈ l, x.s.length ≤ 140737488355328) :
    Calls Tryz.prog 76 #[u] w fun e w' => e = .returned (.bool (areVals l)) ∧ Below w.heap.size w w' := by
  unfold areVals
  rcases h with ⟨h0, ao, cap, rfl⟩ | ⟨b, off, cap, rfl, hB, hlt, hc⟩
  · rw [h0]
    go_enter Tryz.func76, Tryz.ntmps76
    go_wp2
    go_ret
    exact ⟨rfl, Below.refl _ _⟩
  · have ha := all_val b off cap l w hlt hn (fun k x hx => ?_) (fun k x hx W hW => isValue_any x W (hs x (List.mem_of_getElem? hx)))
    rotate_left
    · have g := flat_get vlC 3 (fun _ => rfl) l k x hx
      exact ⟨hc _ _ (g 0 (by decide)), hc _ _ (g 1 (by decide)), hc _ _ (g 2 (by decide))⟩
    by_cases hp : 0 < l.length
    · have hp' : (0 : Int) < (l.length : Int) := by omega
      rw [decide_eq_true hp, Bool.true_and]
      generalize l.all valB = A at ha ⊢
      generalize l.length = n at ha hp hp' ⊢
      go_enter Tryz.func76, Tryz.ntmps76
      go_wp2_with (go_at_call 125; refine ha.mono ?_; rintro e w1 ⟨rfl, b1⟩)
      go_ret
      exact ⟨rfl, b1⟩
    · have h0 : l.length = 0 := by omega
      rw [h0]
      clear ha
      go_enter Tryz.func76, Tryz.ntmps76
      go_wp2
      go_ret
      exact ⟨rfl, Below.refl _ _⟩

def maskN (k : Int) : Nat := if k = 1 then 9 else if k = 2 ∨ k = 9 then 1 else if k = 3 then 53 else if k = 4 then 5 else if k = 5 ∨ k = 8 then 7 else if k = 6 then 21 else if k = 7 then 3 else if k = 10 then 65 else if k = 11 then 513 else if k = 12 then 773 else if k = 13 then 3713 else 0
def kindB (k : Int) : Bool := decide (1 ≤ k ∧ k ≤ 16)

set_option maxRecDepth 100000 in
set_option maxHeartbeats 1600000 in
theorem namedBy_in (w : World) : ∀ k : Nat, 1 ≤ k → k ≤ 16 → Calls Tryz.prog 70 #[.int .i64 (k : Int)] w fun e w' => e = .returned (.tuple #[.int .i64 (maskN k : Nat), .bool true]) ∧ w' = w := by
  intro k h1 h2
  obtain rfl | rfl | rfl | rfl | rfl | rfl | rfl | rfl | rfl | rfl | rfl | rfl | rfl | rfl | rfl | rfl : k = 1 ∨ k = 2 ∨ k = 3 ∨ k = 4 ∨ k = 5 ∨ k = 6 ∨ k = 7 ∨ k = 8 ∨ k = 9 ∨ k = 10 ∨ k = 11 ∨ k = 12 ∨ k = 13 ∨ k = 14 ∨ k = 15 ∨ k = 16 := by omega
  all_goals
    go_enter Tryz.func70, Tryz.ntmps70
    go_wp2
    go_ret2
    exact ⟨rfl, rfl⟩

end Go.Proofs.YtkpeklealgicpabGreatDoor

namespace Go.Proofs.YtkpeklealgicpabGreatDoor
open Go.RowKit

theorem ExAt.len {B : Nat} {w : World} {u : Value} {x : Ex} (h : ExAt B w u x) : ∃ ao ca, u = exV x.k x.v x.nm (.slice ao x.args.length ca) := by
  cases h with
  | nil k v nm ao cap _ => exact ⟨_, _, rfl⟩
  | args k v nm b off cap xs us => exact ⟨_, _, rfl⟩

def whereB (all : Bool) (x : Ex) : Bool := if all = true then noneE x else rightE x

set_option maxRecDepth 100000 in
set_option maxHeartbeats 800000 in
theorem isWhere_any {B : Nat} {w : World} {u : Value} {x : Ex} (all : Bool) (h : ExAt B w u x) (hf : Fit x) (hl : Laid w) :
    Calls Tryz.prog 80 #[.bool all, u] w fun e w' => e = .returned (.bool (whereB all x)) ∧ Below w.heap.size w w' := by
  obtain ⟨ao, ca, rfl⟩ := h.len
  have hx := isExpr_any h hf
  rw [exV] at hx ⊢
  have b0 := (Below.refl w.heap.size w).alloc (Nat.le_refl _) (.cells #[.int .i64 x.k, .int .i64 x.v.k, .int .i64 x.v.n, .string ⟨x.v.s.toArray⟩, .string ⟨x.nm.toArray⟩, .slice ao x.args.length ca] 29)
  have h1 := hx _ b0 (hl.below b0)
  have h2 := isNone_any x ao ca (w.alloc (.cells #[.int .i64 x.k, .int .i64 x.v.k, .int .i64 x.v.n, .string ⟨x.v.s.toArray⟩, .string ⟨x.nm.toArray⟩, .slice ao x.args.length ca] 29))
  clear hx h hf
  unfold whereB
  cases all
  · simp only [Bool.false_eq_true, if_false]
    generalize rightE x = R at h1 ⊢
    go_enter Tryz.func80, Tryz.ntmps80
    go_wp2_with (go_at_call 78; refine h1.mono ?_; rintro e w1 ⟨rfl, b1⟩)
    go_ret
    exact ⟨rfl, b0.trans (b1.mono (by simp))⟩
  · simp only [if_true]
    generalize noneE x = R at h2 ⊢
    go_enter Tryz.func80, Tryz.ntmps80
    go_wp2_with (go_at_call 79; refine h2.mono ?_; rintro e w1 ⟨rfl, b1⟩)
    go_ret
    exact ⟨rfl, b0.trans (b1.mono (by simp))⟩

set_option maxRecDepth 100000 in
set_option maxHeartbeats 800000 in
theorem namedBy_out (w : World) (k : Int) (h : ¬ (1 ≤ k ∧ k ≤ 16)) : Calls Tryz.prog 70 #[.int .i64 k] w fun e w' => e = .returned (.tuple #[.int .i64 0, .bool false]) ∧ w' = w := by
  have q : ∀ j : Int, 1 ≤ j → j ≤ 16 → (k == j) = false := fun j h1 h2 => by rw [beq_eq_false_iff_ne]; omega
  have a1 := q 1 (by decide) (by decide)
  have a2 := q 2 (by decide) (by decide)
  have a3 := q 3 (by decide) (by decide)
  have a4 := q 4 (by decide) (by decide)
  have a5 := q 5 (by decide) (by decide)
  have a6 := q 6 (by decide) (by decide)
  have a7 := q 7 (by decide) (by decide)
  have a8 := q 8 (by decide) (by decide)
  have a9 := q 9 (by decide) (by decide)
  have a10 := q 10 (by decide) (by decide)
  have a11 := q 11 (by decide) (by decide)
  have a12 := q 12 (by decide) (by decide)
  have a13 := q 13 (by decide) (by decide)
  have a14 := q 14 (by decide) (by decide)
  have a15 := q 15 (by decide) (by decide)
  have a16 := q 16 (by decide) (by decide)
  clear q h
  go_enter Tryz.func70, Tryz.ntmps70
  go_wp2
  go_ret2
  exact ⟨rfl, rfl⟩

/-- does a kind's list hold this bit? -/
def hasB (m o : Int) : Bool := bits BinOp.and IntKind.i64 m o != 0

set_option maxRecDepth 100000 in
set_option maxHeartbeats 800000 in
theorem is_any (m o : Int) (r e : Bool) (nb : Nat) (w : World) (hc : w.cell? ⟨nb, 0, none⟩ = some (.int .i64 m)) :
    Calls Tryz.prog 71 #[.int .i64 o, .bool r, .bool e, .pointer (some ⟨nb, 0, none⟩)] w fun e' w' => e' = .returned (.bool (if hasB m o = true then r else e)) ∧ w' = w := by
  have hh : hasB m o = (bits BinOp.and IntKind.i64 m o != 0) := rfl
  cases hq : (bits BinOp.and IntKind.i64 m o != 0)
  · rw [hh, hq]
    simp only [Bool.false_eq_true, if_false]
    clear hh
    go_enter Tryz.func71, Tryz.ntmps71
    go_wp2
    go_ret
    exact ⟨rfl, rfl⟩
  · rw [hh, hq]
    simp only [if_true]
    clear hh
    go_enter Tryz.func71, Tryz.ntmps71
    go_wp2
    go_ret
    exact ⟨rfl, rfl⟩

end Go.Proofs.YtkpeklealgicpabGreatDoor

namespace Go.Proofs.YtkpeklealgicpabGreatDoor
open Go.RowKit

mutual
/-- how many parts -/
def sizeE : Ex → Nat
  | .mk _ _ _ args => sizeL args + 1
def sizeL : List Ex → Nat
  | [] => 0
  | x :: xs => sizeE x + sizeL xs
end

theorem sizeL_append (a b : List Ex) : sizeL (a ++ b) = sizeL a + sizeL b := by
  induction a with
  | nil => rw [List.nil_append, sizeL, Nat.zero_add]
  | cons x r ih => rw [List.cons_append, sizeL, sizeL, ih]; omega
theorem sizeE_pos (x : Ex) : 1 ≤ sizeE x := by
  cases x; rw [sizeE]; omega
theorem sizeL_len (l : List Ex) : l.length ≤ sizeL l := by
  induction l with
  | nil => rw [sizeL]; exact Nat.le_refl _
  | cons x r ih => rw [sizeL, List.length_cons]; have := sizeE_pos x; omega
theorem sizeE_args (x : Ex) : sizeE x = sizeL x.args + 1 := by cases x; rw [sizeE]; rfl

/-- an expression with the slice of its Args, as six cells -/
def exC (p : Ex × Value) : List Value := [.int .i64 p.1.k, .int .i64 p.1.v.k, .int .i64 p.1.v.n, .string ⟨p.1.v.s.toArray⟩, .string ⟨p.1.nm.toArray⟩, p.2]

theorem flatC_len (l : List (Ex × Value)) : (l.flatMap exC).length = l.length * 6 := by
  induction l with
  | nil => rfl
  | cons x r ih => rw [List.flatMap_cons, List.length_append, ih, List.length_cons]; simp only [exC, List.length_cons, List.length_nil]; omega

/-- what an expression's Args are in memory, as a list of pairs -/
theorem ExAt.pairs {B : Nat} {w : World} {x : Ex} {a : Value} (h : ExAt B w (exV x.k x.v x.nm a) x) :
    ∃ (ao : Option Addr) (ca : Nat) (ps : List (Ex × Value)), a = .slice ao x.args.length ca ∧ ps.map (·.1) = x.args ∧ (∀ p ∈ ps, ExAt B w (exV p.1.k p.1.v p.1.nm p.2) p.1) ∧ (x.args = [] → ao = none → ca = 0) ∧
      (x.args ≠ [] → ∃ b off, ao = some ⟨b, off, none⟩ ∧ b < w.heap.size ∧ ∀ j u, (ps.flatMap exC)[j]? = some u → w.cell? ⟨b, off + j, none⟩ = some u) := by
  have go : ∀ u, ExAt B w u x → u = exV x.k x.v x.nm a → ∃ (ao : Option Addr) (ca : Nat) (ps : List (Ex × Value)), a = .slice ao x.args.length ca ∧ ps.map (·.1) = x.args ∧ (∀ p ∈ ps, ExAt B w (exV p.1.k p.1.v p.1.nm p.2) p.1) ∧ (x.args = [] → ao = none → ca = 0) ∧
      (x.args ≠ [] → ∃ b off, ao = some ⟨b, off, none⟩ ∧ b < w.heap.size ∧ ∀ j u, (ps.flatMap exC)[j]? = some u → w.cell? ⟨b, off + j, none⟩ = some u) := by
    intro u hu e
    cases hu with
    | nil k v nm ao cap hz =>
      simp only [exV, Value.agg.injEq, Array.mk.injEq, List.cons.injEq, and_true] at e
      exact ⟨ao, cap, [], e.2.2.2.2.2.symm, rfl, (by intro p hp; cases hp), fun _ => hz, fun hh => absurd rfl hh⟩
    | args k v nm b off cap xs us hx hB hs hc hh =>
      simp only [exV, Value.agg.injEq, Array.mk.injEq, List.cons.injEq, and_true] at e
      have hform : ∀ i : Nat, ∃ s : Value, ∀ y, xs[i]? = some y → us i = exV y.k y.v y.nm s := by
        intro i
        cases hi : xs[i]? with
        | none => exact ⟨undef, fun y hy => by cases hy⟩
        | some z =>
          obtain ⟨k', v', nm', ao, n, ca, e⟩ := (hh i z hi).form
          have hp := ExAt.parts (e ▸ hh i z hi)
          refine ⟨.slice ao n ca, fun y hy => ?_⟩
          cases hy
          rw [e, hp.1, hp.2.1, hp.2.2]
      have hf := fun i => Classical.choose_spec (hform i)
      generalize hS : (fun i => Classical.choose (hform i)) = S at hf
      have hf' : ∀ i y, xs[i]? = some y → us i = exV y.k y.v y.nm (S i) := fun i y hy => by have := hf i y hy; rw [← hS]; exact this
      let ps : List (Ex × Value) := xs.mapIdx fun i y => (y, S i)
      have hget : ∀ i : Nat, ps[i]? = (xs[i]?).map fun y => (y, S i) := fun i => List.getElem?_mapIdx
      refine ⟨some ⟨b, off, none⟩, cap, ps, e.2.2.2.2.2.symm, ?_, ?_, (fun _ hh => by cases hh), fun _ => ⟨b, off, rfl, hs, ?_⟩⟩
      · apply List.ext_getElem?
        intro i
        rw [List.getElem?_map, hget, Option.map_map]
        show Option.map _ xs[i]? = xs[i]?
        cases xs[i]? <;> rfl
      · intro p hp
        obtain ⟨i, hi⟩ := List.mem_iff_getElem?.1 hp
        rw [hget] at hi
        obtain ⟨y, hy, rfl⟩ := Option.map_eq_some_iff.1 hi
        have := hh i y hy
        rw [hf' i y hy] at this
        exact this
      · intro j u hj
        have hjl := (List.getElem?_eq_some_iff.1 hj).1
        rw [flatC_len] at hjl
        have hq : j % 6 < 6 := Nat.mod_lt _ (by decide)
        have hjk : j = (j / 6) * 6 + j % 6 := by omega
        have hk : j / 6 < ps.length := by omega
        have hx' : ps[j / 6]? = some ps[j / 6] := List.getElem?_eq_getElem hk
        have hfg := flat_get exC 6 (fun _ => rfl) ps (j / 6) _ hx' (j % 6) hq
        rw [← hjk] at hfg
        rw [hfg] at hj
        rw [hget] at hx'
        obtain ⟨y, hy, hyp⟩ := Option.map_eq_some_iff.1 hx'
        rw [← hyp] at hj
        obtain ⟨k', v', nm', a', e', c0, c1, c2, c3, c4, c5⟩ := hc (j / 6) (List.getElem?_eq_some_iff.1 hy).1
        have e2 := e'.symm.trans (hf' (j / 6) y hy)
        simp only [exV, Value.agg.injEq, Array.mk.injEq, List.cons.injEq, and_true] at e2
        obtain ⟨r0, r1, r2, r3, r4, r5⟩ := e2
        have hoff : off + j = off + 6 * (j / 6) + j % 6 := by omega
        rw [hoff]
        generalize j % 6 = q at hj hq
        match q, hq, hj with
        | 0, _, hj => exact c0.trans ((congrArg some r0).trans hj)
        | 1, _, hj => exact c1.trans ((congrArg some r1).trans hj)
        | 2, _, hj => exact c2.trans ((congrArg some r2).trans hj)
        | 3, _, hj => exact c3.trans ((congrArg some r3).trans hj)
        | 4, _, hj => exact c4.trans ((congrArg some r4).trans hj)
        | 5, _, hj => exact c5.trans ((congrArg some r5).trans hj)
  exact go _ h rfl

end Go.Proofs.YtkpeklealgicpabGreatDoor

namespace Go.Proofs.YtkpeklealgicpabGreatDoor
open Go.RowKit

theorem Tryz.info_ex : (Tryz.prog.info? 29).map (fun i => (i.zero, i.size, i.bytes)) = some (some (.agg #[.int .i64 0, .int .i64 0, .int .i64 0, .string ⟨#[]⟩, .string ⟨#[]⟩, .slice none 0 0]), 6, 80) := by kernel_rfl

theorem Fit.args {x : Ex} (h : Fit x) : x.args.length * 80 ≤ 140737488351232 ∧ ∀ y ∈ x.args, Fit y := by
  cases h with
  | mk k v nm args hv hn ha hh => exact ⟨ha, hh⟩

set_option maxRecDepth 100000 in
set_option maxHeartbeats 2000000 in
theorem isLong_any {w : World} {u : Value} {x : Ex} (h : ExAt 0 w u x) (hf : Fit x) :
    Calls Tryz.prog 69 #[u] w fun e w' => e = .returned (.bool (decide (15 < sizeE x))) ∧ Below w.heap.size w w' := by
  obtain ⟨i0, hi, hz0, hz1, hz2⟩ := info_parts Tryz.info_ex
  obtain ⟨ao, ca, rfl⟩ := h.len
  have hx0 : ExAt 0 w (exV x.k x.v x.nm (.slice ao x.args.length ca)) x := h
  rw [exV]
  have b0 := (Below.refl w.heap.size w).alloc (Nat.le_refl _) (.cells #[.int .i64 x.k, .int .i64 x.v.k, .int .i64 x.v.n, .string ⟨x.v.s.toArray⟩, .string ⟨x.nm.toArray⟩, .slice ao x.args.length ca] 29)
  have b1 := b0.alloc (by simp) (.cells #[.int .i64 x.k, .int .i64 x.v.k, .int .i64 x.v.n, .string ⟨x.v.s.toArray⟩, .string ⟨x.nm.toArray⟩, .slice ao x.args.length ca] 29)
  have ow := owns_new (w.alloc (.cells #[.int .i64 x.k, .int .i64 x.v.k, .int .i64 x.v.n, .string ⟨x.v.s.toArray⟩, .string ⟨x.nm.toArray⟩, .slice ao x.args.length ca] 29)) w.heap.size 29 6 #[.int .i64 x.k, .int .i64 x.v.k, .int .i64 x.v.n, .string ⟨x.v.s.toArray⟩, .string ⟨x.nm.toArray⟩, .slice ao x.args.length ca] rfl (by simp)
  have hpl : (w.alloc (.cells #[.int .i64 x.k, .int .i64 x.v.k, .int .i64 x.v.n, .string ⟨x.v.s.toArray⟩, .string ⟨x.nm.toArray⟩, .slice ao x.args.length ca] 29)).heap.size = w.heap.size + 1 := by simp
  rw [hpl] at ow
  have HS : Hid (sizeE x = 0 + sizeL (([(x, Value.slice ao x.args.length ca)].drop 0).map (·.1))) := by show _ = _; simp [sizeL]
  go_enter Tryz.func69, Tryz.ntmps69
  go_wp2
  go_loopw [3, 4] (fun v i wr => ∃ (ps : List (Ex × Value)) (k : Nat), i = .int .i64 (k : Int) ∧ wr.ownsRow w.heap.size 29 6 v ps.length (ps.flatMap exC) ∧ Below w.heap.size w wr ∧ k ≤ ps.length ∧ Hid (∀ p ∈ ps, ExAt 0 w (exV p.1.k p.1.v p.1.nm p.2) p.1 ∧ Fit p.1) ∧ ps.length ≤ 2000000000000 ∧
      Hid (sizeE x = k + sizeL ((ps.drop k).map (·.1)))) (fun _ i _ => 16 - (intOf i).toNat)
  case atStart =>
    exact ⟨[(x, .slice ao x.args.length ca)], 0, rfl, ow, b1, by simp, (by intro p hp; simp at hp; subst hp; exact ⟨hx0, hf⟩), by simp, HS⟩
  case round =>
    obtain ⟨ps, k, rfl, hown, hnx, hk, HP, hlen, HE⟩ := hrel
    clear ow HS b0 b1 hpl h
    by_cases hlt : k < ps.length
    · obtain ⟨g, cap', hv, hg1, hg2⟩ := owns_some hown (by omega)
      subst hv
      by_cases h15 : ps.length ≤ 15
      · obtain ⟨⟨y, s⟩, hy⟩ : ∃ p, ps[k]? = some p := ⟨ps[k], List.getElem?_eq_getElem hlt⟩
        obtain ⟨hye, hyf⟩ := HP.out _ (List.mem_of_getElem? hy)
        obtain ⟨ao2, ca2, qs, hs, hmap, hall, hnil, hcells⟩ := ExAt.pairs hye
        have hs : s = .slice ao2 y.args.length ca2 := hs
        have hmap : qs.map (·.1) = y.args := hmap
        have hql : qs.length = y.args.length := by rw [← hmap, List.length_map]
        have hfl := flat_get exC 6 (fun _ => rfl) ps k _ hy 5 (by decide)
        have a5 : wr.cell? ⟨g, k * 6 + 5, none⟩ = some (.slice ao2 y.args.length ca2) := (owned_at hown _ s (hfl.trans rfl)).trans (by rw [hs])
        have hd1 : (k : Int) < (ps.length : Int) := by omega
        have hd2 : (ps.length : Int) ≤ 15 := by omega
        have hfit := hyf.args.1
        have HP2 : Hid (∀ p ∈ ps ++ qs, ExAt 0 w (exV p.1.k p.1.v p.1.nm p.2) p.1 ∧ Fit p.1) := by
          intro p hp
          rcases List.mem_append.1 hp with hp | hp
          · exact HP.out p hp
          · refine ⟨hall p hp, hyf.args.2 p.1 ?_⟩
            rw [← hmap]; exact List.mem_map.2 ⟨p, hp, rfl⟩
        have HE2 : Hid (sizeE x = (k + 1) + sizeL (((ps ++ qs).drop (k + 1)).map (·.1))) := by
          show _ = _
          rw [HE.out, List.drop_eq_getElem_cons hlt, List.map_cons, sizeL]
          have e1 : ps[k] = (y, s) := (List.getElem?_eq_some_iff.1 hy).2
          rw [e1, sizeE_args, List.drop_append_of_le_length (by omega), List.map_append, sizeL_append, hmap]
          dsimp only
          omega
        have hR : ∀ {v' : Value} {w' : World}, w'.ownsRow w.heap.size 29 6 v' (ps.length + y.args.length) (ps.flatMap exC ++ qs.flatMap exC) → w'.ownsRow w.heap.size 29 6 v' (ps ++ qs).length ((ps ++ qs).flatMap exC) := by
          intro v' w' hh
          rw [List.length_append, List.flatMap_append, hql]; exact hh
        have hsz := hnx.size
        have hlt5 := hown.lt
        have hnone : ∀ u ∈ qs.flatMap exC, u.oneCell' = true := by
          intro u hu
          obtain ⟨p, hp, hup⟩ := List.mem_flatMap.1 hu
          have hone := (hall p hp).one
          simp only [exC, List.mem_cons, List.not_mem_nil, or_false] at hup
          rcases hup with rfl | rfl | rfl | rfl | rfl | rfl <;> first | rfl | exact hone
        clear HP HE hye hfl hy
        cases ao2 with
        | none =>
          have hy0 : y.args = [] := by
            rcases Classical.em (y.args = []) with h | h
            · exact h
            · obtain ⟨b, off, hh, -⟩ := hcells h; cases hh
          have hc0 := hnil hy0 rfl
          subst hc0
          have hq0 : qs = [] := by rw [hy0] at hql; exact List.length_eq_zero_iff.1 hql
          rw [hy0] at a5
          simp only [List.length_nil] at a5
          go_wp2_with (at_builtin; refine wpList_append_own_none rfl _ _ 27 rfl w.heap.size 29 i0 6 Tryz.underlying27 hi _ _ _ rfl hown rfl ?_)
          go_roundw
          case rel => exact ⟨ps, k + 1, by go_num, hown, hnx, by omega, (by have := HP2; rw [hq0, List.append_nil] at this; exact this), hlen, (by have := HE2; rw [hq0, List.append_nil] at this; exact this)⟩
          case measure => simp [intOf]; omega
        | some ad =>
          have hnews : ∀ j u, (qs.flatMap exC)[j]? = some u → wr.cell? (ad.add j) = some u := by
            rcases Classical.em (y.args = []) with h | h
            · intro j u hj
              have hq0 : qs = [] := by rw [h] at hql; exact List.length_eq_zero_iff.1 hql
              rw [hq0] at hj; simp at hj
            · obtain ⟨b, off, hh, hb, hc⟩ := hcells h
              intro j u hj
              cases hh
              rw [Addr.add_mid]
              exact (hnx.cell (p := ⟨b, off + j, none⟩) hb).trans (hc j u hj)
          have hnl : (qs.flatMap exC).length = y.args.length * 6 := by rw [flatC_len, hql]
          clear hcells hall hnil
          go_wp2_with (at_builtin; refine wpList_append_own _ rfl _ _ 27 rfl w.heap.size 29 i0 (.agg #[.int .i64 0, .int .i64 0, .int .i64 0, .string ⟨#[]⟩, .string ⟨#[]⟩, .slice none 0 0]) 6 80 Tryz.underlying27 hi hz0 hz1 hz2 rfl (by decide) _ _ _ rfl hown ad y.args.length ca2 (qs.flatMap exC) rfl hnl hnews hnone ?c3 ?c4 ?c5 ?_)
          case c3 => unfold maxLen; omega
          case c4 => omega
          intro v' w3 hown' hgrow _
          have hB3 : Below w.heap.size w w3 := hnx.grown hgrow hsz (fun j hj => (hlt5 j hj).1)
          have R3 := hR hown'
          clear hown' hgrow hown hlt5 hnews
          go_wp2
          go_roundw
          case rel => exact ⟨ps ++ qs, k + 1, by go_num, R3, hB3, by simp; omega, HP2, by simp; omega, HE2⟩
          case measure => simp [intOf]; omega
      · have hd1 : (k : Int) < (ps.length : Int) := by omega
        have HZ : Hid (15 < sizeE x) := by
          show _ < _
          rw [HE.out]
          have := sizeL_len ((ps.drop k).map (·.1))
          rw [List.length_map, List.length_drop] at this
          omega
        have hd2 : decide ((ps.length : Int) ≤ 15) = false := by simp; omega
        have hd3 : decide (ps.length ≤ 15) = false := by simp; omega
        have hd4 : (15 : Int) < (ps.length : Int) := by omega
        clear HE HP
        go_wp2
        go_ret
        exact ⟨ret_bool (by simp [HZ.out]), hnx⟩
    · obtain ⟨ao', cap', hv⟩ := owns_slice hown
      subst hv
      have hkn : k = ps.length := by omega
      have HZ : Hid (sizeE x = ps.length) := by
        show _ = _
        rw [HE.out, hkn, List.drop_length]
        simp [sizeL]
      have hd0 : decide ((k : Int) < (ps.length : Int)) = false := by simp; omega
      clear HE HP
      go_wp2
      go_ret
      exact ⟨ret_bool (by rw [HZ.out, Bool.eq_iff_iff]; simp; omega), hnx⟩

end Go.Proofs.YtkpeklealgicpabGreatDoor

namespace Go.Proofs.YtkpeklealgicpabGreatDoor
open Go.RowKit

def manyC (c : Cm) : Bool := decide (5 < c.cols.length ∨ 5 < c.vals.length ∨ 5 < c.fields.length) || decide (15 < sizeE c.expr) || decide (15 < sizeE c.wh)

set_option maxRecDepth 100000 in
set_option maxHeartbeats 800000 in
theorem hasMany_any {w : World} (c : Cm) (a1 a2 a3 a4 a5 : Option Addr) (c1 c2 c3 c4 c5 : Nat) (he : ExAt 0 w (exV c.expr.k c.expr.v c.expr.nm (.slice a4 c.expr.args.length c4)) c.expr) (hw : ExAt 0 w (exV c.wh.k c.wh.v c.wh.nm (.slice a5 c.wh.args.length c5)) c.wh) (fe : Fit c.expr) (fw : Fit c.wh) :
    Calls Tryz.prog 28 #[.agg (cmL c (.slice a1 c.cols.length c1) (.slice a2 c.vals.length c2) (.slice a3 c.fields.length c3) (.slice a4 c.expr.args.length c4) (.slice a5 c.wh.args.length c5)).toArray] w fun e w' => e = .returned (.bool (manyC c)) ∧ Below w.heap.size w w' := by
  have b0 := (Below.refl w.heap.size w).alloc (Nat.le_refl _) (.cells (cmL c (.slice a1 c.cols.length c1) (.slice a2 c.vals.length c2) (.slice a3 c.fields.length c3) (.slice a4 c.expr.args.length c4) (.slice a5 c.wh.args.length c5)).toArray 31)
  have d4 : (w.alloc (.cells (cmL c (.slice a1 c.cols.length c1) (.slice a2 c.vals.length c2) (.slice a3 c.fields.length c3) (.slice a4 c.expr.args.length c4) (.slice a5 c.wh.args.length c5)).toArray 31)).cell? ⟨w.heap.size, 4, none⟩ = some (.slice a1 c.cols.length c1) := (Lib.cell_of_heap (heap_alloc_new w (.cells (cmL c (.slice a1 c.cols.length c1) (.slice a2 c.vals.length c2) (.slice a3 c.fields.length c3) (.slice a4 c.expr.args.length c4) (.slice a5 c.wh.args.length c5)).toArray 31)) 4).trans rfl
  have d9 : (w.alloc (.cells (cmL c (.slice a1 c.cols.length c1) (.slice a2 c.vals.length c2) (.slice a3 c.fields.length c3) (.slice a4 c.expr.args.length c4) (.slice a5 c.wh.args.length c5)).toArray 31)).cell? ⟨w.heap.size, 9, none⟩ = some (.slice a2 c.vals.length c2) := (Lib.cell_of_heap (heap_alloc_new w (.cells (cmL c (.slice a1 c.cols.length c1) (.slice a2 c.vals.length c2) (.slice a3 c.fields.length c3) (.slice a4 c.expr.args.length c4) (.slice a5 c.wh.args.length c5)).toArray 31)) 9).trans rfl
  have d10 : (w.alloc (.cells (cmL c (.slice a1 c.cols.length c1) (.slice a2 c.vals.length c2) (.slice a3 c.fields.length c3) (.slice a4 c.expr.args.length c4) (.slice a5 c.wh.args.length c5)).toArray 31)).cell? ⟨w.heap.size, 10, none⟩ = some (.slice a3 c.fields.length c3) := (Lib.cell_of_heap (heap_alloc_new w (.cells (cmL c (.slice a1 c.cols.length c1) (.slice a2 c.vals.length c2) (.slice a3 c.fields.length c3) (.slice a4 c.expr.args.length c4) (.slice a5 c.wh.args.length c5)).toArray 31)) 10).trans rfl
  have d11 : (w.alloc (.cells (cmL c (.slice a1 c.cols.length c1) (.slice a2 c.vals.length c2) (.slice a3 c.fields.length c3) (.slice a4 c.expr.args.length c4) (.slice a5 c.wh.args.length c5)).toArray 31)).cell? ⟨w.heap.size, 11, none⟩ = some (.int .i64 c.expr.k) := (Lib.cell_of_heap (heap_alloc_new w (.cells (cmL c (.slice a1 c.cols.length c1) (.slice a2 c.vals.length c2) (.slice a3 c.fields.length c3) (.slice a4 c.expr.args.length c4) (.slice a5 c.wh.args.length c5)).toArray 31)) 11).trans rfl
  have d12 : (w.alloc (.cells (cmL c (.slice a1 c.cols.length c1) (.slice a2 c.vals.length c2) (.slice a3 c.fields.length c3) (.slice a4 c.expr.args.length c4) (.slice a5 c.wh.args.length c5)).toArray 31)).cell? ⟨w.heap.size, 12, none⟩ = some (.int .i64 c.expr.v.k) := (Lib.cell_of_heap (heap_alloc_new w (.cells (cmL c (.slice a1 c.cols.length c1) (.slice a2 c.vals.length c2) (.slice a3 c.fields.length c3) (.slice a4 c.expr.args.length c4) (.slice a5 c.wh.args.length c5)).toArray 31)) 12).trans rfl
  have d13 : (w.alloc (.cells (cmL c (.slice a1 c.cols.length c1) (.slice a2 c.vals.length c2) (.slice a3 c.fields.length c3) (.slice a4 c.expr.args.length c4) (.slice a5 c.wh.args.length c5)).toArray 31)).cell? ⟨w.heap.size, 13, none⟩ = some (.int .i64 c.expr.v.n) := (Lib.cell_of_heap (heap_alloc_new w (.cells (cmL c (.slice a1 c.cols.length c1) (.slice a2 c.vals.length c2) (.slice a3 c.fields.length c3) (.slice a4 c.expr.args.length c4) (.slice a5 c.wh.args.length c5)).toArray 31)) 13).trans rfl
  have d14 : (w.alloc (.cells (cmL c (.slice a1 c.cols.length c1) (.slice a2 c.vals.length c2) (.slice a3 c.fields.length c3) (.slice a4 c.expr.args.length c4) (.slice a5 c.wh.args.length c5)).toArray 31)).cell? ⟨w.heap.size, 14, none⟩ = some (.string ⟨c.expr.v.s.toArray⟩) := (Lib.cell_of_heap (heap_alloc_new w (.cells (cmL c (.slice a1 c.cols.length c1) (.slice a2 c.vals.length c2) (.slice a3 c.fields.length c3) (.slice a4 c.expr.args.length c4) (.slice a5 c.wh.args.length c5)).toArray 31)) 14).trans rfl
  have d15 : (w.alloc (.cells (cmL c (.slice a1 c.cols.length c1) (.slice a2 c.vals.length c2) (.slice a3 c.fields.length c3) (.slice a4 c.expr.args.length c4) (.slice a5 c.wh.args.length c5)).toArray 31)).cell? ⟨w.heap.size, 15, none⟩ = some (.string ⟨c.expr.nm.toArray⟩) := (Lib.cell_of_heap (heap_alloc_new w (.cells (cmL c (.slice a1 c.cols.length c1) (.slice a2 c.vals.length c2) (.slice a3 c.fields.length c3) (.slice a4 c.expr.args.length c4) (.slice a5 c.wh.args.length c5)).toArray 31)) 15).trans rfl
  have d16 : (w.alloc (.cells (cmL c (.slice a1 c.cols.length c1) (.slice a2 c.vals.length c2) (.slice a3 c.fields.length c3) (.slice a4 c.expr.args.length c4) (.slice a5 c.wh.args.length c5)).toArray 31)).cell? ⟨w.heap.size, 16, none⟩ = some (.slice a4 c.expr.args.length c4) := (Lib.cell_of_heap (heap_alloc_new w (.cells (cmL c (.slice a1 c.cols.length c1) (.slice a2 c.vals.length c2) (.slice a3 c.fields.length c3) (.slice a4 c.expr.args.length c4) (.slice a5 c.wh.args.length c5)).toArray 31)) 16).trans rfl
  have d18 : (w.alloc (.cells (cmL c (.slice a1 c.cols.length c1) (.slice a2 c.vals.length c2) (.slice a3 c.fields.length c3) (.slice a4 c.expr.args.length c4) (.slice a5 c.wh.args.length c5)).toArray 31)).cell? ⟨w.heap.size, 18, none⟩ = some (.int .i64 c.wh.k) := (Lib.cell_of_heap (heap_alloc_new w (.cells (cmL c (.slice a1 c.cols.length c1) (.slice a2 c.vals.length c2) (.slice a3 c.fields.length c3) (.slice a4 c.expr.args.length c4) (.slice a5 c.wh.args.length c5)).toArray 31)) 18).trans rfl
  have d19 : (w.alloc (.cells (cmL c (.slice a1 c.cols.length c1) (.slice a2 c.vals.length c2) (.slice a3 c.fields.length c3) (.slice a4 c.expr.args.length c4) (.slice a5 c.wh.args.length c5)).toArray 31)).cell? ⟨w.heap.size, 19, none⟩ = some (.int .i64 c.wh.v.k) := (Lib.cell_of_heap (heap_alloc_new w (.cells (cmL c (.slice a1 c.cols.length c1) (.slice a2 c.vals.length c2) (.slice a3 c.fields.length c3) (.slice a4 c.expr.args.length c4) (.slice a5 c.wh.args.length c5)).toArray 31)) 19).trans rfl
  have d20 : (w.alloc (.cells (cmL c (.slice a1 c.cols.length c1) (.slice a2 c.vals.length c2) (.slice a3 c.fields.length c3) (.slice a4 c.expr.args.length c4) (.slice a5 c.wh.args.length c5)).toArray 31)).cell? ⟨w.heap.size, 20, none⟩ = some (.int .i64 c.wh.v.n) := (Lib.cell_of_heap (heap_alloc_new w (.cells (cmL c (.slice a1 c.cols.length c1) (.slice a2 c.vals.length c2) (.slice a3 c.fields.length c3) (.slice a4 c.expr.args.length c4) (.slice a5 c.wh.args.length c5)).toArray 31)) 20).trans rfl
  have d21 : (w.alloc (.cells (cmL c (.slice a1 c.cols.length c1) (.slice a2 c.vals.length c2) (.slice a3 c.fields.length c3) (.slice a4 c.expr.args.length c4) (.slice a5 c.wh.args.length c5)).toArray 31)).cell? ⟨w.heap.size, 21, none⟩ = some (.string ⟨c.wh.v.s.toArray⟩) := (Lib.cell_of_heap (heap_alloc_new w (.cells (cmL c (.slice a1 c.cols.length c1) (.slice a2 c.vals.length c2) (.slice a3 c.fields.length c3) (.slice a4 c.expr.args.length c4) (.slice a5 c.wh.args.length c5)).toArray 31)) 21).trans rfl
  have d22 : (w.alloc (.cells (cmL c (.slice a1 c.cols.length c1) (.slice a2 c.vals.length c2) (.slice a3 c.fields.length c3) (.slice a4 c.expr.args.length c4) (.slice a5 c.wh.args.length c5)).toArray 31)).cell? ⟨w.heap.size, 22, none⟩ = some (.string ⟨c.wh.nm.toArray⟩) := (Lib.cell_of_heap (heap_alloc_new w (.cells (cmL c (.slice a1 c.cols.length c1) (.slice a2 c.vals.length c2) (.slice a3 c.fields.length c3) (.slice a4 c.expr.args.length c4) (.slice a5 c.wh.args.length c5)).toArray 31)) 22).trans rfl
  have d23 : (w.alloc (.cells (cmL c (.slice a1 c.cols.length c1) (.slice a2 c.vals.length c2) (.slice a3 c.fields.length c3) (.slice a4 c.expr.args.length c4) (.slice a5 c.wh.args.length c5)).toArray 31)).cell? ⟨w.heap.size, 23, none⟩ = some (.slice a5 c.wh.args.length c5) := (Lib.cell_of_heap (heap_alloc_new w (.cells (cmL c (.slice a1 c.cols.length c1) (.slice a2 c.vals.length c2) (.slice a3 c.fields.length c3) (.slice a4 c.expr.args.length c4) (.slice a5 c.wh.args.length c5)).toArray 31)) 23).trans rfl
  have he1 := isLong_any (he.under b0) fe
  have hw1 := fun (W : World) (hW : Below w.heap.size w W) => isLong_any (hw.under hW) fw
  rw [exV] at he1
  simp only [exV] at hw1
  unfold manyC
  generalize decide (15 < sizeE c.expr) = E at he1 ⊢
  generalize decide (15 < sizeE c.wh) = F at hw1 ⊢
  clear he hw fe fw
  by_cases hm : 5 < c.cols.length ∨ 5 < c.vals.length ∨ 5 < c.fields.length
  · have hd : (5 : Int) < max (max (c.cols.length : Int) (c.vals.length : Int)) (c.fields.length : Int) := by omega
    rw [decide_eq_true hm]
    clear hm he1 hw1
    go_enter Tryz.func28, Tryz.ntmps28
    go_wp2_with fail
    all_goals go_ret
    all_goals exact ⟨rfl, b0⟩
  · have hd : ¬ (5 : Int) < max (max (c.cols.length : Int) (c.vals.length : Int)) (c.fields.length : Int) := by omega
    have l1 : ¬ 5 < c.cols.length := by omega
    have l2 : ¬ 5 < c.vals.length := by omega
    have l3 : ¬ 5 < c.fields.length := by omega
    rw [decide_eq_false hm, Bool.false_or]
    clear hm
    cases E
    · rw [Bool.false_or]
      go_enter Tryz.func28, Tryz.ntmps28
      go_wp2_with fail
      all_goals
        refine he1.mono ?_
        rintro e w1 ⟨rfl, b1⟩
        have f18 := (b1.cell (p := ⟨w.heap.size, 18, none⟩) (by simp)).trans d18; have f19 := (b1.cell (p := ⟨w.heap.size, 19, none⟩) (by simp)).trans d19; have f20 := (b1.cell (p := ⟨w.heap.size, 20, none⟩) (by simp)).trans d20; have f21 := (b1.cell (p := ⟨w.heap.size, 21, none⟩) (by simp)).trans d21; have f22 := (b1.cell (p := ⟨w.heap.size, 22, none⟩) (by simp)).trans d22; have f23 := (b1.cell (p := ⟨w.heap.size, 23, none⟩) (by simp)).trans d23
        have q1 : Below w.heap.size w w1 := b0.trans (b1.mono (by simp))
        go_wp2_with fail
        refine (hw1 _ q1).mono ?_
        rintro e w2 ⟨rfl, b2⟩
        go_wp2
        go_ret
        exact ⟨ret_bool (by cases F <;> simp <;> omega), q1.trans (b2.mono q1.size)⟩
    · rw [Bool.true_or]
      clear hw1
      go_enter Tryz.func28, Tryz.ntmps28
      go_wp2_with fail
      all_goals
        refine he1.mono ?_
        rintro e w1 ⟨rfl, b1⟩
        go_wp2
        go_ret
        exact ⟨rfl, b0.trans (b1.mono (by simp))⟩

end Go.Proofs.YtkpeklealgicpabGreatDoor

namespace Go.Proofs.YtkpeklealgicpabGreatDoor
open Go.RowKit

theorem hb_0_1 : hasB ((0 : Nat) : Int) 1 = false := by decide
theorem hb_0_2 : hasB ((0 : Nat) : Int) 2 = false := by decide
theorem hb_0_4 : hasB ((0 : Nat) : Int) 4 = false := by decide
theorem hb_0_8 : hasB ((0 : Nat) : Int) 8 = false := by decide
theorem hb_0_16 : hasB ((0 : Nat) : Int) 16 = false := by decide
theorem hb_0_32 : hasB ((0 : Nat) : Int) 32 = false := by decide
theorem hb_0_64 : hasB ((0 : Nat) : Int) 64 = false := by decide
theorem hb_0_128 : hasB ((0 : Nat) : Int) 128 = false := by decide
theorem hb_0_256 : hasB ((0 : Nat) : Int) 256 = false := by decide
theorem hb_0_512 : hasB ((0 : Nat) : Int) 512 = false := by decide
theorem hb_0_1024 : hasB ((0 : Nat) : Int) 1024 = false := by decide
theorem hb_0_2048 : hasB ((0 : Nat) : Int) 2048 = false := by decide
theorem hb_1_1 : hasB ((1 : Nat) : Int) 1 = true := by decide
theorem hb_1_2 : hasB ((1 : Nat) : Int) 2 = false := by decide
theorem hb_1_4 : hasB ((1 : Nat) : Int) 4 = false := by decide
theorem hb_1_8 : hasB ((1 : Nat) : Int) 8 = false := by decide
theorem hb_1_16 : hasB ((1 : Nat) : Int) 16 = false := by decide
theorem hb_1_32 : hasB ((1 : Nat) : Int) 32 = false := by decide
theorem hb_1_64 : hasB ((1 : Nat) : Int) 64 = false := by decide
theorem hb_1_128 : hasB ((1 : Nat) : Int) 128 = false := by decide
theorem hb_1_256 : hasB ((1 : Nat) : Int) 256 = false := by decide
theorem hb_1_512 : hasB ((1 : Nat) : Int) 512 = false := by decide
theorem hb_1_1024 : hasB ((1 : Nat) : Int) 1024 = false := by decide
theorem hb_1_2048 : hasB ((1 : Nat) : Int) 2048 = false := by decide
theorem hb_3_1 : hasB ((3 : Nat) : Int) 1 = true := by decide
theorem hb_3_2 : hasB ((3 : Nat) : Int) 2 = true := by decide
theorem hb_3_4 : hasB ((3 : Nat) : Int) 4 = false := by decide
theorem hb_3_8 : hasB ((3 : Nat) : Int) 8 = false := by decide
theorem hb_3_16 : hasB ((3 : Nat) : Int) 16 = false := by decide
theorem hb_3_32 : hasB ((3 : Nat) : Int) 32 = false := by decide
theorem hb_3_64 : hasB ((3 : Nat) : Int) 64 = false := by decide
theorem hb_3_128 : hasB ((3 : Nat) : Int) 128 = false := by decide
theorem hb_3_256 : hasB ((3 : Nat) : Int) 256 = false := by decide
theorem hb_3_512 : hasB ((3 : Nat) : Int) 512 = false := by decide
theorem hb_3_1024 : hasB ((3 : Nat) : Int) 1024 = false := by decide
theorem hb_3_2048 : hasB ((3 : Nat) : Int) 2048 = false := by decide
theorem hb_5_1 : hasB ((5 : Nat) : Int) 1 = true := by decide
theorem hb_5_2 : hasB ((5 : Nat) : Int) 2 = false := by decide
theorem hb_5_4 : hasB ((5 : Nat) : Int) 4 = true := by decide
theorem hb_5_8 : hasB ((5 : Nat) : Int) 8 = false := by decide
theorem hb_5_16 : hasB ((5 : Nat) : Int) 16 = false := by decide
theorem hb_5_32 : hasB ((5 : Nat) : Int) 32 = false := by decide
theorem hb_5_64 : hasB ((5 : Nat) : Int) 64 = false := by decide
theorem hb_5_128 : hasB ((5 : Nat) : Int) 128 = false := by decide
theorem hb_5_256 : hasB ((5 : Nat) : Int) 256 = false := by decide
theorem hb_5_512 : hasB ((5 : Nat) : Int) 512 = false := by decide
theorem hb_5_1024 : hasB ((5 : Nat) : Int) 1024 = false := by decide
theorem hb_5_2048 : hasB ((5 : Nat) : Int) 2048 = false := by decide
theorem hb_7_1 : hasB ((7 : Nat) : Int) 1 = true := by decide
theorem hb_7_2 : hasB ((7 : Nat) : Int) 2 = true := by decide
theorem hb_7_4 : hasB ((7 : Nat) : Int) 4 = true := by decide
theorem hb_7_8 : hasB ((7 : Nat) : Int) 8 = false := by decide
theorem hb_7_16 : hasB ((7 : Nat) : Int) 16 = false := by decide
theorem hb_7_32 : hasB ((7 : Nat) : Int) 32 = false := by decide
theorem hb_7_64 : hasB ((7 : Nat) : Int) 64 = false := by decide
theorem hb_7_128 : hasB ((7 : Nat) : Int) 128 = false := by decide
theorem hb_7_256 : hasB ((7 : Nat) : Int) 256 = false := by decide
theorem hb_7_512 : hasB ((7 : Nat) : Int) 512 = false := by decide
theorem hb_7_1024 : hasB ((7 : Nat) : Int) 1024 = false := by decide
theorem hb_7_2048 : hasB ((7 : Nat) : Int) 2048 = false := by decide
theorem hb_9_1 : hasB ((9 : Nat) : Int) 1 = true := by decide
theorem hb_9_2 : hasB ((9 : Nat) : Int) 2 = false := by decide
theorem hb_9_4 : hasB ((9 : Nat) : Int) 4 = false := by decide
theorem hb_9_8 : hasB ((9 : Nat) : Int) 8 = true := by decide
theorem hb_9_16 : hasB ((9 : Nat) : Int) 16 = false := by decide
theorem hb_9_32 : hasB ((9 : Nat) : Int) 32 = false := by decide
theorem hb_9_64 : hasB ((9 : Nat) : Int) 64 = false := by decide
theorem hb_9_128 : hasB ((9 : Nat) : Int) 128 = false := by decide
theorem hb_9_256 : hasB ((9 : Nat) : Int) 256 = false := by decide
theorem hb_9_512 : hasB ((9 : Nat) : Int) 512 = false := by decide
theorem hb_9_1024 : hasB ((9 : Nat) : Int) 1024 = false := by decide
theorem hb_9_2048 : hasB ((9 : Nat) : Int) 2048 = false := by decide
theorem hb_21_1 : hasB ((21 : Nat) : Int) 1 = true := by decide
theorem hb_21_2 : hasB ((21 : Nat) : Int) 2 = false := by decide
theorem hb_21_4 : hasB ((21 : Nat) : Int) 4 = true := by decide
theorem hb_21_8 : hasB ((21 : Nat) : Int) 8 = false := by decide
theorem hb_21_16 : hasB ((21 : Nat) : Int) 16 = true := by decide
theorem hb_21_32 : hasB ((21 : Nat) : Int) 32 = false := by decide
theorem hb_21_64 : hasB ((21 : Nat) : Int) 64 = false := by decide
theorem hb_21_128 : hasB ((21 : Nat) : Int) 128 = false := by decide
theorem hb_21_256 : hasB ((21 : Nat) : Int) 256 = false := by decide
theorem hb_21_512 : hasB ((21 : Nat) : Int) 512 = false := by decide
theorem hb_21_1024 : hasB ((21 : Nat) : Int) 1024 = false := by decide
theorem hb_21_2048 : hasB ((21 : Nat) : Int) 2048 = false := by decide
theorem hb_53_1 : hasB ((53 : Nat) : Int) 1 = true := by decide
theorem hb_53_2 : hasB ((53 : Nat) : Int) 2 = false := by decide
theorem hb_53_4 : hasB ((53 : Nat) : Int) 4 = true := by decide
theorem hb_53_8 : hasB ((53 : Nat) : Int) 8 = false := by decide
theorem hb_53_16 : hasB ((53 : Nat) : Int) 16 = true := by decide
theorem hb_53_32 : hasB ((53 : Nat) : Int) 32 = true := by decide
theorem hb_53_64 : hasB ((53 : Nat) : Int) 64 = false := by decide
theorem hb_53_128 : hasB ((53 : Nat) : Int) 128 = false := by decide
theorem hb_53_256 : hasB ((53 : Nat) : Int) 256 = false := by decide
theorem hb_53_512 : hasB ((53 : Nat) : Int) 512 = false := by decide
theorem hb_53_1024 : hasB ((53 : Nat) : Int) 1024 = false := by decide
theorem hb_53_2048 : hasB ((53 : Nat) : Int) 2048 = false := by decide
theorem hb_65_1 : hasB ((65 : Nat) : Int) 1 = true := by decide
theorem hb_65_2 : hasB ((65 : Nat) : Int) 2 = false := by decide
theorem hb_65_4 : hasB ((65 : Nat) : Int) 4 = false := by decide
theorem hb_65_8 : hasB ((65 : Nat) : Int) 8 = false := by decide
theorem hb_65_16 : hasB ((65 : Nat) : Int) 16 = false := by decide
theorem hb_65_32 : hasB ((65 : Nat) : Int) 32 = false := by decide
theorem hb_65_64 : hasB ((65 : Nat) : Int) 64 = true := by decide
theorem hb_65_128 : hasB ((65 : Nat) : Int) 128 = false := by decide
theorem hb_65_256 : hasB ((65 : Nat) : Int) 256 = false := by decide
theorem hb_65_512 : hasB ((65 : Nat) : Int) 512 = false := by decide
theorem hb_65_1024 : hasB ((65 : Nat) : Int) 1024 = false := by decide
theorem hb_65_2048 : hasB ((65 : Nat) : Int) 2048 = false := by decide
theorem hb_513_1 : hasB ((513 : Nat) : Int) 1 = true := by decide
theorem hb_513_2 : hasB ((513 : Nat) : Int) 2 = false := by decide
theorem hb_513_4 : hasB ((513 : Nat) : Int) 4 = false := by decide
theorem hb_513_8 : hasB ((513 : Nat) : Int) 8 = false := by decide
theorem hb_513_16 : hasB ((513 : Nat) : Int) 16 = false := by decide
theorem hb_513_32 : hasB ((513 : Nat) : Int) 32 = false := by decide
theorem hb_513_64 : hasB ((513 : Nat) : Int) 64 = false := by decide
theorem hb_513_128 : hasB ((513 : Nat) : Int) 128 = false := by decide
theorem hb_513_256 : hasB ((513 : Nat) : Int) 256 = false := by decide
theorem hb_513_512 : hasB ((513 : Nat) : Int) 512 = true := by decide
theorem hb_513_1024 : hasB ((513 : Nat) : Int) 1024 = false := by decide
theorem hb_513_2048 : hasB ((513 : Nat) : Int) 2048 = false := by decide
theorem hb_773_1 : hasB ((773 : Nat) : Int) 1 = true := by decide
theorem hb_773_2 : hasB ((773 : Nat) : Int) 2 = false := by decide
theorem hb_773_4 : hasB ((773 : Nat) : Int) 4 = true := by decide
theorem hb_773_8 : hasB ((773 : Nat) : Int) 8 = false := by decide
theorem hb_773_16 : hasB ((773 : Nat) : Int) 16 = false := by decide
theorem hb_773_32 : hasB ((773 : Nat) : Int) 32 = false := by decide
theorem hb_773_64 : hasB ((773 : Nat) : Int) 64 = false := by decide
theorem hb_773_128 : hasB ((773 : Nat) : Int) 128 = false := by decide
theorem hb_773_256 : hasB ((773 : Nat) : Int) 256 = true := by decide
theorem hb_773_512 : hasB ((773 : Nat) : Int) 512 = true := by decide
theorem hb_773_1024 : hasB ((773 : Nat) : Int) 1024 = false := by decide
theorem hb_773_2048 : hasB ((773 : Nat) : Int) 2048 = false := by decide
theorem hb_3713_1 : hasB ((3713 : Nat) : Int) 1 = true := by decide
theorem hb_3713_2 : hasB ((3713 : Nat) : Int) 2 = false := by decide
theorem hb_3713_4 : hasB ((3713 : Nat) : Int) 4 = false := by decide
theorem hb_3713_8 : hasB ((3713 : Nat) : Int) 8 = false := by decide
theorem hb_3713_16 : hasB ((3713 : Nat) : Int) 16 = false := by decide
theorem hb_3713_32 : hasB ((3713 : Nat) : Int) 32 = false := by decide
theorem hb_3713_64 : hasB ((3713 : Nat) : Int) 64 = false := by decide
theorem hb_3713_128 : hasB ((3713 : Nat) : Int) 128 = true := by decide
theorem hb_3713_256 : hasB ((3713 : Nat) : Int) 256 = false := by decide
theorem hb_3713_512 : hasB ((3713 : Nat) : Int) 512 = true := by decide
theorem hb_3713_1024 : hasB ((3713 : Nat) : Int) 1024 = true := by decide
theorem hb_3713_2048 : hasB ((3713 : Nat) : Int) 2048 = true := by decide
/-- what a command's kind names, or nothing -/
def selB (k : Int) (o : Int) (r e : Bool) : Bool := if hasB (maskN k : Nat) o = true then r else e

/-- a command that Check takes -/
def rightC (c : Cm) : Bool :=
  kindB c.kind && selB c.kind 1 (nameW c.name) (decide (c.name = [])) && selB c.kind 2 (nameW c.other) (decide (c.other = [])) && selB c.kind 4 (nameW c.column) (decide (c.column = [])) &&
  selB c.kind 8 (areCols c.cols) (decide (c.cols.length = 0)) && selB c.kind 16 (typeB c.ty) (decide (c.ty = 0)) && selB c.kind 32 (valB c.val) (noneV c.val) &&
  selB c.kind 64 (areVals c.vals) (decide (c.vals.length = 0)) && selB c.kind 128 (c.fields.all nameW) (decide (c.fields.length = 0)) && selB c.kind 256 (rightE c.expr) (noneE c.expr) &&
  selB c.kind 512 (whereB c.all c.wh) (!c.all && noneE c.wh) && selB c.kind 1024 (decide (c.order = []) || nameW c.order) (decide (c.order = [])) &&
  selB c.kind 2048 (decide (-1 ≤ c.limit ∧ c.limit ≤ 999999999)) (decide (c.limit = 0))

/-- how many Args the document's kinds have -/
def argsR (k : Int) : Int := if k < 1 ∨ 11 < k then -1 else if k ≤ 2 then 0 else if k ≤ 4 then 1 else 2
def plainK (k : Int) (v : Vl) (nm : List UInt8) (n : Nat) : Bool := decide ((n : Int) = argsR k) && (decide (k = 2) || decide (nm = [])) && (decide (k = 1) || noneV v)
mutual
def exR : Ex → Bool
  | .mk k v nm args => plainK k v nm args.length && !(decide (k = 2) && !nameW nm) && valB v && exRL args
def exRL : List Ex → Bool
  | [] => true
  | x :: xs => exR x && exRL xs
end

def nameIs (s : List UInt8) (b : Bool) : Bool := if b = true then nameW s else decide (s = [])
def betw (n a b : Int) : Bool := decide (a ≤ n) && decide (n ≤ b)

/-- a command that the document's Check takes -/
def refC (c : Cm) : Bool :=
  (betw c.kind 1 16 && nameIs c.name (decide (c.kind ≤ 13)) && nameIs c.other (decide (c.kind = 5) || decide (c.kind = 7) || decide (c.kind = 8)) && nameIs c.column (betw c.kind 3 6 || decide (c.kind = 8) || decide (c.kind = 12))) &&
  (if c.kind = 3 ∨ c.kind = 6 then betw c.ty 1 3 else decide (c.ty = 0)) &&
  (valB c.val && (decide (c.kind = 3) || noneV c.val)) &&
  (decide (c.kind = 1) == decide (0 < c.cols.length) && decide (c.kind = 10) == decide (0 < c.vals.length) && (decide (c.kind = 13) || (decide (c.fields.length = 0) && decide (c.order = []) && decide (c.limit = 0)))) &&
  c.cols.all (fun x => nameW x.name && betw x.ty 1 3) && c.vals.all valB && c.fields.all nameW &&
  (if c.kind = 13 then betw c.limit (-1) 999999999 && (decide (c.order = []) || nameW c.order) else true) &&
  (if c.kind = 12 then exR c.expr else noneE c.expr) &&
  (if (betw c.kind 11 13 && !c.all) = true then exR c.wh else noneE c.wh && (betw c.kind 11 13 || !c.all))

theorem noneV_val (v : Vl) (h : noneV v = true) : valB v = true := by
  obtain ⟨k, n, s⟩ := v
  simp only [noneV, Bool.and_eq_true, decide_eq_true_eq] at h
  obtain ⟨⟨rfl, rfl⟩, rfl⟩ := h
  decide

theorem typeB_iff (k : Int) : typeB k = betw k 1 3 := by
  unfold typeB betw
  by_cases h1 : k < 0
  · have e : atL typesL k = [] := by simp [atL, h1]
    rw [e]
    have : ¬ 1 ≤ k := by omega
    simp [this]
  · obtain ⟨n, rfl⟩ := Int.eq_ofNat_of_zero_le (show 0 ≤ k by omega)
    by_cases h4 : 4 ≤ n
    · have e : atL typesL (n : Int) = [] := by
        have : ¬ ((n : Int) < 0) := by omega
        simp only [atL, this, if_false, Int.toNat_natCast]
        simp only [List.getD]
        rw [List.getElem?_eq_none (by simp [typesL]; omega)]; rfl
      rw [e]
      have : ¬ ((n : Int) ≤ 3) := by omega
      simp [this]
    · match n, h4 with
      | 0, _ => decide
      | 1, _ => decide
      | 2, _ => decide
      | 3, _ => decide
      | n + 4, h => omega

theorem argsN_iff (k : Int) (h : 3 ≤ k) (h' : k ≤ 11) : (argsN k : Int) = argsR k ∧ 0 < argsN k := by
  have hc : k = 3 ∨ k = 4 ∨ k = 5 ∨ k = 6 ∨ k = 7 ∨ k = 8 ∨ k = 9 ∨ k = 10 ∨ k = 11 := by omega
  rcases hc with rfl | rfl | rfl | rfl | rfl | rfl | rfl | rfl | rfl <;> decide

theorem argsN_out (k : Int) (h : k < 1 ∨ 11 < k) : argsN k = 0 := by
  have h3 : ¬ (k = 3 ∨ k = 4) := by omega
  have e : atL opersL k = [] := by
    unfold atL
    by_cases h1 : k < 0
    · rw [if_pos h1]
    · rw [if_neg h1]
      obtain ⟨n, rfl⟩ := Int.eq_ofNat_of_zero_le (show 0 ≤ k by omega)
      rw [Int.toNat_natCast]
      by_cases h0 : n = 0
      · subst h0; rfl
      · simp only [List.getD]
        rw [List.getElem?_eq_none (by simp [opersL]; omega)]; rfl
  unfold argsN
  rw [if_neg h3, e]; rfl

mutual
theorem rightE_iff : ∀ x : Ex, rightE x = exR x
  | .mk k v nm args => by
    have ih := rightL_iff args
    rw [rightE, exR, plainK]
    by_cases h1 : k = 1
    · subst h1
      have e : argsR 1 = 0 := by decide
      rw [if_pos rfl, e]
      cases args with
      | nil => rw [exRL]; simp; cases valB v <;> simp
      | cons y r =>
        have : ¬ ((List.length r : Int) + 1 = 0) := by omega
        simp [this]
    rw [if_neg h1]
    by_cases h2 : k = 2
    · subst h2
      have e : argsR 2 = 0 := by decide
      rw [if_pos rfl, e]
      cases args with
      | nil =>
        rw [exRL]
        cases hv : noneV v
        · simp
        · rw [noneV_val v hv]; simp
      | cons y r =>
        have : ¬ ((List.length r : Int) + 1 = 0) := by omega
        simp [this]
    rw [if_neg h2]
    by_cases h3 : 3 ≤ k ∧ k ≤ 11
    · obtain ⟨e1, e2⟩ := argsN_iff k h3.1 h3.2
      rw [← e1, ih]
      cases hv : noneV v
      · simp [h1]
      · rw [noneV_val v hv]
        by_cases hn : args.length = argsN k
        · have : 0 < args.length := by omega
          have hi : (args.length : Int) = (argsN k : Int) := by omega
          simp [h1, h2, hn, e2]
        · have hi : ¬ ((args.length : Int) = (argsN k : Int)) := by omega
          simp [hn, hi]
    · have h4 : k < 1 ∨ 11 < k := by omega
      have e : argsR k = -1 := by rw [argsR, if_pos h4]
      rw [argsN_out k h4, e]
      have hi : ¬ ((args.length : Int) = -1) := by omega
      by_cases hz : args.length = 0
      · simp [hz]
      · simp [hz, hi]
theorem rightL_iff : ∀ l : List Ex, rightL l = exRL l
  | [] => by rw [rightL, exRL]
  | x :: xs => by rw [rightL, exRL, rightE_iff x, rightL_iff xs]
end

theorem cols_iff (l : List Cl) : l.all (fun x => nameW x.name && betw x.ty 1 3) = l.all colB := by
  congr 1
  funext x
  rw [← typeB_iff]; rfl

theorem len_zero {α : Type} (l : List α) : decide (0 < l.length) = !decide (l.length = 0) := by
  cases l <;> simp

theorem rightC_iff (c : Cm) : rightC c = refC c := by
  obtain ⟨k, name, other, column, cols, ty, val, vals, fields, expr, all, wh, order, limit⟩ := c
  simp only [rightC, refC, nameIs]
  rw [cols_iff]
  by_cases hk : 1 ≤ k ∧ k ≤ 16
  · obtain ⟨h1, h2⟩ := hk
    have hc : k = 1 ∨ k = 2 ∨ k = 3 ∨ k = 4 ∨ k = 5 ∨ k = 6 ∨ k = 7 ∨ k = 8 ∨ k = 9 ∨ k = 10 ∨ k = 11 ∨ k = 12 ∨ k = 13 ∨ k = 14 ∨ k = 15 ∨ k = 16 := by omega
    have hcol : cols.length = 0 → cols.all colB = true := by intro h; rw [List.eq_nil_of_length_eq_zero h]; rfl
    have hval : vals.length = 0 → vals.all valB = true := by intro h; rw [List.eq_nil_of_length_eq_zero h]; rfl
    have hfld : fields.length = 0 → fields.all nameW = true := by intro h; rw [List.eq_nil_of_length_eq_zero h]; rfl
    have hnv := noneV_val val
    have hty := typeB_iff ty
    have hex := rightE_iff expr
    have hwx := rightE_iff wh
    have hac : areCols cols = (decide (0 < cols.length) && cols.all colB) := rfl
    have hav : areVals vals = (decide (0 < vals.length) && vals.all valB) := rfl
    have hwh : whereB all wh = if all = true then noneE wh else exR wh := by rw [whereB, hwx]
    have hlim : decide (-1 ≤ limit ∧ limit ≤ 999999999) = betw limit (-1) 999999999 := by unfold betw; rw [Bool.eq_iff_iff]; simp
    have hcl := len_zero cols
    have hvl := len_zero vals
    have hfl := len_zero fields
    rw [hac, hav, hwh, hty, hex, hlim, hcl, hvl]
    generalize cols.all colB = C1 at *
    generalize vals.all valB = V1 at *
    generalize fields.all nameW = F1 at *
    generalize betw ty 1 3 = T1 at *
    generalize exR expr = X1 at *
    generalize exR wh = X2 at *
    generalize noneE expr = N1 at *
    generalize noneE wh = N2 at *
    generalize valB val = V2 at *
    generalize noneV val = V3 at *
    generalize nameW name = A1 at *
    generalize nameW other = A2 at *
    generalize nameW column = A3 at *
    generalize nameW order = A4 at *
    generalize betw limit (-1) 999999999 = L1 at *
    have e1 : cols.length = 0 ↔ decide (cols.length = 0) = true := by simp
    have e2 : vals.length = 0 ↔ decide (vals.length = 0) = true := by simp
    have e3 : fields.length = 0 ↔ decide (fields.length = 0) = true := by simp
    rw [e1] at hcol
    rw [e2] at hval
    rw [e3] at hfld
    generalize decide (cols.length = 0) = C0 at *
    generalize decide (vals.length = 0) = V0 at *
    generalize decide (fields.length = 0) = F0 at *
    generalize decide (name = []) = M1 at *
    generalize decide (other = []) = M2 at *
    generalize decide (column = []) = M3 at *
    generalize decide (order = []) = M4 at *
    generalize decide (ty = 0) = T0 at *
    generalize decide (limit = 0) = L0 at *
    clear hac hav hwh hty hex hwx hlim hcl hvl hfl e1 e2 e3 h1 h2
    rcases hc with rfl | rfl | rfl | rfl | rfl | rfl | rfl | rfl | rfl | rfl | rfl | rfl | rfl | rfl | rfl | rfl
    all_goals
      simp only [selB, show maskN 1 = 9 from rfl, show maskN 2 = 1 from rfl, show maskN 3 = 53 from rfl, show maskN 4 = 5 from rfl, show maskN 5 = 7 from rfl, show maskN 6 = 21 from rfl, show maskN 7 = 3 from rfl, show maskN 8 = 7 from rfl, show maskN 9 = 1 from rfl, show maskN 10 = 65 from rfl, show maskN 11 = 513 from rfl, show maskN 12 = 773 from rfl, show maskN 13 = 3713 from rfl, show maskN 14 = 0 from rfl, show maskN 15 = 0 from rfl, show maskN 16 = 0 from rfl]
      simp only [hb_0_1, hb_0_2, hb_0_4, hb_0_8, hb_0_16, hb_0_32, hb_0_64, hb_0_128, hb_0_256, hb_0_512, hb_0_1024, hb_0_2048, hb_1_1, hb_1_2, hb_1_4, hb_1_8, hb_1_16, hb_1_32, hb_1_64, hb_1_128, hb_1_256, hb_1_512, hb_1_1024, hb_1_2048, hb_3_1, hb_3_2, hb_3_4, hb_3_8, hb_3_16, hb_3_32, hb_3_64, hb_3_128, hb_3_256, hb_3_512, hb_3_1024, hb_3_2048, hb_5_1, hb_5_2, hb_5_4, hb_5_8, hb_5_16, hb_5_32, hb_5_64, hb_5_128, hb_5_256, hb_5_512, hb_5_1024, hb_5_2048, hb_7_1, hb_7_2, hb_7_4, hb_7_8, hb_7_16, hb_7_32, hb_7_64, hb_7_128, hb_7_256, hb_7_512, hb_7_1024, hb_7_2048, hb_9_1, hb_9_2, hb_9_4, hb_9_8, hb_9_16, hb_9_32, hb_9_64, hb_9_128, hb_9_256, hb_9_512, hb_9_1024, hb_9_2048, hb_21_1, hb_21_2, hb_21_4, hb_21_8, hb_21_16, hb_21_32, hb_21_64, hb_21_128, hb_21_256, hb_21_512, hb_21_1024, hb_21_2048, hb_53_1, hb_53_2, hb_53_4, hb_53_8, hb_53_16, hb_53_32, hb_53_64, hb_53_128, hb_53_256, hb_53_512, hb_53_1024, hb_53_2048, hb_65_1, hb_65_2, hb_65_4, hb_65_8, hb_65_16, hb_65_32, hb_65_64, hb_65_128, hb_65_256, hb_65_512, hb_65_1024, hb_65_2048, hb_513_1, hb_513_2, hb_513_4, hb_513_8, hb_513_16, hb_513_32, hb_513_64, hb_513_128, hb_513_256, hb_513_512, hb_513_1024, hb_513_2048, hb_773_1, hb_773_2, hb_773_4, hb_773_8, hb_773_16, hb_773_32, hb_773_64, hb_773_128, hb_773_256, hb_773_512, hb_773_1024, hb_773_2048, hb_3713_1, hb_3713_2, hb_3713_4, hb_3713_8, hb_3713_16, hb_3713_32, hb_3713_64, hb_3713_128, hb_3713_256, hb_3713_512, hb_3713_1024, hb_3713_2048, betw, kindB]
      simp
      cases C0 <;> cases V0 <;> cases F0 <;> cases V3 <;> simp_all
      all_goals
        rw [Bool.eq_iff_iff]
        simp only [Bool.and_eq_true, Bool.or_eq_true]
        try (cases all <;> simp)
        all_goals try (constructor <;> (intro h; simp_all))
  · have e1 : kindB k = false := by simp only [kindB, decide_eq_false_iff_not]; exact hk
    have e2 : betw k 1 16 = false := by
      unfold betw
      rw [Bool.and_eq_false_iff, decide_eq_false_iff_not, decide_eq_false_iff_not]; omega
    rw [e1, e2]; simp


end Go.Proofs.YtkpeklealgicpabGreatDoor

namespace Go.Proofs.YtkpeklealgicpabGreatDoor
open Go.RowKit

/-- what an operation leaves that only moves, picks, or is not wanted -/
def moved (ops : Array Oper) (o : Oper) (a : Act) : Option Value :=
  if Region.wanted o (yielded ops a.tmps) = true then
    match o.op with
    | .move x => some (a.eval x)
    | .assign x => some (a.eval x)
    | .pick c x y => match a.eval c with
      | .bool true => some (a.eval x)
      | .bool false => some (a.eval y)
      | _ => none
    | _ => none
  else some undef

theorem moved_yields {P : Program} {ops : Array Oper} {S : World → Prop} {o : Oper} {a : Act} {v : Value} (h : moved ops o a = some v) : YieldsIf P ops S o v a := by
  unfold moved at h
  by_cases hw : Region.wanted o (yielded ops a.tmps) = true
  · rw [if_pos hw] at h
    refine Or.inl ⟨hw, fun w _ => ?_⟩
    cases ho : o.op with
    | move x => rw [ho] at h; simp only [Option.some.injEq] at h; subst h; simp [execOp, ho]
    | assign x => rw [ho] at h; simp only [Option.some.injEq] at h; subst h; simp [execOp, ho]
    | pick c x y =>
      rw [ho] at h
      simp only at h
      cases hc : a.eval c with
      | bool b =>
        rw [hc] at h
        cases b with
        | true => simp only [Option.some.injEq] at h; subst h; simp [execOp, ho, hc, asBool]
        | false => simp only [Option.some.injEq] at h; subst h; simp [execOp, ho, hc, asBool]
      | _ => rw [hc] at h; cases h
    | _ => rw [ho] at h; cases h
  · rw [if_neg hw] at h
    simp only [Option.some.injEq] at h
    exact Or.inr ⟨by simpa using hw, h.symm⟩

theorem count_less (p : Nat → Bool) (i : Nat) (hp : p i = true) : ∀ l : List Nat, i ∈ l → l.countP (fun j => p j && j != i) + 1 ≤ l.countP p := by
  intro l
  induction l with
  | nil => intro h; cases h
  | cons x l ih =>
    intro h
    have mono : l.countP (fun j => p j && j != i) ≤ l.countP p := List.countP_mono_left fun j _ hj => by simp at hj; exact hj.1
    by_cases hx : x = i
    · subst hx
      simp [hp]
      exact mono
    · have hm : i ∈ l := by
        rcases List.mem_cons.1 h with e | e
        · exact absurd e.symm hx
        · exact e
      have := ih hm
      simp only [List.countP_cons]
      have e : (x != i) = true := by simpa using hx
      rw [e, Bool.and_true]
      omega

/-- what such an operation leaves -/
def dv (o : Oper) : Value := if o.guard.isSome = true then undef else .bool false

/-- how many are left -/
def left (ops : Array Oper) (listed : Array Bool) : Nat := (List.range ops.size).countP fun j => !listed.getD j true

section
variable (md : Region.Mode) (ops : Array Oper) (L0 : Array Bool) (a0 : Act)

/-- what is held of a state in mid-region -/
structure DeadAt (listed : Array Bool) (a : Act) : Prop where
  size : listed.size = ops.size
  defers : a.defers = a0.defers
  more : ∀ j, L0.getD j true = true → listed.getD j true = true
  new : ∀ j o d, ops[j]? = some o → L0.getD j true = false → listed.getD j true = true → o.dst = some d → a.tmps[d]? = some (dv o)
  old : ∀ d, (∀ j o, ops[j]? = some o → L0.getD j true = false → o.dst ≠ some d) → a.tmps[d]? = a0.tmps[d]?
  frame : a.tmps.size = a0.tmps.size

/-- what is asked of the operations that are left -/
structure DeadOk : Prop where
  size : L0.size = ops.size
  back : ∀ j o, ops[j]? = some o → L0.getD j true = false → ∀ e ∈ o.after, e.on < j
  dst : ∀ j o, ops[j]? = some o → L0.getD j true = false → ∃ d, o.dst = some d ∧ d < a0.tmps.size
  one : ∀ j k o p d, ops[j]? = some o → ops[k]? = some p → L0.getD j true = false → L0.getD k true = false → o.dst = some d → p.dst = some d → j = k
  runs : ∀ j o listed a, ops[j]? = some o → L0.getD j true = false → DeadAt ops L0 a0 listed a → (∀ e ∈ o.after, Region.binds md e = true → listed.getD e.on false = true) → moved ops o a = some (dv o)
end

theorem dead_done {ops : Array Oper} {L0 listed : Array Bool} {a0 a : Act} {md : Region.Mode} (hk : DeadOk md ops L0 a0) (hd : DeadAt ops L0 a0 listed a) (hr : Region.ready md ops listed = []) : ∀ j, j < ops.size → listed.getD j true = true := by
  intro j
  induction j using Nat.strongRecOn with
  | _ j ih =>
    intro hj
    apply Classical.byContradiction
    intro hn
    have hn' : listed.getD j true = false := by simpa using hn
    have h0 : L0.getD j true = false := by
      cases e : L0.getD j true
      · rfl
      · rw [hd.more j e] at hn'; cases hn'
    obtain ⟨o, ho⟩ : ∃ o, ops[j]? = some o := ⟨ops[j], Array.getElem?_eq_getElem hj⟩
    have hin : j ∈ Region.ready md ops listed := by
      unfold Region.ready
      rw [List.mem_filter]
      refine ⟨List.mem_range.2 hj, ?_⟩
      rw [hn', ho]
      simp only [Bool.not_false, Bool.true_and, Option.map_some, Option.getD_some, Array.all_eq_true_iff_forall_mem]
      intro e he
      have hlt := hk.back j o ho h0 e he
      have hl := ih e.on hlt (by omega)
      have hs := hd.size
      have : listed.getD e.on false = true := by
        simp only [Array.getD, show e.on < listed.size by omega, dif_pos] at hl ⊢
        exact hl
      rw [this]; simp
    rw [hr] at hin
    cases hin

theorem dead_run {P : Program} {md : Region.Mode} {ops : Array Oper} {Q : Exit → Act → World → Prop} {S : World → Prop} {L0 : Array Bool} {a0 : Act} {w : World} (hk : DeadOk md ops L0 a0) (hS : S w)
    (hq : ∀ a', a'.defers = a0.defers → (∀ j o d, ops[j]? = some o → L0.getD j true = false → o.dst = some d → a'.tmps[d]? = some (dv o)) → Q .normal a' w) :
    ∀ (fuel : Nat) (listed : Array Bool) (a : Act), DeadAt ops L0 a0 listed a → left ops listed ≤ fuel → wpAnyH P md ops Q S fuel listed a w := by
  have fin : ∀ listed a, DeadAt ops L0 a0 listed a → Region.ready md ops listed = [] → Q .normal a w := by
    intro listed a hd hr
    refine hq a hd.defers fun j o d hj h0 ho => hd.new j o d hj h0 ?_ ho
    exact dead_done hk hd hr j (Array.getElem?_eq_some_iff.1 hj).1
  intro fuel
  induction fuel with
  | zero =>
    intro listed a hd hl
    have hr : Region.ready md ops listed = [] := by
      cases hh : Region.ready md ops listed with
      | nil => rfl
      | cons i r =>
        exfalso
        have hi : i ∈ Region.ready md ops listed := by rw [hh]; simp
        unfold Region.ready at hi
        rw [List.mem_filter] at hi
        have hu : (!listed.getD i true) = true := by
          have := hi.2
          rw [Bool.and_eq_true] at this
          exact this.1
        have : 0 < left ops listed := List.countP_pos_iff.2 ⟨i, hi.1, hu⟩
        omega
    exact ⟨hr, fin listed a hd hr⟩
  | succ fuel ih =>
    intro listed a hd hl
    refine ⟨fin listed a hd, fun i hi => ?_⟩
    unfold Region.ready at hi
    rw [List.mem_filter, Bool.and_eq_true] at hi
    obtain ⟨hir, hu, hall⟩ := hi
    have hisz := List.mem_range.1 hir
    have hu' : listed.getD i true = false := by simpa using hu
    have h0 : L0.getD i true = false := by
      cases e : L0.getD i true
      · rfl
      · rw [hd.more i e] at hu'; cases hu'
    obtain ⟨o, ho⟩ : ∃ o, ops[i]? = some o := ⟨ops[i], Array.getElem?_eq_getElem hisz⟩
    rw [ho] at hall
    simp only [Option.map_some, Option.getD_some, Array.all_eq_true_iff_forall_mem] at hall
    have hm := hk.runs i o listed a ho h0 hd (fun e he hb => by
      have := hall e he
      rw [hb] at this
      simpa using this)
    refine (moved_yields hm).wpOp ho hS ⟨hS, ih _ _ ?_ ?_⟩
    · obtain ⟨d, hdst, hlt⟩ := hk.dst i o ho h0
      have hput : a.put o.dst (dv o) = { a with tmps := a.tmps.setIfInBounds d (dv o) } := by rw [hdst]; rfl
      have hsz := hd.size
      have hget : ∀ j, (listed.setIfInBounds i true).getD j true = if j = i then true else listed.getD j true := by
        intro j
        by_cases e : j = i
        · subst e; rw [if_pos rfl]; simp [Array.getD]
        · rw [if_neg e]
          by_cases hj : j < listed.size
          · simp [Array.getD, hj, Ne.symm e]
          · simp [Array.getD, hj]
      rw [hput]
      refine ⟨by simpa using hd.size, hd.defers, ?_, ?_, ?_, by simpa using hd.frame⟩
      · intro j hj
        rw [hget]
        by_cases e : j = i
        · rw [if_pos e]
        · rw [if_neg e]; exact hd.more j hj
      · intro j p d' hj hj0 hl hpd
        rw [hget] at hl
        by_cases e : j = i
        · subst e
          rw [ho] at hj; cases hj
          rw [hdst] at hpd; cases hpd
          rw [Array.getElem?_setIfInBounds_self, if_pos (by rw [hd.frame]; exact hlt)]
        · rw [if_neg e] at hl
          have hne : d ≠ d' := by
            intro e2
            subst e2
            exact e (hk.one j i p o d hj ho hj0 h0 hpd hdst)
          rw [Array.getElem?_setIfInBounds_ne hne]
          exact hd.new j p d' hj hj0 hl hpd
      · intro d' hd'
        have hne : d ≠ d' := by
          intro e2
          subst e2
          exact hd' i o ho h0 hdst
        rw [Array.getElem?_setIfInBounds_ne hne]
        exact hd.old d' hd'
    · have hc := count_less (fun j => !listed.getD j true) i (by simpa using hu') (List.range ops.size) hir
      have e : left ops (listed.setIfInBounds i true) = (List.range ops.size).countP (fun j => !listed.getD j true && j != i) := by
        unfold left
        apply List.countP_congr
        intro j hj
        have hj' := List.mem_range.1 hj
        have hsz := hd.size
        by_cases e : j = i
        · subst e; simp [Array.getD, hsz, hj']
        · simp [Array.getD, hsz, hj', Ne.symm e, e]
      unfold left at hl
      omega

/-- nothing that is left writes a slot -/
def noneB (ops : Array Oper) (L0 : Array Bool) (s : Nat) : Bool := (List.range ops.size).all fun j => L0.getD j true || (ops[j]?).all fun p => p.dst != some s

/-- a slot holds false when an operation comes up -/
def falseB (md : Region.Mode) (ops : Array Oper) (L0 : Array Bool) (tm : Array Value) (o : Oper) (s : Nat) : Bool :=
  o.after.any (fun e => Region.binds md e && !L0.getD e.on true && (ops[e.on]?).any fun p => p.dst == some s && p.guard.isNone) ||
  ((match tm[s]? with | some (.bool false) => true | _ => false) && noneB ops L0 s)

/-- an operation is dead -/
def deadB (md : Region.Mode) (ops : Array Oper) (L0 : Array Bool) (tm : Array Value) (o : Oper) : Bool :=
  match o.guard with
  | some (g, b) => match ops[g]? with
    | none => false
    | some og => match og.dst with
      | none => false
      | some dg => if L0.getD g true = true then (match tm[dg]? with | some (.bool c) => c != b | _ => false) && noneB ops L0 dg
        else o.after.any (fun e => Region.binds md e && e.on == g) && (og.guard.isSome || b)
  | none => match o.op with
    | .move (.tmp s) => falseB md ops L0 tm o s
    | .assign (.tmp s) => falseB md ops L0 tm o s
    | .pick (.tmp s) _ (.const (.bool false)) => falseB md ops L0 tm o s
    | _ => false

def deadAllB (md : Region.Mode) (ops : Array Oper) (L0 : Array Bool) (tm : Array Value) : Bool :=
  (List.range ops.size).all fun j => L0.getD j true || match ops[j]? with
    | none => false
    | some o => o.after.all (fun e => decide (e.on < j)) && (match o.dst with | some d => decide (d < tm.size) | none => false) && deadB md ops L0 tm o

theorem noneB_old {ops : Array Oper} {L0 listed : Array Bool} {a0 a : Act} {s : Nat} (h : noneB ops L0 s = true) (hd : DeadAt ops L0 a0 listed a) : a.tmps[s]? = a0.tmps[s]? := by
  refine hd.old s fun j o hj h0 => ?_
  have hlt := (Array.getElem?_eq_some_iff.1 hj).1
  have := List.all_eq_true.1 h j (List.mem_range.2 hlt)
  rw [h0, hj] at this
  simpa using this

theorem listed_true {listed : Array Bool} {i : Nat} (h : listed.getD i false = true) : listed.getD i true = true := by
  simp only [Array.getD] at h ⊢
  split at h
  · rename_i hi; rw [dif_pos hi]; exact h
  · cases h

theorem falseB_at {md : Region.Mode} {ops : Array Oper} {L0 listed : Array Bool} {a0 a : Act} {o : Oper} {s : Nat} (h : falseB md ops L0 a0.tmps o s = true) (hd : DeadAt ops L0 a0 listed a) (hl : ∀ e ∈ o.after, Region.binds md e = true → listed.getD e.on false = true) : a.tmps.getD s undef = .bool false := by
  have key : a.tmps[s]? = some (.bool false) := by
    unfold falseB at h
    rw [Bool.or_eq_true] at h
    rcases h with h | h
    · obtain ⟨e, he, hb⟩ := Array.any_eq_true'.1 h
      rw [Bool.and_eq_true, Bool.and_eq_true] at hb
      obtain ⟨⟨hb1, hb2⟩, hb3⟩ := hb
      cases hp : ops[e.on]? with
      | none => rw [hp] at hb3; cases hb3
      | some p =>
        rw [hp] at hb3
        simp only [Option.any_some, Bool.and_eq_true, beq_iff_eq] at hb3
        have := hd.new e.on p s hp (by simpa using hb2) (listed_true (hl e he hb1)) hb3.1
        rw [this]
        have hg : p.guard.isSome = false := by cases hpg : p.guard with
          | none => rfl
          | some _ => rw [hpg] at hb3; simp at hb3
        simp [dv, hg]
    · rw [Bool.and_eq_true] at h
      rw [noneB_old h.2 hd]
      split at h
      · assumption
      · cases h.1
  simp only [Array.getD_eq_getD_getElem?, key, Option.getD_some]

theorem dead_ok {md : Region.Mode} {ops : Array Oper} {L0 : Array Bool} {a0 : Act} (dl : List (Option Tmp)) (hsz : L0.size = ops.size) (hdl : ops.toList.map (·.dst) = dl) (hnd : dl.Nodup) (hb : deadAllB md ops L0 a0.tmps = true) : DeadOk md ops L0 a0 := by
  have each : ∀ j o, ops[j]? = some o → L0.getD j true = false → (o.after.all (fun e => decide (e.on < j)) = true ∧ (match o.dst with | some d => decide (d < a0.tmps.size) | none => false) = true) ∧ deadB md ops L0 a0.tmps o = true := by
    intro j o hj h0
    have hlt := (Array.getElem?_eq_some_iff.1 hj).1
    have := List.all_eq_true.1 hb j (List.mem_range.2 hlt)
    rw [h0, hj] at this
    simp only [Bool.false_or, Bool.and_eq_true] at this
    exact this
  refine ⟨hsz, ?_, ?_, ?_, ?_⟩
  · intro j o hj h0 e he
    have := Array.all_eq_true_iff_forall_mem.1 (each j o hj h0).1.1 e he
    simpa using this
  · intro j o hj h0
    have := (each j o hj h0).1.2
    cases hd : o.dst with
    | none => rw [hd] at this; cases this
    | some d => rw [hd] at this; exact ⟨d, rfl, by simpa using this⟩
  · intro j k o p d hj hk _ _ hod hpd
    have at' : ∀ (i : Nat) (q : Oper), ops[i]? = some q → dl[i]? = some q.dst := by
      intro i q hq
      rw [← hdl, List.getElem?_map, Array.getElem?_toList, hq]; rfl
    have h1 := at' j o hj
    have h2 := at' k p hk
    rw [hod] at h1
    rw [hpd] at h2
    exact (List.getElem?_inj (List.getElem?_eq_some_iff.1 h1).1 hnd).1 (h1.trans h2.symm)
  · intro j o listed a hj h0 hd hl
    have hB := (each j o hj h0).2
    unfold deadB at hB
    cases hg : o.guard with
    | some gb =>
      obtain ⟨g, b⟩ := gb
      have hdv : dv o = undef := by simp [dv, hg]
      rw [hg] at hB
      simp only at hB
      have hw : Region.wanted o (yielded ops a.tmps) = false := by
        cases hog : ops[g]? with
        | none => rw [hog] at hB; cases hB
        | some og =>
          rw [hog] at hB
          simp only at hB
          cases hdg : og.dst with
          | none => rw [hdg] at hB; cases hB
          | some dg =>
            rw [hdg] at hB
            simp only at hB
            by_cases hL : L0.getD g true = true
            · rw [if_pos hL, Bool.and_eq_true] at hB
              have ht := noneB_old hB.2 hd
              split at hB
              · rename_i c hc
                have hne : c ≠ b := by simpa using hB.1
                simp only [Region.wanted, hg, yielded, hog, Option.bind_some, hdg, ht, hc]
                simpa using hne
              · cases hB.1
            · rw [if_neg hL, Bool.and_eq_true] at hB
              obtain ⟨e, he, hbe⟩ := Array.any_eq_true'.1 hB.1
              rw [Bool.and_eq_true, beq_iff_eq] at hbe
              have hlg := listed_true (hl e he hbe.1)
              rw [hbe.2] at hlg
              have ht := hd.new g og dg hog (by simpa using hL) hlg hdg
              simp only [Region.wanted, hg, yielded, hog, Option.bind_some, hdg, ht]
              cases hgg : og.guard with
              | none =>
                rw [hgg] at hB
                have hbt : b = true := by simpa using hB.2
                simp [dv, hgg, hbt]
              | some _ => simp [dv, hgg, undef]
      rw [moved, hw, hdv]
      rfl
    | none =>
      have hdv : dv o = .bool false := by simp [dv, hg]
      have hw : Region.wanted o (yielded ops a.tmps) = true := by simp [Region.wanted, hg]
      rw [hg] at hB
      simp only at hB
      rw [moved, if_pos hw, hdv]
      split at hB
      · rename_i s hop
        rw [hop]
        have := falseB_at hB hd hl
        simp [Act.eval, this]
      · rename_i s hop
        rw [hop]
        have := falseB_at hB hd hl
        simp [Act.eval, this]
      · rename_i s x hop
        rw [hop]
        have := falseB_at hB hd hl
        simp [Act.eval, this]
      · cases hB

/-- all that is left of a region is dead: its last slot holds false -/
theorem dead_end {P : Program} {md : Region.Mode} {ops : Array Oper} {Q : Exit → Act → World → Prop} {S : World → Prop} {n : Nat} {L0 : Array Bool} {a0 : Act} {w : World} (dl : List (Option Tmp)) (last d : Nat) (hsz : L0.size = ops.size) (hdl : ops.toList.map (·.dst) = dl) (hnd : dl.Nodup) (hb : deadAllB md ops L0 a0.tmps = true)
    (hn : decide (left ops L0 ≤ n) = true) (hl : ((ops[last]?).map fun o => (o.dst, o.guard.isSome)) = some (some d, false)) (hu : L0.getD last true = false) (hS : S w) (h : ∀ a' : Act, a'.tmps.getD d undef = .bool false → a'.defers = a0.defers → Q .normal a' w) : wpAnyH P md ops Q S n L0 a0 w := by
  refine dead_run (dead_ok dl hsz hdl hnd hb) hS (fun a' hd ha => ?_) n L0 a0 ⟨hsz, rfl, fun _ h => h, fun j o d _ h1 h2 _ => (by rw [h1] at h2; cases h2), fun _ _ => rfl, rfl⟩ (of_decide_eq_true hn)
  obtain ⟨o, ho, he⟩ := Option.map_eq_some_iff.1 hl
  simp only [Prod.mk.injEq] at he
  have := ha last o d ho hu he.1
  refine h a' ?_ hd
  simp only [Array.getD_eq_getD_getElem?, this, Option.getD_some]
  simp [dv, he.2]

end Go.Proofs.YtkpeklealgicpabGreatDoor

namespace Go.Proofs.YtkpeklealgicpabGreatDoor
open Go.RowKit

/-- what a machine's reach lets a command hold -/
structure CmFit (c : Cm) : Prop where
  name : c.name.length ≤ 140737488355328
  other : c.other.length ≤ 140737488355328
  column : c.column.length ≤ 140737488355328
  order : c.order.length ≤ 140737488355328
  val : c.val.s.length ≤ 140737488355328
  cols : c.cols.length ≤ 1000000000000000
  vals : c.vals.length ≤ 1000000000000000
  fields : c.fields.length ≤ 1000000000000000
  colsN : ∀ x ∈ c.cols, x.name.length ≤ 140737488355328
  valsN : ∀ x ∈ c.vals, x.s.length ≤ 140737488355328
  fieldsN : ∀ x ∈ c.fields, x.length ≤ 140737488355328
  expr : Fit c.expr
  wh : Fit c.wh

/-- a boxed command, and what its kind names, held -/
def Held (w : World) (c : Cm) (cv vv fv ea wa : Value) (m : Int) (W : World) : Prop :=
  (∀ o x, (cmL c cv vv fv ea wa)[o]? = some x → W.cell? ⟨w.heap.size, o, none⟩ = some x) ∧ W.cell? ⟨w.heap.size + 1, 0, none⟩ = some (.int .i64 m) ∧ Below w.heap.size w W ∧ w.heap.size + 2 ≤ W.heap.size

theorem Held.start (w : World) (c : Cm) (cv vv fv ea wa : Value) (m : Int) :
    Held w c cv vv fv ea wa m ((w.alloc (.cells (cmL c cv vv fv ea wa).toArray 31)).alloc (.cells #[.int .i64 m] 3)) := by
  have hz : (w.alloc (.cells (cmL c cv vv fv ea wa).toArray 31)).heap.size = w.heap.size + 1 := by simp
  have h1 : ((w.alloc (.cells (cmL c cv vv fv ea wa).toArray 31)).alloc (.cells #[.int .i64 m] 3)).heap[w.heap.size]? = some (.cells (cmL c cv vv fv ea wa).toArray 31) :=
    (Below.heap_alloc _ _ _ (by omega)).trans (heap_alloc_new _ _)
  refine ⟨fun o x hx => ?_, ?_, ((Below.refl _ _).alloc (Nat.le_refl _) _).alloc (by simp) _, by simp⟩
  · rw [Lib.cell_of_heap h1]; simpa using hx
  · have h2 : ((w.alloc (.cells (cmL c cv vv fv ea wa).toArray 31)).alloc (.cells #[.int .i64 m] 3)).heap[w.heap.size + 1]? = some (.cells #[.int .i64 m] 3) := by rw [← hz]; exact heap_alloc_new _ _
    rw [Lib.cell_of_heap h2]; rfl

theorem Held.below {w : World} {c : Cm} {cv vv fv ea wa : Value} {m : Int} {W W' : World} (h : Held w c cv vv fv ea wa m W) (hb : Below W.heap.size W W') : Held w c cv vv fv ea wa m W' := by
  obtain ⟨h1, h2, h3, h4⟩ := h
  exact ⟨fun o x hx => (hb.cell (p := ⟨w.heap.size, o, none⟩) (by show w.heap.size < _; omega)).trans (h1 o x hx), (hb.cell (p := ⟨w.heap.size + 1, 0, none⟩) (by show w.heap.size + 1 < _; omega)).trans h2, h3.trans (hb.mono h3.size), Nat.le_trans h4 hb.size⟩

set_option maxRecDepth 100000 in
set_option maxHeartbeats 1600000 in
theorem fields_any {w : World} (c : Cm) (fv : Value) (h : RowAt 0 w fv c.fields.length (c.fields.flatMap stC)) (hn : c.fields.length ≤ 1000000000000000) (hs : ∀ x ∈ c.fields, x.length ≤ 140737488355328) (hl : Laid w) :
    Calls Tryz.prog 77 #[fv, .func (.func 72) #[] #[]] w fun e w' => e = .returned (.bool (c.fields.all nameW)) ∧ Below w.heap.size w w' := by
  rcases h with ⟨h0, ao, cap, rfl⟩ | ⟨b, off, cap, rfl, hB, hlt, hc⟩
  · have e : c.fields = [] := List.eq_nil_of_length_eq_zero h0
    rw [e]
    exact allN_str ao cap _ w
  · refine all_str b off cap c.fields w hlt hn (fun k x hx => ?_) (fun k x hx W hW => ?_)
    · have g := flat_get stC 1 (fun _ => rfl) c.fields k x hx 0 (by decide)
      rw [Nat.mul_one, Nat.add_zero] at g
      exact hc _ _ g
    · have := isName_any ⟨x.toArray⟩ W (by rw [size_mk]; exact hs x (List.mem_of_getElem? hx)) (hl.below hW)
      have e0 : (⟨x.toArray⟩ : ByteArray).data.toList = x := by simp
      rw [e0] at this
      exact this

theorem cname_any {w : World} (x : List UInt8) (hs : x.length ≤ 140737488355328) (hl : Laid w) : Calls Tryz.prog 72 #[.string ⟨x.toArray⟩] w fun e w' => e = .returned (.bool (nameW x)) ∧ Below w.heap.size w w' := by
  have := isName_any ⟨x.toArray⟩ w (by rw [size_mk]; exact hs) hl
  have e0 : (⟨x.toArray⟩ : ByteArray).data.toList = x := by simp
  rw [e0] at this
  exact this

set_option maxRecDepth 100000 in
set_option maxHeartbeats 6400000 in
theorem isRight_out {w : World} (c : Cm) (cv vv fv ea wa : Value) (hk : ¬ (1 ≤ c.kind ∧ c.kind ≤ 16)) :
    Calls Tryz.prog 29 #[.agg (cmL c cv vv fv ea wa).toArray] w fun e w' => e = .returned (.bool false) ∧ Below w.heap.size w w' := by
  have H0 := Held.start w c cv vv fv ea wa 0
  have hnb := fun W => namedBy_out W c.kind hk
  have d0 : (w.alloc (.cells (cmL c cv vv fv ea wa).toArray 31)).cell? ⟨w.heap.size, 0, none⟩ = some (.int .i64 c.kind) := by
    rw [Lib.cell_of_heap (heap_alloc_new w (.cells (cmL c cv vv fv ea wa).toArray 31))]; rfl
  clear hk
  go_enter Tryz.func29, Tryz.ntmps29
  go_wp2_with fail
  refine (hnb _).mono ?_
  rintro e w' ⟨rfl, hw'⟩
  obtain rfl := hw'.symm
  clear hw' hnb d0
  go_wp2_with fail
  refine wp_region_held_drew (S := (fun w' => Below w.heap.size w w')) (by kernel_rfl) H0.2.2.1.drew (fun hHeld => ?_)
  refine dead_end [some 13, some 14, some 15, some 16, some 17, some 18, some 19, some 20, some 21, some 22, some 23, some 24, some 25, some 26, some 27, some 28, some 29, some 30, some 31, some 32, some 33, some 34, some 35, some 36, some 37, some 38, some 39, some 40, some 41, some 42, some 43, some 44, some 45, some 46, some 47, some 48, some 49, some 50, some 51, some 52, some 53, some 54, some 55, some 56, some 57, some 58, some 59, some 60, some 61, some 62, some 63, some 64, some 65, some 66, some 67, some 68, some 69, some 70, some 71, some 72, some 73, some 74, some 75, some 76, some 77, some 78, some 79, some 80, some 81, some 82, some 83, some 84, some 85, some 86, some 87, some 88, some 89, some 90, some 91, some 92, some 93, some 94, some 95, some 96, some 97, some 98, some 99, some 100, some 101, some 102, some 103, some 104, some 105, some 106, some 107, some 108, some 109, some 110, some 111, some 112, some 113, some 114, some 115, some 116, some 117, some 118, some 119, some 120, some 121, some 122, some 123, some 124, some 125, some 126, some 127, some 128, some 129, some 130, some 131, some 132, some 133, some 134, some 135, some 136, some 137, some 138, some 139, some 140, some 141, some 142, some 143, some 144, some 145, some 146, some 147, some 148, some 149, some 150, some 151, some 152, some 153, some 154, some 2] 142 2 (by kernel_rfl) (by kernel_rfl) (by decide) (by kernel_rfl) (by kernel_rfl) (by kernel_rfl) (by kernel_rfl) hHeld (fun a' ha hd => ?_)
  have hr := results_tmp Tryz.results29 a'.tmps Tryz.prog ((w.alloc (.cells (cmL c cv vv fv ea wa).toArray 31)).alloc (.cells #[.int .i64 0] 3)).drew
  rw [ha] at hr
  refine ‹∀ (a : Act) (w : World), Code.wp _ _ _ a w → _› _ _ ?_
  refine wp_ret ?_
  exact bodyPost_ret hr hd ⟨rfl, hHeld⟩

end Go.Proofs.YtkpeklealgicpabGreatDoor

namespace Go.Proofs.YtkpeklealgicpabGreatDoor
open Go.RowKit

def chkC (M R : Bool) : Int := if M = true then 2 else if R = true then 0 else 1

set_option maxRecDepth 100000 in
set_option maxHeartbeats 1600000 in
theorem checkC_any {w : World} (c : Cm) (cv vv fv ea wa : Value) (M R : Bool)
    (hm : ∀ W : World, Below w.heap.size w W → Calls Tryz.prog 28 #[.agg (cmL c cv vv fv ea wa).toArray] W fun e w' => e = .returned (.bool M) ∧ Below W.heap.size W w')
    (hr : ∀ W : World, Below w.heap.size w W → Calls Tryz.prog 29 #[.agg (cmL c cv vv fv ea wa).toArray] W fun e w' => e = .returned (.bool R) ∧ Below W.heap.size W w') :
    Calls Tryz.prog 12 #[.agg (cmL c cv vv fv ea wa).toArray] w fun e w' => e = .returned (.int .i64 (chkC M R)) ∧ Below w.heap.size w w' := by
  have b0 := (Below.refl w.heap.size w).alloc (Nat.le_refl _) (.cells (cmL c cv vv fv ea wa).toArray 31)
  have k0 : (w.alloc (.cells (cmL c cv vv fv ea wa).toArray 31)).heap[w.heap.size]? = some (.cells (cmL c cv vv fv ea wa).toArray 31) := heap_alloc_new _ _
  have hl : (cmL c cv vv fv ea wa).length = 26 := rfl
  generalize cmL c cv vv fv ea wa = cs at hm hr b0 k0 hl ⊢
  have hsz : (Tryz.prog.info? 31).map (·.size) = some cs.length := by rw [hl]; exact Tryz.size31
  cases M with
  | true =>
    go_enter Tryz.func12, Tryz.ntmps12
    go_wp2_with (refine wpList_load_whole 31 _ rfl rfl _ cs 31 _ rfl (by exact k0) Tryz.underlying31 rfl hsz ?_)
    refine (hm _ b0).mono ?_
    rintro e w1 ⟨rfl, b1⟩
    go_wp2
    go_ret
    exact ⟨rfl, b0.trans (b1.mono (by simp))⟩
  | false =>
    go_enter Tryz.func12, Tryz.ntmps12
    go_wp2_with (refine wpList_load_whole 31 _ rfl rfl _ cs 31 _ rfl (by exact k0) Tryz.underlying31 rfl hsz ?_)
    refine (hm _ b0).mono ?_
    rintro e w1 ⟨rfl, b1⟩
    have k1 := (b1.block w.heap.size (by simp)).trans k0
    have q1 : Below w.heap.size w w1 := b0.trans (b1.mono (by simp))
    clear k0 b0 b1 hm
    go_wp2_with (refine wpList_load_whole 31 _ rfl rfl _ cs 31 _ rfl (by exact k1) Tryz.underlying31 rfl hsz ?_)
    refine (hr _ q1).mono ?_
    rintro e w2 ⟨rfl, b2⟩
    have q2 : Below w.heap.size w w2 := q1.trans (b2.mono q1.size)
    cases R with
    | true =>
      go_wp2
      go_ret
      exact ⟨rfl, q2⟩
    | false =>
      go_wp2
      go_ret
      exact ⟨rfl, q2⟩

end Go.Proofs.YtkpeklealgicpabGreatDoor

namespace Go.Proofs.YtkpeklealgicpabGreatDoor
open Go.RowKit

section
variable (ops : Array Oper) (L0 : Array Bool) (a0 : Act) (V : Nat → Value)

/-- what is held of a state in mid-region: V j is what operation j leaves -/
structure RunAt (listed : Array Bool) (a : Act) : Prop where
  size : listed.size = ops.size
  defers : a.defers = a0.defers
  more : ∀ j, L0.getD j true = true → listed.getD j true = true
  new : ∀ j o d, ops[j]? = some o → L0.getD j true = false → listed.getD j true = true → o.dst = some d → a.tmps[d]? = some (V j)
  old : ∀ d, (∀ j o, ops[j]? = some o → L0.getD j true = false → o.dst ≠ some d) → a.tmps[d]? = a0.tmps[d]?
  frame : a.tmps.size = a0.tmps.size

/-- what is asked of the operations that are left -/
structure RunOk (P : Program) (md : Region.Mode) (Q : Exit → Act → World → Prop) (S : World → Prop) : Prop where
  size : L0.size = ops.size
  back : ∀ j o, ops[j]? = some o → L0.getD j true = false → ∀ e ∈ o.after, e.on < j
  dst : ∀ j o, ops[j]? = some o → L0.getD j true = false → ∃ d, o.dst = some d ∧ d < a0.tmps.size
  one : ∀ j k o p d, ops[j]? = some o → ops[k]? = some p → L0.getD j true = false → L0.getD k true = false → o.dst = some d → p.dst = some d → j = k
  runs : ∀ j o listed a w, ops[j]? = some o → L0.getD j true = false → RunAt ops L0 a0 V listed a → (∀ e ∈ o.after, Region.binds md e = true → listed.getD e.on false = true) → S w →
    ∀ K : Act → World → Prop, (∀ w', S w' → K (a.put o.dst (V j)) w') → wpOp P ops Q j K a w
end

theorem run_done {ops : Array Oper} {L0 listed : Array Bool} {a0 a : Act} {V : Nat → Value} {md : Region.Mode} (back : ∀ j o, ops[j]? = some o → L0.getD j true = false → ∀ e ∈ o.after, e.on < j) (hd : RunAt ops L0 a0 V listed a) (hr : Region.ready md ops listed = []) : ∀ j, j < ops.size → listed.getD j true = true := by
  intro j
  induction j using Nat.strongRecOn with
  | _ j ih =>
    intro hj
    apply Classical.byContradiction
    intro hn
    have hn' : listed.getD j true = false := by simpa using hn
    have h0 : L0.getD j true = false := by
      cases e : L0.getD j true
      · rfl
      · rw [hd.more j e] at hn'; cases hn'
    obtain ⟨o, ho⟩ : ∃ o, ops[j]? = some o := ⟨ops[j], Array.getElem?_eq_getElem hj⟩
    have hin : j ∈ Region.ready md ops listed := by
      unfold Region.ready
      rw [List.mem_filter]
      refine ⟨List.mem_range.2 hj, ?_⟩
      rw [hn', ho]
      simp only [Bool.not_false, Bool.true_and, Option.map_some, Option.getD_some, Array.all_eq_true_iff_forall_mem]
      intro e he
      have hlt := back j o ho h0 e he
      have hl := ih e.on hlt (by omega)
      have hs := hd.size
      have : listed.getD e.on false = true := by
        simp only [Array.getD, show e.on < listed.size by omega, dif_pos] at hl ⊢
        exact hl
      rw [this]; simp
    rw [hr] at hin
    cases hin

theorem run_region {P : Program} {md : Region.Mode} {ops : Array Oper} {Q : Exit → Act → World → Prop} {S : World → Prop} {L0 : Array Bool} {a0 : Act} {V : Nat → Value} (hk : RunOk ops L0 a0 V P md Q S)
    (hq : ∀ a' w', S w' → a'.defers = a0.defers → (∀ j o d, ops[j]? = some o → L0.getD j true = false → o.dst = some d → a'.tmps[d]? = some (V j)) → Q .normal a' w') :
    ∀ (fuel : Nat) (listed : Array Bool) (a : Act) (w : World), RunAt ops L0 a0 V listed a → S w → left ops listed ≤ fuel → wpAnyH P md ops Q S fuel listed a w := by
  have fin : ∀ listed a w, RunAt ops L0 a0 V listed a → S w → Region.ready md ops listed = [] → Q .normal a w := by
    intro listed a w hd hS hr
    refine hq a w hS hd.defers fun j o d hj h0 ho => hd.new j o d hj h0 ?_ ho
    exact run_done hk.back hd hr j (Array.getElem?_eq_some_iff.1 hj).1
  intro fuel
  induction fuel with
  | zero =>
    intro listed a w hd hS hl
    have hr : Region.ready md ops listed = [] := by
      cases hh : Region.ready md ops listed with
      | nil => rfl
      | cons i r =>
        exfalso
        have hi : i ∈ Region.ready md ops listed := by rw [hh]; simp
        unfold Region.ready at hi
        rw [List.mem_filter] at hi
        have hu : (!listed.getD i true) = true := by
          have := hi.2
          rw [Bool.and_eq_true] at this
          exact this.1
        have : 0 < left ops listed := List.countP_pos_iff.2 ⟨i, hi.1, hu⟩
        omega
    exact ⟨hr, fin listed a w hd hS hr⟩
  | succ fuel ih =>
    intro listed a w hd hS hl
    refine ⟨fin listed a w hd hS, fun i hi => ?_⟩
    unfold Region.ready at hi
    rw [List.mem_filter, Bool.and_eq_true] at hi
    obtain ⟨hir, hu, hall⟩ := hi
    have hisz := List.mem_range.1 hir
    have hu' : listed.getD i true = false := by simpa using hu
    have h0 : L0.getD i true = false := by
      cases e : L0.getD i true
      · rfl
      · rw [hd.more i e] at hu'; cases hu'
    obtain ⟨o, ho⟩ : ∃ o, ops[i]? = some o := ⟨ops[i], Array.getElem?_eq_getElem hisz⟩
    rw [ho] at hall
    simp only [Option.map_some, Option.getD_some, Array.all_eq_true_iff_forall_mem] at hall
    refine hk.runs i o listed a w ho h0 hd (fun e he hb => by
      have := hall e he
      rw [hb] at this
      simpa using this) hS _ (fun w' hS' => ⟨hS', ih _ _ _ ?_ hS' ?_⟩)
    · obtain ⟨d, hdst, hlt⟩ := hk.dst i o ho h0
      have hput : a.put o.dst (V i) = { a with tmps := a.tmps.setIfInBounds d (V i) } := by rw [hdst]; rfl
      have hget : ∀ j, (listed.setIfInBounds i true).getD j true = if j = i then true else listed.getD j true := by
        intro j
        by_cases e : j = i
        · subst e; rw [if_pos rfl]; simp [Array.getD]
        · rw [if_neg e]
          by_cases hj : j < listed.size
          · simp [Array.getD, hj, Ne.symm e]
          · simp [Array.getD, hj]
      rw [hput]
      refine ⟨by simpa using hd.size, hd.defers, ?_, ?_, ?_, by simpa using hd.frame⟩
      · intro j hj
        rw [hget]
        by_cases e : j = i
        · rw [if_pos e]
        · rw [if_neg e]; exact hd.more j hj
      · intro j p d' hj hj0 hl hpd
        rw [hget] at hl
        by_cases e : j = i
        · subst e
          rw [ho] at hj; cases hj
          rw [hdst] at hpd; cases hpd
          rw [Array.getElem?_setIfInBounds_self, if_pos (by rw [hd.frame]; exact hlt)]
        · rw [if_neg e] at hl
          have hne : d ≠ d' := by
            intro e2
            subst e2
            exact e (hk.one j i p o d hj ho hj0 h0 hpd hdst)
          rw [Array.getElem?_setIfInBounds_ne hne]
          exact hd.new j p d' hj hj0 hl hpd
      · intro d' hd'
        have hne : d ≠ d' := by
          intro e2
          subst e2
          exact hd' i o ho h0 hdst
        rw [Array.getElem?_setIfInBounds_ne hne]
        exact hd.old d' hd'
    · have hc := count_less (fun j => !listed.getD j true) i (by simpa using hu') (List.range ops.size) hir
      have e : left ops (listed.setIfInBounds i true) = (List.range ops.size).countP (fun j => !listed.getD j true && j != i) := by
        unfold left
        apply List.countP_congr
        intro j hj
        have hj' := List.mem_range.1 hj
        have hsz := hd.size
        by_cases e : j = i
        · subst e; simp [Array.getD, hsz, hj']
        · simp [Array.getD, hsz, hj', Ne.symm e, e]
      unfold left at hl
      omega

/-- the same region, its operations under another name -/
theorem wp_region_as {P : Program} {Q : Exit → Act → World → Prop} {a : Act} {w : World} {id : Nat} {ops : Array Oper} (ops' : Array Oper) {b : Bool} (e : ops = ops') (h : (Code.region id ops' b).wp P Q a w) : (Code.region id ops b).wp P Q a w := by
  rw [e]; exact h

/-- an operation that yields -/
theorem run_quiet {P : Program} {ops : Array Oper} {Q : Exit → Act → World → Prop} {S : World → Prop} {j : Nat} {o : Oper} {v : Value} {a : Act} {w : World} {K : Act → World → Prop} (hj : ops[j]? = some o) (hy : YieldsIf P ops S o v a) (hS : S w) (hK : ∀ w', S w' → K (a.put o.dst v) w') : wpOp P ops Q j K a w :=
  hy.wpOp hj hS (hK w hS)

/-- an operation that calls -/
theorem run_call {P : Program} {ops : Array Oper} {Q : Exit → Act → World → Prop} {S : World → Prop} {j : Nat} {o : Oper} {v : Value} {a : Act} {w : World} {K : Act → World → Prop} (f : FuncId) (args : Array Value) (hj : ops[j]? = some o) (hw : Region.wanted o (yielded ops a.tmps) = true)
    (he : (execOp a.eval o).run P w = .ok (.enter f args) w) (hc : Calls P f args w fun e w' => e = .returned v ∧ S w') (hK : ∀ w', S w' → K (a.put o.dst v) w') : wpOp P ops Q j K a w := by
  unfold wpOp
  rw [hj]
  simp only [hw, if_true]
  left
  unfold Oper.wp
  rw [he, Oper.upon_enter]
  refine hc.mono ?_
  rintro e w' ⟨rfl, hS⟩
  exact hK w' hS

/-- where a slot's value comes from: an operation ahead -/
theorem RunAt.slot {ops : Array Oper} {L0 listed : Array Bool} {a0 a : Act} {V : Nat → Value} {md : Region.Mode} {o : Oper} (hd : RunAt ops L0 a0 V listed a) (hl : ∀ e ∈ o.after, Region.binds md e = true → listed.getD e.on false = true) (k s : Nat)
    (hk : o.after.any (fun e => Region.binds md e && e.on == k) = true) (h0 : L0.getD k true = false) (hs : ((ops[k]?).bind (·.dst)) = some s) : a.tmps[s]? = some (V k) := by
  obtain ⟨e, he, hb⟩ := Array.any_eq_true'.1 hk
  rw [Bool.and_eq_true, beq_iff_eq] at hb
  have h1 := hl e he hb.1
  rw [hb.2] at h1
  cases hp : ops[k]? with
  | none => rw [hp] at hs; cases hs
  | some p =>
    rw [hp] at hs
    exact hd.new k p s hp h0 (listed_true h1) hs

/-- .. or what was there -/
theorem RunAt.base {ops : Array Oper} {L0 listed : Array Bool} {a0 a : Act} {V : Nat → Value} (hd : RunAt ops L0 a0 V listed a) (s : Nat) (h : noneB ops L0 s = true) : a.tmps[s]? = a0.tmps[s]? := by
  refine hd.old s fun j o hj h0 => ?_
  have hlt := (Array.getElem?_eq_some_iff.1 hj).1
  have := List.all_eq_true.1 h j (List.mem_range.2 hlt)
  rw [h0, hj] at this
  simpa using this

end Go.Proofs.YtkpeklealgicpabGreatDoor

namespace Go.Proofs.YtkpeklealgicpabGreatDoor
open Go.RowKit

/-- a region of a function, by its number -/
def regionOf (id : Nat) : Code → Option (Array Oper)
  | .region i ops _ => if i = id then some ops else none
  | .seq a b => (regionOf id a).or (regionOf id b)
  | .cond _ a b => (regionOf id a).or (regionOf id b)
  | .block _ a => regionOf id a
  | .loop a => regionOf id a
  | .scope a => regionOf id a
  | _ => none

noncomputable def rops : Array Oper := ((Tryz.f29.body).bind (regionOf 3)).getD #[]
noncomputable def opAt (j : Nat) : Oper := (rops[j]?).getD ⟨none, .move (.const undef), 0, "", #[], none⟩

section
variable {P : Program} {ρ : Operand → Value} {o : Oper} {W : World}
theorem ex_move {x : Operand} (ho : o.op = .move x) {v : Value} (hx : ρ x = v) : (execOp ρ o).run P W = .ok (.value v) W := by simp [execOp, ho, hx]
theorem ex_assign {x : Operand} (ho : o.op = .assign x) {v : Value} (hx : ρ x = v) : (execOp ρ o).run P W = .ok (.value v) W := by simp [execOp, ho, hx]
theorem ex_pick {c x y : Operand} (ho : o.op = .pick c x y) {b : Bool} (hc : ρ c = .bool b) : (execOp ρ o).run P W = .ok (.value (if b = true then ρ x else ρ y)) W := by simp [execOp, ho, hc, asBool]
theorem ex_load {t : TypeId} {x : Operand} (ho : o.op = .load t x) {p v : Value} (hx : ρ x = p) (hr : (Instr.loadAt t p).run P W = .ok v W) : (execOp ρ o).run P W = .ok (.value v) W := by simp [execOp, ho, hx, hr]
theorem ex_bin {op : BinOp} {t u : TypeId} {x y : Operand} (ho : o.op = .binOp op t x y u) {p q v : Value} (hx : ρ x = p) (hy : ρ y = q) (hr : (do eqGuard op t x y p q; binOp op t p q : Sem Value).run P W = .ok v W) : (execOp ρ o).run P W = .ok (.value v) W := by
  have e : execOp ρ o = (do pure (.value (← (do eqGuard op t x y p q; binOp op t p q : Sem Value)))) := by simp only [execOp, ho, hx, hy]
  rw [e, Sem.run_bind, hr]; rfl
theorem ex_un {op : UnOp} {t : TypeId} {x : Operand} (ho : o.op = .unOp op t x) {p v : Value} (hx : ρ x = p) (hr : (Op.unary op p).run P W = .ok v W) : (execOp ρ o).run P W = .ok (.value v) W := by simp [execOp, ho, hx, hr]
end

theorem ld9 (W : World) (b o : Nat) (s : ByteArray) (h : W.cell? ⟨b, o, none⟩ = some (.string s)) : (Instr.loadAt 9 (.pointer (some ⟨b, o, none⟩))).run Tryz.prog W = .ok (.string s) W := by go_simp
theorem ld3 (W : World) (b o : Nat) (n : Int) (h : W.cell? ⟨b, o, none⟩ = some (.int .i64 n)) : (Instr.loadAt 3 (.pointer (some ⟨b, o, none⟩))).run Tryz.prog W = .ok (.int .i64 n) W := by go_simp
theorem ld4 (W : World) (b o : Nat) (n : Bool) (h : W.cell? ⟨b, o, none⟩ = some (.bool n)) : (Instr.loadAt 4 (.pointer (some ⟨b, o, none⟩))).run Tryz.prog W = .ok (.bool n) W := by go_simp
theorem ld22 (W : World) (b o : Nat) (v : Value) (h : W.cell? ⟨b, o, none⟩ = some v) : (Instr.loadAt 22 (.pointer (some ⟨b, o, none⟩))).run Tryz.prog W = .ok v W := by go_simp
theorem ld25 (W : World) (b o : Nat) (v : Value) (h : W.cell? ⟨b, o, none⟩ = some v) : (Instr.loadAt 25 (.pointer (some ⟨b, o, none⟩))).run Tryz.prog W = .ok v W := by go_simp
theorem ld26 (W : World) (b o : Nat) (v : Value) (h : W.cell? ⟨b, o, none⟩ = some v) : (Instr.loadAt 26 (.pointer (some ⟨b, o, none⟩))).run Tryz.prog W = .ok v W := by go_simp
theorem ld24 (W : World) (b o : Nat) (x y z : Value) (h : W.cell? ⟨b, o, none⟩ = some x) (h1 : W.cell? ⟨b, o + 1, none⟩ = some y) (h2 : W.cell? ⟨b, o + 2, none⟩ = some z) : (Instr.loadAt 24 (.pointer (some ⟨b, o, none⟩))).run Tryz.prog W = .ok (.agg #[x, y, z]) W := by go_simp
theorem rops_size : rops.size = 143 := by kernel_rfl

end Go.Proofs.YtkpeklealgicpabGreatDoor

namespace Go.Proofs.YtkpeklealgicpabGreatDoor
open Go.RowKit

section
variable {P : Program} {ρ : Operand → Value} {o : Oper} {W : World}
theorem ex_field {t : TypeId} {x : Operand} {f : Nat} (ho : o.op = .fieldAddr t x f) {p v : Value} (hx : ρ x = p) (hr : (Instr.fieldAt t p f).run P W = .ok v W) : (execOp ρ o).run P W = .ok (.value v) W := by simp [execOp, ho, hx, hr]
theorem ex_call1 {f : FuncId} (hf : ∀ args W, (callFunc f args).run P W = .ok (.enter f args) W) {x : Operand} {ts : Array TypeId} (ho : o.op = .call { callee := .value (.func f), args := #[x], argTypes := ts }) {p : Value} (hρ : ρ (.func f) = .func (.func f) #[] #[]) (hx : ρ x = p) : (execOp ρ o).run P W = .ok (.enter f #[p]) W := by
  simp [execOp, ho, resolve, hρ, hx, invoke, go_sem, hf]
theorem ex_call2 {f : FuncId} (hf : ∀ args W, (callFunc f args).run P W = .ok (.enter f args) W) {x y : Operand} {ts : Array TypeId} (ho : o.op = .call { callee := .value (.func f), args := #[x, y], argTypes := ts }) {p q : Value} (hρ : ρ (.func f) = .func (.func f) #[] #[]) (hx : ρ x = p) (hy : ρ y = q) : (execOp ρ o).run P W = .ok (.enter f #[p, q]) W := by
  simp [execOp, ho, resolve, hρ, hx, hy, invoke, go_sem, hf]
theorem ex_is {f : FuncId} (hf : ∀ args W, (callFunc f args).run P W = .ok (.enter f args) W) {t x y z : Operand} {ts : Array TypeId} (ho : o.op = .call { callee := .value t, args := #[x, y, z], argTypes := ts }) {p q r n : Value} (ht : ρ t = .func (.func f) #[] #[n]) (hx : ρ x = p) (hy : ρ y = q) (hz : ρ z = r) : (execOp ρ o).run P W = .ok (.enter f #[p, q, r, n]) W := by
  simp [execOp, ho, resolve, ht, hx, hy, hz, invoke, go_sem, hf]
theorem ex_len {x : Operand} {ts : Array TypeId} (ho : o.op = .call { callee := .builtin .len, args := #[x], argTypes := ts }) {a : Option Addr} {n c : Nat} (hl : ∀ ty, (Builtin.len_ ts ty #[.slice a n c]).run P W = .ok (.int .i64 (n : Int)) W) (hx : ρ x = .slice a n c) : (execOp ρ o).run P W = .ok (.value (.int .i64 (n : Int))) W := by
  simp [execOp, ho, resolve, hx, invoke, go_sem, hl]
end

theorem eval_tmp {a : Act} {s : Nat} {v : Value} (h : a.tmps[s]? = some v) : a.eval (.tmp s) = v := by simp [Act.eval, h]
theorem wanted_none {o : Oper} {y : Nat → Option Bool} (h : o.guard = none) : Region.wanted o y = true := by simp [Region.wanted, h]
theorem wanted_some {o : Oper} {ops : Array Oper} {tm : Array Value} {g d : Nat} {b c : Bool} (h : o.guard = some (g, b)) (hd : (ops[g]?).bind (·.dst) = some d) (ht : tm[d]? = some (.bool c)) : Region.wanted o (yielded ops tm) = (c == b) := by
  simp only [Region.wanted, h, yielded, hd, Option.bind_some, ht]
  cases c <;> cases b <;> rfl
theorem wanted_undef {o : Oper} {ops : Array Oper} {tm : Array Value} {g d : Nat} {b : Bool} (h : o.guard = some (g, b)) (hd : (ops[g]?).bind (·.dst) = some d) (ht : tm[d]? = some undef) : Region.wanted o (yielded ops tm) = false := by
  simp only [Region.wanted, h, yielded, hd, Option.bind_some, ht, undef]
  cases b <;> rfl
theorem fa1 (W : World) (b : Nat) : (Instr.fieldAt 31 (.pointer (some ⟨b, 0, none⟩)) 1).run Tryz.prog W = .ok (.pointer (some ⟨b, 1, none⟩)) W := by go_simp
theorem fa2 (W : World) (b : Nat) : (Instr.fieldAt 31 (.pointer (some ⟨b, 0, none⟩)) 2).run Tryz.prog W = .ok (.pointer (some ⟨b, 2, none⟩)) W := by go_simp
theorem fa3 (W : World) (b : Nat) : (Instr.fieldAt 31 (.pointer (some ⟨b, 0, none⟩)) 3).run Tryz.prog W = .ok (.pointer (some ⟨b, 3, none⟩)) W := by go_simp
theorem fa4 (W : World) (b : Nat) : (Instr.fieldAt 31 (.pointer (some ⟨b, 0, none⟩)) 4).run Tryz.prog W = .ok (.pointer (some ⟨b, 4, none⟩)) W := by go_simp
theorem fa5 (W : World) (b : Nat) : (Instr.fieldAt 31 (.pointer (some ⟨b, 0, none⟩)) 5).run Tryz.prog W = .ok (.pointer (some ⟨b, 5, none⟩)) W := by go_simp
theorem fa6 (W : World) (b : Nat) : (Instr.fieldAt 31 (.pointer (some ⟨b, 0, none⟩)) 6).run Tryz.prog W = .ok (.pointer (some ⟨b, 6, none⟩)) W := by go_simp
theorem fa7 (W : World) (b : Nat) : (Instr.fieldAt 31 (.pointer (some ⟨b, 0, none⟩)) 7).run Tryz.prog W = .ok (.pointer (some ⟨b, 9, none⟩)) W := by go_simp
theorem fa8 (W : World) (b : Nat) : (Instr.fieldAt 31 (.pointer (some ⟨b, 0, none⟩)) 8).run Tryz.prog W = .ok (.pointer (some ⟨b, 10, none⟩)) W := by go_simp
theorem fa9 (W : World) (b : Nat) : (Instr.fieldAt 31 (.pointer (some ⟨b, 0, none⟩)) 9).run Tryz.prog W = .ok (.pointer (some ⟨b, 11, none⟩)) W := by go_simp
theorem fa10 (W : World) (b : Nat) : (Instr.fieldAt 31 (.pointer (some ⟨b, 0, none⟩)) 10).run Tryz.prog W = .ok (.pointer (some ⟨b, 17, none⟩)) W := by go_simp
theorem fa11 (W : World) (b : Nat) : (Instr.fieldAt 31 (.pointer (some ⟨b, 0, none⟩)) 11).run Tryz.prog W = .ok (.pointer (some ⟨b, 18, none⟩)) W := by go_simp
theorem fa12 (W : World) (b : Nat) : (Instr.fieldAt 31 (.pointer (some ⟨b, 0, none⟩)) 12).run Tryz.prog W = .ok (.pointer (some ⟨b, 24, none⟩)) W := by go_simp
theorem fa13 (W : World) (b : Nat) : (Instr.fieldAt 31 (.pointer (some ⟨b, 0, none⟩)) 13).run Tryz.prog W = .ok (.pointer (some ⟨b, 25, none⟩)) W := by go_simp
theorem ld29 (W : World) (b o : Nat) (x0 x1 x2 x3 x4 x5 : Value) (h : W.cell? ⟨b, o, none⟩ = some x0) (h1 : W.cell? ⟨b, o + 1, none⟩ = some x1) (h2 : W.cell? ⟨b, o + 2, none⟩ = some x2) (h3 : W.cell? ⟨b, o + 3, none⟩ = some x3) (h4 : W.cell? ⟨b, o + 4, none⟩ = some x4) (h5 : W.cell? ⟨b, o + 5, none⟩ = some x5) : (Instr.loadAt 29 (.pointer (some ⟨b, o, none⟩))).run Tryz.prog W = .ok (.agg #[x0, x1, x2, x3, x4, x5]) W := by go_simp
theorem eq9 (W : World) (x y : Operand) (l : List UInt8) : (do eqGuard .eql 9 x y (.string ⟨l.toArray⟩) (.string ⟨#[]⟩); binOp .eql 9 (.string ⟨l.toArray⟩) (.string ⟨#[]⟩) : Sem Value).run Tryz.prog W = .ok (.bool (decide (l = []))) W := by
  have e : l.isEmpty = decide (l = []) := by cases l <;> simp
  rw [← e]
  go_simp
theorem eq3 (W : World) (x y : Operand) (n : Int) : (do eqGuard .eql 3 x y (.int .i64 n) (.int .i64 0); binOp .eql 3 (.int .i64 n) (.int .i64 0) : Sem Value).run Tryz.prog W = .ok (.bool (decide (n = 0))) W := by
  have e : (n == 0) = decide (n = 0) := by rw [Bool.eq_iff_iff]; simp
  rw [← e]
  go_simp
theorem eq24 (W : World) (x y : Operand) (v : Vl) : (do eqGuard .eql 24 x y (.agg #[.int .i64 v.k, .int .i64 v.n, .string ⟨v.s.toArray⟩]) (.agg #[.int .i64 0, .int .i64 0, .string ⟨#[]⟩]); binOp .eql 24 (.agg #[.int .i64 v.k, .int .i64 v.n, .string ⟨v.s.toArray⟩]) (.agg #[.int .i64 0, .int .i64 0, .string ⟨#[]⟩]) : Sem Value).run Tryz.prog W = .ok (.bool (noneV v)) W := by
  unfold noneV
  go_simp
  by_cases h1 : v.k = 0 <;> by_cases h2 : v.n = 0 <;> by_cases h3 : v.s = [] <;> simp [h1, h2, h3]
theorem geq3 (W : World) (x y : Operand) (n : Int) : (do eqGuard .geq 3 x y (.int .i64 n) (.int .i64 (-1)); binOp .geq 3 (.int .i64 n) (.int .i64 (-1)) : Sem Value).run Tryz.prog W = .ok (.bool (decide (-1 ≤ n))) W := by go_simp
theorem leq3 (W : World) (x y : Operand) (n : Int) : (do eqGuard .leq 3 x y (.int .i64 n) (.int .i64 999999999); binOp .leq 3 (.int .i64 n) (.int .i64 999999999) : Sem Value).run Tryz.prog W = .ok (.bool (decide (n ≤ 999999999))) W := by go_simp
theorem not4 (W : World) (b : Bool) : (Op.unary .not (.bool b)).run Tryz.prog W = .ok (.bool (!b)) W := by go_simp
theorem ex_build24 {ρ : Operand → Value} {o : Oper} {W : World} (ho : o.op = .build 24 #[]) : (execOp ρ o).run Tryz.prog W = .ok (.value (.agg #[.int .i64 0, .int .i64 0, .string ⟨#[]⟩])) W := by
  simp only [execOp, ho]
  go_simp

theorem cf71 (args : Array Value) (W : World) : (callFunc 71 args).run Tryz.prog W = .ok (.enter 71 args) W := by go_simp
theorem cf72 (args : Array Value) (W : World) : (callFunc 72 args).run Tryz.prog W = .ok (.enter 72 args) W := by go_simp
theorem cf73 (args : Array Value) (W : World) : (callFunc 73 args).run Tryz.prog W = .ok (.enter 73 args) W := by go_simp
theorem cf74 (args : Array Value) (W : World) : (callFunc 74 args).run Tryz.prog W = .ok (.enter 74 args) W := by go_simp
theorem cf75 (args : Array Value) (W : World) : (callFunc 75 args).run Tryz.prog W = .ok (.enter 75 args) W := by go_simp
theorem cf76 (args : Array Value) (W : World) : (callFunc 76 args).run Tryz.prog W = .ok (.enter 76 args) W := by go_simp
theorem cf77 (args : Array Value) (W : World) : (callFunc 77 args).run Tryz.prog W = .ok (.enter 77 args) W := by go_simp
theorem cf78 (args : Array Value) (W : World) : (callFunc 78 args).run Tryz.prog W = .ok (.enter 78 args) W := by go_simp
theorem cf79 (args : Array Value) (W : World) : (callFunc 79 args).run Tryz.prog W = .ok (.enter 79 args) W := by go_simp
theorem cf80 (args : Array Value) (W : World) : (callFunc 80 args).run Tryz.prog W = .ok (.enter 80 args) W := by go_simp
theorem len22 (W : World) (a : Option Addr) (n c : Nat) (ty : TypeId) : (Builtin.len_ #[22] ty #[.slice a n c]).run Tryz.prog W = .ok (.int .i64 (n : Int)) W := by go_simp
theorem len25 (W : World) (a : Option Addr) (n c : Nat) (ty : TypeId) : (Builtin.len_ #[25] ty #[.slice a n c]).run Tryz.prog W = .ok (.int .i64 (n : Int)) W := by go_simp
theorem len26 (W : World) (a : Option Addr) (n c : Nat) (ty : TypeId) : (Builtin.len_ #[26] ty #[.slice a n c]).run Tryz.prog W = .ok (.int .i64 (n : Int)) W := by go_simp

end Go.Proofs.YtkpeklealgicpabGreatDoor

namespace Go.Proofs.YtkpeklealgicpabGreatDoor
open Go.RowKit

theorem run_whole {P : Program} {md : Region.Mode} {ops : Array Oper} {Q : Exit → Act → World → Prop} {S : World → Prop} {L0 : Array Bool} {a0 : Act} {V : Nat → Value} (hk : RunOk ops L0 a0 V P md Q S)
    (hq : ∀ listed a' w', S w' → RunAt ops L0 a0 V listed a' → (∀ j, j < ops.size → listed.getD j true = true) → Q .normal a' w') :
    ∀ (fuel : Nat) (listed : Array Bool) (a : Act) (w : World), RunAt ops L0 a0 V listed a → S w → left ops listed ≤ fuel → wpAnyH P md ops Q S fuel listed a w := by
  have fin : ∀ listed a w, RunAt ops L0 a0 V listed a → S w → Region.ready md ops listed = [] → Q .normal a w := by
    intro listed a w hd hS hr
    exact hq listed a w hS hd (run_done hk.back hd hr)
  intro fuel
  induction fuel with
  | zero =>
    intro listed a w hd hS hl
    have hr : Region.ready md ops listed = [] := by
      cases hh : Region.ready md ops listed with
      | nil => rfl
      | cons i r =>
        exfalso
        have hi : i ∈ Region.ready md ops listed := by rw [hh]; simp
        unfold Region.ready at hi
        rw [List.mem_filter] at hi
        have hu : (!listed.getD i true) = true := by
          have := hi.2
          rw [Bool.and_eq_true] at this
          exact this.1
        have : 0 < left ops listed := List.countP_pos_iff.2 ⟨i, hi.1, hu⟩
        omega
    exact ⟨hr, fin listed a w hd hS hr⟩
  | succ fuel ih =>
    intro listed a w hd hS hl
    refine ⟨fin listed a w hd hS, fun i hi => ?_⟩
    unfold Region.ready at hi
    rw [List.mem_filter, Bool.and_eq_true] at hi
    obtain ⟨hir, hu, hall⟩ := hi
    have hisz := List.mem_range.1 hir
    have hu' : listed.getD i true = false := by simpa using hu
    have h0 : L0.getD i true = false := by
      cases e : L0.getD i true
      · rfl
      · rw [hd.more i e] at hu'; cases hu'
    obtain ⟨o, ho⟩ : ∃ o, ops[i]? = some o := ⟨ops[i], Array.getElem?_eq_getElem hisz⟩
    rw [ho] at hall
    simp only [Option.map_some, Option.getD_some, Array.all_eq_true_iff_forall_mem] at hall
    refine hk.runs i o listed a w ho h0 hd (fun e he hb => by
      have := hall e he
      rw [hb] at this
      simpa using this) hS _ (fun w' hS' => ⟨hS', ih _ _ _ ?_ hS' ?_⟩)
    · obtain ⟨d, hdst, hlt⟩ := hk.dst i o ho h0
      have hput : a.put o.dst (V i) = { a with tmps := a.tmps.setIfInBounds d (V i) } := by rw [hdst]; rfl
      have hget : ∀ j, (listed.setIfInBounds i true).getD j true = if j = i then true else listed.getD j true := by
        intro j
        by_cases e : j = i
        · subst e; rw [if_pos rfl]; simp [Array.getD]
        · rw [if_neg e]
          by_cases hj : j < listed.size
          · simp [Array.getD, hj, Ne.symm e]
          · simp [Array.getD, hj]
      rw [hput]
      refine ⟨by simpa using hd.size, hd.defers, ?_, ?_, ?_, by simpa using hd.frame⟩
      · intro j hj
        rw [hget]
        by_cases e : j = i
        · rw [if_pos e]
        · rw [if_neg e]; exact hd.more j hj
      · intro j p d' hj hj0 hl hpd
        rw [hget] at hl
        by_cases e : j = i
        · subst e
          rw [ho] at hj; cases hj
          rw [hdst] at hpd; cases hpd
          rw [Array.getElem?_setIfInBounds_self, if_pos (by rw [hd.frame]; exact hlt)]
        · rw [if_neg e] at hl
          have hne : d ≠ d' := by
            intro e2
            subst e2
            exact e (hk.one j i p o d hj ho hj0 h0 hpd hdst)
          rw [Array.getElem?_setIfInBounds_ne hne]
          exact hd.new j p d' hj hj0 hl hpd
      · intro d' hd'
        have hne : d ≠ d' := by
          intro e2
          subst e2
          exact hd' i o ho h0 hdst
        rw [Array.getElem?_setIfInBounds_ne hne]
        exact hd.old d' hd'
    · have hc := count_less (fun j => !listed.getD j true) i (by simpa using hu') (List.range ops.size) hir
      have e : left ops (listed.setIfInBounds i true) = (List.range ops.size).countP (fun j => !listed.getD j true && j != i) := by
        unfold left
        apply List.countP_congr
        intro j hj
        have hj' := List.mem_range.1 hj
        have hsz := hd.size
        by_cases e : j = i
        · subst e; simp [Array.getD, hsz, hj']
        · simp [Array.getD, hsz, hj', Ne.symm e, e]
      unfold left at hl
      omega


/-- a value that is there where a guard lets it be -/
def gw (p : Bool) (v : Value) : Value := if p = true then v else undef
theorem gw_of {p : Bool} {v : Value} (h : p = true) : gw p v = v := by rw [gw, if_pos h]
theorem gw_no {p : Bool} {v : Value} (h : p = false) : gw p v = undef := by rw [gw, h]; rfl
/-- guards: of a value that itself may be missing -/
theorem wanted_gw {o : Oper} {ops : Array Oper} {tm : Array Value} {g d : Nat} {b G c : Bool} (h : o.guard = some (g, b)) (hd : (ops[g]?).bind (·.dst) = some d) (ht : tm[d]? = some (gw G (.bool c))) : Region.wanted o (yielded ops tm) = (G && (c == b)) := by
  cases G with
  | true =>
    rw [gw_of rfl] at ht
    simp only [Region.wanted, h, yielded, hd, Option.bind_some, ht]
    cases c <;> cases b <;> rfl
  | false =>
    rw [gw_no rfl] at ht
    simp only [Region.wanted, h, yielded, hd, Option.bind_some, ht, undef]
    cases b <;> rfl
theorem pick_and {G c x : Bool} (h : G = true) : (if c = true then gw (G && (c == true)) (.bool x) else .bool false) = (.bool (c && x) : Value) := by
  subst h; cases c <;> cases x <;> rfl
theorem pick_or {G c x : Bool} (h : G = true) : (if c = true then (.bool true : Value) else gw (G && (c == false)) (.bool x)) = .bool (c || x) := by
  subst h; cases c <;> cases x <;> rfl
/-- what is asked of an operation -/
def ObR (P : Program) (R : Array Oper) (n : Nat) (a0 : Act) (V : Nat → Value) (Q : Exit → Act → World → Prop) (S : World → Prop) (j : Nat) : Prop :=
  ∀ o listed a W, R[j]? = some o → RunAt R (Array.replicate n false) a0 V listed a → (∀ e ∈ o.after, Region.binds .any e = true → listed.getD e.on false = true) → S W →
    ∀ K : Act → World → Prop, (∀ w', S w' → K (a.put o.dst (V j)) w') → wpOp P R Q j K a W
theorem upto_succ {p : Nat → Prop} {n : Nat} (h : ∀ j, j < n → p j) (hn : p n) : ∀ j, j < n + 1 → p j := fun j hj => by
  by_cases e : j = n
  · exact e ▸ hn
  · exact h j (by omega)
def backR (ops : Array Oper) (n : Nat) : Bool := (List.range ops.size).all fun j => match ops[j]? with
  | some o => o.after.all (fun e => decide (e.on < j)) && (match o.dst with | some d => decide (d < n) | none => false)
  | none => true

theorem run_ok_of {P : Program} {R : Array Oper} {n m : Nat} {dls : List (Option Tmp)} {a0 : Act} {V : Nat → Value} {Q : Exit → Act → World → Prop} {S : World → Prop} (hsz : R.size = n) (hb : backR R m = true) (hdl : R.toList.map (·.dst) = dls) (hnd : dls.Nodup) (ha : a0.tmps.size = m)
    (hob : ∀ j, j < n → ObR P R n a0 V Q S j) : RunOk R (Array.replicate n false) a0 V P .any Q S := by
  have each : ∀ (j : Nat) (o : Oper), R[j]? = some o → o.after.all (fun e => decide (e.on < j)) = true ∧ (match o.dst with | some d => decide (d < m) | none => false) = true := by
    intro j o hj
    have hlt := (Array.getElem?_eq_some_iff.1 hj).1
    have := List.all_eq_true.1 hb j (List.mem_range.2 hlt)
    rw [hj] at this
    simpa only [Bool.and_eq_true] using this
  refine ⟨by rw [hsz]; simp, ?_, ?_, ?_, ?_⟩
  · intro j o hj _ e he
    have := Array.all_eq_true_iff_forall_mem.1 (each j o hj).1 e he
    simpa using this
  · intro j o hj _
    have := (each j o hj).2
    cases hd : o.dst with
    | none => rw [hd] at this; cases this
    | some d => rw [hd] at this; exact ⟨d, rfl, by rw [ha]; simpa using this⟩
  · intro j k o p d hj hk _ _ hod hpd
    have at' : ∀ (i : Nat) (q : Oper), R[i]? = some q → dls[i]? = some q.dst := by
      intro i q hq
      rw [← hdl, List.getElem?_map, Array.getElem?_toList, hq]; rfl
    have e1 := at' j o hj
    have e2 := at' k p hk
    rw [hod] at e1
    rw [hpd] at e2
    exact (List.getElem?_inj (List.getElem?_eq_some_iff.1 e1).1 hnd).1 (e1.trans e2.symm)
  · intro j o listed a W hj _ hd hl hS K hK
    have hlt := (Array.getElem?_eq_some_iff.1 hj).1
    rw [hsz] at hlt
    exact hob j hlt o listed a W hj hd hl hS K hK

/-- slots, one after another -/
def putL (T : List Value) : List (Option Tmp × Value) → List Value
  | [] => T
  | (some d, v) :: r => putL (T.set d v) r
  | (none, _) :: r => putL T r
theorem putL_length : ∀ (ps : List (Option Tmp × Value)) (T : List Value), (putL T ps).length = T.length := by
  intro ps
  induction ps with
  | nil => intro T; rfl
  | cons p r ih =>
    obtain ⟨d, v⟩ := p
    intro T
    cases d with
    | none => exact ih T
    | some d => rw [putL, ih]; simp
theorem putL_old : ∀ (ps : List (Option Tmp × Value)) (T : List Value) (d : Nat), (∀ p ∈ ps, p.1 ≠ some d) → (putL T ps)[d]? = T[d]? := by
  intro ps
  induction ps with
  | nil => intro T d _; rfl
  | cons p r ih =>
    obtain ⟨e, v⟩ := p
    intro T d h
    cases e with
    | none => exact ih T d fun q hq => h q (List.mem_cons_of_mem _ hq)
    | some e =>
      rw [putL, ih _ d fun q hq => h q (List.mem_cons_of_mem _ hq)]
      have : e ≠ d := fun h2 => h (some e, v) List.mem_cons_self (by rw [h2])
      rw [List.getElem?_set_ne this]
theorem putL_new : ∀ (ps : List (Option Tmp × Value)) (T : List Value) (d : Nat) (v : Value), (ps.map (·.1)).Nodup → (some d, v) ∈ ps → d < T.length → (putL T ps)[d]? = some v := by
  intro ps
  induction ps with
  | nil => intro T d v _ h; cases h
  | cons p r ih =>
    obtain ⟨e, u⟩ := p
    intro T d v hn hm hd
    rw [List.map_cons, List.nodup_cons] at hn
    rcases List.mem_cons.1 hm with h | h
    · cases h
      rw [putL, putL_old]
      · rw [List.getElem?_set_self hd]
      · intro q hq hq2
        exact hn.1 (List.mem_map.2 ⟨q, hq, hq2⟩)
    · cases e with
      | none => exact ih T d v hn.2 h hd
      | some e => rw [putL]; exact ih _ d v hn.2 h (by simpa using hd)

/-- the whole frame behind such a region -/
theorem run_frame {R : Array Oper} {n : Nat} {dls : List (Option Tmp)} {a0 a' : Act} {V : Nat → Value} {listed : Array Bool} (hsz : R.size = n) (hdl : R.toList.map (·.dst) = dls) (hnd : dls.Nodup) (hlt : ∀ d, some d ∈ dls → d < a0.tmps.size)
    (hd : RunAt R (Array.replicate n false) a0 V listed a') (hall : ∀ j, j < R.size → listed.getD j true = true) : a' = { tmps := (putL a0.tmps.toList (dls.zip ((List.range n).map V))).toArray, defers := a0.defers } := by
  have hdn : dls.length = n := by rw [← hdl]; simp [hsz]
  have hfst : (dls.zip ((List.range n).map V)).map (·.1) = dls := by
    rw [List.map_fst_zip]; simp [hdn]
  have h0 : ∀ j, j < n → (Array.replicate n false).getD j true = false := by intro j hj; simp [Array.getD, hj]
  have ht : a'.tmps = (putL a0.tmps.toList (dls.zip ((List.range n).map V))).toArray := by
    apply Array.ext_getElem?
    intro i
    suffices h : a'.tmps[i]? = (putL a0.tmps.toList (dls.zip ((List.range n).map V)))[i]? by rw [h]; simp
    by_cases hi : some i ∈ dls
    · obtain ⟨j, hj⟩ := List.getElem?_of_mem hi
      have hjn : j < n := by have := (List.getElem?_eq_some_iff.1 hj).1; omega
      have hjo : ∃ o, R[j]? = some o := ⟨R[j], Array.getElem?_eq_getElem (by omega)⟩
      obtain ⟨o, ho⟩ := hjo
      have hod : o.dst = some i := by
        have : dls[j]? = some o.dst := by rw [← hdl, List.getElem?_map, Array.getElem?_toList, ho]; rfl
        rw [hj] at this
        exact (Option.some.inj this).symm
      rw [hd.new j o i ho (h0 j hjn) (hall j (by omega)) hod]
      refine (putL_new _ _ i (V j) (by rw [hfst]; exact hnd) ?_ (by simpa using hlt i hi)).symm
      refine List.mem_of_getElem? (i := j) ?_
      rw [List.getElem?_zip_eq_some]
      exact ⟨hj, by simp [hjn]⟩
    · rw [hd.old i (fun j o hj _ hod => hi ?_), putL_old]
      · rw [Array.getElem?_toList]
      · intro p hp hpi
        exact hi (hfst ▸ List.mem_map.2 ⟨p, hp, hpi⟩)
      · have : dls[j]? = some o.dst := by rw [← hdl, List.getElem?_map, Array.getElem?_toList, hj]; rfl
        rw [hod] at this
        exact List.mem_of_getElem? this
  cases a'
  simp only [Act.mk.injEq]
  exact ⟨ht, hd.defers⟩

/-- such a region, whole -/
theorem wp_run {P : Program} {R : Array Oper} {n m : Nat} {dls : List (Option Tmp)} {a0 : Act} {V : Nat → Value} {Q : Exit → Act → World → Prop} {S : World → Prop} {id : Nat} {w : World} (hm : P.follows .mixedOrders = true) (hsz : R.size = n) (hb : backR R m = true) (hdl : R.toList.map (·.dst) = dls) (hnd : dls.Nodup) (ha : a0.tmps.size = m)
    (hob : ∀ j, j < n → ObR P R n a0 V Q S j) (hS : S w.drew)
    (hq : ∀ w', S w' → Q .normal { tmps := (putL a0.tmps.toList (dls.zip ((List.range n).map V))).toArray, defers := a0.defers } w') : (Code.region id R true).wp P Q a0 w := by
  have hlt : ∀ d, some d ∈ dls → d < a0.tmps.size := by
    intro d hd
    obtain ⟨j, hj⟩ := List.getElem?_of_mem hd
    have hk := run_ok_of hsz hb hdl hnd ha hob
    have hjn : j < R.size := by have := (List.getElem?_eq_some_iff.1 hj).1; rw [← hdl] at this; simpa using this
    have ho : R[j]? = some R[j] := Array.getElem?_eq_getElem hjn
    obtain ⟨d', h1, h2⟩ := hk.dst j _ ho (by simp [Array.getD]; omega)
    have : dls[j]? = some (R[j]).dst := by rw [← hdl, List.getElem?_map, Array.getElem?_toList, ho]; rfl
    rw [hj, h1] at this
    cases this
    exact h2
  refine wp_region_held_drew (S := S) hm hS (fun hHeld => ?_)
  rw [hsz]
  refine run_whole (V := V) (run_ok_of hsz hb hdl hnd ha hob) ?_ _ _ _ _ ⟨by rw [hsz]; simp, rfl, fun _ h => h, fun j o d _ h1 h2 _ => (by rw [h1] at h2; cases h2), fun _ _ => rfl, rfl⟩ hHeld ?_
  · intro listed a' w' hS' hd hall
    rw [run_frame hsz hdl hnd hlt hd hall]
    exact hq w' hS'
  · unfold left
    rw [hsz]
    exact Nat.le_trans List.countP_le_length (by simp)

theorem frame_at {T : List Value} {dls : List (Option Tmp)} {n : Nat} {V : Nat → Value} (hnd : dls.Nodup) (hl : dls.length = n) (j d : Nat) (hj : dls[j]? = some (some d)) (hd : d < T.length) : (putL T (dls.zip ((List.range n).map V)))[d]? = some (V j) := by
  have hfst : (dls.zip ((List.range n).map V)).map (·.1) = dls := by
    rw [List.map_fst_zip]; simp [hl]
  have hjn : j < n := by have := (List.getElem?_eq_some_iff.1 hj).1; omega
  refine putL_new _ _ d (V j) (by rw [hfst]; exact hnd) ?_ hd
  refine List.mem_of_getElem? (i := j) ?_
  rw [List.getElem?_zip_eq_some]
  exact ⟨hj, by simp [hjn]⟩
/-- what a function gives that ends behind such a region -/
theorem post_frame {P : Program} {fn : Func} {R : Ending → World → Prop} {T : List Value} {dls : List (Option Tmp)} {n : Nat} {V : Nat → Value} {w : World} {s : Nat} (j : Nat) (hres : fn.results = #[.tmp s]) (hnd : dls.Nodup) (hl : dls.length = n) (hj : dls[j]? = some (some s)) (hs : s < T.length) (h : R (.returned (V j)) w) :
    bodyPost P fn R .ret { tmps := (putL T (dls.zip ((List.range n).map V))).toArray, defers := [] } w := by
  refine bodyPost_ret (results_tmp hres _ _ _) rfl ?_
  have e : (putL T (dls.zip ((List.range n).map V))).toArray.getD s undef = V j := by
    rw [Array.getD_eq_getD_getElem?]
    have := frame_at (T := T) (V := V) hnd hl j s hj hs
    simp only [List.getElem?_toArray, this, Option.getD_some]
  show R (.returned ((putL T (dls.zip ((List.range n).map V))).toArray.getD s undef)) w
  rw [e]; exact h

theorem eq3c (W : World) (x y : Operand) (n m : Int) : (do eqGuard .eql 3 x y (.int .i64 n) (.int .i64 m); binOp .eql 3 (.int .i64 n) (.int .i64 m) : Sem Value).run Tryz.prog W = .ok (.bool (decide (n = m))) W := by
  have e : (n == m) = decide (n = m) := by rw [Bool.eq_iff_iff]; simp
  rw [← e]
  go_simp
theorem leq3c (W : World) (x y : Operand) (n m : Int) : (do eqGuard .leq 3 x y (.int .i64 n) (.int .i64 m); binOp .leq 3 (.int .i64 n) (.int .i64 m) : Sem Value).run Tryz.prog W = .ok (.bool (decide (n ≤ m))) W := by go_simp
theorem ex_call3 {P : Program} {ρ : Operand → Value} {o : Oper} {W : World} {f : FuncId} (hf : ∀ args W, (callFunc f args).run P W = .ok (.enter f args) W) {x y z : Operand} {ts : Array TypeId} (ho : o.op = .call { callee := .value (.func f), args := #[x, y, z], argTypes := ts }) {p q r : Value} (hρ : ρ (.func f) = .func (.func f) #[] #[]) (hx : ρ x = p) (hy : ρ y = q) (hz : ρ z = r) : (execOp ρ o).run P W = .ok (.enter f #[p, q, r]) W := by
  simp [execOp, ho, resolve, hρ, hx, hy, hz, invoke, go_sem, hf]
theorem len27 (W : World) (a : Option Addr) (n c : Nat) (ty : TypeId) : (Builtin.len_ #[27] ty #[.slice a n c]).run Tryz.prog W = .ok (.int .i64 (n : Int)) W := by go_simp
theorem fx0 (W : World) (b : Nat) : (Instr.fieldAt 29 (.pointer (some ⟨b, 0, none⟩)) 0).run Tryz.prog W = .ok (.pointer (some ⟨b, 0, none⟩)) W := by go_simp
theorem fx1 (W : World) (b : Nat) : (Instr.fieldAt 29 (.pointer (some ⟨b, 0, none⟩)) 1).run Tryz.prog W = .ok (.pointer (some ⟨b, 1, none⟩)) W := by go_simp
theorem fx2 (W : World) (b : Nat) : (Instr.fieldAt 29 (.pointer (some ⟨b, 0, none⟩)) 2).run Tryz.prog W = .ok (.pointer (some ⟨b, 4, none⟩)) W := by go_simp
theorem fx3 (W : World) (b : Nat) : (Instr.fieldAt 29 (.pointer (some ⟨b, 0, none⟩)) 3).run Tryz.prog W = .ok (.pointer (some ⟨b, 5, none⟩)) W := by go_simp
theorem ld27 (W : World) (b o : Nat) (v : Value) (h : W.cell? ⟨b, o, none⟩ = some v) : (Instr.loadAt 27 (.pointer (some ⟨b, o, none⟩))).run Tryz.prog W = .ok v W := by go_simp
theorem cf25 (args : Array Value) (W : World) : (callFunc 25 args).run Tryz.prog W = .ok (.enter 25 args) W := by go_simp
theorem cf31 (args : Array Value) (W : World) : (callFunc 31 args).run Tryz.prog W = .ok (.enter 31 args) W := by go_simp
theorem cf32 (args : Array Value) (W : World) : (callFunc 32 args).run Tryz.prog W = .ok (.enter 32 args) W := by go_simp
theorem cf130 (args : Array Value) (W : World) : (callFunc 130 args).run Tryz.prog W = .ok (.enter 130 args) W := by go_simp

end Go.Proofs.YtkpeklealgicpabGreatDoor

namespace Go.Proofs.YtkpeklealgicpabGreatDoor
open Go.RowKit

/-- a slot that none of the first operations writes -/
def noneTo (R : Array Oper) (j d : Nat) : Bool := (List.range j).all fun i => match R[i]? with | some o => o.dst != some d | none => true
/-- what is asked of one operation, where all ahead of it have been -/
def ObP (P : Program) (R : Array Oper) (n : Nat) (a0 : Act) (V : Nat → Value) (Q : Exit → Act → World → Prop) (S : World → Prop) (j : Nat) : Prop :=
  ∀ o listed a W, R[j]? = some o → RunAt R (Array.replicate n false) a0 V listed a → (∀ i, i < j → listed.getD i true = true) → (∀ d, noneTo R j d = true → a.tmps[d]? = a0.tmps[d]?) → S W →
    ∀ K : Act → World → Prop, (∀ w', S w' → K (a.put o.dst (V j)) w') → wpOp P R Q j K a W

theorem slotP {R : Array Oper} {n : Nat} {a0 a : Act} {V : Nat → Value} {listed : Array Bool} {j : Nat} (hd : RunAt R (Array.replicate n false) a0 V listed a) (hl : ∀ i, i < j → listed.getD i true = true) (k s : Nat)
    (hk : k < j) (h0 : (Array.replicate n false).getD k true = false) (hs : ((R[k]?).bind (·.dst)) = some s) : a.tmps[s]? = some (V k) := by
  cases hp : R[k]? with
  | none => rw [hp] at hs; cases hs
  | some p =>
    rw [hp] at hs
    exact hd.new k p s hp h0 (hl k hk) hs

theorem set_getD (listed : Array Bool) (i j : Nat) : (listed.setIfInBounds i true).getD j true = if j = i then true else listed.getD j true := by
  by_cases e : j = i
  · subst e; rw [if_pos rfl]; simp [Array.getD]
  · rw [if_neg e]
    by_cases hj : j < listed.size
    · simp [Array.getD, hj, Ne.symm e]
    · simp [Array.getD, hj]

theorem runAt_put {R : Array Oper} {L0 listed : Array Bool} {a0 a : Act} {V : Nat → Value} {i d : Nat} {o : Oper} (hd : RunAt R L0 a0 V listed a) (ho : R[i]? = some o) (h0 : L0.getD i true = false) (hdst : o.dst = some d) (hlt : d < a0.tmps.size)
    (one : ∀ j p, R[j]? = some p → L0.getD j true = false → p.dst = some d → j = i) : RunAt R L0 a0 V (listed.setIfInBounds i true) (a.put o.dst (V i)) := by
  have hput : a.put o.dst (V i) = { a with tmps := a.tmps.setIfInBounds d (V i) } := by rw [hdst]; rfl
  have hget := set_getD listed i
  rw [hput]
  refine ⟨by simpa using hd.size, hd.defers, ?_, ?_, ?_, by simpa using hd.frame⟩
  · intro j hj
    rw [hget]
    by_cases e : j = i
    · rw [if_pos e]
    · rw [if_neg e]; exact hd.more j hj
  · intro j p d' hj hj0 hl hpd
    rw [hget] at hl
    by_cases e : j = i
    · subst e
      rw [ho] at hj; cases hj
      rw [hdst] at hpd; cases hpd
      rw [Array.getElem?_setIfInBounds_self, if_pos (by rw [hd.frame]; exact hlt)]
    · rw [if_neg e] at hl
      have hne : d ≠ d' := by
        intro e2
        subst e2
        exact e (one j p hj hj0 hpd)
      rw [Array.getElem?_setIfInBounds_ne hne]
      exact hd.new j p d' hj hj0 hl hpd
  · intro d' hd'
    have hne : d ≠ d' := by
      intro e2
      subst e2
      exact hd' i o ho h0 hdst
    rw [Array.getElem?_setIfInBounds_ne hne]
    exact hd.old d' hd'

/-- such a region, whole: the frame behind it by its slots -/
theorem wp_plain {P : Program} {R : Array Oper} {n m : Nat} {dls : List (Option Tmp)} {a0 : Act} {V : Nat → Value} {Q : Exit → Act → World → Prop} {S : World → Prop} {id : Nat} {w : World} (hsz : R.size = n) (hdl : R.toList.map (·.dst) = dls) (hnd : dls.Nodup)
    (hin : dls.all (fun d => match d with | some d => decide (d < m) | none => false) = true) (ha : a0.tmps.size = m) (hob : ∀ j, j < n → ObP P R n a0 V Q S j) (hS : S w)
    (hq : ∀ a' w', S w' → a'.defers = a0.defers → a'.tmps.size = m → (∀ j d, dls[j]? = some (some d) → a'.tmps[d]? = some (V j)) → (∀ d, some d ∉ dls → a'.tmps[d]? = a0.tmps[d]?) → Q .normal a' w') : (Code.region id R false).wp P Q a0 w := by
  have at' : ∀ (i : Nat) (q : Oper), R[i]? = some q → dls[i]? = some q.dst := by
    intro i q hq
    rw [← hdl, List.getElem?_map, Array.getElem?_toList, hq]; rfl
  have h0 : ∀ j, j < n → (Array.replicate n false).getD j true = false := by intro j hj; simp [Array.getD, hj]
  have go : ∀ k, k ≤ n → ∀ listed a W, RunAt R (Array.replicate n false) a0 V listed a → (∀ i, i < n - k → listed.getD i true = true) → (∀ d, noneTo R (n - k) d = true → a.tmps[d]? = a0.tmps[d]?) → S W → wpOps P R Q (List.range' (n - k) k) a W := by
    intro k
    induction k with
    | zero =>
      intro _ listed a W hd hl _ hW
      refine hq a W hW hd.defers (hd.frame.trans ha) ?_ ?_
      · intro j d hj
        have hjn : j < n := by have := (List.getElem?_eq_some_iff.1 hj).1; rw [← hdl] at this; simp [hsz] at this; exact this
        obtain ⟨o, ho⟩ : ∃ o, R[j]? = some o := ⟨R[j]'(by omega), Array.getElem?_eq_getElem (by omega)⟩
        have e1 := at' j o ho
        rw [hj] at e1
        exact hd.new j o d ho (h0 j hjn) (hl j (by omega)) (Option.some.inj e1).symm
      · intro d hd'
        refine hd.old d fun j o hj _ hod => hd' ?_
        have e1 := at' j o hj
        rw [hod] at e1
        exact List.mem_of_getElem? e1
    | succ k ih =>
      intro hk listed a W hd hl hb hW
      have hjn : n - (k + 1) < n := by omega
      obtain ⟨o, ho⟩ : ∃ o, R[n - (k + 1)]? = some o := ⟨R[n - (k + 1)]'(by omega), Array.getElem?_eq_getElem (by omega)⟩
      rw [List.range'_succ, wpOps_cons]
      have e1 := at' _ o ho
      obtain ⟨d, hdst, hlt⟩ : ∃ d, o.dst = some d ∧ d < m := by
        have := List.all_eq_true.1 hin _ (List.mem_of_getElem? e1)
        cases hod : o.dst with
        | none => rw [hod] at this; cases this
        | some d => rw [hod] at this; exact ⟨d, rfl, by simpa using this⟩
      refine hob _ hjn o listed a W ho hd hl hb hW _ fun w' hw' => ?_
      have e2 : n - (k + 1) + 1 = n - k := by omega
      rw [e2]
      refine ih (by omega) _ _ w' (runAt_put hd ho (h0 _ hjn) hdst (by rw [ha]; exact hlt) ?_) ?_ ?_ hw'
      · intro j p hj _ hpd
        have e3 := at' j p hj
        rw [hpd] at e3
        rw [hdst] at e1
        exact (List.getElem?_inj (List.getElem?_eq_some_iff.1 e3).1 hnd).1 (e3.trans e1.symm)
      · intro i hi
        rw [set_getD]
        by_cases e : i = n - (k + 1)
        · rw [if_pos e]
        · rw [if_neg e]; exact hl i (by omega)
      · intro d' hd'
        unfold noneTo at hd'
        rw [← e2, List.range_succ, List.all_append, Bool.and_eq_true] at hd'
        have h5 : d ≠ d' := by
          intro e5
          have := hd'.2
          rw [List.all_cons, Bool.and_eq_true, ho] at this
          simp [hdst, e5] at this
        have hput : (a.put o.dst (V (n - (k + 1)))).tmps = a.tmps.setIfInBounds d (V (n - (k + 1))) := by rw [hdst]; rfl
        rw [hput, Array.getElem?_setIfInBounds_ne h5]
        exact hb d' hd'.1
  refine wp_region ?_
  rw [hsz, List.range_eq_range']
  have := go n (Nat.le_refl n) (Array.replicate n false) a0 w ⟨by simp [hsz], rfl, fun _ h => h, fun j o d hj h1 h2 _ => (by rw [h1] at h2; cases h2), fun _ _ => rfl, rfl⟩ (fun i hi => by omega) (fun _ _ => rfl) hS
  rw [Nat.sub_self] at this
  exact this

theorem ex_index {P : Program} {ρ : Operand → Value} {o : Oper} {W : World} {t : TypeId} {x y : Operand} (ho : o.op = .indexAddr t x y) {p q v : Value} (hx : ρ x = p) (hy : ρ y = q) (hr : (Instr.indexAt t p q).run P W = .ok v W) : (execOp ρ o).run P W = .ok (.value v) W := by simp [execOp, ho, hx, hy, hr]
theorem gtr3c (W : World) (x y : Operand) (n m : Int) : (do eqGuard .gtr 3 x y (.int .i64 n) (.int .i64 m); binOp .gtr 3 (.int .i64 n) (.int .i64 m) : Sem Value).run Tryz.prog W = .ok (.bool (decide (m < n))) W := by go_simp
theorem lss3c (W : World) (x y : Operand) (n m : Int) : (do eqGuard .lss 3 x y (.int .i64 n) (.int .i64 m); binOp .lss 3 (.int .i64 n) (.int .i64 m) : Sem Value).run Tryz.prog W = .ok (.bool (decide (n < m))) W := by go_simp
theorem eq32c (W : World) (x y : Operand) (n m : Int) : (do eqGuard .eql 32 x y (.int .i64 n) (.int .i64 m); binOp .eql 32 (.int .i64 n) (.int .i64 m) : Sem Value).run Tryz.prog W = .ok (.bool (decide (n = m))) W := by
  have e : (n == m) = decide (n = m) := by rw [Bool.eq_iff_iff]; simp
  rw [← e]
  go_simp
theorem eq4c (W : World) (x y : Operand) (n m : Bool) : (do eqGuard .eql 4 x y (.bool n) (.bool m); binOp .eql 4 (.bool n) (.bool m) : Sem Value).run Tryz.prog W = .ok (.bool (n == m)) W := by go_simp
theorem ix22 (W : World) (g o n c i : Nat) (h : i < n) : (Instr.indexAt 22 (.slice (some ⟨g, o, none⟩) n c) (.int .i64 (i : Int))).run Tryz.prog W = .ok (.pointer (some ⟨g, o + i * 2, none⟩)) W := by
  have h' : (i : Int) < (n : Int) := by omega
  go_simp
theorem ix25 (W : World) (g o n c i : Nat) (h : i < n) : (Instr.indexAt 25 (.slice (some ⟨g, o, none⟩) n c) (.int .i64 (i : Int))).run Tryz.prog W = .ok (.pointer (some ⟨g, o + i * 3, none⟩)) W := by
  have h' : (i : Int) < (n : Int) := by omega
  go_simp
theorem ix26 (W : World) (g o n c i : Nat) (h : i < n) : (Instr.indexAt 26 (.slice (some ⟨g, o, none⟩) n c) (.int .i64 (i : Int))).run Tryz.prog W = .ok (.pointer (some ⟨g, o + i, none⟩)) W := by
  have h' : (i : Int) < (n : Int) := by omega
  go_simp
theorem fc0 (W : World) (b o : Nat) : (Instr.fieldAt 56 (.pointer (some ⟨b, o, none⟩)) 0).run Tryz.prog W = .ok (.pointer (some ⟨b, o, none⟩)) W := by go_simp
theorem fc1 (W : World) (b o : Nat) : (Instr.fieldAt 56 (.pointer (some ⟨b, o, none⟩)) 1).run Tryz.prog W = .ok (.pointer (some ⟨b, o + 1, none⟩)) W := by go_simp
theorem fa0 (W : World) (b : Nat) : (Instr.fieldAt 31 (.pointer (some ⟨b, 0, none⟩)) 0).run Tryz.prog W = .ok (.pointer (some ⟨b, 0, none⟩)) W := by go_simp
theorem add3c (W : World) (x y : Operand) (n : Nat) (h : n < 1000000000000001) : (do eqGuard .add 3 x y (.int .i64 (n : Int)) (.int .i64 1); binOp .add 3 (.int .i64 (n : Int)) (.int .i64 1) : Sem Value).run Tryz.prog W = .ok (.int .i64 ((n + 1 : Nat) : Int)) W := by
  have h1 : ((n + 1 : Nat) : Int) = (n : Int) + 1 := by omega
  rw [h1]
  have h2 : (n : Int) < 1000000000000001 := by omega
  have h3 : IntKind.i64.wrap ((n : Int) + 1) = (n : Int) + 1 := by rw [IntKind.wrap_i64]; omega
  go_simp
theorem cf30 (args : Array Value) (W : World) : (callFunc 30 args).run Tryz.prog W = .ok (.enter 30 args) W := by go_simp
theorem cf33 (args : Array Value) (W : World) : (callFunc 33 args).run Tryz.prog W = .ok (.enter 33 args) W := by go_simp
theorem cf34 (args : Array Value) (W : World) : (callFunc 34 args).run Tryz.prog W = .ok (.enter 34 args) W := by go_simp
theorem cf35 (args : Array Value) (W : World) : (callFunc 35 args).run Tryz.prog W = .ok (.enter 35 args) W := by go_simp
theorem cf36 (args : Array Value) (W : World) : (callFunc 36 args).run Tryz.prog W = .ok (.enter 36 args) W := by go_simp
end Go.Proofs.YtkpeklealgicpabGreatDoor

namespace Go.Proofs.YtkpeklealgicpabGreatDoor
open Go.RowKit

/-- what the slots hold, as far as an operation may look -/
structure Sl (R : Array Oper) (a0 : Act) (V : Nat → Value) (D N : Nat → Bool) (a : Act) : Prop where
  at' : ∀ k s, D k = true → ((R[k]?).bind (·.dst)) = some s → a.tmps[s]? = some (V k)
  base : ∀ d, N d = true → a.tmps[d]? = a0.tmps[d]?
def depP (j : Nat) (k : Nat) : Bool := decide (k < j)
def depR (o : Oper) (n : Nat) (k : Nat) : Bool := decide (k < n) && o.after.any (fun e => Region.binds .any e && e.on == k)
def Core (P : Program) (R : Array Oper) (a0 : Act) (V : Nat → Value) (Q : Exit → Act → World → Prop) (S : World → Prop) (j : Nat) (o : Oper) (D N : Nat → Bool) : Prop :=
  ∀ a W, Sl R a0 V D N a → S W → ∀ K : Act → World → Prop, (∀ w', S w' → K (a.put o.dst (V j)) w') → wpOp P R Q j K a W

section
variable {P : Program} {R : Array Oper} {a0 a : Act} {V : Nat → Value} {Q : Exit → Act → World → Prop} {S : World → Prop} {j n : Nat} {o : Oper} {D N : Nat → Bool}
theorem obP (eo : R[j]? = some o) (hj : j < n) (h : Core P R a0 V Q S j o (depP j) (noneTo R j)) : ObP P R n a0 V Q S j := by
  intro o' listed a W ho hd hl hb hS K hK
  obtain rfl : o' = o := Option.some.inj (ho.symm.trans eo)
  refine h a W ⟨fun k s hk hs => ?_, hb⟩ hS K hK
  have hk' : k < j := by simpa [depP] using hk
  exact slotP hd hl k s hk' (by simp [Array.getD]; omega) hs
theorem obR (eo : R[j]? = some o) (h : Core P R a0 V Q S j o (depR o n) (noneB R (Array.replicate n false))) : ObR P R n a0 V Q S j := by
  intro o' listed a W ho hd hl hS K hK
  obtain rfl : o' = o := Option.some.inj (ho.symm.trans eo)
  refine h a W ⟨fun k s hk hs => ?_, fun d hn => hd.base d hn⟩ hS K hK
  rw [depR, Bool.and_eq_true] at hk
  have hk' : k < n := by simpa using hk.1
  exact hd.slot hl k s hk.2 (by simp [Array.getD]; omega) hs
theorem Sl.u (s : Sl R a0 V D N a) (k t : Nat) (hk : D k = true) (hd : ((R[k]?).bind (·.dst)) = some t) : a.eval (.tmp t) = V k := eval_tmp (s.at' k t hk hd)
theorem Sl.g (s : Sl R a0 V D N a) (k t : Nat) {G : Bool} {v : Value} (hk : D k = true) (hd : ((R[k]?).bind (·.dst)) = some t) (hG : G = true) (hV : V k = gw G v) : a.eval (.tmp t) = v := by
  rw [s.u k t hk hd, hV, gw_of hG]
theorem Sl.b (s : Sl R a0 V D N a) (t : Nat) {v : Value} (h : N t = true) (hv : a0.tmps[t]? = some v) : a.eval (.tmp t) = v := eval_tmp ((s.base t h).trans hv)
/-- no guard; a guard; a call with none; a call with one -/
theorem coreU (eo : R[j]? = some o) (hg : o.guard = none) (h : ∀ a W, Sl R a0 V D N a → S W → (execOp a.eval o).run P W = .ok (.value (V j)) W) : Core P R a0 V Q S j o D N :=
  fun a _ s hS _ hK => run_quiet eo (Or.inl ⟨wanted_none hg, fun W' hW' => h a W' s hW'⟩) hS hK
theorem coreC {f : FuncId} {args : Array Value} (eo : R[j]? = some o) (hg : o.guard = none) (h : ∀ a W, Sl R a0 V D N a → (execOp a.eval o).run P W = .ok (.enter f args) W) (hc : ∀ W, S W → Calls P f args W fun e w' => e = .returned (V j) ∧ S w') : Core P R a0 V Q S j o D N :=
  fun a W s hS _ hK => run_call f args eo (wanted_none hg) (h a W s) (hc W hS) hK
theorem coreG {g d : Nat} {b G0 x : Bool} {v : Value} (eo : R[j]? = some o) (hg : o.guard = some (g, b)) (hd : ((R[g]?).bind (·.dst)) = some d) (hD : D g = true) (hV0 : V g = gw G0 (.bool x)) (hV : V j = gw (G0 && (x == b)) v)
    (h : (G0 && (x == b)) = true → ∀ a W, Sl R a0 V D N a → S W → (execOp a.eval o).run P W = .ok (.value v) W) : Core P R a0 V Q S j o D N := by
  intro a W s hS K hK
  have hw := wanted_gw hg hd ((s.at' g d hD hd).trans (congrArg some hV0))
  cases hG : (G0 && (x == b)) with
  | false => rw [hG] at hw; exact run_quiet eo (Or.inr ⟨hw, by rw [hV]; exact gw_no hG⟩) hS hK
  | true =>
    rw [hG] at hw
    rw [hV, gw_of hG] at hK
    exact run_quiet eo (Or.inl ⟨hw, fun W' hW' => h hG a W' s hW'⟩) hS hK
theorem coreH {g d : Nat} {b G0 x : Bool} {v : Value} {f : FuncId} {args : Array Value} (eo : R[j]? = some o) (hg : o.guard = some (g, b)) (hd : ((R[g]?).bind (·.dst)) = some d) (hD : D g = true) (hV0 : V g = gw G0 (.bool x)) (hV : V j = gw (G0 && (x == b)) v)
    (h : (G0 && (x == b)) = true → ∀ a W, Sl R a0 V D N a → (execOp a.eval o).run P W = .ok (.enter f args) W) (hc : ∀ W, S W → Calls P f args W fun e w' => e = .returned v ∧ S w') : Core P R a0 V Q S j o D N := by
  intro a W s hS K hK
  have hw := wanted_gw hg hd ((s.at' g d hD hd).trans (congrArg some hV0))
  cases hG : (G0 && (x == b)) with
  | false => rw [hG] at hw; exact run_quiet eo (Or.inr ⟨hw, by rw [hV]; exact gw_no hG⟩) hS hK
  | true =>
    rw [hG] at hw
    rw [hV, gw_of hG] at hK
    exact run_call f args eo hw (h hG a W s) (hc W hS) hK
theorem ex_pickA {ρ : Operand → Value} {W : World} {c x : Tmp} {G C X : Bool} (ho : o.op = .pick (.tmp c) (.tmp x) (.const (.bool false))) (hc : ρ (.tmp c) = .bool C) (hx : ρ (.tmp x) = gw (G && (C == true)) (.bool X)) (hk : ρ (.const (.bool false)) = .bool false) (hG : G = true) : (execOp ρ o).run P W = .ok (.value (.bool (C && X))) W := by
  rw [ex_pick ho hc, hx, hk, pick_and hG]
theorem ex_pickO {ρ : Operand → Value} {W : World} {c y : Tmp} {G C X : Bool} (ho : o.op = .pick (.tmp c) (.const (.bool true)) (.tmp y)) (hc : ρ (.tmp c) = .bool C) (hy : ρ (.tmp y) = gw (G && (C == false)) (.bool X)) (hk : ρ (.const (.bool true)) = .bool true) (hG : G = true) : (execOp ρ o).run P W = .ok (.value (.bool (C || X))) W := by
  rw [ex_pick ho hc, hy, hk, pick_or hG]
end
section
variable {P : Program} {R : Array Oper} {a0 : Act} {V : Nat → Value} {Q : Exit → Act → World → Prop} {S : World → Prop} {j n : Nat} {o : Oper}
theorem obPU (eo : R[j]? = some o) (hj : j < n) (hg : o.guard = none) (h : ∀ a W, Sl R a0 V (depP j) (noneTo R j) a → S W → (execOp a.eval o).run P W = .ok (.value (V j)) W) : ObP P R n a0 V Q S j := obP eo hj (coreU eo hg h)
theorem obPC {f : FuncId} {args : Array Value} (eo : R[j]? = some o) (hj : j < n) (hg : o.guard = none) (h : ∀ a W, Sl R a0 V (depP j) (noneTo R j) a → (execOp a.eval o).run P W = .ok (.enter f args) W) (hc : ∀ W, S W → Calls P f args W fun e w' => e = .returned (V j) ∧ S w') : ObP P R n a0 V Q S j := obP eo hj (coreC eo hg h hc)
theorem obPG (G0 : Bool) {x : Bool} {v : Value} (g d : Nat) (b : Bool) (eo : R[j]? = some o) (hj : j < n) (hg : o.guard = some (g, b)) (hd : ((R[g]?).bind (·.dst)) = some d) (hD : depP j g = true) (hV0 : V g = gw G0 (.bool x)) (hV : V j = gw (G0 && (x == b)) v)
    (h : (G0 && (x == b)) = true → ∀ a W, Sl R a0 V (depP j) (noneTo R j) a → S W → (execOp a.eval o).run P W = .ok (.value v) W) : ObP P R n a0 V Q S j := obP eo hj (coreG eo hg hd hD hV0 hV h)
theorem obPH (G0 : Bool) {x : Bool} {v : Value} {f : FuncId} {args : Array Value} (g d : Nat) (b : Bool) (eo : R[j]? = some o) (hj : j < n) (hg : o.guard = some (g, b)) (hd : ((R[g]?).bind (·.dst)) = some d) (hD : depP j g = true) (hV0 : V g = gw G0 (.bool x)) (hV : V j = gw (G0 && (x == b)) v)
    (h : (G0 && (x == b)) = true → ∀ a W, Sl R a0 V (depP j) (noneTo R j) a → (execOp a.eval o).run P W = .ok (.enter f args) W) (hc : ∀ W, S W → Calls P f args W fun e w' => e = .returned v ∧ S w') : ObP P R n a0 V Q S j := obP eo hj (coreH eo hg hd hD hV0 hV h hc)
theorem obRU (eo : R[j]? = some o) (hg : o.guard = none) (h : ∀ a W, Sl R a0 V (depR o n) (noneB R (Array.replicate n false)) a → S W → (execOp a.eval o).run P W = .ok (.value (V j)) W) : ObR P R n a0 V Q S j := obR eo (coreU eo hg h)
theorem obRC {f : FuncId} {args : Array Value} (eo : R[j]? = some o) (hg : o.guard = none) (h : ∀ a W, Sl R a0 V (depR o n) (noneB R (Array.replicate n false)) a → (execOp a.eval o).run P W = .ok (.enter f args) W) (hc : ∀ W, S W → Calls P f args W fun e w' => e = .returned (V j) ∧ S w') : ObR P R n a0 V Q S j := obR eo (coreC eo hg h hc)
theorem obRG (G0 : Bool) {x : Bool} {v : Value} (g d : Nat) (b : Bool) (eo : R[j]? = some o) (hg : o.guard = some (g, b)) (hd : ((R[g]?).bind (·.dst)) = some d) (hD : depR o n g = true) (hV0 : V g = gw G0 (.bool x)) (hV : V j = gw (G0 && (x == b)) v)
    (h : (G0 && (x == b)) = true → ∀ a W, Sl R a0 V (depR o n) (noneB R (Array.replicate n false)) a → S W → (execOp a.eval o).run P W = .ok (.value v) W) : ObR P R n a0 V Q S j := obR eo (coreG eo hg hd hD hV0 hV h)
theorem obRH (G0 : Bool) {x : Bool} {v : Value} {f : FuncId} {args : Array Value} (g d : Nat) (b : Bool) (eo : R[j]? = some o) (hg : o.guard = some (g, b)) (hd : ((R[g]?).bind (·.dst)) = some d) (hD : depR o n g = true) (hV0 : V g = gw G0 (.bool x)) (hV : V j = gw (G0 && (x == b)) v)
    (h : (G0 && (x == b)) = true → ∀ a W, Sl R a0 V (depR o n) (noneB R (Array.replicate n false)) a → (execOp a.eval o).run P W = .ok (.enter f args) W) (hc : ∀ W, S W → Calls P f args W fun e w' => e = .returned v ∧ S w') : ObR P R n a0 V Q S j := obR eo (coreH eo hg hd hD hV0 hV h hc)
end

end Go.Proofs.YtkpeklealgicpabGreatDoor

namespace Go.Proofs.YtkpeklealgicpabGreatDoor
open Go.RowKit

noncomputable def k2_R : Array Oper := ((Tryz.f13.body).bind (regionOf 2)).getD #[]
noncomputable def k2_o (j : Nat) : Oper := (k2_R[j]?).getD ⟨none, .move (.const undef), 0, "", #[], none⟩
def k2_V  (j : Nat) : Value := ([.int .i64 2] : List Value).getD j undef
def k2_d : List (Option Tmp) := [some 2]
set_option maxRecDepth 100000 in
theorem k2_nodup : k2_d.Nodup := by unfold k2_d; decide

set_option maxRecDepth 100000 in
theorem k2_wp  {S : World → Prop} {a0 : Act} {Q : Exit → Act → World → Prop} {w : World}  (ha : a0.tmps.size = 272) (hS : S w)
    (hq : ∀ a' w', S w' → a'.defers = a0.defers → a'.tmps.size = 272 → (∀ j d, k2_d[j]? = some (some d) → a'.tmps[d]? = some (k2_V  j)) → (∀ d, some d ∉ k2_d → a'.tmps[d]? = a0.tmps[d]?) → Q .normal a' w') : (Code.region 2 k2_R false).wp Tryz.prog Q a0 w := by
  refine wp_plain (n := 1) (m := 272) (by kernel_rfl) (by kernel_rfl) k2_nodup (by kernel_rfl) ha ?_ hS hq
  refine upto_succ ?_ (obPU (o := k2_o 0) (by kernel_rfl) (by decide) (by kernel_rfl) fun _ _ _ _ => ex_assign (x := .const (.int .i64 2)) (by kernel_rfl) (rfl))
  exact fun j hj => absurd hj (Nat.not_lt_zero j)

noncomputable def k10_R : Array Oper := ((Tryz.f13.body).bind (regionOf 10)).getD #[]
noncomputable def k10_o (j : Nat) : Oper := (k10_R[j]?).getD ⟨none, .move (.const undef), 0, "", #[], none⟩
def k10_V  (j : Nat) : Value := ([.int .i64 0] : List Value).getD j undef
def k10_d : List (Option Tmp) := [some 5]
set_option maxRecDepth 100000 in
theorem k10_nodup : k10_d.Nodup := by unfold k10_d; decide

set_option maxRecDepth 100000 in
theorem k10_wp  {S : World → Prop} {a0 : Act} {Q : Exit → Act → World → Prop} {w : World}  (ha : a0.tmps.size = 272) (hS : S w)
    (hq : ∀ a' w', S w' → a'.defers = a0.defers → a'.tmps.size = 272 → (∀ j d, k10_d[j]? = some (some d) → a'.tmps[d]? = some (k10_V  j)) → (∀ d, some d ∉ k10_d → a'.tmps[d]? = a0.tmps[d]?) → Q .normal a' w') : (Code.region 10 k10_R false).wp Tryz.prog Q a0 w := by
  refine wp_plain (n := 1) (m := 272) (by kernel_rfl) (by kernel_rfl) k10_nodup (by kernel_rfl) ha ?_ hS hq
  refine upto_succ ?_ (obPU (o := k10_o 0) (by kernel_rfl) (by decide) (by kernel_rfl) fun _ _ _ _ => ex_assign (x := .const (.int .i64 0)) (by kernel_rfl) (rfl))
  exact fun j hj => absurd hj (Nat.not_lt_zero j)

noncomputable def k14_R : Array Oper := ((Tryz.f13.body).bind (regionOf 14)).getD #[]
noncomputable def k14_o (j : Nat) : Oper := (k14_R[j]?).getD ⟨none, .move (.const undef), 0, "", #[], none⟩
def k14_V  (j : Nat) : Value := ([.int .i64 0] : List Value).getD j undef
def k14_d : List (Option Tmp) := [some 6]
set_option maxRecDepth 100000 in
theorem k14_nodup : k14_d.Nodup := by unfold k14_d; decide

set_option maxRecDepth 100000 in
theorem k14_wp  {S : World → Prop} {a0 : Act} {Q : Exit → Act → World → Prop} {w : World}  (ha : a0.tmps.size = 272) (hS : S w)
    (hq : ∀ a' w', S w' → a'.defers = a0.defers → a'.tmps.size = 272 → (∀ j d, k14_d[j]? = some (some d) → a'.tmps[d]? = some (k14_V  j)) → (∀ d, some d ∉ k14_d → a'.tmps[d]? = a0.tmps[d]?) → Q .normal a' w') : (Code.region 14 k14_R false).wp Tryz.prog Q a0 w := by
  refine wp_plain (n := 1) (m := 272) (by kernel_rfl) (by kernel_rfl) k14_nodup (by kernel_rfl) ha ?_ hS hq
  refine upto_succ ?_ (obPU (o := k14_o 0) (by kernel_rfl) (by decide) (by kernel_rfl) fun _ _ _ _ => ex_assign (x := .const (.int .i64 0)) (by kernel_rfl) (rfl))
  exact fun j hj => absurd hj (Nat.not_lt_zero j)

noncomputable def k18_R : Array Oper := ((Tryz.f13.body).bind (regionOf 18)).getD #[]
noncomputable def k18_o (j : Nat) : Oper := (k18_R[j]?).getD ⟨none, .move (.const undef), 0, "", #[], none⟩
def k18_V  (j : Nat) : Value := ([.int .i64 0] : List Value).getD j undef
def k18_d : List (Option Tmp) := [some 7]
set_option maxRecDepth 100000 in
theorem k18_nodup : k18_d.Nodup := by unfold k18_d; decide

set_option maxRecDepth 100000 in
theorem k18_wp  {S : World → Prop} {a0 : Act} {Q : Exit → Act → World → Prop} {w : World}  (ha : a0.tmps.size = 272) (hS : S w)
    (hq : ∀ a' w', S w' → a'.defers = a0.defers → a'.tmps.size = 272 → (∀ j d, k18_d[j]? = some (some d) → a'.tmps[d]? = some (k18_V  j)) → (∀ d, some d ∉ k18_d → a'.tmps[d]? = a0.tmps[d]?) → Q .normal a' w') : (Code.region 18 k18_R false).wp Tryz.prog Q a0 w := by
  refine wp_plain (n := 1) (m := 272) (by kernel_rfl) (by kernel_rfl) k18_nodup (by kernel_rfl) ha ?_ hS hq
  refine upto_succ ?_ (obPU (o := k18_o 0) (by kernel_rfl) (by decide) (by kernel_rfl) fun _ _ _ _ => ex_assign (x := .const (.int .i64 0)) (by kernel_rfl) (rfl))
  exact fun j hj => absurd hj (Nat.not_lt_zero j)

noncomputable def k31_R : Array Oper := ((Tryz.f13.body).bind (regionOf 31)).getD #[]
noncomputable def k31_o (j : Nat) : Oper := (k31_R[j]?).getD ⟨none, .move (.const undef), 0, "", #[], none⟩
def k31_V  (j : Nat) : Value := ([.int .i64 1] : List Value).getD j undef
def k31_d : List (Option Tmp) := [some 2]
set_option maxRecDepth 100000 in
theorem k31_nodup : k31_d.Nodup := by unfold k31_d; decide

set_option maxRecDepth 100000 in
theorem k31_wp  {S : World → Prop} {a0 : Act} {Q : Exit → Act → World → Prop} {w : World}  (ha : a0.tmps.size = 272) (hS : S w)
    (hq : ∀ a' w', S w' → a'.defers = a0.defers → a'.tmps.size = 272 → (∀ j d, k31_d[j]? = some (some d) → a'.tmps[d]? = some (k31_V  j)) → (∀ d, some d ∉ k31_d → a'.tmps[d]? = a0.tmps[d]?) → Q .normal a' w') : (Code.region 31 k31_R false).wp Tryz.prog Q a0 w := by
  refine wp_plain (n := 1) (m := 272) (by kernel_rfl) (by kernel_rfl) k31_nodup (by kernel_rfl) ha ?_ hS hq
  refine upto_succ ?_ (obPU (o := k31_o 0) (by kernel_rfl) (by decide) (by kernel_rfl) fun _ _ _ _ => ex_assign (x := .const (.int .i64 1)) (by kernel_rfl) (rfl))
  exact fun j hj => absurd hj (Nat.not_lt_zero j)

noncomputable def k32_R : Array Oper := ((Tryz.f13.body).bind (regionOf 32)).getD #[]
noncomputable def k32_o (j : Nat) : Oper := (k32_R[j]?).getD ⟨none, .move (.const undef), 0, "", #[], none⟩
def k32_V  (j : Nat) : Value := ([.int .i64 0] : List Value).getD j undef
def k32_d : List (Option Tmp) := [some 2]
set_option maxRecDepth 100000 in
theorem k32_nodup : k32_d.Nodup := by unfold k32_d; decide

set_option maxRecDepth 100000 in
theorem k32_wp  {S : World → Prop} {a0 : Act} {Q : Exit → Act → World → Prop} {w : World}  (ha : a0.tmps.size = 272) (hS : S w)
    (hq : ∀ a' w', S w' → a'.defers = a0.defers → a'.tmps.size = 272 → (∀ j d, k32_d[j]? = some (some d) → a'.tmps[d]? = some (k32_V  j)) → (∀ d, some d ∉ k32_d → a'.tmps[d]? = a0.tmps[d]?) → Q .normal a' w') : (Code.region 32 k32_R false).wp Tryz.prog Q a0 w := by
  refine wp_plain (n := 1) (m := 272) (by kernel_rfl) (by kernel_rfl) k32_nodup (by kernel_rfl) ha ?_ hS hq
  refine upto_succ ?_ (obPU (o := k32_o 0) (by kernel_rfl) (by decide) (by kernel_rfl) fun _ _ _ _ => ex_assign (x := .const (.int .i64 0)) (by kernel_rfl) (rfl))
  exact fun j hj => absurd hj (Nat.not_lt_zero j)

end Go.Proofs.YtkpeklealgicpabGreatDoor

namespace Go.Proofs.YtkpeklealgicpabGreatDoor
open Go.RowKit

noncomputable def k1_R : Array Oper := ((Tryz.f13.body).bind (regionOf 1)).getD #[]
noncomputable def k1_o (j : Nat) : Oper := (k1_R[j]?).getD ⟨none, .move (.const undef), 0, "", #[], none⟩
def k1_V (c : Cm) (a1 a2 a3 a4 a5 : Option Addr) (c1 c2 c3 c4 c5 : Nat) (b : Nat) (j : Nat) : Value := ([.pointer (some ⟨b, 4, none⟩), .slice a1 c.cols.length c1, .int .i64 ((c.cols.length : Nat) : Int), .bool (decide (5 < ((c.cols.length : Nat) : Int))), .bool (decide (5 < ((c.cols.length : Nat) : Int))), gw ((decide (5 < ((c.cols.length : Nat) : Int))) == false) (.pointer (some ⟨b, 9, none⟩)), gw ((decide (5 < ((c.cols.length : Nat) : Int))) == false) (.slice a2 c.vals.length c2), gw ((decide (5 < ((c.cols.length : Nat) : Int))) == false) (.int .i64 ((c.vals.length : Nat) : Int)), gw ((decide (5 < ((c.cols.length : Nat) : Int))) == false) (.bool (decide (5 < ((c.vals.length : Nat) : Int)))), .bool ((decide (5 < ((c.cols.length : Nat) : Int))) || (decide (5 < ((c.vals.length : Nat) : Int)))), .bool ((decide (5 < ((c.cols.length : Nat) : Int))) || (decide (5 < ((c.vals.length : Nat) : Int)))), gw (((decide (5 < ((c.cols.length : Nat) : Int))) || (decide (5 < ((c.vals.length : Nat) : Int)))) == false) (.pointer (some ⟨b, 10, none⟩)), gw (((decide (5 < ((c.cols.length : Nat) : Int))) || (decide (5 < ((c.vals.length : Nat) : Int)))) == false) (.slice a3 c.fields.length c3), gw (((decide (5 < ((c.cols.length : Nat) : Int))) || (decide (5 < ((c.vals.length : Nat) : Int)))) == false) (.int .i64 ((c.fields.length : Nat) : Int)), gw (((decide (5 < ((c.cols.length : Nat) : Int))) || (decide (5 < ((c.vals.length : Nat) : Int)))) == false) (.bool (decide (5 < ((c.fields.length : Nat) : Int)))), .bool (((decide (5 < ((c.cols.length : Nat) : Int))) || (decide (5 < ((c.vals.length : Nat) : Int)))) || (decide (5 < ((c.fields.length : Nat) : Int)))), .bool (((decide (5 < ((c.cols.length : Nat) : Int))) || (decide (5 < ((c.vals.length : Nat) : Int)))) || (decide (5 < ((c.fields.length : Nat) : Int)))), gw ((((decide (5 < ((c.cols.length : Nat) : Int))) || (decide (5 < ((c.vals.length : Nat) : Int)))) || (decide (5 < ((c.fields.length : Nat) : Int)))) == false) (.pointer (some ⟨b, 11, none⟩)), gw ((((decide (5 < ((c.cols.length : Nat) : Int))) || (decide (5 < ((c.vals.length : Nat) : Int)))) || (decide (5 < ((c.fields.length : Nat) : Int)))) == false) (.agg #[.int .i64 c.expr.k, .int .i64 c.expr.v.k, .int .i64 c.expr.v.n, .string ⟨c.expr.v.s.toArray⟩, .string ⟨c.expr.nm.toArray⟩, .slice a4 c.expr.args.length c4]), gw ((((decide (5 < ((c.cols.length : Nat) : Int))) || (decide (5 < ((c.vals.length : Nat) : Int)))) || (decide (5 < ((c.fields.length : Nat) : Int)))) == false) (.int .i64 ((min (sizeE c.expr) (15 + 1) : Nat) : Int)), gw ((((decide (5 < ((c.cols.length : Nat) : Int))) || (decide (5 < ((c.vals.length : Nat) : Int)))) || (decide (5 < ((c.fields.length : Nat) : Int)))) == false) (.bool (decide (15 < ((min (sizeE c.expr) (15 + 1) : Nat) : Int)))), .bool ((((decide (5 < ((c.cols.length : Nat) : Int))) || (decide (5 < ((c.vals.length : Nat) : Int)))) || (decide (5 < ((c.fields.length : Nat) : Int)))) || (decide (15 < ((min (sizeE c.expr) (15 + 1) : Nat) : Int)))), .bool ((((decide (5 < ((c.cols.length : Nat) : Int))) || (decide (5 < ((c.vals.length : Nat) : Int)))) || (decide (5 < ((c.fields.length : Nat) : Int)))) || (decide (15 < ((min (sizeE c.expr) (15 + 1) : Nat) : Int)))), gw (((((decide (5 < ((c.cols.length : Nat) : Int))) || (decide (5 < ((c.vals.length : Nat) : Int)))) || (decide (5 < ((c.fields.length : Nat) : Int)))) || (decide (15 < ((min (sizeE c.expr) (15 + 1) : Nat) : Int)))) == false) (.pointer (some ⟨b, 18, none⟩)), gw (((((decide (5 < ((c.cols.length : Nat) : Int))) || (decide (5 < ((c.vals.length : Nat) : Int)))) || (decide (5 < ((c.fields.length : Nat) : Int)))) || (decide (15 < ((min (sizeE c.expr) (15 + 1) : Nat) : Int)))) == false) (.agg #[.int .i64 c.wh.k, .int .i64 c.wh.v.k, .int .i64 c.wh.v.n, .string ⟨c.wh.v.s.toArray⟩, .string ⟨c.wh.nm.toArray⟩, .slice a5 c.wh.args.length c5]), gw (((((decide (5 < ((c.cols.length : Nat) : Int))) || (decide (5 < ((c.vals.length : Nat) : Int)))) || (decide (5 < ((c.fields.length : Nat) : Int)))) || (decide (15 < ((min (sizeE c.expr) (15 + 1) : Nat) : Int)))) == false) (.int .i64 ((min (sizeE c.wh) (15 + 1) : Nat) : Int)), gw (((((decide (5 < ((c.cols.length : Nat) : Int))) || (decide (5 < ((c.vals.length : Nat) : Int)))) || (decide (5 < ((c.fields.length : Nat) : Int)))) || (decide (15 < ((min (sizeE c.expr) (15 + 1) : Nat) : Int)))) == false) (.bool (decide (15 < ((min (sizeE c.wh) (15 + 1) : Nat) : Int)))), .bool (((((decide (5 < ((c.cols.length : Nat) : Int))) || (decide (5 < ((c.vals.length : Nat) : Int)))) || (decide (5 < ((c.fields.length : Nat) : Int)))) || (decide (15 < ((min (sizeE c.expr) (15 + 1) : Nat) : Int)))) || (decide (15 < ((min (sizeE c.wh) (15 + 1) : Nat) : Int))))] : List Value).getD j undef
def k1_d : List (Option Tmp) := [some 8, some 9, some 10, some 11, some 12, some 13, some 14, some 15, some 16, some 17, some 18, some 19, some 20, some 21, some 22, some 23, some 24, some 25, some 26, some 27, some 28, some 29, some 30, some 31, some 32, some 33, some 34, some 35]
set_option maxRecDepth 100000 in
theorem k1_nodup : k1_d.Nodup := by unfold k1_d; decide

set_option maxRecDepth 100000 in
theorem k1_wp {c : Cm} {a1 a2 a3 a4 a5 : Option Addr} {c1 c2 c3 c4 c5 : Nat} {b : Nat} {S : World → Prop} {a0 : Act} {Q : Exit → Act → World → Prop} {w : World} (h1 : a0.tmps[1]? = some (.pointer (some ⟨b, 0, none⟩))) (hcell : ∀ W, S W → ∀ o x, (cmL c (.slice a1 c.cols.length c1) (.slice a2 c.vals.length c2) (.slice a3 c.fields.length c3) (.slice a4 c.expr.args.length c4) (.slice a5 c.wh.args.length c5))[o]? = some x → W.cell? ⟨b, o, none⟩ = some x) (q27 : ∀ W, S W → Calls Tryz.prog 30 #[.agg #[.int .i64 c.expr.k, .int .i64 c.expr.v.k, .int .i64 c.expr.v.n, .string ⟨c.expr.v.s.toArray⟩, .string ⟨c.expr.nm.toArray⟩, .slice a4 c.expr.args.length c4], .int .i64 15] W fun e w' => e = .returned (.int .i64 ((min (sizeE c.expr) (15 + 1) : Nat) : Int)) ∧ S w') (q33 : ∀ W, S W → Calls Tryz.prog 30 #[.agg #[.int .i64 c.wh.k, .int .i64 c.wh.v.k, .int .i64 c.wh.v.n, .string ⟨c.wh.v.s.toArray⟩, .string ⟨c.wh.nm.toArray⟩, .slice a5 c.wh.args.length c5], .int .i64 15] W fun e w' => e = .returned (.int .i64 ((min (sizeE c.wh) (15 + 1) : Nat) : Int)) ∧ S w') (ha : a0.tmps.size = 272) (hS : S w)
    (hq : ∀ a' w', S w' → a'.defers = a0.defers → a'.tmps.size = 272 → (∀ j d, k1_d[j]? = some (some d) → a'.tmps[d]? = some (k1_V c a1 a2 a3 a4 a5 c1 c2 c3 c4 c5 b j)) → (∀ d, some d ∉ k1_d → a'.tmps[d]? = a0.tmps[d]?) → Q .normal a' w') : (Code.region 1 k1_R false).wp Tryz.prog Q a0 w := by
  refine wp_plain (n := 28) (m := 272) (by kernel_rfl) (by kernel_rfl) k1_nodup (by kernel_rfl) ha ?_ hS hq
  refine upto_succ ?_ (obPU (o := k1_o 27) (by kernel_rfl) (by decide) (by kernel_rfl) fun _ _ s _ => ex_pickO (G := true) (by kernel_rfl) (s.u 22 30 (by kernel_rfl) (by kernel_rfl)) (s.u 26 34 (by kernel_rfl) (by kernel_rfl)) rfl rfl)
  refine upto_succ ?_ (obPG true 22 30 false (o := k1_o 26) (by kernel_rfl) (by decide) (by kernel_rfl) (by kernel_rfl) (by kernel_rfl) rfl rfl fun hG _ W s _ => ex_bin (u := 3) (x := .tmp 33) (y := .const (.int .i64 15)) (by kernel_rfl) (s.g 25 33 (by kernel_rfl) (by kernel_rfl) hG rfl) (rfl) (gtr3c W _ _ _ _))
  refine upto_succ ?_ (obPH true 22 30 false (o := k1_o 25) (by kernel_rfl) (by decide) (by kernel_rfl) (by kernel_rfl) (by kernel_rfl) rfl rfl (fun hG _ _ s => ex_call2 (ts := #[29, 3]) (x := .tmp 32) (y := .const (.int .i64 15)) (f := 30) cf30 (by kernel_rfl) rfl (s.g 24 32 (by kernel_rfl) (by kernel_rfl) hG rfl) (rfl)) q33)
  refine upto_succ ?_ (obPG true 22 30 false (o := k1_o 24) (by kernel_rfl) (by decide) (by kernel_rfl) (by kernel_rfl) (by kernel_rfl) rfl rfl fun hG _ W s hS => ex_load (x := .tmp 31) (t := 29) (by kernel_rfl) (s.g 23 31 (by kernel_rfl) (by kernel_rfl) hG rfl) (ld29 W _ 18 _ _ _ _ _ _ (hcell W hS 18 _ rfl) (hcell W hS 19 _ rfl) (hcell W hS 20 _ rfl) (hcell W hS 21 _ rfl) (hcell W hS 22 _ rfl) (hcell W hS 23 _ rfl)))
  refine upto_succ ?_ (obPG true 22 30 false (o := k1_o 23) (by kernel_rfl) (by decide) (by kernel_rfl) (by kernel_rfl) (by kernel_rfl) rfl rfl fun _ _ W s _ => ex_field (x := .tmp 1) (t := 31) (f := 11) (by kernel_rfl) (s.b 1 (by kernel_rfl) h1) (fa11 W _))
  refine upto_succ ?_ (obPU (o := k1_o 22) (by kernel_rfl) (by decide) (by kernel_rfl) fun _ _ s _ => ex_move (x := .tmp 29) (by kernel_rfl) (s.u 21 29 (by kernel_rfl) (by kernel_rfl)))
  refine upto_succ ?_ (obPU (o := k1_o 21) (by kernel_rfl) (by decide) (by kernel_rfl) fun _ _ s _ => ex_pickO (G := true) (by kernel_rfl) (s.u 16 24 (by kernel_rfl) (by kernel_rfl)) (s.u 20 28 (by kernel_rfl) (by kernel_rfl)) rfl rfl)
  refine upto_succ ?_ (obPG true 16 24 false (o := k1_o 20) (by kernel_rfl) (by decide) (by kernel_rfl) (by kernel_rfl) (by kernel_rfl) rfl rfl fun hG _ W s _ => ex_bin (u := 3) (x := .tmp 27) (y := .const (.int .i64 15)) (by kernel_rfl) (s.g 19 27 (by kernel_rfl) (by kernel_rfl) hG rfl) (rfl) (gtr3c W _ _ _ _))
  refine upto_succ ?_ (obPH true 16 24 false (o := k1_o 19) (by kernel_rfl) (by decide) (by kernel_rfl) (by kernel_rfl) (by kernel_rfl) rfl rfl (fun hG _ _ s => ex_call2 (ts := #[29, 3]) (x := .tmp 26) (y := .const (.int .i64 15)) (f := 30) cf30 (by kernel_rfl) rfl (s.g 18 26 (by kernel_rfl) (by kernel_rfl) hG rfl) (rfl)) q27)
  refine upto_succ ?_ (obPG true 16 24 false (o := k1_o 18) (by kernel_rfl) (by decide) (by kernel_rfl) (by kernel_rfl) (by kernel_rfl) rfl rfl fun hG _ W s hS => ex_load (x := .tmp 25) (t := 29) (by kernel_rfl) (s.g 17 25 (by kernel_rfl) (by kernel_rfl) hG rfl) (ld29 W _ 11 _ _ _ _ _ _ (hcell W hS 11 _ rfl) (hcell W hS 12 _ rfl) (hcell W hS 13 _ rfl) (hcell W hS 14 _ rfl) (hcell W hS 15 _ rfl) (hcell W hS 16 _ rfl)))
  refine upto_succ ?_ (obPG true 16 24 false (o := k1_o 17) (by kernel_rfl) (by decide) (by kernel_rfl) (by kernel_rfl) (by kernel_rfl) rfl rfl fun _ _ W s _ => ex_field (x := .tmp 1) (t := 31) (f := 9) (by kernel_rfl) (s.b 1 (by kernel_rfl) h1) (fa9 W _))
  refine upto_succ ?_ (obPU (o := k1_o 16) (by kernel_rfl) (by decide) (by kernel_rfl) fun _ _ s _ => ex_move (x := .tmp 23) (by kernel_rfl) (s.u 15 23 (by kernel_rfl) (by kernel_rfl)))
  refine upto_succ ?_ (obPU (o := k1_o 15) (by kernel_rfl) (by decide) (by kernel_rfl) fun _ _ s _ => ex_pickO (G := true) (by kernel_rfl) (s.u 10 18 (by kernel_rfl) (by kernel_rfl)) (s.u 14 22 (by kernel_rfl) (by kernel_rfl)) rfl rfl)
  refine upto_succ ?_ (obPG true 10 18 false (o := k1_o 14) (by kernel_rfl) (by decide) (by kernel_rfl) (by kernel_rfl) (by kernel_rfl) rfl rfl fun hG _ W s _ => ex_bin (u := 3) (x := .tmp 21) (y := .const (.int .i64 5)) (by kernel_rfl) (s.g 13 21 (by kernel_rfl) (by kernel_rfl) hG rfl) (rfl) (gtr3c W _ _ _ _))
  refine upto_succ ?_ (obPG true 10 18 false (o := k1_o 13) (by kernel_rfl) (by decide) (by kernel_rfl) (by kernel_rfl) (by kernel_rfl) rfl rfl fun hG _ W s _ => ex_len (ts := #[26]) (x := .tmp 20) (by kernel_rfl) (fun ty => len26 W a3 c.fields.length c3 ty) (s.g 12 20 (by kernel_rfl) (by kernel_rfl) hG rfl))
  refine upto_succ ?_ (obPG true 10 18 false (o := k1_o 12) (by kernel_rfl) (by decide) (by kernel_rfl) (by kernel_rfl) (by kernel_rfl) rfl rfl fun hG _ W s hS => ex_load (x := .tmp 19) (t := 26) (by kernel_rfl) (s.g 11 19 (by kernel_rfl) (by kernel_rfl) hG rfl) (ld26 W _ 10 _ (hcell W hS 10 _ rfl)))
  refine upto_succ ?_ (obPG true 10 18 false (o := k1_o 11) (by kernel_rfl) (by decide) (by kernel_rfl) (by kernel_rfl) (by kernel_rfl) rfl rfl fun _ _ W s _ => ex_field (x := .tmp 1) (t := 31) (f := 8) (by kernel_rfl) (s.b 1 (by kernel_rfl) h1) (fa8 W _))
  refine upto_succ ?_ (obPU (o := k1_o 10) (by kernel_rfl) (by decide) (by kernel_rfl) fun _ _ s _ => ex_move (x := .tmp 17) (by kernel_rfl) (s.u 9 17 (by kernel_rfl) (by kernel_rfl)))
  refine upto_succ ?_ (obPU (o := k1_o 9) (by kernel_rfl) (by decide) (by kernel_rfl) fun _ _ s _ => ex_pickO (G := true) (by kernel_rfl) (s.u 4 12 (by kernel_rfl) (by kernel_rfl)) (s.u 8 16 (by kernel_rfl) (by kernel_rfl)) rfl rfl)
  refine upto_succ ?_ (obPG true 4 12 false (o := k1_o 8) (by kernel_rfl) (by decide) (by kernel_rfl) (by kernel_rfl) (by kernel_rfl) rfl rfl fun hG _ W s _ => ex_bin (u := 3) (x := .tmp 15) (y := .const (.int .i64 5)) (by kernel_rfl) (s.g 7 15 (by kernel_rfl) (by kernel_rfl) hG rfl) (rfl) (gtr3c W _ _ _ _))
  refine upto_succ ?_ (obPG true 4 12 false (o := k1_o 7) (by kernel_rfl) (by decide) (by kernel_rfl) (by kernel_rfl) (by kernel_rfl) rfl rfl fun hG _ W s _ => ex_len (ts := #[25]) (x := .tmp 14) (by kernel_rfl) (fun ty => len25 W a2 c.vals.length c2 ty) (s.g 6 14 (by kernel_rfl) (by kernel_rfl) hG rfl))
  refine upto_succ ?_ (obPG true 4 12 false (o := k1_o 6) (by kernel_rfl) (by decide) (by kernel_rfl) (by kernel_rfl) (by kernel_rfl) rfl rfl fun hG _ W s hS => ex_load (x := .tmp 13) (t := 25) (by kernel_rfl) (s.g 5 13 (by kernel_rfl) (by kernel_rfl) hG rfl) (ld25 W _ 9 _ (hcell W hS 9 _ rfl)))
  refine upto_succ ?_ (obPG true 4 12 false (o := k1_o 5) (by kernel_rfl) (by decide) (by kernel_rfl) (by kernel_rfl) (by kernel_rfl) rfl rfl fun _ _ W s _ => ex_field (x := .tmp 1) (t := 31) (f := 7) (by kernel_rfl) (s.b 1 (by kernel_rfl) h1) (fa7 W _))
  refine upto_succ ?_ (obPU (o := k1_o 4) (by kernel_rfl) (by decide) (by kernel_rfl) fun _ _ s _ => ex_move (x := .tmp 11) (by kernel_rfl) (s.u 3 11 (by kernel_rfl) (by kernel_rfl)))
  refine upto_succ ?_ (obPU (o := k1_o 3) (by kernel_rfl) (by decide) (by kernel_rfl) fun _ W s _ => ex_bin (u := 3) (x := .tmp 10) (y := .const (.int .i64 5)) (by kernel_rfl) (s.u 2 10 (by kernel_rfl) (by kernel_rfl)) (rfl) (gtr3c W _ _ _ _))
  refine upto_succ ?_ (obPU (o := k1_o 2) (by kernel_rfl) (by decide) (by kernel_rfl) fun _ W s _ => ex_len (ts := #[22]) (x := .tmp 9) (by kernel_rfl) (fun ty => len22 W a1 c.cols.length c1 ty) (s.u 1 9 (by kernel_rfl) (by kernel_rfl)))
  refine upto_succ ?_ (obPU (o := k1_o 1) (by kernel_rfl) (by decide) (by kernel_rfl) fun _ W s hS => ex_load (x := .tmp 8) (t := 22) (by kernel_rfl) (s.u 0 8 (by kernel_rfl) (by kernel_rfl)) (ld22 W _ 4 _ (hcell W hS 4 _ rfl)))
  refine upto_succ ?_ (obPU (o := k1_o 0) (by kernel_rfl) (by decide) (by kernel_rfl) fun _ W s _ => ex_field (x := .tmp 1) (t := 31) (f := 4) (by kernel_rfl) (s.b 1 (by kernel_rfl) h1) (fa4 W _))
  exact fun j hj => absurd hj (Nat.not_lt_zero j)

noncomputable def k3_R : Array Oper := ((Tryz.f13.body).bind (regionOf 3)).getD #[]
noncomputable def k3_o (j : Nat) : Oper := (k3_R[j]?).getD ⟨none, .move (.const undef), 0, "", #[], none⟩
def k3_V (c : Cm) (b : Nat) (j : Nat) : Value := ([.pointer (some ⟨b, 0, none⟩), .int .i64 c.kind, .int .i64 c.kind] : List Value).getD j undef
def k3_d : List (Option Tmp) := [some 36, some 37, some 3]
set_option maxRecDepth 100000 in
theorem k3_nodup : k3_d.Nodup := by unfold k3_d; decide

set_option maxRecDepth 100000 in
theorem k3_wp {c : Cm} {a1 a2 a3 a4 a5 : Option Addr} {c1 c2 c3 c4 c5 : Nat} {b : Nat} {S : World → Prop} {a0 : Act} {Q : Exit → Act → World → Prop} {w : World} (h1 : a0.tmps[1]? = some (.pointer (some ⟨b, 0, none⟩))) (hcell : ∀ W, S W → ∀ o x, (cmL c (.slice a1 c.cols.length c1) (.slice a2 c.vals.length c2) (.slice a3 c.fields.length c3) (.slice a4 c.expr.args.length c4) (.slice a5 c.wh.args.length c5))[o]? = some x → W.cell? ⟨b, o, none⟩ = some x) (ha : a0.tmps.size = 272) (hS : S w)
    (hq : ∀ a' w', S w' → a'.defers = a0.defers → a'.tmps.size = 272 → (∀ j d, k3_d[j]? = some (some d) → a'.tmps[d]? = some (k3_V c b j)) → (∀ d, some d ∉ k3_d → a'.tmps[d]? = a0.tmps[d]?) → Q .normal a' w') : (Code.region 3 k3_R false).wp Tryz.prog Q a0 w := by
  refine wp_plain (n := 3) (m := 272) (by kernel_rfl) (by kernel_rfl) k3_nodup (by kernel_rfl) ha ?_ hS hq
  refine upto_succ ?_ (obPU (o := k3_o 2) (by kernel_rfl) (by decide) (by kernel_rfl) fun _ _ s _ => ex_assign (x := .tmp 37) (by kernel_rfl) (s.u 1 37 (by kernel_rfl) (by kernel_rfl)))
  refine upto_succ ?_ (obPU (o := k3_o 1) (by kernel_rfl) (by decide) (by kernel_rfl) fun _ W s hS => ex_load (x := .tmp 36) (t := 3) (by kernel_rfl) (s.u 0 36 (by kernel_rfl) (by kernel_rfl)) (ld3 W _ 0 _ (hcell W hS 0 _ rfl)))
  refine upto_succ ?_ (obPU (o := k3_o 0) (by kernel_rfl) (by decide) (by kernel_rfl) fun _ W s _ => ex_field (x := .tmp 1) (t := 31) (f := 0) (by kernel_rfl) (s.b 1 (by kernel_rfl) h1) (fa0 W _))
  exact fun j hj => absurd hj (Nat.not_lt_zero j)

noncomputable def k5_R : Array Oper := ((Tryz.f13.body).bind (regionOf 5)).getD #[]
noncomputable def k5_o (j : Nat) : Oper := (k5_R[j]?).getD ⟨none, .move (.const undef), 0, "", #[], none⟩
def k5_V (c : Cm) (j : Nat) : Value := ([.int .i64 c.kind, .bool (decide (c.kind = 3)), .bool (decide (c.kind = 3)), gw ((decide (c.kind = 3)) == false) (.int .i64 c.kind), gw ((decide (c.kind = 3)) == false) (.bool (decide (c.kind = 6))), .bool ((decide (c.kind = 3)) || (decide (c.kind = 6)))] : List Value).getD j undef
def k5_d : List (Option Tmp) := [some 77, some 78, some 79, some 80, some 81, some 82]
set_option maxRecDepth 100000 in
theorem k5_nodup : k5_d.Nodup := by unfold k5_d; decide

set_option maxRecDepth 100000 in
theorem k5_wp {c : Cm} {S : World → Prop} {a0 : Act} {Q : Exit → Act → World → Prop} {w : World} (h3 : a0.tmps[3]? = some (.int .i64 c.kind)) (ha : a0.tmps.size = 272) (hS : S w)
    (hq : ∀ a' w', S w' → a'.defers = a0.defers → a'.tmps.size = 272 → (∀ j d, k5_d[j]? = some (some d) → a'.tmps[d]? = some (k5_V c j)) → (∀ d, some d ∉ k5_d → a'.tmps[d]? = a0.tmps[d]?) → Q .normal a' w') : (Code.region 5 k5_R false).wp Tryz.prog Q a0 w := by
  refine wp_plain (n := 6) (m := 272) (by kernel_rfl) (by kernel_rfl) k5_nodup (by kernel_rfl) ha ?_ hS hq
  refine upto_succ ?_ (obPU (o := k5_o 5) (by kernel_rfl) (by decide) (by kernel_rfl) fun _ _ s _ => ex_pickO (G := true) (by kernel_rfl) (s.u 2 79 (by kernel_rfl) (by kernel_rfl)) (s.u 4 81 (by kernel_rfl) (by kernel_rfl)) rfl rfl)
  refine upto_succ ?_ (obPG true 2 79 false (o := k5_o 4) (by kernel_rfl) (by decide) (by kernel_rfl) (by kernel_rfl) (by kernel_rfl) rfl rfl fun hG _ W s _ => ex_bin (u := 3) (x := .tmp 80) (y := .const (.int .i64 6)) (by kernel_rfl) (s.g 3 80 (by kernel_rfl) (by kernel_rfl) hG rfl) (rfl) (eq3c W _ _ _ _))
  refine upto_succ ?_ (obPG true 2 79 false (o := k5_o 3) (by kernel_rfl) (by decide) (by kernel_rfl) (by kernel_rfl) (by kernel_rfl) rfl rfl fun _ _ _ s _ => ex_move (x := .tmp 3) (by kernel_rfl) (s.b 3 (by kernel_rfl) h3))
  refine upto_succ ?_ (obPU (o := k5_o 2) (by kernel_rfl) (by decide) (by kernel_rfl) fun _ _ s _ => ex_move (x := .tmp 78) (by kernel_rfl) (s.u 1 78 (by kernel_rfl) (by kernel_rfl)))
  refine upto_succ ?_ (obPU (o := k5_o 1) (by kernel_rfl) (by decide) (by kernel_rfl) fun _ W s _ => ex_bin (u := 3) (x := .tmp 77) (y := .const (.int .i64 3)) (by kernel_rfl) (s.u 0 77 (by kernel_rfl) (by kernel_rfl)) (rfl) (eq3c W _ _ _ _))
  refine upto_succ ?_ (obPU (o := k5_o 0) (by kernel_rfl) (by decide) (by kernel_rfl) fun _ _ s _ => ex_move (x := .tmp 3) (by kernel_rfl) (s.b 3 (by kernel_rfl) h3))
  exact fun j hj => absurd hj (Nat.not_lt_zero j)

end Go.Proofs.YtkpeklealgicpabGreatDoor

namespace Go.Proofs.YtkpeklealgicpabGreatDoor
open Go.RowKit

noncomputable def k6_R : Array Oper := ((Tryz.f13.body).bind (regionOf 6)).getD #[]
noncomputable def k6_o (j : Nat) : Oper := (k6_R[j]?).getD ⟨none, .move (.const undef), 0, "", #[], none⟩
def k6_V (c : Cm) (b : Nat) (ok : Bool) (j : Nat) : Value := ([.bool ok, .bool ok, gw (ok == true) (.pointer (some ⟨b, 5, none⟩)), gw (ok == true) (.int .i64 c.ty), gw (ok == true) (.bool (betw c.ty 1 3)), .bool (ok && (betw c.ty 1 3)), .bool (ok && (betw c.ty 1 3))] : List Value).getD j undef
def k6_d : List (Option Tmp) := [some 83, some 84, some 85, some 86, some 87, some 88, some 4]
set_option maxRecDepth 100000 in
theorem k6_nodup : k6_d.Nodup := by unfold k6_d; decide

set_option maxRecDepth 100000 in
theorem k6_wp {c : Cm} {a1 a2 a3 a4 a5 : Option Addr} {c1 c2 c3 c4 c5 : Nat} {b : Nat} {ok : Bool} {S : World → Prop} {a0 : Act} {Q : Exit → Act → World → Prop} {w : World} (h1 : a0.tmps[1]? = some (.pointer (some ⟨b, 0, none⟩))) (h4 : a0.tmps[4]? = some (.bool ok)) (hcell : ∀ W, S W → ∀ o x, (cmL c (.slice a1 c.cols.length c1) (.slice a2 c.vals.length c2) (.slice a3 c.fields.length c3) (.slice a4 c.expr.args.length c4) (.slice a5 c.wh.args.length c5))[o]? = some x → W.cell? ⟨b, o, none⟩ = some x) (q87 : ∀ W, S W → Calls Tryz.prog 31 #[.int .i64 c.ty, .int .i64 1, .int .i64 3] W fun e w' => e = .returned (.bool (betw c.ty 1 3)) ∧ S w') (ha : a0.tmps.size = 272) (hS : S w)
    (hq : ∀ a' w', S w' → a'.defers = a0.defers → a'.tmps.size = 272 → (∀ j d, k6_d[j]? = some (some d) → a'.tmps[d]? = some (k6_V c b ok j)) → (∀ d, some d ∉ k6_d → a'.tmps[d]? = a0.tmps[d]?) → Q .normal a' w') : (Code.region 6 k6_R false).wp Tryz.prog Q a0 w := by
  refine wp_plain (n := 7) (m := 272) (by kernel_rfl) (by kernel_rfl) k6_nodup (by kernel_rfl) ha ?_ hS hq
  refine upto_succ ?_ (obPU (o := k6_o 6) (by kernel_rfl) (by decide) (by kernel_rfl) fun _ _ s _ => ex_assign (x := .tmp 88) (by kernel_rfl) (s.u 5 88 (by kernel_rfl) (by kernel_rfl)))
  refine upto_succ ?_ (obPU (o := k6_o 5) (by kernel_rfl) (by decide) (by kernel_rfl) fun _ _ s _ => ex_pickA (G := true) (by kernel_rfl) (s.u 1 84 (by kernel_rfl) (by kernel_rfl)) (s.u 4 87 (by kernel_rfl) (by kernel_rfl)) rfl rfl)
  refine upto_succ ?_ (obPH true 1 84 true (o := k6_o 4) (by kernel_rfl) (by decide) (by kernel_rfl) (by kernel_rfl) (by kernel_rfl) rfl rfl (fun hG _ _ s => ex_call3 (ts := #[3, 3, 3]) (x := .tmp 86) (y := .const (.int .i64 1)) (z := .const (.int .i64 3)) (f := 31) cf31 (by kernel_rfl) rfl (s.g 3 86 (by kernel_rfl) (by kernel_rfl) hG rfl) (rfl) (rfl)) q87)
  refine upto_succ ?_ (obPG true 1 84 true (o := k6_o 3) (by kernel_rfl) (by decide) (by kernel_rfl) (by kernel_rfl) (by kernel_rfl) rfl rfl fun hG _ W s hS => ex_load (x := .tmp 85) (t := 3) (by kernel_rfl) (s.g 2 85 (by kernel_rfl) (by kernel_rfl) hG rfl) (ld3 W _ 5 _ (hcell W hS 5 _ rfl)))
  refine upto_succ ?_ (obPG true 1 84 true (o := k6_o 2) (by kernel_rfl) (by decide) (by kernel_rfl) (by kernel_rfl) (by kernel_rfl) rfl rfl fun _ _ W s _ => ex_field (x := .tmp 1) (t := 31) (f := 5) (by kernel_rfl) (s.b 1 (by kernel_rfl) h1) (fa5 W _))
  refine upto_succ ?_ (obPU (o := k6_o 1) (by kernel_rfl) (by decide) (by kernel_rfl) fun _ _ s _ => ex_move (x := .tmp 83) (by kernel_rfl) (s.u 0 83 (by kernel_rfl) (by kernel_rfl)))
  refine upto_succ ?_ (obPU (o := k6_o 0) (by kernel_rfl) (by decide) (by kernel_rfl) fun _ _ s _ => ex_move (x := .tmp 4) (by kernel_rfl) (s.b 4 (by kernel_rfl) h4))
  exact fun j hj => absurd hj (Nat.not_lt_zero j)

noncomputable def k7_R : Array Oper := ((Tryz.f13.body).bind (regionOf 7)).getD #[]
noncomputable def k7_o (j : Nat) : Oper := (k7_R[j]?).getD ⟨none, .move (.const undef), 0, "", #[], none⟩
def k7_V (c : Cm) (b : Nat) (ok : Bool) (j : Nat) : Value := ([.bool ok, .bool ok, gw (ok == true) (.pointer (some ⟨b, 5, none⟩)), gw (ok == true) (.int .i64 c.ty), gw (ok == true) (.bool (decide (c.ty = 0))), .bool (ok && (decide (c.ty = 0))), .bool (ok && (decide (c.ty = 0)))] : List Value).getD j undef
def k7_d : List (Option Tmp) := [some 89, some 90, some 91, some 92, some 93, some 94, some 4]
set_option maxRecDepth 100000 in
theorem k7_nodup : k7_d.Nodup := by unfold k7_d; decide

set_option maxRecDepth 100000 in
theorem k7_wp {c : Cm} {a1 a2 a3 a4 a5 : Option Addr} {c1 c2 c3 c4 c5 : Nat} {b : Nat} {ok : Bool} {S : World → Prop} {a0 : Act} {Q : Exit → Act → World → Prop} {w : World} (h1 : a0.tmps[1]? = some (.pointer (some ⟨b, 0, none⟩))) (h4 : a0.tmps[4]? = some (.bool ok)) (hcell : ∀ W, S W → ∀ o x, (cmL c (.slice a1 c.cols.length c1) (.slice a2 c.vals.length c2) (.slice a3 c.fields.length c3) (.slice a4 c.expr.args.length c4) (.slice a5 c.wh.args.length c5))[o]? = some x → W.cell? ⟨b, o, none⟩ = some x) (ha : a0.tmps.size = 272) (hS : S w)
    (hq : ∀ a' w', S w' → a'.defers = a0.defers → a'.tmps.size = 272 → (∀ j d, k7_d[j]? = some (some d) → a'.tmps[d]? = some (k7_V c b ok j)) → (∀ d, some d ∉ k7_d → a'.tmps[d]? = a0.tmps[d]?) → Q .normal a' w') : (Code.region 7 k7_R false).wp Tryz.prog Q a0 w := by
  refine wp_plain (n := 7) (m := 272) (by kernel_rfl) (by kernel_rfl) k7_nodup (by kernel_rfl) ha ?_ hS hq
  refine upto_succ ?_ (obPU (o := k7_o 6) (by kernel_rfl) (by decide) (by kernel_rfl) fun _ _ s _ => ex_assign (x := .tmp 94) (by kernel_rfl) (s.u 5 94 (by kernel_rfl) (by kernel_rfl)))
  refine upto_succ ?_ (obPU (o := k7_o 5) (by kernel_rfl) (by decide) (by kernel_rfl) fun _ _ s _ => ex_pickA (G := true) (by kernel_rfl) (s.u 1 90 (by kernel_rfl) (by kernel_rfl)) (s.u 4 93 (by kernel_rfl) (by kernel_rfl)) rfl rfl)
  refine upto_succ ?_ (obPG true 1 90 true (o := k7_o 4) (by kernel_rfl) (by decide) (by kernel_rfl) (by kernel_rfl) (by kernel_rfl) rfl rfl fun hG _ W s _ => ex_bin (u := 3) (x := .tmp 92) (y := .const (.int .i64 0)) (by kernel_rfl) (s.g 3 92 (by kernel_rfl) (by kernel_rfl) hG rfl) (rfl) (eq3c W _ _ _ _))
  refine upto_succ ?_ (obPG true 1 90 true (o := k7_o 3) (by kernel_rfl) (by decide) (by kernel_rfl) (by kernel_rfl) (by kernel_rfl) rfl rfl fun hG _ W s hS => ex_load (x := .tmp 91) (t := 3) (by kernel_rfl) (s.g 2 91 (by kernel_rfl) (by kernel_rfl) hG rfl) (ld3 W _ 5 _ (hcell W hS 5 _ rfl)))
  refine upto_succ ?_ (obPG true 1 90 true (o := k7_o 2) (by kernel_rfl) (by decide) (by kernel_rfl) (by kernel_rfl) (by kernel_rfl) rfl rfl fun _ _ W s _ => ex_field (x := .tmp 1) (t := 31) (f := 5) (by kernel_rfl) (s.b 1 (by kernel_rfl) h1) (fa5 W _))
  refine upto_succ ?_ (obPU (o := k7_o 1) (by kernel_rfl) (by decide) (by kernel_rfl) fun _ _ s _ => ex_move (x := .tmp 89) (by kernel_rfl) (s.u 0 89 (by kernel_rfl) (by kernel_rfl)))
  refine upto_succ ?_ (obPU (o := k7_o 0) (by kernel_rfl) (by decide) (by kernel_rfl) fun _ _ s _ => ex_move (x := .tmp 4) (by kernel_rfl) (s.b 4 (by kernel_rfl) h4))
  exact fun j hj => absurd hj (Nat.not_lt_zero j)

noncomputable def k8_R : Array Oper := ((Tryz.f13.body).bind (regionOf 8)).getD #[]
noncomputable def k8_o (j : Nat) : Oper := (k8_R[j]?).getD ⟨none, .move (.const undef), 0, "", #[], none⟩
def k8_V (c : Cm) (b : Nat) (ok : Bool) (j : Nat) : Value := ([.bool ok, .bool ok, gw (ok == true) (.pointer (some ⟨b, 6, none⟩)), gw (ok == true) (.agg #[.int .i64 c.val.k, .int .i64 c.val.n, .string ⟨c.val.s.toArray⟩]), gw (ok == true) (.int .i64 ((chkV c.val.k c.val.n c.val.s : Nat) : Int)), gw (ok == true) (.bool (decide (((chkV c.val.k c.val.n c.val.s : Nat) : Int) = 0))), .bool (ok && (decide (((chkV c.val.k c.val.n c.val.s : Nat) : Int) = 0))), .bool (ok && (decide (((chkV c.val.k c.val.n c.val.s : Nat) : Int) = 0))), gw ((ok && (decide (((chkV c.val.k c.val.n c.val.s : Nat) : Int) = 0))) == true) (.int .i64 c.kind), gw ((ok && (decide (((chkV c.val.k c.val.n c.val.s : Nat) : Int) = 0))) == true) (.bool (decide (c.kind = 3))), gw ((ok && (decide (((chkV c.val.k c.val.n c.val.s : Nat) : Int) = 0))) == true) (.bool (decide (c.kind = 3))), gw (((ok && (decide (((chkV c.val.k c.val.n c.val.s : Nat) : Int) = 0))) == true) && ((decide (c.kind = 3)) == false)) (.pointer (some ⟨b, 6, none⟩)), gw (((ok && (decide (((chkV c.val.k c.val.n c.val.s : Nat) : Int) = 0))) == true) && ((decide (c.kind = 3)) == false)) (.agg #[.int .i64 c.val.k, .int .i64 c.val.n, .string ⟨c.val.s.toArray⟩]), gw (((ok && (decide (((chkV c.val.k c.val.n c.val.s : Nat) : Int) = 0))) == true) && ((decide (c.kind = 3)) == false)) (.agg #[.int .i64 0, .int .i64 0, .string ⟨#[]⟩]), gw (((ok && (decide (((chkV c.val.k c.val.n c.val.s : Nat) : Int) = 0))) == true) && ((decide (c.kind = 3)) == false)) (.bool (noneV c.val)), gw ((ok && (decide (((chkV c.val.k c.val.n c.val.s : Nat) : Int) = 0))) == true) (.bool ((decide (c.kind = 3)) || (noneV c.val))), .bool ((ok && (decide (((chkV c.val.k c.val.n c.val.s : Nat) : Int) = 0))) && ((decide (c.kind = 3)) || (noneV c.val))), .bool ((ok && (decide (((chkV c.val.k c.val.n c.val.s : Nat) : Int) = 0))) && ((decide (c.kind = 3)) || (noneV c.val)))] : List Value).getD j undef
def k8_d : List (Option Tmp) := [some 95, some 96, some 97, some 98, some 99, some 100, some 101, some 102, some 103, some 104, some 105, some 106, some 107, some 108, some 109, some 110, some 111, some 4]
set_option maxRecDepth 100000 in
theorem k8_nodup : k8_d.Nodup := by unfold k8_d; decide

set_option maxRecDepth 100000 in
theorem k8_wp {c : Cm} {a1 a2 a3 a4 a5 : Option Addr} {c1 c2 c3 c4 c5 : Nat} {b : Nat} {ok : Bool} {S : World → Prop} {a0 : Act} {Q : Exit → Act → World → Prop} {w : World} (h1 : a0.tmps[1]? = some (.pointer (some ⟨b, 0, none⟩))) (h3 : a0.tmps[3]? = some (.int .i64 c.kind)) (h4 : a0.tmps[4]? = some (.bool ok)) (hcell : ∀ W, S W → ∀ o x, (cmL c (.slice a1 c.cols.length c1) (.slice a2 c.vals.length c2) (.slice a3 c.fields.length c3) (.slice a4 c.expr.args.length c4) (.slice a5 c.wh.args.length c5))[o]? = some x → W.cell? ⟨b, o, none⟩ = some x) (q99 : ∀ W, S W → Calls Tryz.prog 33 #[.agg #[.int .i64 c.val.k, .int .i64 c.val.n, .string ⟨c.val.s.toArray⟩]] W fun e w' => e = .returned (.int .i64 ((chkV c.val.k c.val.n c.val.s : Nat) : Int)) ∧ S w') (q109 : ∀ W, S W → Calls Tryz.prog 25 #[.agg #[.int .i64 c.val.k, .int .i64 c.val.n, .string ⟨c.val.s.toArray⟩], .agg #[.int .i64 0, .int .i64 0, .string ⟨#[]⟩]] W fun e w' => e = .returned (.bool (noneV c.val)) ∧ S w') (ha : a0.tmps.size = 272) (hS : S w)
    (hq : ∀ a' w', S w' → a'.defers = a0.defers → a'.tmps.size = 272 → (∀ j d, k8_d[j]? = some (some d) → a'.tmps[d]? = some (k8_V c b ok j)) → (∀ d, some d ∉ k8_d → a'.tmps[d]? = a0.tmps[d]?) → Q .normal a' w') : (Code.region 8 k8_R false).wp Tryz.prog Q a0 w := by
  refine wp_plain (n := 18) (m := 272) (by kernel_rfl) (by kernel_rfl) k8_nodup (by kernel_rfl) ha ?_ hS hq
  refine upto_succ ?_ (obPU (o := k8_o 17) (by kernel_rfl) (by decide) (by kernel_rfl) fun _ _ s _ => ex_assign (x := .tmp 111) (by kernel_rfl) (s.u 16 111 (by kernel_rfl) (by kernel_rfl)))
  refine upto_succ ?_ (obPU (o := k8_o 16) (by kernel_rfl) (by decide) (by kernel_rfl) fun _ _ s _ => ex_pickA (G := true) (by kernel_rfl) (s.u 7 102 (by kernel_rfl) (by kernel_rfl)) (s.u 15 110 (by kernel_rfl) (by kernel_rfl)) rfl rfl)
  refine upto_succ ?_ (obPG true 7 102 true (o := k8_o 15) (by kernel_rfl) (by decide) (by kernel_rfl) (by kernel_rfl) (by kernel_rfl) rfl rfl fun hG _ _ s _ => ex_pickO (by kernel_rfl) (s.g 10 105 (by kernel_rfl) (by kernel_rfl) hG rfl) (s.u 14 109 (by kernel_rfl) (by kernel_rfl)) rfl hG)
  refine upto_succ ?_ (obPH _ 10 105 false (o := k8_o 14) (by kernel_rfl) (by decide) (by kernel_rfl) (by kernel_rfl) (by kernel_rfl) rfl rfl (fun hG _ _ s => ex_call2 (ts := #[24, 24]) (x := .tmp 107) (y := .tmp 108) (f := 25) cf25 (by kernel_rfl) rfl (s.g 12 107 (by kernel_rfl) (by kernel_rfl) hG rfl) (s.g 13 108 (by kernel_rfl) (by kernel_rfl) hG rfl)) q109)
  refine upto_succ ?_ (obPG _ 10 105 false (o := k8_o 13) (by kernel_rfl) (by decide) (by kernel_rfl) (by kernel_rfl) (by kernel_rfl) rfl rfl fun _ _ _ _ _ => ex_build24 (by kernel_rfl))
  refine upto_succ ?_ (obPG _ 10 105 false (o := k8_o 12) (by kernel_rfl) (by decide) (by kernel_rfl) (by kernel_rfl) (by kernel_rfl) rfl rfl fun hG _ W s hS => ex_load (x := .tmp 106) (t := 24) (by kernel_rfl) (s.g 11 106 (by kernel_rfl) (by kernel_rfl) hG rfl) (ld24 W _ 6 _ _ _ (hcell W hS 6 _ rfl) (hcell W hS 7 _ rfl) (hcell W hS 8 _ rfl)))
  refine upto_succ ?_ (obPG _ 10 105 false (o := k8_o 11) (by kernel_rfl) (by decide) (by kernel_rfl) (by kernel_rfl) (by kernel_rfl) rfl rfl fun _ _ W s _ => ex_field (x := .tmp 1) (t := 31) (f := 6) (by kernel_rfl) (s.b 1 (by kernel_rfl) h1) (fa6 W _))
  refine upto_succ ?_ (obPG true 7 102 true (o := k8_o 10) (by kernel_rfl) (by decide) (by kernel_rfl) (by kernel_rfl) (by kernel_rfl) rfl rfl fun hG _ _ s _ => ex_move (x := .tmp 104) (by kernel_rfl) (s.g 9 104 (by kernel_rfl) (by kernel_rfl) hG rfl))
  refine upto_succ ?_ (obPG true 7 102 true (o := k8_o 9) (by kernel_rfl) (by decide) (by kernel_rfl) (by kernel_rfl) (by kernel_rfl) rfl rfl fun hG _ W s _ => ex_bin (u := 3) (x := .tmp 103) (y := .const (.int .i64 3)) (by kernel_rfl) (s.g 8 103 (by kernel_rfl) (by kernel_rfl) hG rfl) (rfl) (eq3c W _ _ _ _))
  refine upto_succ ?_ (obPG true 7 102 true (o := k8_o 8) (by kernel_rfl) (by decide) (by kernel_rfl) (by kernel_rfl) (by kernel_rfl) rfl rfl fun _ _ _ s _ => ex_move (x := .tmp 3) (by kernel_rfl) (s.b 3 (by kernel_rfl) h3))
  refine upto_succ ?_ (obPU (o := k8_o 7) (by kernel_rfl) (by decide) (by kernel_rfl) fun _ _ s _ => ex_move (x := .tmp 101) (by kernel_rfl) (s.u 6 101 (by kernel_rfl) (by kernel_rfl)))
  refine upto_succ ?_ (obPU (o := k8_o 6) (by kernel_rfl) (by decide) (by kernel_rfl) fun _ _ s _ => ex_pickA (G := true) (by kernel_rfl) (s.u 1 96 (by kernel_rfl) (by kernel_rfl)) (s.u 5 100 (by kernel_rfl) (by kernel_rfl)) rfl rfl)
  refine upto_succ ?_ (obPG true 1 96 true (o := k8_o 5) (by kernel_rfl) (by decide) (by kernel_rfl) (by kernel_rfl) (by kernel_rfl) rfl rfl fun hG _ W s _ => ex_bin (u := 32) (x := .tmp 99) (y := .const (.int .i64 0)) (by kernel_rfl) (s.g 4 99 (by kernel_rfl) (by kernel_rfl) hG rfl) (rfl) (eq32c W _ _ _ _))
  refine upto_succ ?_ (obPH true 1 96 true (o := k8_o 4) (by kernel_rfl) (by decide) (by kernel_rfl) (by kernel_rfl) (by kernel_rfl) rfl rfl (fun hG _ _ s => ex_call1 (ts := #[24]) (x := .tmp 98) (f := 33) cf33 (by kernel_rfl) rfl (s.g 3 98 (by kernel_rfl) (by kernel_rfl) hG rfl)) q99)
  refine upto_succ ?_ (obPG true 1 96 true (o := k8_o 3) (by kernel_rfl) (by decide) (by kernel_rfl) (by kernel_rfl) (by kernel_rfl) rfl rfl fun hG _ W s hS => ex_load (x := .tmp 97) (t := 24) (by kernel_rfl) (s.g 2 97 (by kernel_rfl) (by kernel_rfl) hG rfl) (ld24 W _ 6 _ _ _ (hcell W hS 6 _ rfl) (hcell W hS 7 _ rfl) (hcell W hS 8 _ rfl)))
  refine upto_succ ?_ (obPG true 1 96 true (o := k8_o 2) (by kernel_rfl) (by decide) (by kernel_rfl) (by kernel_rfl) (by kernel_rfl) rfl rfl fun _ _ W s _ => ex_field (x := .tmp 1) (t := 31) (f := 6) (by kernel_rfl) (s.b 1 (by kernel_rfl) h1) (fa6 W _))
  refine upto_succ ?_ (obPU (o := k8_o 1) (by kernel_rfl) (by decide) (by kernel_rfl) fun _ _ s _ => ex_move (x := .tmp 95) (by kernel_rfl) (s.u 0 95 (by kernel_rfl) (by kernel_rfl)))
  refine upto_succ ?_ (obPU (o := k8_o 0) (by kernel_rfl) (by decide) (by kernel_rfl) fun _ _ s _ => ex_move (x := .tmp 4) (by kernel_rfl) (s.b 4 (by kernel_rfl) h4))
  exact fun j hj => absurd hj (Nat.not_lt_zero j)

end Go.Proofs.YtkpeklealgicpabGreatDoor
