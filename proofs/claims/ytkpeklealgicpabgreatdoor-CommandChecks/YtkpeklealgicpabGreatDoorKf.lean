/-
  The document's SameValue and SameValues, of any values in memory.
  The document's SameExpr, of any expressions in memory.
  The document's reader in memory: its small methods.
  The document's own small functions (package overhaulref), as ValueTells calls them.
  'CheckValue' of package overhaulref.
  The document's small functions of commands: ArgsOf, nameIs, NoExpr, PlainExpr.
  The document's PlainExpr, and PartsOf.
  The document's isExpr, of any expression in memory.
  CheckCmd of the document, of any command in memory.
  Parse, all cases in one; the laws' first look, commandBegun.
  The laws' first look at commands, commandBegun: it answers true.
  The law CommandChecks: its call.
  A command that came in: what its reading says of its cells.
  What the listed variables give, and a world that holds them.
-/
import Derived.Deep.RegionHeld3
import Derived.Deep.Cut
import Derived.ProofKit
import Derived.Deep.Slices
import Derived.Deep.Strs
import Derived.Lib.SmallJoins
import Derived.SizedLaws
import Derived.ChangeOld
import Derived.Test.YtkpeklealgicpabGreatDoorRows
import Derived.LaidMore
import Derived.Stop.LaidErr
import Derived.Lib.LaidTab
import Derived.OpenShut
import Derived.MakeChecks
import Derived.Shelf.Vars
import Derived.Deep.DeepHandedRow
import Derived.Deep.DeepWitnessRowRef
import Derived.Test.YtkpeklealgicpabGreatDoorKe

namespace Go.Proofs.YtkpeklealgicpabGreatDoor
open Go.RowKit

def eqV (x y : Vl) : Bool := decide (x.k = y.k) && decide (x.n = y.n) && decide (x.s = y.s)
set_option maxRecDepth 100000 in
set_option maxHeartbeats 800000 in
theorem sameV_any (x y : Vl) (w : World) : Calls Tryz.prog 25 #[.agg #[.int .i64 x.k, .int .i64 x.n, .string ⟨x.s.toArray⟩], .agg #[.int .i64 y.k, .int .i64 y.n, .string ⟨y.s.toArray⟩]] w fun e w' => e = .returned (.bool (eqV x y)) ∧ Below w.heap.size w w' := by
  obtain ⟨k, n, s⟩ := x
  obtain ⟨k', n', s'⟩ := y
  simp only [eqV]
  by_cases h1 : k = k'
  · subst h1
    by_cases h2 : n = n'
    · subst h2
      go_enter Tryz.func25, Tryz.ntmps25
      go_wp2
      go_ret
      refine ⟨ret_bool ?_, ((Below.refl _ _).alloc (Nat.le_refl _) _).alloc (by simp) _⟩
      simp
      rw [Bool.eq_iff_iff]; simp
    · have h2' : (n == n') = false := by simpa using h2
      go_enter Tryz.func25, Tryz.ntmps25
      go_wp2
      go_ret
      exact ⟨ret_bool (by simp [h2]), ((Below.refl _ _).alloc (Nat.le_refl _) _).alloc (by simp) _⟩
  · have h1' : (k == k') = false := by simpa using h1
    go_enter Tryz.func25, Tryz.ntmps25
    go_wp2
    go_ret
    exact ⟨ret_bool (by simp [h1]), ((Below.refl _ _).alloc (Nat.le_refl _) _).alloc (by simp) _⟩

end Go.Proofs.YtkpeklealgicpabGreatDoor

namespace Go.Proofs.YtkpeklealgicpabGreatDoor
open Go.RowKit

/-- what an expression in memory is -/
theorem ExAt.spread {B : Nat} {w : World} {u : Value} {x : Ex} (h : ExAt B w u x) : ∃ (ao : Option Addr) (ca : Nat) (us : Nat → Value), u = exV x.k x.v x.nm (.slice ao x.args.length ca) ∧
    (0 < x.args.length → ∃ g o, ao = some ⟨g, o, none⟩ ∧ B ≤ g ∧ g < w.heap.size ∧ (∀ i, i < x.args.length → Six w g (o + 6 * i) (us i)) ∧ ∀ i y, x.args[i]? = some y → ExAt B w (us i) y) := by
  cases h with
  | nil k x nm ao cap hz => exact ⟨ao, cap, fun _ => .pointer none, rfl, fun hh => absurd hh (Nat.lt_irrefl 0)⟩
  | args k x nm b off cap xs us hx hB hs hc h => exact ⟨_, cap, us, rfl, fun _ => ⟨b, off, rfl, hB, hs, hc, h⟩⟩

theorem Fit.few {x : Ex} (h : Fit x) : x.args.length ≤ 1000000000000000 := by
  cases h with
  | mk k v nm args hv hn ha hh => show args.length ≤ _; omega
theorem Fit.arg {x y : Ex} (h : Fit x) {i : Nat} (hy : x.args[i]? = some y) : Fit y := by
  cases h with
  | mk k v nm args hv hn ha hh => exact hh y (List.mem_of_getElem? hy)
theorem size_arg {x y : Ex} {i : Nat} (hy : x.args[i]? = some y) : sizeE y < sizeE x := by
  rw [sizeE_args x]
  have go : ∀ (l : List Ex) (i : Nat), l[i]? = some y → sizeE y ≤ sizeL l := by
    intro l
    induction l with
    | nil => intro i h; simp at h
    | cons z r ih =>
      intro i h
      rw [sizeL]
      cases i with
      | zero => simp at h; subst h; omega
      | succ i => have := ih i (by simpa using h); omega
  have := go _ _ hy
  omega

end Go.Proofs.YtkpeklealgicpabGreatDoor

namespace Go.Proofs.YtkpeklealgicpabGreatDoor
open Go.RowKit

set_option maxRecDepth 100000 in
set_option maxHeartbeats 800000 in
theorem textI (w : World) (rb n cap g i : Nat) (t : ByteArray) (c0 : w.cell? ⟨rb, 0, none⟩ = some (.slice (some ⟨g, 0, none⟩) n cap)) (c1 : w.cell? ⟨rb, 1, none⟩ = some (.int .i64 (i : Int))) (c3 : w.cell? ⟨rb, 3, none⟩ = some (.bool false))
    (hi : (i : Int) < (n : Int)) (e2 : w.cell? ⟨g, i * 3 + 2, none⟩ = some (.string t)) :
    Calls Tryz.prog 115 #[.pointer (some ⟨rb, 0, none⟩)] w fun e w' => e = .returned (.string t) ∧ Below w.heap.size w w' := by
  have hge : ¬ ((n : Int) ≤ (i : Int)) := by omega
  go_enter Tryz.func115, Tryz.ntmps115
  go_wp2
  go_quiet (fail)
  go_wp2
  go_quiet (fail)
  go_wp2
  go_ret
  exact ⟨rfl, below_drewN (below_drewN (Below.refl _ _) _) _⟩

theorem isTok_any (K : Int) (t : ByteArray) (w : World) (hm : t.size ≤ 9223372036854775000) :
    Calls Tryz.prog 83 #[.int .i64 K, .string t] w fun e w' => e = .returned (.bool (aloneB K t.data.toList)) ∧ w' = w := by
  rw [isTok_iff]
  have hl : t.data.toList.length = t.size := by simp
  have hem : t.toList.isEmpty = decide (t.data.toList = []) := by rw [Lib.toList_data]; cases t.data.toList <;> simp
  by_cases h0 : t.data.toList = []
  · rw [show isTokB K t.data.toList = false by simp [isTokB, h0]]
    exact isTok_empty K t w (by rw [hem]; simp [h0])
  have he : t.toList.isEmpty = false := by rw [hem]; simp [h0]
  by_cases h1 : 2000 < t.size
  · rw [show isTokB K t.data.toList = false by simp only [isTokB, decide_eq_false_iff_not]; omega]
    exact isTok_long K t w he h1 hm
  have hpos : 0 < t.size := by rw [← hl]; exact List.length_pos_iff.2 h0
  obtain ⟨k, N, hp⟩ : ∃ k N, tokL t.data.toList = (k, N) := ⟨_, _, rfl⟩
  have hk4 := (tokL_kind t.data.toList).1
  rw [hp] at hk4
  cases hk : (K == 0)
  · have e : isTokB K t.data.toList = (((k : Int) == K) && ((N : Int) == (t.size : Int)) && (((wrongL k t.data.toList : Nat) : Int) == 0)) := by
      rw [Bool.eq_iff_iff]
      simp only [isTokB, hp, decide_eq_true_eq, Bool.and_eq_true, beq_iff_eq]
      constructor
      · rintro ⟨_, _, a, b, c⟩; exact ⟨⟨a, by omega⟩, by omega⟩
      · rintro ⟨⟨a, b⟩, c⟩; exact ⟨h0, by omega, a, by omega, by omega⟩
    rw [e]
    exact isTok_go K t w he hpos (by omega) hk k N _ hp hk4 rfl
  · have hk0 : K = 0 := eq_of_beq hk
    rw [show isTokB K t.data.toList = false by
      simp only [isTokB, hp, decide_eq_false_iff_not]
      rintro ⟨_, _, a, _, c⟩
      have : k = 0 := by omega
      subst this; simp [wrongL] at c]
    exact isTok_kind0 K t w he (by omega) hk

set_option maxRecDepth 100000 in
set_option maxHeartbeats 2000000 in
theorem isWord_any (s : ByteArray) (w : World) : Calls Tryz.prog 84 #[.string s] w fun e w' => e = .returned (.bool (takenL.contains s.data.toList)) ∧ Below w.heap.size w w' := by
  go_enter Tryz.func84, Tryz.ntmps84
  go_wp2
  go_loopw [4] (fun i wl => ∃ k : Nat, k ≤ 36 ∧ i = .int .i64 k ∧ Below w.heap.size w wl ∧ Hid (∀ j x, takenL[j]? = some x → wl.cell? ⟨w.heap.size, j, none⟩ = some (.string ⟨x.toArray⟩)) ∧ Hid (∀ j, j < k → takenL[j]? ≠ some s.data.toList)) (fun i _ => 36 - (intOf i).toNat)
  case atStart =>
    refine ⟨0, by decide, rfl, (Below.refl _ _).alloc (Nat.le_refl _) _, fun j x hx => ?_, fun j hj => absurd hj (Nat.not_lt_zero _)⟩
    have h1 := Lib.cell_of_heap (heap_alloc_new w (.cells (takenL.map fun x => Value.string ⟨x.toArray⟩).toArray 9)) j
    refine h1.trans ?_
    simp [hx]
  case round =>
    obtain ⟨k, hk, rfl, hnx, HC, HA⟩ := hrel
    by_cases hlt : k < 36
    · obtain ⟨x, hx⟩ : ∃ x, takenL[k]? = some x := ⟨takenL[k]'(by simpa [takenL] using hlt), List.getElem?_eq_getElem _⟩
      have c0 := HC.out k x hx
      have HX := hide hx
      have hlt' : (k : Int) < 36 := by omega
      by_cases he : x = s.data.toList
      · have e1 : s = ⟨x.toArray⟩ := by rw [he]
        have HE := hide he
        clear he hx
        subst e1
        go_wp2
        go_ret
        refine ⟨ret_bool ?_, hnx⟩
        have : x ∈ takenL := List.mem_of_getElem? HX.out
        simp [this]
      · have e1 : (x == s.toList) = false := by rw [Lib.toList_data]; simpa using he
        have HE := hide he
        clear he hx
        go_wp2
        go_roundw
        case rel =>
          refine ⟨k + 1, by omega, by go_num, hnx, HC, fun j hj => ?_⟩
          rcases Nat.lt_or_ge j k with hjk | hjk
          · exact HA.out j hjk
          · rw [show j = k by omega, HX.out]
            intro e; cases e; exact HE.out rfl
        case measure => simp [intOf]; omega
    · have hk36 : ¬ (k : Int) < 36 := by omega
      go_wp2
      go_ret
      refine ⟨ret_bool ?_, hnx⟩
      symm
      rw [Bool.eq_false_iff]
      intro h
      have hm : s.data.toList ∈ takenL := by simpa using h
      obtain ⟨j, hj⟩ := List.getElem?_of_mem hm
      have := (List.getElem?_eq_some_iff.1 hj).1
      exact HA.out j (by simp [takenL] at this; omega) hj

set_option maxRecDepth 100000 in
set_option maxHeartbeats 800000 in
theorem rname_any (s : ByteArray) (w : World) (hm : s.size ≤ 9223372036854775000) : Calls Tryz.prog 34 #[.string s] w fun e w' => e = .returned (.bool (nameW s.data.toList)) ∧ Below w.heap.size w w' := by
  have h1 := isTok_any 1 s w hm
  have h2 := isWord_any s w
  unfold nameW
  generalize aloneB 1 s.data.toList = a at *
  generalize takenL.contains s.data.toList = b at *
  cases a with
  | false =>
    go_enter Tryz.func34, Tryz.ntmps34
    go_wp2_with (first | (go_at_call 83; refine h1.mono ?_; rintro e w' ⟨rfl, hw'⟩; obtain rfl := hw'.symm; clear hw'))
    go_ret
    exact ⟨rfl, Below.refl _ _⟩
  | true =>
    go_enter Tryz.func34, Tryz.ntmps34
    go_wp2_with (first | (go_at_call 83; refine h1.mono ?_; rintro e w' ⟨rfl, hw'⟩; obtain rfl := hw'.symm; clear hw') | (go_at_call 84; refine h2.mono ?_; rintro e w2 ⟨rfl, b2⟩))
    go_ret
    exact ⟨ret_bool (by simp), b2⟩

end Go.Proofs.YtkpeklealgicpabGreatDoor

namespace Go.Proofs.YtkpeklealgicpabGreatDoor
open Go.RowKit

theorem between_rw {n a b : Int} {r : Bool} (h : (decide (a ≤ n) && decide (n ≤ b)) = r) (w : World) :
    Calls Tryz.prog 31 #[.int .i64 n, .int .i64 a, .int .i64 b] w fun e w' => e = .returned (.bool r) ∧ w' = w := by
  rw [← h]; exact between_any n a b w

set_option maxRecDepth 100000 in
set_option maxHeartbeats 400000 in
theorem refI_any (n : Int) (w : World) : Calls Tryz.prog 81 #[.int .i64 n] w fun e w' => e = .returned (.bool (isInt n)) ∧ w' = w := by
  go_enter Tryz.func81, Tryz.ntmps81
  go_wp2_with (go_at_call 31; refine (between_any _ _ _ _).mono ?_; rintro e w' ⟨rfl, rfl⟩)
  go_ret
  exact ⟨ret_bool (by rfl), rfl⟩

end Go.Proofs.YtkpeklealgicpabGreatDoor

namespace Go.Proofs.YtkpeklealgicpabGreatDoor
open Go.RowKit

theorem all_at (s : ByteArray) : s.data.toList.all isQ = true ↔ ∀ j (h : j < s.size), isQ s[j] = true := by
  rw [List.all_eq_true]
  constructor
  · intro h j hj
    exact h _ (by
      have : s[j] = s.data[j] := rfl
      rw [this]
      exact Array.mem_toList_iff.2 (Array.getElem_mem _))
  · intro h c hc
    obtain ⟨j, hj, rfl⟩ := List.getElem_of_mem hc
    have hj' : j < s.size := by
      have : s.data.toList.length = s.size := Array.length_toList
      omega
    have := h j hj'
    rw [Array.getElem_toList]
    exact this

set_option maxRecDepth 100000 in
set_option maxHeartbeats 800000 in
theorem ckv_bad (K N : Int) (s : ByteArray) (w : World) (hK : (decide (0 ≤ K) && decide (K ≤ 3)) = false) :
    Calls Tryz.prog 33 #[.agg #[.int .i64 K, .int .i64 N, .string s]] w fun e w' => e = .returned (.int .i64 7) ∧ Below w.heap.size w w' := by
  have hb := between_rw hK
  clear hK
  go_enter Tryz.func33, Tryz.ntmps33
  go_wp2_with (go_at_call 31; refine (hb _).mono ?_; rintro e w' ⟨rfl, hw'⟩; obtain rfl := hw'.symm; clear hw')
  go_ret
  exact ⟨rfl, (Below.refl _ _).alloc (Nat.le_refl _) _⟩

/-- right: no error; else out of range -/
def errB (b : Bool) : Int := if b = true then 0 else 3

set_option maxRecDepth 100000 in
set_option maxHeartbeats 800000 in
theorem ckv_0 (N : Int) (s : ByteArray) (w : World) (b d : Bool) (hN : (N == 0) = b) (hS : s.toList.isEmpty = d) :
    Calls Tryz.prog 33 #[.agg #[.int .i64 0, .int .i64 N, .string s]] w fun e w' => e = .returned (.int .i64 (errB (b && d))) ∧ Below w.heap.size w w' := by
  have hb := between_rw (n := 0) (a := 0) (b := 3) (r := true) (by decide)
  cases b <;> cases d
  all_goals
    go_enter Tryz.func33, Tryz.ntmps33
    go_wp2_with (go_at_call 31; refine (hb _).mono ?_; rintro e w' ⟨rfl, hw'⟩; obtain rfl := hw'.symm; clear hw')
    go_ret
    exact ⟨rfl, (Below.refl _ _).alloc (Nat.le_refl _) _⟩

set_option maxRecDepth 100000 in
set_option maxHeartbeats 800000 in
theorem ckv_1 (N : Int) (s : ByteArray) (w : World) (b d : Bool) (hN : isInt N = b) (hS : s.toList.isEmpty = d) :
    Calls Tryz.prog 33 #[.agg #[.int .i64 1, .int .i64 N, .string s]] w fun e w' => e = .returned (.int .i64 (errB (b && d))) ∧ Below w.heap.size w w' := by
  have hb := between_rw (n := 1) (a := 0) (b := 3) (r := true) (by decide)
  have hi := fun W => refI_any N W
  rw [hN] at hi
  clear hN
  cases b <;> cases d
  all_goals
    go_enter Tryz.func33, Tryz.ntmps33
    go_wp2_with (first | (go_at_call 31; refine (hb _).mono ?_; rintro e w' ⟨rfl, hw'⟩; obtain rfl := hw'.symm; clear hw') | (go_at_call 81; refine (hi _).mono ?_; rintro e w' ⟨rfl, hw'⟩; obtain rfl := hw'.symm; clear hw'))
    go_ret
    exact ⟨rfl, (Below.refl _ _).alloc (Nat.le_refl _) _⟩

set_option maxRecDepth 100000 in
set_option maxHeartbeats 800000 in
theorem ckv_3 (N : Int) (s : ByteArray) (w : World) (b d : Bool) (hN : (decide (0 ≤ N) && decide (N ≤ 1)) = b) (hS : s.toList.isEmpty = d) :
    Calls Tryz.prog 33 #[.agg #[.int .i64 3, .int .i64 N, .string s]] w fun e w' => e = .returned (.int .i64 (errB (b && d))) ∧ Below w.heap.size w w' := by
  have hb := between_rw (n := 3) (a := 0) (b := 3) (r := true) (by decide)
  have hi := between_rw hN
  clear hN
  cases b <;> cases d
  all_goals
    go_enter Tryz.func33, Tryz.ntmps33
    go_wp2_with fail
    refine (hb _).mono ?_
    rintro e w' ⟨rfl, hw'⟩
    obtain rfl := hw'.symm
    clear hw' hb
    go_wp2_with fail
    refine (hi _).mono ?_
    rintro e w' ⟨rfl, hw'⟩
    obtain rfl := hw'.symm
    clear hw' hi
    go_wp2
    go_ret
    exact ⟨rfl, (Below.refl _ _).alloc (Nat.le_refl _) _⟩

set_option maxRecDepth 100000 in
set_option maxHeartbeats 800000 in
theorem ckv_2n (N : Int) (s : ByteArray) (w : World) (h : (N == 0) = false ∨ ((N == 0) = true ∧ 20 < s.size)) (hs : s.size ≤ 140737488355328) :
    Calls Tryz.prog 33 #[.agg #[.int .i64 2, .int .i64 N, .string s]] w fun e w' => e = .returned (.int .i64 3) ∧ Below w.heap.size w w' := by
  have hb := between_rw (n := 2) (a := 0) (b := 3) (r := true) (by decide)
  rcases h with h | ⟨h, h'⟩
  all_goals
    go_enter Tryz.func33, Tryz.ntmps33
    go_wp2_with (go_at_call 31; refine (hb _).mono ?_; rintro e w' ⟨rfl, hw'⟩; obtain rfl := hw'.symm; clear hw')
    clear hb
    go_loop [3, 4] (fun o i => o = .bool false ∧ i = .int .i64 0) (fun _ _ => 0)
    case atStart => exact ⟨by first | rfl | (rw [decide_eq_false (by omega)]), rfl⟩
    case round =>
      obtain ⟨rfl, rfl⟩ := hrel
      go_wp2
      all_goals go_ret
      all_goals exact ⟨rfl, (Below.refl _ _).alloc (Nat.le_refl _) _⟩

set_option maxRecDepth 100000 in
set_option maxHeartbeats 1600000 in
theorem ckv_2y (s : ByteArray) (w : World) (hz : s.size ≤ 20) (r : Bool) (Hr : Hid (s.data.toList.all isQ = r)) :
    Calls Tryz.prog 33 #[.agg #[.int .i64 2, .int .i64 0, .string s]] w fun e w' => e = .returned (.int .i64 (errB r)) ∧ Below w.heap.size w w' := by
  have hb := between_rw (n := 2) (a := 0) (b := 3) (r := true) (by decide)
  go_enter Tryz.func33, Tryz.ntmps33
  go_wp2_with (go_at_call 31; refine (hb _).mono ?_; rintro e w' ⟨rfl, hw'⟩; obtain rfl := hw'.symm; clear hw')
  clear hb
  go_loop [3, 4] (fun o i => ∃ (n : Nat) (b : Bool), n ≤ s.size ∧ i = .int .i64 n ∧ o = .bool b ∧ Hid ((b = true → ∀ j (h : j < s.size), j < n → isQ s[j] = true) ∧ (b = false → ∃ j, ∃ h : j < s.size, isQ s[j] = false))) (fun _ i => s.size - (intOf i).toNat)
  case atStart => exact ⟨0, true, by omega, rfl, by rw [decide_eq_true (by omega)], ⟨fun _ j _ h => absurd h (by omega), fun h => by cases h⟩⟩
  case round =>
    obtain ⟨n, b, hn, rfl, rfl, HE⟩ := hrel
    cases b with
    | false =>
      have HF : Hid (s.data.toList.all isQ = false) := by
        obtain ⟨j, hj, hq⟩ := HE.out.2 rfl
        rw [Hid, Bool.eq_false_iff]
        intro h
        have := (all_at s).1 h j hj
        rw [hq] at this
        cases this
      clear HE
      go_wp2
      all_goals go_ret
      all_goals exact ⟨by rw [show r = false from Hr.out.symm.trans HF.out]; rfl, (Below.refl _ _).alloc (Nat.le_refl _) _⟩
    | true =>
      by_cases hlt : n < s.size
      · have hq := fun W => refQ_any s[n] W
        have HG : Hid ((isQ s[n] = true → ∀ j (h : j < s.size), j < n + 1 → isQ s[j] = true) ∧ (isQ s[n] = false → ∃ j, ∃ h : j < s.size, isQ s[j] = false)) := by
          refine ⟨fun h j hj hj' => ?_, fun h => ⟨n, hlt, h⟩⟩
          by_cases e : j = n
          · subst e; exact h
          · exact HE.out.1 rfl j hj (by omega)
        generalize isQ s[n] = q at hq HG
        clear HE
        go_wp2_with (go_at_call 82; refine (hq _).mono ?_; rintro e w' ⟨rfl, hw'⟩; obtain rfl := hw'.symm; clear hw')
        go_round
        case rel => exact ⟨n + 1, q, by omega, by go_num, rfl, HG⟩
        case measure => simp [intOf]; omega
      · have HF : Hid (s.data.toList.all isQ = true) := (all_at s).2 fun j hj => HE.out.1 rfl j hj (by omega)
        clear HE
        go_wp2
        all_goals go_ret
        all_goals exact ⟨by rw [show r = true from Hr.out.symm.trans HF.out]; rfl, (Below.refl _ _).alloc (Nat.le_refl _) _⟩

theorem errB_chk (b : Bool) : errB b = ((if b = true then 0 else 3 : Nat) : Int) := by cases b <;> rfl

theorem ckv_any (K N : Int) (s : ByteArray) (w : World) (hs : s.size ≤ 140737488355328) :
    Calls Tryz.prog 33 #[.agg #[.int .i64 K, .int .i64 N, .string s]] w fun e w' => e = .returned (.int .i64 (chkV K N s.data.toList : Nat)) ∧ Below w.heap.size w w' := by
  have hS := empty_iff s
  by_cases h0 : K = 0
  · subst h0
    have e : chkV 0 N s.data.toList = if ((N == 0) && decide (s.data.toList = [])) = true then 0 else 3 := by simp [chkV]
    rw [e, ← errB_chk]
    exact ckv_0 N s w _ _ rfl hS
  by_cases h1 : K = 1
  · subst h1
    have e : chkV 1 N s.data.toList = if (isInt N && decide (s.data.toList = [])) = true then 0 else 3 := by simp [chkV]
    rw [e, ← errB_chk]
    exact ckv_1 N s w _ _ rfl hS
  by_cases h3 : K = 3
  · subst h3
    have e : chkV 3 N s.data.toList = if ((decide (0 ≤ N) && decide (N ≤ 1)) && decide (s.data.toList = [])) = true then 0 else 3 := by
      have : (N = 0 ∨ N = 1) ↔ (0 ≤ N ∧ N ≤ 1) := by omega
      simp [chkV, this]
    rw [e, ← errB_chk]
    exact ckv_3 N s w _ _ rfl hS
  by_cases h2 : K = 2
  · subst h2
    have hl : s.data.toList.length = s.size := Array.length_toList
    by_cases hN : N = 0
    · subst hN
      by_cases hz : s.size ≤ 20
      · have e : chkV 2 0 s.data.toList = if (s.data.toList.all isQ) = true then 0 else 3 := by
          simp only [chkV, quotB, hl]
          simp [hz]
        rw [e, ← errB_chk]
        exact ckv_2y s w hz _ rfl
      · have e : chkV 2 0 s.data.toList = 3 := by
          simp only [chkV, quotB, hl]
          simp [hz]
        rw [e]
        exact ckv_2n 0 s w (Or.inr ⟨rfl, by omega⟩) hs
    · have e : chkV 2 N s.data.toList = 3 := by simp [chkV, hN]
      rw [e]
      exact ckv_2n N s w (Or.inl (by simpa using hN)) hs
  have e : chkV K N s.data.toList = 7 := by simp [chkV, h0, h1, h2, h3]
  rw [e]
  refine ckv_bad K N s w ?_
  rw [Bool.and_eq_false_iff, decide_eq_false_iff_not, decide_eq_false_iff_not]
  omega

end Go.Proofs.YtkpeklealgicpabGreatDoor

namespace Go.Proofs.YtkpeklealgicpabGreatDoor
open Go.RowKit

set_option maxRecDepth 100000 in
set_option maxHeartbeats 1600000 in
theorem args_any (k : Int) (w : World) : Calls Tryz.prog 130 #[.int .i64 k] w fun e w' => e = .returned (.int .i64 (argsR k)) ∧ Below w.heap.size w w' := by
  by_cases hk : k < 1 ∨ 11 < k
  · have hb : (decide (1 ≤ k) && decide (k ≤ 11)) = false := by
      rcases hk with h | h
      · have : ¬ 1 ≤ k := by omega
        simp [this]
      · have : ¬ k ≤ 11 := by omega
        simp [this]
    have e : argsR k = -1 := by rw [argsR, if_pos hk]
    rw [e]
    have hbt := between_rw hb
    clear e hk hb
    go_enter Tryz.func130, Tryz.ntmps130
    go_wp2_with (go_at_call 31; refine (hbt _).mono ?_; rintro e w' ⟨rfl, hw'⟩; obtain rfl := hw'.symm; clear hw')
    go_ret
    exact ⟨rfl, Below.refl _ _⟩
  · have hb : (decide (1 ≤ k) && decide (k ≤ 11)) = true := by
      have h1 : 1 ≤ k := by omega
      have h2 : k ≤ 11 := by omega
      simp [h1, h2]
    have hc : k = 1 ∨ k = 2 ∨ k = 3 ∨ k = 4 ∨ k = 5 ∨ k = 6 ∨ k = 7 ∨ k = 8 ∨ k = 9 ∨ k = 10 ∨ k = 11 := by omega
    rcases hc with rfl | rfl | rfl | rfl | rfl | rfl | rfl | rfl | rfl | rfl | rfl
    all_goals
      have hbt := between_rw hb
      clear hb hk
      go_enter Tryz.func130, Tryz.ntmps130
      go_wp2_with (go_at_call 31; refine (hbt _).mono ?_; rintro e w' ⟨rfl, hw'⟩; obtain rfl := hw'.symm; clear hw')
      go_ret
      exact ⟨rfl, (Below.refl _ _).alloc (Nat.le_refl _) _⟩

set_option maxRecDepth 100000 in
set_option maxHeartbeats 400000 in
theorem nameIs_any (s : List UInt8) (b : Bool) (w : World) (hs : s.length ≤ 140737488355328) : Calls Tryz.prog 32 #[.string ⟨s.toArray⟩, .bool b] w fun e w' => e = .returned (.bool (nameIs s b)) ∧ Below w.heap.size w w' := by
  have hn := rname_any ⟨s.toArray⟩ w (by rw [size_mk]; omega)
  have e0 : (⟨s.toArray⟩ : ByteArray).data.toList = s := by simp
  rw [e0] at hn
  cases b with
  | true =>
    show Calls _ _ _ _ fun e w' => e = .returned (.bool (nameW s)) ∧ _
    generalize nameW s = r at hn ⊢
    go_enter Tryz.func32, Tryz.ntmps32
    go_wp2_with (go_at_call 34; refine hn.mono ?_; rintro e w' ⟨rfl, b1⟩)
    go_ret
    exact ⟨rfl, b1⟩
  | false =>
    have e1 : nameIs s false = s.isEmpty := by unfold nameIs; cases s <;> simp
    rw [e1]
    clear hn
    go_enter Tryz.func32, Tryz.ntmps32
    go_wp2
    go_ret
    exact ⟨ret_bool (by simp), Below.refl _ _⟩

theorem eqV_none (x : Vl) : eqV x ⟨0, 0, []⟩ = noneV x := rfl

set_option maxRecDepth 100000 in
set_option maxHeartbeats 1600000 in
theorem noX_any (x : Ex) (ao : Option Addr) (ca : Nat) (w : World) :
    Calls Tryz.prog 36 #[.agg #[.int .i64 x.k, .int .i64 x.v.k, .int .i64 x.v.n, .string ⟨x.v.s.toArray⟩, .string ⟨x.nm.toArray⟩, .slice ao x.args.length ca]] w fun e w' => e = .returned (.bool (noneE x)) ∧ Below w.heap.size w w' := by
  have hsv := fun W => sameV_any x.v ⟨0, 0, []⟩ W
  rw [eqV_none] at hsv
  unfold noneE
  generalize noneV x.v = B at hsv ⊢
  have hk : (x.k == 0) = decide (x.k = 0) := by rw [Bool.eq_iff_iff]; simp
  have hn : x.nm.isEmpty = decide (x.nm = []) := by cases x.nm <;> simp
  have ha : ((x.args.length : Int) == 0) = decide (x.args = []) := by rw [Bool.eq_iff_iff]; cases x.args <;> simp; omega
  generalize decide (x.k = 0) = K at hk ⊢
  generalize decide (x.nm = []) = M at hn ⊢
  generalize decide (x.args = []) = A at ha ⊢
  have b0 : ∀ o, Below w.heap.size w (w.alloc o) := fun o => (Below.refl _ _).alloc (Nat.le_refl _) o
  cases K <;> cases M <;> cases A
  all_goals
    go_enter Tryz.func36, Tryz.ntmps36
    go_wp2_with (go_at_call 25; refine (hsv _).mono ?_; rintro e w1 ⟨rfl, b1⟩)
    go_ret
    first | exact ⟨ret_bool (by simp), b0 _⟩ | exact ⟨ret_bool (by simp), (b0 _).trans (b1.mono (by simp))⟩

end Go.Proofs.YtkpeklealgicpabGreatDoor

namespace Go.Proofs.YtkpeklealgicpabGreatDoor
open Go.RowKit

/-- a boxed expression, held -/
def HeldX (w : World) (k : Int) (v : Vl) (nm : List UInt8) (a : Value) (W : World) : Prop :=
  (∀ o x, ([.int .i64 k, .int .i64 v.k, .int .i64 v.n, .string ⟨v.s.toArray⟩, .string ⟨nm.toArray⟩, a] : List Value)[o]? = some x → W.cell? ⟨w.heap.size, o, none⟩ = some x) ∧ Below w.heap.size w W ∧ w.heap.size + 1 ≤ W.heap.size
theorem HeldX.start (w : World) (k : Int) (v : Vl) (nm : List UInt8) (a : Value) : HeldX w k v nm a (w.alloc (.cells #[.int .i64 k, .int .i64 v.k, .int .i64 v.n, .string ⟨v.s.toArray⟩, .string ⟨nm.toArray⟩, a] 29)) := by
  refine ⟨fun o x hx => ?_, (Below.refl _ _).alloc (Nat.le_refl _) _, by simp⟩
  rw [Lib.cell_of_heap (heap_alloc_new w _)]; simpa using hx
theorem HeldX.below {w : World} {k : Int} {v : Vl} {nm : List UInt8} {a : Value} {W W' : World} (h : HeldX w k v nm a W) (hb : Below W.heap.size W W') : HeldX w k v nm a W' := by
  obtain ⟨h1, h3, h4⟩ := h
  exact ⟨fun o x hx => (hb.cell (p := ⟨w.heap.size, o, none⟩) (by show w.heap.size < _; omega)).trans (h1 o x hx), h3.trans (hb.mono h3.size), Nat.le_trans h4 hb.size⟩
theorem HeldX.drew {w : World} {k : Int} {v : Vl} {nm : List UInt8} {a : Value} {W : World} (h : HeldX w k v nm a W) : HeldX w k v nm a W.drew := ⟨h.1, h.2.1.drew, h.2.2⟩

set_option maxRecDepth 100000 in
set_option maxHeartbeats 800000 in
theorem plain_any (k : Int) (v : Vl) (nm : List UInt8) (ao : Option Addr) (n ca : Nat) (w : World) :
    Calls Tryz.prog 85 #[exV k v nm (.slice ao n ca)] w fun e w' => e = .returned (.bool (plainK k v nm n)) ∧ Below w.heap.size w w' := by
  have H0 := hide (HeldX.start w k v nm (.slice ao n ca))
  have hq1 := hide (args_any k)
  have hq2 := hide (fun W => sameV_any v ⟨0, 0, []⟩ W)
  unfold exV
  go_enter Tryz.func85, Tryz.ntmps85
  go_wp2_with fail
  refine wp_region_as pln_R (by kernel_rfl) ?_
  refine pln_wp (k := k) (v := v) (nm := nm) (ao := ao) (n := n) (ca := ca) (b := w.heap.size) (S := HeldX w k v nm (.slice ao n ca)) rfl (fun W h => h.1) (fun W h => (hq1.out W).mono fun e w' q => ⟨q.1, h.below q.2⟩) (fun W h => (hq2.out W).mono fun e w' q => ⟨q.1, h.below q.2⟩) rfl H0.out.drew ?_
  intro w' hS
  refine ‹∀ (a : Act) (w : World), Code.wp _ _ _ a w → _› _ _ ?_
  refine wp_ret ?_
  exact post_frame 28 rfl pln_nodup rfl rfl (by simp) ⟨rfl, hS.2.1⟩

theorem min_step (n s e : Nat) (h : n ≤ e) : n + min s (e - n + 1) = min (n + s) (e + 1) := by omega

theorem sizeL_take (l : List Ex) (i : Nat) (y : Ex) (h : l[i]? = some y) : sizeL (l.take (i + 1)) = sizeL (l.take i) + sizeE y := by
  induction l generalizing i with
  | nil => simp at h
  | cons z r ih =>
    cases i with
    | zero => simp at h; subst h; simp [sizeL]
    | succ i =>
      have := ih i (by simpa using h)
      simp only [List.take_succ_cons, sizeL]
      omega

theorem sizeL_pre (l : List Ex) (i : Nat) : sizeL (l.take i) ≤ sizeL l := by
  induction l generalizing i with
  | nil => simp
  | cons z r ih =>
    cases i with
    | zero => simp [sizeL]
    | succ i => have := ih i; simp only [List.take_succ_cons, sizeL]; omega

set_option maxRecDepth 100000 in
set_option maxHeartbeats 3200000 in
theorem partsOf_core (k : Int) (x : Vl) (nm : List UInt8) (ao : Option Addr) (n ca e : Nat) (xs : List Ex) (us : Nat → Value) (w : World) (hx : xs.length = n) (he : e ≤ 15)
    (h1 : 0 < n → ∃ g o, ao = some ⟨g, o, none⟩ ∧ g < w.heap.size ∧ (∀ i, i < n → Six w g (o + 6 * i) (us i))) (hn : n ≤ 1000000000000000)
    (hc : ∀ i y, xs[i]? = some y → ∀ e : Nat, e ≤ 15 → ∀ W, Below w.heap.size w W → Calls Tryz.prog 30 #[us i, .int .i64 (e : Nat)] W fun r w' => r = .returned (.int .i64 ((min (sizeE y) (e + 1) : Nat))) ∧ Below W.heap.size W w') :
    Calls Tryz.prog 30 #[exV k x nm (.slice ao n ca), .int .i64 (e : Nat)] w fun r w' => r = .returned (.int .i64 ((min (1 + sizeL xs) (e + 1) : Nat))) ∧ Below w.heap.size w w' := by
  have b0 : ∀ o, Below w.heap.size w (w.alloc o) := fun o => (Below.refl _ _).alloc (Nat.le_refl _) o
  have H1 := hide h1
  have HC := hide hc
  clear h1 hc
  unfold exV
  go_enter Tryz.func30, Tryz.ntmps30
  go_wp2
  go_loopw [5, 6] (fun r i wl => ∃ (m k : Nat), r = .int .i64 (m : Nat) ∧ i = .int .i64 (k : Nat) ∧ k ≤ n ∧ m = min (1 + sizeL (xs.take k)) (e + 1) ∧ m ≤ 16 ∧ wl.cell? ⟨w.heap.size, 5, none⟩ = some (.slice ao n ca) ∧ Below w.heap.size w wl ∧ w.heap.size + 1 ≤ wl.heap.size) (fun _ i _ => n - (intOf i).toNat)
  case atStart => exact ⟨1, 0, rfl, rfl, Nat.zero_le _, by simp [sizeL], by omega, by simp, b0 _, by simp⟩
  case round =>
    obtain ⟨m, i, rfl, rfl, hi, hm, hm16, d0, hnx, hsz⟩ := hrel
    have HM := hide hm
    clear hm
    by_cases hlt : i < n
    · by_cases hme : m ≤ e
      · obtain ⟨y, hy1⟩ : ∃ y, xs[i]? = some y := ⟨xs[i]'(by omega), List.getElem?_eq_getElem (by omega)⟩
        obtain ⟨g, o, rfl, hg, f1⟩ := H1.out (by omega)
        have kc := HC.out i y hy1 (e - m) (by omega)
        obtain ⟨ky, vy, ny, ay, ey, s0, s1, s2, s3, s4, s5⟩ := f1 i hlt
        rw [ey] at kc
        unfold exV at kc
        have up : ∀ b o, b < w.heap.size → wr.cell? ⟨b, o, none⟩ = w.cell? ⟨b, o, none⟩ := fun b o hb => hnx.cell (p := ⟨b, o, none⟩) hb
        have e0 := (up _ _ hg).trans s0
        have e1 := (up _ _ hg).trans s1
        have e2 := (up _ _ hg).trans s2
        have e3 := (up _ _ hg).trans s3
        have e4 := (up _ _ hg).trans s4
        have e5 := (up _ _ hg).trans s5
        have HX := hide hy1
        have hlt' : (i : Int) < (n : Int) := by omega
        have hme' : (m : Int) ≤ (e : Int) := by omega
        have hsub : ((e - m : Nat) : Int) = (e : Int) - (m : Int) := by omega
        rw [hsub] at kc
        have hmin : ((min (sizeE y) (e - m + 1) : Nat) : Int) ≤ 16 := by omega
        have hmin0 : (0 : Int) ≤ ((min (sizeE y) (e - m + 1) : Nat) : Int) := by omega
        rw [Nat.mul_comm 6 i] at e0 e1 e2 e3 e4 e5
        have HMin := hide (rfl : min (sizeE y) (e - m + 1) = min (sizeE y) (e - m + 1))
        generalize hq : min (sizeE y) (e - m + 1) = q at kc hmin hmin0
        have HQ := hide hq
        clear s0 s1 s2 s3 s4 s5 hy1 H1 HC up ey hsub hq HMin
        go_wp2_with (go_at_call 30; refine (kc _ hnx).mono ?_; rintro r w1 ⟨rfl, b1⟩; have d1 := (b1.cell (p := ⟨w.heap.size, 5, none⟩) (by show w.heap.size < _; omega)).trans d0)
        have hs1 := b1.size
        go_roundw
        case rel =>
          refine ⟨m + q, i + 1, by go_num, by go_num, by omega, ?_, ?_, d1, hnx.trans (b1.mono hnx.size), by omega⟩
          · rw [sizeL_take xs i y HX.out, ← HQ.out, min_step _ _ _ hme, HM.out]
            have := HM.out
            omega
          · have := HQ.out
            omega
        case measure => simp [intOf]; omega
      · have hme' : (e : Int) < (m : Int) := by omega
        have hlt' : (i : Int) < (n : Int) := by omega
        clear H1 HC
        go_wp2
        go_ret
        refine ⟨ret_int ?_, hnx⟩
        have h2 : sizeL (xs.take i) ≤ sizeL xs := sizeL_pre xs i
        have := HM.out
        omega
    · clear H1 HC
      have hlt' : ¬ ((i : Int) < (n : Int)) := by omega
      go_wp2
      go_ret
      refine ⟨ret_int ?_, hnx⟩
      have h2 : xs.take i = xs := List.take_of_length_le (by omega)
      have := HM.out
      rw [h2] at this
      omega

theorem partsOf_any (n : Nat) : ∀ (x : Ex) (u : Value) (w0 : World), sizeE x ≤ n → ExAt 0 w0 u x → Fit x → ∀ e : Nat, e ≤ 15 → ∀ W, Below w0.heap.size w0 W →
    Calls Tryz.prog 30 #[u, .int .i64 (e : Nat)] W fun r w' => r = .returned (.int .i64 ((min (sizeE x) (e + 1) : Nat))) ∧ Below W.heap.size W w' := by
  induction n with
  | zero => intro x u w0 h; have := sizeE_pos x; omega
  | succ n ih =>
    intro x u w0 hs hx hf e he W hW
    obtain ⟨ao, ca, us, rfl, h1⟩ := hx.spread
    have keep : ∀ {g o : Nat} {u : Value}, g < w0.heap.size → Six w0 g o u → Six W g o u := fun hg h => h.keep (hW.block _ hg)
    rw [sizeE_args x, Nat.add_comm (sizeL x.args) 1]
    refine partsOf_core x.k x.v x.nm ao x.args.length ca e x.args us W rfl he ?_ hf.few ?_
    · intro h0
      obtain ⟨g, o, rfl, -, hg, hc, -⟩ := h1 h0
      exact ⟨g, o, rfl, Nat.lt_of_lt_of_le hg hW.size, fun i hi => keep hg (hc i hi)⟩
    · intro i y hy e' he' W' hW'
      have h0 : 0 < x.args.length := by have := (List.getElem?_eq_some_iff.1 hy).1; omega
      obtain ⟨g, o, -, -, -, -, hex⟩ := h1 h0
      exact ih y (us i) w0 (by have := size_arg hy; omega) (hex i y hy) (hf.arg hy) e' he' W' (hW.trans (hW'.mono hW.size))

end Go.Proofs.YtkpeklealgicpabGreatDoor

namespace Go.Proofs.YtkpeklealgicpabGreatDoor
open Go.RowKit

theorem exRL_all : ∀ l : List Ex, exRL l = l.all exR
  | [] => rfl
  | x :: r => by rw [exRL, exRL_all r]; rfl

set_option maxRecDepth 100000 in
set_option maxHeartbeats 3200000 in
theorem isX_no (k : Int) (x : Vl) (nm : List UInt8) (ao : Option Addr) (n ca : Nat) (w : World) (A B C : Bool) (E : Int) (hk : (k == 2) = B)
    (hp : ∀ W : World, Calls Tryz.prog 85 #[.agg #[.int .i64 k, .int .i64 x.k, .int .i64 x.n, .string ⟨x.s.toArray⟩, .string ⟨nm.toArray⟩, .slice ao n ca]] W fun e w' => e = .returned (.bool A) ∧ Below W.heap.size W w')
    (hn : ∀ W : World, Calls Tryz.prog 34 #[.string ⟨nm.toArray⟩] W fun e w' => e = .returned (.bool C) ∧ Below W.heap.size W w')
    (hv : ∀ W : World, Calls Tryz.prog 33 #[.agg #[.int .i64 x.k, .int .i64 x.n, .string ⟨x.s.toArray⟩]] W fun e w' => e = .returned (.int .i64 E) ∧ Below W.heap.size W w')
    (hno : A = false ∨ (A = true ∧ B = true ∧ C = false) ∨ (A = true ∧ (B = true → C = true) ∧ ¬ E = 0)) :
    Calls Tryz.prog 35 #[exV k x nm (.slice ao n ca)] w fun e w' => e = .returned (.bool false) ∧ Below w.heap.size w w' := by
  have b0 : ∀ o, Below w.heap.size w (w.alloc o) := fun o => (Below.refl _ _).alloc (Nat.le_refl _) o
  unfold exV
  have cell5 : ∀ {W W' : World} (o : Nat) (v : Value), w.heap.size + 1 ≤ W.heap.size → Below W.heap.size W W' → W.cell? ⟨w.heap.size, o, none⟩ = some v → W'.cell? ⟨w.heap.size, o, none⟩ = some v :=
    fun o v hs hb h => (hb.cell (p := ⟨w.heap.size, o, none⟩) (by show w.heap.size < _; omega)).trans h
  rcases hno with rfl | ⟨rfl, rfl, rfl⟩ | ⟨rfl, hbc, hE⟩
  · clear hn hv cell5
    go_enter Tryz.func35, Tryz.ntmps35
    go_wp2_with (go_at_call 85; refine (hp _).mono ?_; rintro e w1 ⟨rfl, b1⟩)
    go_ret
    exact ⟨rfl, (b0 _).trans (b1.mono (by simp))⟩
  · clear hv
    go_enter Tryz.func35, Tryz.ntmps35
    go_wp2_with fail
    refine (hp _).mono ?_
    rintro e w1 ⟨rfl, b1⟩
    have s1 : w.heap.size + 1 ≤ w1.heap.size := by have := b1.size; simp at this; omega
    have c0 := b1.cell (p := ⟨w.heap.size, 0, none⟩) (by simp)
    have c4 := b1.cell (p := ⟨w.heap.size, 4, none⟩) (by simp)
    simp at c0 c4
    have q1 : Below w.heap.size w w1 := (b0 _).trans (b1.mono (by simp))
    clear b1 hp b0 cell5
    go_wp2_with (go_at_call 34; refine (hn _).mono ?_; rintro e w2 ⟨rfl, b2⟩)
    go_ret
    exact ⟨rfl, q1.trans (b2.mono q1.size)⟩
  · cases B with
    | false =>
      clear hn
      go_enter Tryz.func35, Tryz.ntmps35
      go_wp2_with fail
      refine (hp _).mono ?_
      rintro e w1 ⟨rfl, b1⟩
      have s1 : w.heap.size + 1 ≤ w1.heap.size := by have := b1.size; simp at this; omega
      have c0 := b1.cell (p := ⟨w.heap.size, 0, none⟩) (by simp)
      have c1 := b1.cell (p := ⟨w.heap.size, 1, none⟩) (by simp)
      have c2 := b1.cell (p := ⟨w.heap.size, 2, none⟩) (by simp)
      have c3 := b1.cell (p := ⟨w.heap.size, 3, none⟩) (by simp)
      simp at c0 c1 c2 c3
      have q1 : Below w.heap.size w w1 := (b0 _).trans (b1.mono (by simp))
      clear b1 hp b0 cell5 hbc
      go_wp2_with (go_at_call 33; refine (hv _).mono ?_; rintro e w2 ⟨rfl, b2⟩)
      go_ret
      exact ⟨rfl, q1.trans (b2.mono q1.size)⟩
    | true =>
      obtain rfl := hbc rfl
      go_enter Tryz.func35, Tryz.ntmps35
      go_wp2_with fail
      refine (hp _).mono ?_
      rintro e w1 ⟨rfl, b1⟩
      have s1 : w.heap.size + 1 ≤ w1.heap.size := by have := b1.size; simp at this; omega
      have c0 := b1.cell (p := ⟨w.heap.size, 0, none⟩) (by simp)
      have c1 := b1.cell (p := ⟨w.heap.size, 1, none⟩) (by simp)
      have c2 := b1.cell (p := ⟨w.heap.size, 2, none⟩) (by simp)
      have c3 := b1.cell (p := ⟨w.heap.size, 3, none⟩) (by simp)
      have c4 := b1.cell (p := ⟨w.heap.size, 4, none⟩) (by simp)
      simp at c0 c1 c2 c3 c4
      have q1 : Below w.heap.size w w1 := (b0 _).trans (b1.mono (by simp))
      clear b1 hp b0 hbc
      go_wp2_with fail
      refine (hn _).mono ?_
      rintro e w2 ⟨rfl, b2⟩
      have d1 := cell5 1 _ s1 b2 c1
      have d2 := cell5 2 _ s1 b2 c2
      have d3 := cell5 3 _ s1 b2 c3
      have q2 := q1.trans (b2.mono q1.size)
      clear c0 c1 c2 c3 c4 cell5 hn
      go_wp2_with (go_at_call 33; refine (hv _).mono ?_; rintro e w3 ⟨rfl, b3⟩)
      go_ret
      exact ⟨rfl, q2.trans (b3.mono q2.size)⟩

set_option maxRecDepth 100000 in
set_option maxHeartbeats 6400000 in
theorem isX_yes (k : Int) (x : Vl) (nm : List UInt8) (ao : Option Addr) (n ca : Nat) (xs : List Ex) (us : Nat → Value) (w : World) (B : Bool) (hk : (k == 2) = B) (hx : xs.length = n) (hn0 : n ≤ 1000000000000000)
    (hp : ∀ W : World, Calls Tryz.prog 85 #[.agg #[.int .i64 k, .int .i64 x.k, .int .i64 x.n, .string ⟨x.s.toArray⟩, .string ⟨nm.toArray⟩, .slice ao n ca]] W fun e w' => e = .returned (.bool true) ∧ Below W.heap.size W w')
    (hn : B = true → ∀ W : World, Calls Tryz.prog 34 #[.string ⟨nm.toArray⟩] W fun e w' => e = .returned (.bool true) ∧ Below W.heap.size W w')
    (hv : ∀ W : World, Calls Tryz.prog 33 #[.agg #[.int .i64 x.k, .int .i64 x.n, .string ⟨x.s.toArray⟩]] W fun e w' => e = .returned (.int .i64 0) ∧ Below W.heap.size W w')
    (h1 : 0 < n → ∃ g o, ao = some ⟨g, o, none⟩ ∧ g < w.heap.size ∧ (∀ i, i < n → Six w g (o + 6 * i) (us i)))
    (hc : ∀ i y, xs[i]? = some y → ∀ W, Below w.heap.size w W → Calls Tryz.prog 35 #[us i] W fun e w' => e = .returned (.bool (exR y)) ∧ Below W.heap.size W w') :
    Calls Tryz.prog 35 #[exV k x nm (.slice ao n ca)] w fun e w' => e = .returned (.bool (exRL xs)) ∧ Below w.heap.size w w' := by
  have b0 : ∀ o, Below w.heap.size w (w.alloc o) := fun o => (Below.refl _ _).alloc (Nat.le_refl _) o
  have H1 := hide h1
  have HC := hide hc
  have HN := hide hn
  clear h1 hc hn
  unfold exV
  have cell5 : ∀ {W W' : World} (o : Nat) (v : Value), w.heap.size + 1 ≤ W.heap.size → Below W.heap.size W W' → W.cell? ⟨w.heap.size, o, none⟩ = some v → W'.cell? ⟨w.heap.size, o, none⟩ = some v :=
    fun o v hs hb h => (hb.cell (p := ⟨w.heap.size, o, none⟩) (by show w.heap.size < _; omega)).trans h
  go_enter Tryz.func35, Tryz.ntmps35
  go_wp2_with fail
  refine (hp _).mono ?_
  rintro e w1 ⟨rfl, b1⟩
  have s1 : w.heap.size + 1 ≤ w1.heap.size := by have := b1.size; simp at this; omega
  have c0 := b1.cell (p := ⟨w.heap.size, 0, none⟩) (by simp)
  have c1 := b1.cell (p := ⟨w.heap.size, 1, none⟩) (by simp)
  have c2 := b1.cell (p := ⟨w.heap.size, 2, none⟩) (by simp)
  have c3 := b1.cell (p := ⟨w.heap.size, 3, none⟩) (by simp)
  have c4 := b1.cell (p := ⟨w.heap.size, 4, none⟩) (by simp)
  have c5 := b1.cell (p := ⟨w.heap.size, 5, none⟩) (by simp)
  simp at c0 c1 c2 c3 c4 c5
  have q1 : Below w.heap.size w w1 := (b0 _).trans (b1.mono (by simp))
  clear b1 hp b0
  cases B
  case' false =>
    go_wp2_with fail
    refine (hv _).mono ?_
    rintro e w3 ⟨rfl, b3⟩
    have f5 := cell5 5 _ s1 b3 c5
    have q3 := q1.trans (b3.mono q1.size)
    have s3 : w.heap.size + 1 ≤ w3.heap.size := by have := b3.size; omega
  case' true =>
    go_wp2_with fail
    refine (HN.out (by first | rfl | trivial) _).mono ?_
    rintro e w2 ⟨rfl, b2⟩
    have d1 := cell5 1 _ s1 b2 c1
    have d2 := cell5 2 _ s1 b2 c2
    have d3 := cell5 3 _ s1 b2 c3
    have d5 := cell5 5 _ s1 b2 c5
    have s2 : w.heap.size + 1 ≤ w2.heap.size := by have := b2.size; omega
    have q2 := q1.trans (b2.mono q1.size)
    go_wp2_with fail
    refine (hv _).mono ?_
    rintro e w3 ⟨rfl, b3⟩
    have f5 := cell5 5 _ s2 b3 d5
    have q3 := q2.trans (b3.mono q2.size)
    have s3 : w.heap.size + 1 ≤ w3.heap.size := by have := b3.size; omega
    clear d1 d2 d3 d5 s2 q2 b2
  all_goals
    clear c0 c1 c2 c3 c4 c5 s1 q1 b3 hv HN
    go_wp2
    go_loopw [3] (fun i wl => ∃ k : Nat, k ≤ n ∧ i = .int .i64 k ∧ wl.cell? ⟨w.heap.size, 5, none⟩ = some (.slice ao n ca) ∧ Below w.heap.size w wl ∧ w.heap.size + 1 ≤ wl.heap.size ∧ Hid (∀ j y, j < k → xs[j]? = some y → exR y = true)) (fun i _ => n - (intOf i).toNat)
    case atStart => exact ⟨0, Nat.zero_le _, rfl, f5, q3, s3, fun j _ hj => absurd hj (Nat.not_lt_zero _)⟩
    case round =>
      obtain ⟨i, hi, rfl, d0, hnx, hsz, HA⟩ := hrel
      clear f5 q3 s3
      by_cases hlt : i < n
      · obtain ⟨y, hy1⟩ : ∃ y, xs[i]? = some y := ⟨xs[i]'(by omega), List.getElem?_eq_getElem (by omega)⟩
        obtain ⟨g, o, rfl, hg, f1⟩ := H1.out (by omega)
        have kc := HC.out i y hy1
        obtain ⟨ky, vy, ny, ay, ey, t0, t1, t2, t3, t4, t5⟩ := f1 i hlt
        rw [ey] at kc
        unfold exV at kc
        have up : ∀ b o, b < w.heap.size → wr.cell? ⟨b, o, none⟩ = w.cell? ⟨b, o, none⟩ := fun b o hb => hnx.cell (p := ⟨b, o, none⟩) hb
        have e0 := (up _ _ hg).trans t0
        have e1 := (up _ _ hg).trans t1
        have e2 := (up _ _ hg).trans t2
        have e3 := (up _ _ hg).trans t3
        have e4 := (up _ _ hg).trans t4
        have e5 := (up _ _ hg).trans t5
        have HX := hide hy1
        have hlt' : (i : Int) < (n : Int) := by omega
        rw [Nat.mul_comm 6 i] at e0 e1 e2 e3 e4 e5
        generalize hq : exR y = q at kc
        have HQ := hide hq
        clear t0 t1 t2 t3 t4 t5 hy1 H1 HC up ey hq
        cases q with
        | true =>
          go_wp2_with (go_at_call 35; refine (kc _ hnx).mono ?_; rintro r w4 ⟨rfl, b4⟩; have d4 := (b4.cell (p := ⟨w.heap.size, 5, none⟩) (by show w.heap.size < _; omega)).trans d0)
          have hs4 := b4.size
          go_roundw
          case rel =>
            refine ⟨i + 1, by omega, by go_num, d4, hnx.trans (b4.mono hnx.size), by omega, fun j y' hj hy' => ?_⟩
            rcases Nat.lt_or_ge j i with hjk | hjk
            · exact HA.out j y' hjk hy'
            · have h := HX.out
              rw [show j = i by omega, h] at hy'
              cases hy'
              exact HQ.out
          case measure => simp [intOf]; omega
        | false =>
          go_wp2_with (go_at_call 35; refine (kc _ hnx).mono ?_; rintro r w4 ⟨rfl, b4⟩)
          go_ret
          refine ⟨ret_bool ?_, hnx.trans (b4.mono hnx.size)⟩
          rw [exRL_all]
          symm
          rw [List.all_eq_false]
          exact ⟨y, List.mem_of_getElem? HX.out, by rw [HQ.out]; decide⟩
      · clear H1 HC
        have hlt' : ¬ ((i : Int) < (n : Int)) := by omega
        go_wp2
        go_ret
        refine ⟨ret_bool ?_, hnx⟩
        rw [exRL_all]
        symm
        rw [List.all_eq_true]
        intro y hy
        obtain ⟨j, hj⟩ := List.getElem?_of_mem hy
        exact HA.out j y (by have := (List.getElem?_eq_some_iff.1 hj).1; omega) hj

theorem isX_any (n : Nat) : ∀ (x : Ex) (u : Value) (w0 : World), sizeE x ≤ n → ExAt 0 w0 u x → Fit x → ∀ W, Below w0.heap.size w0 W →
    Calls Tryz.prog 35 #[u] W fun e w' => e = .returned (.bool (exR x)) ∧ Below W.heap.size W w' := by
  induction n with
  | zero => intro x u w0 h; have := sizeE_pos x; omega
  | succ n ih =>
    intro x u w0 hs hx hf W hW
    obtain ⟨ao, ca, us, rfl, h1⟩ := hx.spread
    have keep : ∀ {g o : Nat} {u : Value}, g < w0.heap.size → Six w0 g o u → Six W g o u := fun hg h => h.keep (hW.block _ hg)
    have hp := fun W => plain_any x.k x.v x.nm ao x.args.length ca W
    unfold exV at hp
    have hz : x.nm.length ≤ 140737488355328 ∧ x.v.s.length ≤ 140737488355328 := by
      cases hf with
      | mk k v nm args hv hn ha hh => exact ⟨hn, hv⟩
    have hn : ∀ W : World, Calls Tryz.prog 34 #[.string ⟨x.nm.toArray⟩] W fun e w' => e = .returned (.bool (nameW x.nm)) ∧ Below W.heap.size W w' := by
      intro W
      have := rname_any ⟨x.nm.toArray⟩ W (by rw [size_mk]; omega)
      have e0 : (⟨x.nm.toArray⟩ : ByteArray).data.toList = x.nm := by simp
      rw [e0] at this
      exact this
    have hv : ∀ W : World, Calls Tryz.prog 33 #[.agg #[.int .i64 x.v.k, .int .i64 x.v.n, .string ⟨x.v.s.toArray⟩]] W fun e w' => e = .returned (.int .i64 ((chkV x.v.k x.v.n x.v.s : Nat) : Int)) ∧ Below W.heap.size W w' := by
      intro W
      have := ckv_any x.v.k x.v.n ⟨x.v.s.toArray⟩ W (by rw [size_mk]; omega)
      have e0 : (⟨x.v.s.toArray⟩ : ByteArray).data.toList = x.v.s := by simp
      rw [e0] at this
      exact this
    have hk : (x.k == 2) = decide (x.k = 2) := by rw [Bool.eq_iff_iff]; simp
    have he : exR x = (plainK x.k x.v x.nm x.args.length && !(decide (x.k = 2) && !nameW x.nm) && valB x.v && exRL x.args) := by cases x; rw [exR]; rfl
    by_cases hy : plainK x.k x.v x.nm x.args.length = true ∧ (decide (x.k = 2) = true → nameW x.nm = true) ∧ chkV x.v.k x.v.n x.v.s = 0
    · obtain ⟨y1, y2, y3⟩ := hy
      have e1 : exR x = exRL x.args := by
        rw [he, y1, valB, y3]
        cases hd : decide (x.k = 2) with
        | false => simp
        | true => rw [y2 hd]; simp
      rw [e1]
      rw [y1] at hp
      rw [y3] at hv
      refine isX_yes x.k x.v x.nm ao x.args.length ca x.args us W _ hk rfl hf.few hp (fun hb => by have := hn; rw [y2 hb] at this; exact this) hv ?_ ?_
      · intro h0
        obtain ⟨g, o, rfl, -, hg, hc, -⟩ := h1 h0
        exact ⟨g, o, rfl, Nat.lt_of_lt_of_le hg hW.size, fun i hi => keep hg (hc i hi)⟩
      · intro i y hy W' hW'
        have h0 : 0 < x.args.length := by have := (List.getElem?_eq_some_iff.1 hy).1; omega
        obtain ⟨g, o, -, -, -, -, hex⟩ := h1 h0
        exact ih y (us i) w0 (by have := size_arg hy; omega) (hex i y hy) (hf.arg hy) W' (hW.trans (hW'.mono hW.size))
    · have e1 : exR x = false := by
        rw [he]
        apply Bool.eq_false_iff.2
        intro h
        simp only [Bool.and_eq_true, valB, decide_eq_true_eq, Bool.not_eq_true', Bool.and_eq_false_iff, Bool.not_eq_false'] at h
        refine hy ⟨h.1.1.1, fun hd => ?_, h.1.2⟩
        rcases h.1.1.2 with h2 | h2
        · rw [h2] at hd; cases hd
        · exact h2
      rw [e1]
      refine isX_no x.k x.v x.nm ao x.args.length ca W _ _ _ _ hk hp hn hv ?_
      cases hA : plainK x.k x.v x.nm x.args.length with
      | false => exact .inl rfl
      | true =>
        by_cases hB : decide (x.k = 2) = true ∧ nameW x.nm = false
        · exact .inr (.inl ⟨rfl, hB.1, hB.2⟩)
        · refine .inr (.inr ⟨rfl, fun hd => ?_, fun h0 => hy ⟨hA, fun hd => ?_, by omega⟩⟩)
          · cases hN : nameW x.nm with
            | true => rfl
            | false => exact absurd ⟨hd, hN⟩ hB
          · cases hN : nameW x.nm with
            | true => rfl
            | false => exact absurd ⟨hd, hN⟩ hB

end Go.Proofs.YtkpeklealgicpabGreatDoor

namespace Go.Proofs.YtkpeklealgicpabGreatDoor
open Go.RowKit

/-- a boxed command, held -/
def HeldC (w : World) (c : Cm) (cv vv fv ea wa : Value) (W : World) : Prop :=
  (∀ o x, (cmL c cv vv fv ea wa)[o]? = some x → W.cell? ⟨w.heap.size, o, none⟩ = some x) ∧ Below w.heap.size w W ∧ w.heap.size + 1 ≤ W.heap.size
theorem HeldC.start (w : World) (c : Cm) (cv vv fv ea wa : Value) : HeldC w c cv vv fv ea wa (w.alloc (.cells (cmL c cv vv fv ea wa).toArray 31)) := by
  refine ⟨fun o x hx => ?_, (Below.refl _ _).alloc (Nat.le_refl _) _, by simp⟩
  rw [Lib.cell_of_heap (heap_alloc_new w _)]; simpa using hx
theorem HeldC.below {w : World} {c : Cm} {cv vv fv ea wa : Value} {W W' : World} (h : HeldC w c cv vv fv ea wa W) (hb : Below W.heap.size W W') : HeldC w c cv vv fv ea wa W' := by
  obtain ⟨h1, h3, h4⟩ := h
  exact ⟨fun o x hx => (hb.cell (p := ⟨w.heap.size, o, none⟩) (by show w.heap.size < _; omega)).trans (h1 o x hx), h3.trans (hb.mono h3.size), Nat.le_trans h4 hb.size⟩

theorem flat_get3 {α : Type} (C : α → List Value) {m : Nat} (hC : ∀ y, (C y).length = m) : ∀ (L : List α) (i k : Nat) (y : α) (v : Value), L[i]? = some y → (C y)[k]? = some v → (L.flatMap C)[i * m + k]? = some v
  | [], i, k, y, v, h, _ => by simp at h
  | z :: r, 0, k, y, v, h, hv => by
    simp at h
    subst h
    rw [List.flatMap_cons, Nat.zero_mul, Nat.zero_add, List.getElem?_append_left (List.getElem?_eq_some_iff.1 hv).1]
    exact hv
  | z :: r, i + 1, k, y, v, h, hv => by
    rw [List.flatMap_cons, List.getElem?_append_right (by rw [hC, Nat.add_mul]; omega), hC]
    have e : (i + 1) * m + k - m = i * m + k := by rw [Nat.add_mul]; omega
    rw [e]
    exact flat_get3 C hC r i k y v (by simpa using h) hv

theorem RowAt.slice {B : Nat} {w : World} {u : Value} {n : Nat} {xs : List Value} (h : RowAt B w u n xs) : ∃ ao cap, u = .slice ao n cap ∧ (0 < n → ∃ b off, ao = some ⟨b, off, none⟩ ∧ b < w.heap.size ∧ ∀ j x, xs[j]? = some x → w.cell? ⟨b, off + j, none⟩ = some x) := by
  rcases h with ⟨rfl, ao, cap, rfl⟩ | ⟨b, off, cap, rfl, -, hb, hc⟩
  · exact ⟨ao, cap, rfl, fun h => absurd h (Nat.lt_irrefl 0)⟩
  · exact ⟨_, cap, rfl, fun _ => ⟨b, off, rfl, hb, hc⟩⟩

theorem ExAt.slice {B : Nat} {w : World} {k : Int} {v : Vl} {nm : List UInt8} {a : Value} {x : Ex} (h : ExAt B w (exV k v nm a) x) : ∃ ao cap, a = .slice ao x.args.length cap := by
  obtain ⟨ao, ca, us, e, -⟩ := h.spread
  simp only [exV, Value.agg.injEq, Array.mk.injEq, List.cons.injEq, and_true] at e
  exact ⟨ao, ca, e.2.2.2.2.2⟩

theorem ck_of {w : World} {c : Cm} {a1 a2 a3 a4 a5 : Option Addr} {c1 c2 c3 c4 c5 : Nat} (he : ExAt 0 w (exV c.expr.k c.expr.v c.expr.nm (.slice a4 c.expr.args.length c4)) c.expr) (hw : ExAt 0 w (exV c.wh.k c.wh.v c.wh.nm (.slice a5 c.wh.args.length c5)) c.wh) (hf : CmFit c) :
    CkS c w.heap.size a1 a2 a3 a4 a5 c1 c2 c3 c4 c5 (HeldC w c (.slice a1 c.cols.length c1) (.slice a2 c.vals.length c2) (.slice a3 c.fields.length c3) (.slice a4 c.expr.args.length c4) (.slice a5 c.wh.args.length c5)) where
  cell := fun W h => h.1
  drew := fun W h => ⟨h.1, h.2.1.drew, h.2.2⟩
  btw := fun n x y W h => (between_any n x y W).mono fun e w' q => ⟨q.1, by rw [q.2]; exact h⟩
  nmi := fun s p hs W h => (nameIs_any s p W hs).mono fun e w' q => ⟨q.1, h.below q.2⟩
  nam := fun s hs W h => by
    have := rname_any ⟨s.toArray⟩ W (by rw [size_mk]; omega)
    have e0 : (⟨s.toArray⟩ : ByteArray).data.toList = s := by simp
    rw [e0] at this
    exact this.mono fun e w' q => ⟨q.1, h.below q.2⟩
  ckv := fun v hs W h => by
    have := ckv_any v.k v.n ⟨v.s.toArray⟩ W (by rw [size_mk]; omega)
    have e0 : (⟨v.s.toArray⟩ : ByteArray).data.toList = v.s := by simp
    rw [e0] at this
    exact this.mono fun e w' q => ⟨q.1, h.below q.2⟩
  smv := fun v W h => (sameV_any v ⟨0, 0, []⟩ W).mono fun e w' q => ⟨q.1, h.below q.2⟩
  ixe := fun W h => (isX_any _ c.expr _ w (Nat.le_refl _) he hf.expr W h.2.1).mono fun e w' q => ⟨q.1, h.below q.2⟩
  ixw := fun W h => (isX_any _ c.wh _ w (Nat.le_refl _) hw hf.wh W h.2.1).mono fun e w' q => ⟨q.1, h.below q.2⟩
  noe := fun W h => (noX_any c.expr a4 c4 W).mono fun e w' q => ⟨q.1, h.below q.2⟩
  now := fun W h => (noX_any c.wh a5 c5 W).mono fun e w' q => ⟨q.1, h.below q.2⟩

theorem many_eq (c : Cm) : (((((decide (5 < ((c.cols.length : Nat) : Int))) || (decide (5 < ((c.vals.length : Nat) : Int)))) || (decide (5 < ((c.fields.length : Nat) : Int)))) || (decide (15 < ((min (sizeE c.expr) (15 + 1) : Nat) : Int)))) || (decide (15 < ((min (sizeE c.wh) (15 + 1) : Nat) : Int)))) = manyC c := by
  unfold manyC
  rw [Bool.eq_iff_iff]
  simp only [Bool.or_eq_true, decide_eq_true_eq]
  omega

set_option maxRecDepth 100000 in
set_option maxHeartbeats 1600000 in
theorem checkCmd_any (c : Cm) (cv vv fv ea wa : Value) {w : World} (hi : CmIn 0 w c cv vv fv ea wa) (hf : CmFit c) :
    Calls Tryz.prog 13 #[.agg (cmL c cv vv fv ea wa).toArray] w fun e w' => e = .returned (.int .i64 (chkC (manyC c) (refC c))) ∧ Below w.heap.size w w' := by
  obtain ⟨a1, c1, rfl, h1⟩ := hi.cols.slice
  obtain ⟨a2, c2, rfl, h2⟩ := hi.vals.slice
  obtain ⟨a3, c3, rfl, h3⟩ := hi.fields.slice
  obtain ⟨a4, c4, rfl⟩ := hi.expr.slice
  obtain ⟨a5, c5, rfl⟩ := hi.wh.slice
  have K := hide (ck_of (a1 := a1) (a2 := a2) (a3 := a3) (c1 := c1) (c2 := c2) (c3 := c3) hi.expr hi.wh hf)
  have H0 := hide (HeldC.start w c (.slice a1 c.cols.length c1) (.slice a2 c.vals.length c2) (.slice a3 c.fields.length c3) (.slice a4 c.expr.args.length c4) (.slice a5 c.wh.args.length c5))
  have g1 := hide (show 0 < c.cols.length → ∃ g o, a1 = some ⟨g, o, none⟩ ∧ ∀ W, HeldC w c (.slice a1 c.cols.length c1) (.slice a2 c.vals.length c2) (.slice a3 c.fields.length c3) (.slice a4 c.expr.args.length c4) (.slice a5 c.wh.args.length c5) W → ∀ i x, c.cols[i]? = some x → W.cell? ⟨g, o + i * 2, none⟩ = some (.string ⟨x.name.toArray⟩) ∧ W.cell? ⟨g, o + i * 2 + 1, none⟩ = some (.int .i64 x.ty) by
    intro h0
    obtain ⟨g, o, e, hg, hc⟩ := h1 h0
    refine ⟨g, o, e, fun W hW i x hx => ?_⟩
    have up : ∀ o, W.cell? ⟨g, o, none⟩ = w.cell? ⟨g, o, none⟩ := fun o => hW.2.1.cell (p := ⟨g, o, none⟩) hg
    rw [up, up]
    exact ⟨hc _ _ (flat_get3 clC (m := 2) (fun _ => rfl) c.cols i 0 x _ hx rfl), hc _ _ (flat_get3 clC (m := 2) (fun _ => rfl) c.cols i 1 x _ hx rfl)⟩)
  have g2 := hide (show 0 < c.vals.length → ∃ g o, a2 = some ⟨g, o, none⟩ ∧ ∀ W, HeldC w c (.slice a1 c.cols.length c1) (.slice a2 c.vals.length c2) (.slice a3 c.fields.length c3) (.slice a4 c.expr.args.length c4) (.slice a5 c.wh.args.length c5) W → ∀ i x, c.vals[i]? = some x → W.cell? ⟨g, o + i * 3, none⟩ = some (.int .i64 x.k) ∧ W.cell? ⟨g, o + i * 3 + 1, none⟩ = some (.int .i64 x.n) ∧ W.cell? ⟨g, o + i * 3 + 2, none⟩ = some (.string ⟨x.s.toArray⟩) by
    intro h0
    obtain ⟨g, o, e, hg, hc⟩ := h2 h0
    refine ⟨g, o, e, fun W hW i x hx => ?_⟩
    have up : ∀ o, W.cell? ⟨g, o, none⟩ = w.cell? ⟨g, o, none⟩ := fun o => hW.2.1.cell (p := ⟨g, o, none⟩) hg
    rw [up, up, up]
    exact ⟨hc _ _ (flat_get3 vlC (m := 3) (fun _ => rfl) c.vals i 0 x _ hx rfl), hc _ _ (flat_get3 vlC (m := 3) (fun _ => rfl) c.vals i 1 x _ hx rfl), hc _ _ (flat_get3 vlC (m := 3) (fun _ => rfl) c.vals i 2 x _ hx rfl)⟩)
  have g3 := hide (show 0 < c.fields.length → ∃ g o, a3 = some ⟨g, o, none⟩ ∧ ∀ W, HeldC w c (.slice a1 c.cols.length c1) (.slice a2 c.vals.length c2) (.slice a3 c.fields.length c3) (.slice a4 c.expr.args.length c4) (.slice a5 c.wh.args.length c5) W → ∀ i x, c.fields[i]? = some x → W.cell? ⟨g, o + i, none⟩ = some (.string ⟨x.toArray⟩) by
    intro h0
    obtain ⟨g, o, e, hg, hc⟩ := h3 h0
    refine ⟨g, o, e, fun W hW i x hx => ?_⟩
    have up : ∀ o, W.cell? ⟨g, o, none⟩ = w.cell? ⟨g, o, none⟩ := fun o => hW.2.1.cell (p := ⟨g, o, none⟩) hg
    rw [up]
    have := flat_get3 stC (m := 1) (fun _ => rfl) c.fields i 0 x _ hx rfl
    rw [Nat.mul_one] at this
    exact hc _ _ this)
  have p1 := hide (fun (W : World) (hW : HeldC w c (.slice a1 c.cols.length c1) (.slice a2 c.vals.length c2) (.slice a3 c.fields.length c3) (.slice a4 c.expr.args.length c4) (.slice a5 c.wh.args.length c5) W) => (partsOf_any _ c.expr _ w (Nat.le_refl _) hi.expr hf.expr 15 (Nat.le_refl _) W hW.2.1).mono fun e w' q => (⟨q.1, hW.below q.2⟩ : _ ∧ HeldC w c (.slice a1 c.cols.length c1) (.slice a2 c.vals.length c2) (.slice a3 c.fields.length c3) (.slice a4 c.expr.args.length c4) (.slice a5 c.wh.args.length c5) w'))
  have p2 := hide (fun (W : World) (hW : HeldC w c (.slice a1 c.cols.length c1) (.slice a2 c.vals.length c2) (.slice a3 c.fields.length c3) (.slice a4 c.expr.args.length c4) (.slice a5 c.wh.args.length c5) W) => (partsOf_any _ c.wh _ w (Nat.le_refl _) hi.wh hf.wh 15 (Nat.le_refl _) W hW.2.1).mono fun e w' q => (⟨q.1, hW.below q.2⟩ : _ ∧ HeldC w c (.slice a1 c.cols.length c1) (.slice a2 c.vals.length c2) (.slice a3 c.fields.length c3) (.slice a4 c.expr.args.length c4) (.slice a5 c.wh.args.length c5) w'))
  have HF := hide hf
  clear hi h1 h2 h3 hf
  unfold cmL
  go_enter Tryz.func13, Tryz.ntmps13
  go_upto_region 1 with fail
  rename_i K1 hK1 K2 hK2
  refine wp_region_as k1_R (by kernel_rfl) ?_
  refine k1_wp (c := c) (b := w.heap.size) (a1 := a1) (a2 := a2) (a3 := a3) (a4 := a4) (a5 := a5) (c1 := c1) (c2 := c2) (c3 := c3) (c4 := c4) (c5 := c5) rfl K.out.cell p1.out p2.out rfl H0.out ?_
  intro x w1 hS1 hd hz hn ho
  refine hK2 _ _ ?_
  refine wp_cond_split (t := manyC c) ((eval_tmp (hn 27 35 rfl)).trans (congrArg Value.bool (many_eq c))) (fun ht => ?_) (fun ht => ?_)
  · refine wp_seq ?_
    refine wp_region_as k2_R (by kernel_rfl) ?_
    refine k2_wp hz hS1 ?_
    intro y w2 hS2 hd2 _ hn2 _
    refine wp_ret ?_
    show bodyPost Tryz.prog Tryz.f13 (fun e w' => e = .returned (.int .i64 (chkC (manyC c) (refC c))) ∧ Below w.heap.size w w') .ret y w2
    refine post_slot (v := .int .i64 2) rfl (hd2.trans hd) (hn2 0 2 rfl) ?_
    rw [ht]
    exact ⟨rfl, hS2.2.1⟩
  · refine wp_skip ?_
    refine hK1 _ _ ?_
    refine wp_as (y := cT0) (by kernel_rfl) ?_
    refine st0 K.out HF.out g1.out g2.out g3.out hz hd ((ho 1 (by decide)).trans rfl) hS1 ?_
    intro w' hS'
    rw [ht, fin_ref]
    refine ⟨?_, hS'.2.1⟩
    unfold ansC chkC
    simp

end Go.Proofs.YtkpeklealgicpabGreatDoor

namespace Go.Proofs.YtkpeklealgicpabGreatDoor
open Go.RowKit

/-- what Parse answers: an error, a place, a command -/
def parseF (s : List UInt8) : Int × Int × Cm :=
  if (scanS s).2.2 = 0 then
    match wholeP (scanS s).1 with
    | .bad j => (1, pl (scanS s).1 (s.length : Nat) j, cm0)
    | .ok c _ => if chkC (manyC c) (rightC c) = 0 then (0, 0, c) else (chkC (manyC c) (rightC c), 0, cm0)
  else (((scanS s).2.2 : Nat), ((scanS s).2.1 : Nat), cm0)

theorem cmZ_at (B : Nat) (w : World) : CmAt B w (.agg cmZ.toArray) cm0 := ⟨_, _, _, _, _, rfl, cmIn0 B w cm0 rfl rfl rfl rfl rfl⟩

theorem parse_all (s : List UInt8) (w : World) (hs : s.length ≤ 9223372036854775000) (hl : Laid w) :
    Calls Tryz.prog 8 #[.string ⟨s.toArray⟩] w fun e w' => (∃ u, e = .returned (.tuple #[u, .int .i64 (parseF s).2.1, .int .i64 (parseF s).1]) ∧ CmAt w.heap.size w' u (parseF s).2.2) ∧ Below w.heap.size w w' := by
  unfold parseF
  by_cases hE : (scanS s).2.2 = 0
  · rw [if_pos hE]
    cases hw : wholeP (scanS s).1 with
    | bad j =>
      refine (Parse_bad s j hs hl hE hw).mono ?_
      rintro e w' ⟨rfl, hb⟩
      exact ⟨⟨_, rfl, cmZ_at _ _⟩, hb⟩
    | ok c j =>
      simp only
      by_cases hq : chkC (manyC c) (rightC c) = 0
      · rw [if_pos hq]
        refine (Parse_right s c j hs hl hE hw hq).mono ?_
        rintro e w' ⟨⟨u, rfl, hu⟩, hb⟩
        exact ⟨⟨u, rfl, hu⟩, hb⟩
      · rw [if_neg hq]
        refine (Parse_wrong s c j _ hs hl hE hw rfl hq).mono ?_
        rintro e w' ⟨rfl, hb⟩
        exact ⟨⟨_, rfl, cmZ_at _ _⟩, hb⟩
  · rw [if_neg hE]
    refine (Parse_scan s _ _ hs rfl rfl hE).mono ?_
    rintro e w' ⟨rfl, hb⟩
    exact ⟨⟨_, rfl, cmZ_at _ _⟩, hb⟩

theorem parseF_fit (s : List UInt8) : CmFit (parseF s).2.2 := by
  unfold parseF
  split
  · split
    · exact fit0
    · rename_i c j hw
      split
      · exact scanned_fit hw
      · exact fit0
  · exact fit0
/-- a new variable with a command in it: what was there stays -/
theorem below_put {w2 w4 w6 : World} {cb : Nat} {xs : List Value} (hc : Hid (cb = w2.heap.size)) (b4 : Below w2.heap.size w2 w4) (p6 : Hid (w6 = putAll w4 cb 0 xs)) : Below w2.heap.size w2 w6 := by
  have h := hc.out
  have p := p6.out
  subst p
  exact b4.trans ⟨(putAll_misc cb _ w4 0).1, (putAll_misc cb _ w4 0).2.1, (putAll_misc cb _ w4 0).2.2, Nat.le_of_eq (putAll_size cb _ w4 0).symm, fun k hk => putAll_other cb _ w4 0 k (by omega)⟩

section
variable {P : Program} {ops : Array Oper} {rest : List Oper} {op : Oper} {a : Act} {w : World} {Q : Exit → Act → World → Prop}
/-- a whole block, as a struct, behind a guard that lets it -/
theorem wpList_load_if (ty : TypeId) (x : Operand) (hw : Region.wanted op (yielded ops a.tmps) = true) (ho : op.op = .load ty x) (b : Nat) (cs : List Value) (t : TypeId) (d : TypeDesc)
    (hx : a.eval x = .pointer (some ⟨b, 0, none⟩)) (hb : w.heap[b]? = some (.cells cs.toArray t)) (hu : P.underlying ty = some d) (hd : d.isRow = true) (hi : (P.info? ty).map (·.size) = some cs.length)
    (h : wpList P ops Q rest (a.put op.dst (.agg cs.toArray)) w) : wpList P ops Q (op :: rest) a w := by
  refine wpList_step fun K hK => ?_
  rw [if_pos hw]
  exact wp_load_mid ty x ho b 0 hx cs d (fun j v hv => by rw [Nat.zero_add, Lib.cell_of_heap hb]; simpa using hv) hu hd hi (hK _ _ h)
end

def smallL : List UInt8 := [117, 112, 100, 97, 116, 101, 32, 116, 32, 115, 101, 116, 32, 97, 32, 61, 32, 40, 97, 32, 43, 32, 49, 41, 32, 119, 104, 101, 114, 101, 32, 40, 98, 32, 61, 32, 39, 120, 39, 41, 32]
def smallC : Cm := { cm0 with kind := 12, name := [116], column := [97], expr := .mk 7 vl0 [] [.mk 2 vl0 [97] [], .mk 1 ⟨1, 1, []⟩ [] []], wh := .mk 11 vl0 [] [.mk 2 vl0 [98] [], .mk 1 ⟨2, 0, [120]⟩ [] []] }
theorem small_parse : parseF smallL = (0, 0, smallC) := by kernel_rfl
theorem small_fit : CmFit smallC := by have := parseF_fit smallL; rw [small_parse] at this; exact this
theorem small_check : chkC (manyC smallC) (rightC smallC) = 0 := by kernel_rfl

end Go.Proofs.YtkpeklealgicpabGreatDoor

namespace Go.Proofs.YtkpeklealgicpabGreatDoor
open Go.RowKit

theorem small_cells {c : Cm} (h1 : c.kind = 12) (h2 : c.column = [97]) (h3 : c.all = false) (h4 : c.expr.k = 7) (h5 : c.wh.k = 11) {W : World} {b : Nat} {t : TypeId} {cv vv fv ea wa : Value} (h : W.heap[b]? = some (.cells (cmL c cv vv fv ea wa).toArray t)) :
    W.cell? ⟨b, 0, none⟩ = some (.int .i64 12) ∧ W.cell? ⟨b, 3, none⟩ = some (.string ⟨#[97]⟩) ∧ W.cell? ⟨b, 17, none⟩ = some (.bool false) ∧ W.cell? ⟨b, 11, none⟩ = some (.int .i64 7) ∧ W.cell? ⟨b, 18, none⟩ = some (.int .i64 11) := by
  have e0 : W.cell? ⟨b, 0, none⟩ = some (.int .i64 c.kind) := (Lib.cell_of_heap h _).trans rfl
  have e3 : W.cell? ⟨b, 3, none⟩ = some (.string ⟨c.column.toArray⟩) := (Lib.cell_of_heap h _).trans rfl
  have e17 : W.cell? ⟨b, 17, none⟩ = some (.bool c.all) := (Lib.cell_of_heap h _).trans rfl
  have e11 : W.cell? ⟨b, 11, none⟩ = some (.int .i64 c.expr.k) := (Lib.cell_of_heap h _).trans rfl
  have e18 : W.cell? ⟨b, 18, none⟩ = some (.int .i64 c.wh.k) := (Lib.cell_of_heap h _).trans rfl
  rw [h1] at e0
  rw [h2] at e3
  rw [h3] at e17
  rw [h4] at e11
  rw [h5] at e18
  exact ⟨e0, e3, e17, e11, e18⟩

set_option maxRecDepth 100000 in
set_option maxHeartbeats 2000000 in
theorem cbegun_of (c : Cm) (h1 : c.kind = 12) (h2 : c.column = [97]) (h3 : c.all = false) (h4 : c.expr.k = 7) (h5 : c.wh.k = 11) (hf : CmFit c) (hq : chkC (manyC c) (rightC c) = 0) (w : World) (hl : Laid w)
    (hp : ∀ W, Laid W → Calls Tryz.prog 8 #[.string ⟨#[117, 112, 100, 97, 116, 101, 32, 116, 32, 115, 101, 116, 32, 97, 32, 61, 32, 40, 97, 32, 43, 32, 49, 41, 32, 119, 104, 101, 114, 101, 32, 40, 98, 32, 61, 32, 39, 120, 39, 41, 32]⟩] W fun e w' => (∃ cv vv fv ea wa, e = .returned (.tuple #[.agg (cmL c cv vv fv ea wa).toArray, .int .i64 0, .int .i64 0]) ∧ Hid (CmIn W.heap.size w' c cv vv fv ea wa)) ∧ Below W.heap.size W w') :
    Calls Tryz.prog 10 #[] w fun e w' => e = .returned (.bool true) ∧ Below w.heap.size w w' := by
  have hck : ∀ (W : World) (cv vv fv ea wa : Value), CmIn 0 W c cv vv fv ea wa → Laid W → Calls Tryz.prog 12 #[.agg (cmL c cv vv fv ea wa).toArray] W fun e w' => e = .returned (.int .i64 0) ∧ Below W.heap.size W w' := by
    intro W cv vv fv ea wa hi hL
    rw [← hq]
    exact check_cmd c cv vv fv ea wa hi hf hL
  have HL := hide hl
  have hp := hp w hl
  have hm := fun {W : World} {b : Nat} {cv vv fv ea wa : Value} => @small_cells c h1 h2 h3 h4 h5 W b 31 cv vv fv ea wa
  clear hl h1 h2 h3 h4 h5 hq hf
  go_enter Tryz.func10, Tryz.ntmps10
  go_wp2_with fail
  refine hp.mono ?_
  rintro e w2 ⟨⟨cv, vv, fv, ea, wa, rfl, hi⟩, b2⟩
  clear hp
  go_wp2_with (first | (refine wpList_alloc_blk 1 31 cmZ rfl rfl rfl Tryz.alloc31 ?_; intro w4 cb hcb k4 b4) | (refine wpList_store_whole 31 _ _ rfl rfl cb cmZ (cmL c cv vv fv ea wa) 31 rfl rfl (by exact k4) rfl Tryz.size31 (by exact hi.out.one) ?_; intro w6 k6 p6; have b6 := below_put hcb b4 p6; obtain ⟨m0, m3, m17, m11, m18⟩ := hm k6; clear p6) | (refine wpList_load_if 31 _ (by rfl) rfl _ (cmL c cv vv fv ea wa) 31 _ rfl (by exact k6) Tryz.underlying31 rfl Tryz.size31 ?_) | (refine (hck _ _ _ _ _ _ ((hi.out.under b6).weak (Nat.zero_le _)) ((HL.out.below b2).below b6)).mono ?_; rintro e w7 ⟨rfl, b7⟩))
  go_ret
  have q6 : Below w.heap.size w w6 := b2.trans (b6.mono b2.size)
  exact ⟨rfl, q6.trans (b7.mono q6.size)⟩

theorem cbegun_any (w : World) (hl : Laid w) : Calls Tryz.prog 10 #[] w fun e w' => e = .returned (.bool true) ∧ Below w.heap.size w w' := by
  refine cbegun_of smallC rfl rfl rfl rfl rfl small_fit small_check w hl fun W hL => ?_
  have h := parse_all smallL W (by decide) hL
  rw [small_parse] at h
  refine h.mono ?_
  rintro e w' ⟨⟨u, rfl, cv, vv, fv, ea, wa, rfl, hi⟩, hb⟩
  exact ⟨⟨cv, vv, fv, ea, wa, rfl, hi⟩, hb⟩

end Go.Proofs.YtkpeklealgicpabGreatDoor

namespace Go.Proofs.YtkpeklealgicpabGreatDoor
open Go.RowKit

theorem ex_call0 {P : Program} {ρ : Operand → Value} {o : Oper} {W : World} {f : FuncId} (hf : ∀ args W, (callFunc f args).run P W = .ok (.enter f args) W) {ts : Array TypeId} (ho : o.op = .call { callee := .value (.func f), args := #[], argTypes := ts }) (hρ : ρ (.func f) = .func (.func f) #[] #[]) : (execOp ρ o).run P W = .ok (.enter f #[]) W := by
  simp [execOp, ho, resolve, hρ, invoke, go_sem, hf]
theorem ld31 (W : World) (b : Nat) (c : Cm) (cv vv fv ea wa : Value) (h : ∀ o x, (cmL c cv vv fv ea wa)[o]? = some x → W.cell? ⟨b, o, none⟩ = some x) : (Instr.loadAt 31 (.pointer (some ⟨b, 0, none⟩))).run Tryz.prog W = .ok (.agg (cmL c cv vv fv ea wa).toArray) W :=
  run_loadAt_mid W b 0 31 (cmL c cv vv fv ea wa) _ (fun j v hv => by rw [Nat.zero_add]; exact h j v hv) Tryz.underlying31 rfl Tryz.size31
theorem cf10 (args : Array Value) (W : World) : (callFunc 10 args).run Tryz.prog W = .ok (.enter 10 args) W := by go_simp
theorem cf12 (args : Array Value) (W : World) : (callFunc 12 args).run Tryz.prog W = .ok (.enter 12 args) W := by go_simp
theorem cf13 (args : Array Value) (W : World) : (callFunc 13 args).run Tryz.prog W = .ok (.enter 13 args) W := by go_simp

noncomputable def cw_R : Array Oper := ((Tryz.f4.body).bind (regionOf 1)).getD #[]
noncomputable def cw_o (j : Nat) : Oper := (cw_R[j]?).getD ⟨none, .move (.const undef), 0, "", #[], none⟩
def cw_V (c : Cm) (cv vv fv ea wa : Value) (j : Nat) : Value := ([.bool true, .bool true, gw (true == true) (.agg (cmL c cv vv fv ea wa).toArray), gw (true == true) (.int .i64 (chkC (manyC c) (refC c))), gw (true == true) (.agg (cmL c cv vv fv ea wa).toArray), gw (true == true) (.int .i64 (chkC (manyC c) (refC c))), gw (true == true) (.bool (decide ((chkC (manyC c) (refC c)) = (chkC (manyC c) (refC c))))), .bool (true && (decide ((chkC (manyC c) (refC c)) = (chkC (manyC c) (refC c))))), .bool (true && (decide ((chkC (manyC c) (refC c)) = (chkC (manyC c) (refC c)))))] : List Value).getD j undef
def cw_d : List (Option Tmp) := [some 3, some 4, some 5, some 6, some 7, some 8, some 9, some 10, some 2]
set_option maxRecDepth 100000 in
theorem cw_nodup : cw_d.Nodup := by unfold cw_d; decide

set_option maxRecDepth 100000 in
theorem cw_wp {c : Cm} {cv vv fv ea wa : Value} {b : Nat} {S : World → Prop} {a0 : Act} {Q : Exit → Act → World → Prop} {w : World} (h1 : a0.tmps[1]? = some (.pointer (some ⟨b, 0, none⟩))) (hcell : ∀ W, S W → ∀ o x, (cmL c cv vv fv ea wa)[o]? = some x → W.cell? ⟨b, o, none⟩ = some x) (q3 : ∀ W, S W → Calls Tryz.prog 10 #[] W fun e w' => e = .returned (.bool true) ∧ S w') (q6 : ∀ W, S W → Calls Tryz.prog 12 #[.agg (cmL c cv vv fv ea wa).toArray] W fun e w' => e = .returned (.int .i64 (chkC (manyC c) (refC c))) ∧ S w') (q8 : ∀ W, S W → Calls Tryz.prog 13 #[.agg (cmL c cv vv fv ea wa).toArray] W fun e w' => e = .returned (.int .i64 (chkC (manyC c) (refC c))) ∧ S w') (ha : a0.tmps.size = 11) (hS : S w.drew)
    (hq : ∀ w', S w' → Q .normal { tmps := (putL a0.tmps.toList (cw_d.zip ((List.range 9).map (cw_V c cv vv fv ea wa)))).toArray, defers := a0.defers } w') : (Code.region 1 cw_R true).wp Tryz.prog Q a0 w := by
  refine wp_run (m := 11) (by kernel_rfl) (by kernel_rfl) (by kernel_rfl) (by kernel_rfl) cw_nodup ha ?_ hS hq
  refine upto_succ ?_ (obRU (o := cw_o 8) (by kernel_rfl) (by kernel_rfl) fun _ _ s _ => ex_assign (x := .tmp 10) (by kernel_rfl) (s.u 7 10 (by kernel_rfl) (by kernel_rfl)))
  refine upto_succ ?_ (obRU (o := cw_o 7) (by kernel_rfl) (by kernel_rfl) fun _ _ s _ => ex_pickA (G := true) (by kernel_rfl) (s.u 1 4 (by kernel_rfl) (by kernel_rfl)) (s.u 6 9 (by kernel_rfl) (by kernel_rfl)) rfl rfl)
  refine upto_succ ?_ (obRG true 1 4 true (o := cw_o 6) (by kernel_rfl) (by kernel_rfl) (by kernel_rfl) (by kernel_rfl) rfl rfl fun hG _ W s _ => ex_bin (u := 32) (x := .tmp 6) (y := .tmp 8) (by kernel_rfl) (s.g 3 6 (by kernel_rfl) (by kernel_rfl) hG rfl) (s.g 5 8 (by kernel_rfl) (by kernel_rfl) hG rfl) (eq32c W _ _ _ _))
  refine upto_succ ?_ (obRH true 1 4 true (o := cw_o 5) (by kernel_rfl) (by kernel_rfl) (by kernel_rfl) (by kernel_rfl) rfl rfl (fun hG _ _ s => ex_call1 (ts := #[31]) (x := .tmp 7) (f := 13) cf13 (by kernel_rfl) rfl (s.g 4 7 (by kernel_rfl) (by kernel_rfl) hG rfl)) q8)
  refine upto_succ ?_ (obRG true 1 4 true (o := cw_o 4) (by kernel_rfl) (by kernel_rfl) (by kernel_rfl) (by kernel_rfl) rfl rfl fun _ _ W s hS => ex_load (x := .tmp 1) (t := 31) (by kernel_rfl) (s.b 1 (by kernel_rfl) h1) (ld31 W _ _ _ _ _ _ _ (hcell W hS)))
  refine upto_succ ?_ (obRH true 1 4 true (o := cw_o 3) (by kernel_rfl) (by kernel_rfl) (by kernel_rfl) (by kernel_rfl) rfl rfl (fun hG _ _ s => ex_call1 (ts := #[31]) (x := .tmp 5) (f := 12) cf12 (by kernel_rfl) rfl (s.g 2 5 (by kernel_rfl) (by kernel_rfl) hG rfl)) q6)
  refine upto_succ ?_ (obRG true 1 4 true (o := cw_o 2) (by kernel_rfl) (by kernel_rfl) (by kernel_rfl) (by kernel_rfl) rfl rfl fun _ _ W s hS => ex_load (x := .tmp 1) (t := 31) (by kernel_rfl) (s.b 1 (by kernel_rfl) h1) (ld31 W _ _ _ _ _ _ _ (hcell W hS)))
  refine upto_succ ?_ (obRU (o := cw_o 1) (by kernel_rfl) (by kernel_rfl) fun _ _ s _ => ex_move (x := .tmp 3) (by kernel_rfl) (s.u 0 3 (by kernel_rfl) (by kernel_rfl)))
  refine upto_succ ?_ (obRC (o := cw_o 0) (by kernel_rfl) (by kernel_rfl) (fun _ _ _ => ex_call0 (ts := #[])  (f := 10) cf10 (by kernel_rfl) rfl ) q3)
  exact fun j hj => absurd hj (Nat.not_lt_zero j)

theorem keepC0 {w W : World} {c : Cm} {cv vv fv ea wa : Value} (h : CmIn 0 w c cv vv fv ea wa) (hb : Below w.heap.size w W) : CmIn 0 W c cv vv fv ea wa := h.keep hb.size fun b _ hs => hb.block b hs

set_option maxRecDepth 100000 in
set_option maxHeartbeats 800000 in
theorem checks_any (c : Cm) (cv vv fv ea wa : Value) {w : World} (hi : CmIn 0 w c cv vv fv ea wa) (hf : CmFit c) (hl : Laid w) :
    Calls Tryz.prog 4 #[.agg (cmL c cv vv fv ea wa).toArray] w fun e w' => e = .returned (.bool true) ∧ Below w.heap.size w w' := by
  have H0 := hide (HeldC.start w c cv vv fv ea wa)
  have q3 := hide (fun (W : World) (h : HeldC w c cv vv fv ea wa W) => (cbegun_any W (hl.below h.2.1)).mono fun e w' q => (⟨q.1, h.below q.2⟩ : _ ∧ HeldC w c cv vv fv ea wa w'))
  have q6 := hide (fun (W : World) (h : HeldC w c cv vv fv ea wa W) => (check_ref c cv vv fv ea wa (keepC0 hi h.2.1) hf (hl.below h.2.1)).mono fun e w' q => (⟨q.1, h.below q.2⟩ : _ ∧ HeldC w c cv vv fv ea wa w'))
  have q8 := hide (fun (W : World) (h : HeldC w c cv vv fv ea wa W) => (checkCmd_any c cv vv fv ea wa (keepC0 hi h.2.1) hf).mono fun e w' q => (⟨q.1, h.below q.2⟩ : _ ∧ HeldC w c cv vv fv ea wa w'))
  clear hi hf hl
  unfold cmL
  go_enter Tryz.func4, Tryz.ntmps4
  go_wp2_with fail
  refine wp_region_as cw_R (by kernel_rfl) ?_
  refine cw_wp (c := c) (cv := cv) (vv := vv) (fv := fv) (ea := ea) (wa := wa) (b := w.heap.size) (S := HeldC w c cv vv fv ea wa) rfl (fun W h => h.1) q3.out q6.out q8.out rfl ⟨H0.out.1, H0.out.2.1.drew, H0.out.2.2⟩ ?_
  intro w' hS
  refine ‹∀ (a : Act) (w : World), Code.wp _ _ _ a w → _› _ _ ?_
  refine wp_ret ?_
  exact post_frame 8 rfl cw_nodup rfl rfl (by simp) ⟨ret_bool (by simp), hS.2.1⟩

end Go.Proofs.YtkpeklealgicpabGreatDoor

namespace Go.Proofs.YtkpeklealgicpabGreatDoor
open Go.RowKit

theorem oc3 : Tryz.prog.cellsOf 3 = 1 := by kernel_rfl
theorem oc4 : Tryz.prog.cellsOf 4 = 1 := by kernel_rfl
theorem oc9 : Tryz.prog.cellsOf 9 = 1 := by kernel_rfl
theorem oc56 : Tryz.prog.cellsOf 56 = 2 := by kernel_rfl
theorem oc22 : Tryz.prog.cellsOf 22 = 1 := by kernel_rfl
theorem oc24 : Tryz.prog.cellsOf 24 = 3 := by kernel_rfl
theorem oc25 : Tryz.prog.cellsOf 25 = 1 := by kernel_rfl
theorem oc26 : Tryz.prog.cellsOf 26 = 1 := by kernel_rfl
theorem oc27 : Tryz.prog.cellsOf 27 = 1 := by kernel_rfl
theorem oc29 : Tryz.prog.cellsOf 29 = 6 := by kernel_rfl
theorem oc31 : Tryz.prog.cellsOf 31 = 26 := by kernel_rfl
theorem ob9 : Tryz.prog.bytesOf 9 = 16 := by kernel_rfl
theorem ob56 : Tryz.prog.bytesOf 56 = 24 := by kernel_rfl
theorem ob24 : Tryz.prog.bytesOf 24 = 32 := by kernel_rfl
theorem ob29 : Tryz.prog.bytesOf 29 = 80 := by kernel_rfl

theorem mem_weightsAll {H : Type} {P : Program} {e : TypeId} : ∀ {l : List (DataW H)} {d : DataW H} {n : Nat}, d ∈ l → n ∈ d.weights P e → n ∈ DataW.weightsAll P e l
  | [], _, _, h, _ => by cases h
  | x :: r, d, n, h, hn => by
    simp only [DataW.weightsAll, List.mem_append]
    rcases List.mem_cons.1 h with rfl | h
    · exact Or.inl hn
    · exact Or.inr (mem_weightsAll h hn)

theorem len2 {α : Type} {l : List α} (h : l.length = 2) : ∃ a b, l = [a, b] := by
  match l, h with
  | [a, b], _ => exact ⟨a, b, rfl⟩
theorem len3 {α : Type} {l : List α} (h : l.length = 3) : ∃ a b c, l = [a, b, c] := by
  match l, h with
  | [a, b, c], _ => exact ⟨a, b, c, rfl⟩
theorem len6 {α : Type} {l : List α} (h : l.length = 6) : ∃ a b c d e f, l = [a, b, c, d, e, f] := by
  match l, h with
  | [a, b, c, d, e, f], _ => exact ⟨a, b, c, d, e, f, rfl⟩
theorem len13 {α : Type} {l : List α} {n : Nat} (h : l.length = n + 13) : ∃ a0 a1 a2 a3 a4 a5 a6 a7 a8 a9 a10 a11 a12 r, l = a0 :: a1 :: a2 :: a3 :: a4 :: a5 :: a6 :: a7 :: a8 :: a9 :: a10 :: a11 :: a12 :: r ∧ r.length = n := by
  match l, h with
  | a0 :: a1 :: a2 :: a3 :: a4 :: a5 :: a6 :: a7 :: a8 :: a9 :: a10 :: a11 :: a12 :: r, h => exact ⟨a0, a1, a2, a3, a4, a5, a6, a7, a8, a9, a10, a11, a12, r, rfl, by simpa using h⟩
theorem len0 {α : Type} {l : List α} (h : l.length = 0) : l = [] := List.length_eq_zero_iff.1 h
theorem len1 {α : Type} {l : List α} (h : l.length = 1) : ∃ a, l = [a] := List.length_eq_one_iff.1 h

theorem flat_list {α : Type} (C : α → List Value) {m : Nat} (hC : ∀ y, (C y).length = m) : ∀ (L : List α) (j : Nat) (x : Value), (L.flatMap C)[j]? = some x → ∃ i k y, k < m ∧ L[i]? = some y ∧ j = i * m + k ∧ (C y)[k]? = some x
  | [], j, x, h => by simp at h
  | y :: r, j, x, h => by
    rw [List.flatMap_cons] at h
    by_cases hj : j < m
    · rw [List.getElem?_append_left (by rw [hC]; exact hj)] at h
      exact ⟨0, j, y, hj, rfl, by omega, h⟩
    · rw [List.getElem?_append_right (by rw [hC]; omega), hC] at h
      obtain ⟨i, k, z, hk, hz, e, hx⟩ := flat_list C hC r _ x h
      exact ⟨i + 1, k, z, hk, by simpa using hz, by rw [Nat.add_mul]; omega, hx⟩
theorem flat_at {α : Type} (F : Nat → α) (C : α → List Value) {m l j : Nat} {x : Value} (hC : ∀ y, (C y).length = m) (hj : (((List.range l).map F).flatMap C)[j]? = some x) : ∃ i k, k < m ∧ i < l ∧ j = i * m + k ∧ (C (F i))[k]? = some x := by
  obtain ⟨i, k, y, hk, hy, e, hx⟩ := flat_list C hC _ _ _ hj
  rw [List.getElem?_map] at hy
  obtain ⟨i', h1, h2⟩ := Option.map_eq_some_iff.1 hy
  obtain ⟨h3, h4⟩ := List.getElem?_eq_some_iff.1 h1
  simp at h3 h4
  subst h4 h2
  exact ⟨_, k, hk, h3, e, hx⟩

section
variable {H : Type} {enc : TypeId × Value → H} {W : World} {spare : Nat → Bool} {held : Bool}

theorem fld {n k off : Nat} {t : TypeId} {l cs : List Value} {y : Option (DataW H × List MemPlace)} (hk : Tryz.prog.cellsOf t = k) (h : DataW.trod enc Tryz.prog W 0 spare held n t ((l.drop off).take (Tryz.prog.cellsOf t)) = y) (hc : (l.drop off).take k = cs) : DataW.trod enc Tryz.prog W 0 spare held n t cs = y := by
  rw [← hc, ← hk]; exact h

theorem open_int {fuel : Nat} {v : Value} {x : DataW H × List MemPlace} (h : DataW.trod enc Tryz.prog W 0 spare held fuel 3 [v] = some x) : ∃ k : Int, v = .int .i64 k := by
  obtain ⟨k, e0, _, _⟩ := DataW.trod_int Tryz.underlying3 h
  simp at e0
  exact ⟨k, e0⟩
theorem open_str {fuel : Nat} {v : Value} {x : DataW H × List MemPlace} (h : DataW.trod enc Tryz.prog W 0 spare held fuel 9 [v] = some x) : ∃ s : List UInt8, v = .string ⟨s.toArray⟩ ∧ x.1 = .lit (.string s) := by
  obtain ⟨s, e0, rfl, _⟩ := DataW.trod_string Tryz.underlying9 h
  simp at e0
  exact ⟨s.data.toList, by rw [e0], rfl⟩
theorem str_size {s : List UInt8} (h : ∀ n ∈ (DataW.lit (.string s) : DataW H).weights Tryz.prog 9, n ≤ reachBytes) : s.length ≤ 140737488355328 := by
  have hr := reachBytes_lt
  have := h s.length (by simp [DataW.weights])
  omega

theorem open_vl {fuel : Nat} {cs : List Value} {x : DataW H × List MemPlace}
    (h : DataW.trod enc Tryz.prog W 0 spare held fuel 24 cs = some x) : ∃ y : Vl, cs = vlC y ∧ x.1 = .agg [.lit (.int .i64 y.k), .lit (.int .i64 y.n), .lit (.string y.s)] := by
  obtain ⟨y0, y1, y2, n, rfl, hl, h0, h1, h2⟩ := Deep.trod_struct3 Tryz.underlying24 h
  obtain ⟨c0, c1, c2, rfl⟩ := len3 (hl.trans oc24)
  have g0 := fld (cs := [c0]) oc3 h0 rfl
  have g1 := fld (cs := [c1]) oc3 h1 rfl
  have g2 := fld (cs := [c2]) oc9 h2 rfl
  obtain ⟨k, e0, rfl, _⟩ := DataW.trod_int Tryz.underlying3 g0
  obtain ⟨a, e1, rfl, _⟩ := DataW.trod_int Tryz.underlying3 g1
  obtain ⟨s, e2, rfl, _⟩ := DataW.trod_string Tryz.underlying9 g2
  simp at e0 e1 e2
  subst e0 e1 e2
  exact ⟨⟨k, a, s.data.toList⟩, rfl, rfl⟩
theorem vl_size {y : Vl} {d : DataW H} (hd : d = .agg [.lit (.int .i64 y.k), .lit (.int .i64 y.n), .lit (.string y.s)]) (h : ∀ n ∈ d.weights Tryz.prog 24, n ≤ reachBytes) : y.s.length ≤ 140737488355328 := by
  have hr := reachBytes_lt
  have := h y.s.length (by rw [hd]; simp [DataW.weights, DataW.weightsEach, Tryz.underlying24])
  omega

theorem open_cl {fuel : Nat} {cs : List Value} {x : DataW H × List MemPlace}
    (h : DataW.trod enc Tryz.prog W 0 spare held fuel 56 cs = some x) : ∃ y : Cl, cs = clC y ∧ x.1 = .agg [.lit (.string y.name), .lit (.int .i64 y.ty)] := by
  obtain ⟨y0, y1, n, rfl, hl, h0, h1⟩ := ChangeShapes.trod_struct2 Tryz.underlying56 h
  obtain ⟨c0, c1, rfl⟩ := len2 (hl.trans oc56)
  have g0 := fld (cs := [c0]) oc9 h0 rfl
  have g1 := fld (cs := [c1]) oc3 h1 rfl
  obtain ⟨s, e0, rfl, _⟩ := DataW.trod_string Tryz.underlying9 g0
  obtain ⟨a, e1, rfl, _⟩ := DataW.trod_int Tryz.underlying3 g1
  simp at e0 e1
  subst e0 e1
  exact ⟨⟨s.data.toList, a⟩, rfl, rfl⟩
theorem cl_size {y : Cl} {d : DataW H} (hd : d = .agg [.lit (.string y.name), .lit (.int .i64 y.ty)]) (h : ∀ n ∈ d.weights Tryz.prog 56, n ≤ reachBytes) : y.name.length ≤ 140737488355328 := by
  have hr := reachBytes_lt
  have := h y.name.length (by rw [hd]; simp [DataW.weights, DataW.weightsEach, Tryz.underlying56])
  omega

/-- a slice of elements of a few cells each -/
theorem open_row {α : Type} [Inhabited α] {t e : TypeId} {fuel : Nat} {v : Value} {x : DataW H × List MemPlace} (C : α → List Value) (D0 : α → DataW H) (m : Nat) (bs : Nat) (hm : 0 < m) (hbs : 0 < bs) (hC : ∀ y, (C y).length = m)
    (ht : Tryz.prog.underlying t = some (.slice e)) (hc : Tryz.prog.cellsOf e = m) (hb : Tryz.prog.bytesOf e = bs)
    (one : ∀ {fuel : Nat} {cs : List Value} {x : DataW H × List MemPlace}, DataW.trod enc Tryz.prog W 0 spare held fuel e cs = some x → ∃ y : α, cs = C y ∧ x.1 = D0 y)
    (h : DataW.trod enc Tryz.prog W 0 spare held fuel t [v] = some x) (hsz : ∀ n ∈ x.1.weights Tryz.prog t, n ≤ reachBytes) :
    ∃ L : List α, RowAt 0 W v L.length (L.flatMap C) ∧ L.length ≤ 1000000000000000 ∧ ∀ y ∈ L, ∀ n ∈ (D0 y).weights Tryz.prog e, n ≤ reachBytes := by
  have hr := reachBytes_lt
  rcases Deep.open_slice ht h with ⟨hcs, _⟩ | ⟨a, l, c, m', n, D, Pl, hcs, hb', hl, hm', hmm, hx, hel⟩
  · simp at hcs
    subst hcs
    exact ⟨[], .inl ⟨rfl, _, _, rfl⟩, Nat.zero_le _, (by intro y hy; cases hy)⟩
  · simp at hcs
    subst hcs
    have hlm : l ≤ m' := by rw [hmm]; split <;> omega
    have hex : ∀ i, i < l → ∃ y : α, W.cells? 0 (a.add (i * m)) m = some (C y) ∧ D i = D0 y := by
      intro i hi
      obtain ⟨cs', h1, h2⟩ := hel i (by omega)
      rw [hc] at h1
      obtain ⟨y, rfl, hy⟩ := one h2
      exact ⟨y, h1, hy⟩
    obtain ⟨F, hF⟩ := Deep.choose_lt (α := α) hex
    have hw1 : (l + (m' - l)) * bs ≤ reachBytes := by
      have := hsz ((l + (m' - l)) * bs) (by rw [hx]; simp [DataW.weights, ht, hb])
      exact this
    have hl0 : l ≤ reachBytes := by
      have : l * 1 ≤ (l + (m' - l)) * bs := Nat.mul_le_mul (by omega) hbs
      omega
    have hll : ((List.range l).map F).length = l := by simp
    refine ⟨(List.range l).map F, ?_, by rw [hll]; omega, ?_⟩
    · rw [hll]
      rcases Nat.eq_zero_or_pos l with h0 | h0
      · subst h0; exact .inl ⟨rfl, _, _, rfl⟩
      · right
        obtain ⟨b, off, spot⟩ := a
        have add_plain : ∀ j, (⟨b, off, none⟩ : Addr).add j = ⟨b, off + j, none⟩ := fun j => Go.WideShapes.add_plain b off j
        have hspot : spot = none := by
          have := (World.cells?_some (hF 0 h0).1).2.2 0 (by omega)
          simp only [Nat.zero_mul] at this
          have hne : (C (F 0))[0]? ≠ none := by
            have := hC (F 0)
            intro hh
            have := List.getElem?_eq_none_iff.1 hh
            omega
          obtain ⟨q, hq⟩ := Option.ne_none_iff_exists'.1 hne
          rw [hq] at this
          have := World.cell?_spot this
          simpa [Addr.add] using this
        subst hspot
        refine ⟨b, off, c, rfl, Nat.zero_le _, ?_, ?_⟩
        · have := World.cells?_block (hF 0 h0).1 (by omega)
          simpa [Addr.add] using this
        · intro j x hj
          obtain ⟨i, k, hk, hi, e1, e2⟩ : ∃ i k, k < m ∧ i < l ∧ j = i * m + k ∧ (C (F i))[k]? = some x := flat_at F C hC hj
          have h3 := (World.cells?_some (hF i hi).1).2.2 k (by omega)
          rw [add_plain, Go.WideShapes.add_plain, e2] at h3
          rw [e1, ← Nat.add_assoc]
          exact h3
    · intro y hy n hn
      obtain ⟨i, hi, rfl⟩ := List.mem_map.1 hy
      have hi' : i < l := by simpa using hi
      apply hsz
      rw [hx]
      simp only [DataW.weights, ht, List.mem_cons, List.mem_append]
      right; left
      refine mem_weightsAll (List.mem_map.2 ⟨i, hi, rfl⟩) ?_
      rw [(hF i hi').2]
      exact hn

theorem open_st {fuel : Nat} {cs : List Value} {x : DataW H × List MemPlace}
    (h : DataW.trod enc Tryz.prog W 0 spare held fuel 9 cs = some x) : ∃ y : List UInt8, cs = stC y ∧ x.1 = .lit (.string y) := by
  obtain ⟨s, e0, rfl, _⟩ := DataW.trod_string Tryz.underlying9 h
  exact ⟨s.data.toList, e0, rfl⟩

/-- an expression, read off six cells -/
theorem open_ex (N : Nat) : ∀ {fuel : Nat} {cs : List Value} {x : DataW H × List MemPlace}, SizeOf.sizeOf x.1 ≤ N → DataW.trod enc Tryz.prog W 0 spare held fuel 29 cs = some x → (∀ n ∈ x.1.weights Tryz.prog 29, n ≤ reachBytes) →
    ∃ (y : Ex) (a : Value), cs = [.int .i64 y.k, .int .i64 y.v.k, .int .i64 y.v.n, .string ⟨y.v.s.toArray⟩, .string ⟨y.nm.toArray⟩, a] ∧ ExAt 0 W (exV y.k y.v y.nm a) y ∧ Fit y := by
  induction N with
  | zero =>
    intro fuel cs x hN h hsz
    obtain ⟨y0, y1, y2, y3, n, rfl, hl, h0, h1, h2, h3⟩ := Joins.trod_struct4 Tryz.underlying29 h
    simp at hN
  | succ N ih =>
    intro fuel cs x hN h hsz
    have hr := reachBytes_lt
    obtain ⟨y0, y1, y2, y3, n, rfl, hl, h0, h1, h2, h3⟩ := Joins.trod_struct4 Tryz.underlying29 h
    obtain ⟨c0, c1, c2, c3, c4, c5, rfl⟩ := len6 (hl.trans oc29)
    · replace h0 := fld (cs := [c0]) oc3 h0 rfl
      replace h1 := fld (cs := [c1, c2, c3]) oc24 h1 rfl
      replace h2 := fld (cs := [c4]) oc9 h2 rfl
      replace h3 := fld (cs := [c5]) oc27 h3 rfl
      obtain ⟨k, rfl⟩ := open_int h0
      obtain ⟨v, hv, dv⟩ := open_vl h1
      obtain ⟨s, rfl, ds⟩ := open_str h2
      simp only [vlC, List.cons.injEq, and_true] at hv
      obtain ⟨rfl, rfl, rfl⟩ := hv
      have w1 : ∀ n ∈ y1.1.weights Tryz.prog 24, n ≤ reachBytes := fun n hn => hsz n (by simp [DataW.weights, DataW.weightsEach, Tryz.underlying29, hn])
      have w2 : ∀ n ∈ y2.1.weights Tryz.prog 9, n ≤ reachBytes := fun n hn => hsz n (by simp [DataW.weights, DataW.weightsEach, Tryz.underlying29, hn])
      have w3 : ∀ n ∈ y3.1.weights Tryz.prog 27, n ≤ reachBytes := fun n hn => hsz n (by simp [DataW.weights, DataW.weightsEach, Tryz.underlying29, hn])
      have z1 := vl_size dv w1
      have z2 := str_size (by rw [← ds]; exact w2)
      have hN' : SizeOf.sizeOf y3.1 ≤ N := by simp at hN; omega
      rcases Deep.open_slice Tryz.underlying27 h3 with ⟨hcs, _⟩ | ⟨a, l, c, m', n', D, Pl, hcs, hb', hl, hm', hmm, hx, hel⟩
      · simp at hcs
        subst hcs
        exact ⟨.mk k v s [], _, rfl, .nil k v s none 0 (fun _ => rfl), .mk k v s [] z1 z2 (by simp) (by intro y hy; cases hy)⟩
      · simp at hcs
        subst hcs
        have hlm : l ≤ m' := by rw [hmm]; split <;> omega
        have hw1 : (l + (m' - l)) * 80 ≤ reachBytes := by
          have := w3 ((l + (m' - l)) * 80) (by rw [hx]; simp [DataW.weights, Tryz.underlying27, ob29])
          exact this
        have hex : ∀ i, i < l → ∃ y : Ex × Value, W.cells? 0 (a.add (i * 6)) 6 = some [.int .i64 y.1.k, .int .i64 y.1.v.k, .int .i64 y.1.v.n, .string ⟨y.1.v.s.toArray⟩, .string ⟨y.1.nm.toArray⟩, y.2] ∧ ExAt 0 W (exV y.1.k y.1.v y.1.nm y.2) y.1 ∧ Fit y.1 := by
          intro i hi
          obtain ⟨cs', g1, g2⟩ := hel i (by omega)
          rw [oc29] at g1
          have hmem : D i ∈ (List.range l).map D := List.mem_map.2 ⟨i, by simpa using hi, rfl⟩
          have hlt : SizeOf.sizeOf (D i) ≤ N := by
            have h5 := List.sizeOf_lt_of_mem hmem
            rw [hx] at hN'
            simp only [DataW.slice.sizeOf_spec] at hN'
            omega
          obtain ⟨y, b, rfl, hy1, hy2⟩ := ih (x := (D i, Pl i)) hlt g2 (fun n hn => w3 n (by
            rw [hx]
            simp only [DataW.weights, Tryz.underlying27, List.mem_cons, List.mem_append]
            right; left
            exact mem_weightsAll hmem hn))
          exact ⟨(y, b), g1, hy1, hy2⟩
        have inh : Inhabited (Ex × Value) := ⟨(.mk 0 ⟨0, 0, []⟩ [] [], .bool true)⟩
        obtain ⟨F, hF⟩ := Deep.choose_lt (α := Ex × Value) hex
        have hll : ((List.range l).map fun i => (F i).1).length = l := by simp
        have hget : ∀ i y, ((List.range l).map fun i => (F i).1)[i]? = some y → i < l ∧ y = (F i).1 := by
          intro i y h
          rw [List.getElem?_map] at h
          obtain ⟨j, h1, h2⟩ := Option.map_eq_some_iff.1 h
          obtain ⟨h3, h4⟩ := List.getElem?_eq_some_iff.1 h1
          simp at h3 h4
          subst h4
          exact ⟨h3, h2.symm⟩
        rcases Nat.eq_zero_or_pos l with h0 | h0
        · subst h0
          exact ⟨.mk k v s [], _, rfl, .nil k v s (some a) c (fun e => by cases e), .mk k v s [] z1 z2 (by simp) (by intro y hy; cases hy)⟩
        · obtain ⟨b, off, spot⟩ := a
          have add_plain : ∀ j, (⟨b, off, none⟩ : Addr).add j = ⟨b, off + j, none⟩ := fun j => Go.WideShapes.add_plain b off j
          have hspot : spot = none := by
            have := (World.cells?_some (hF 0 h0).1).2.2 0 (by omega)
            simp [Addr.add] at this
            exact World.cell?_spot this
          subst hspot
          refine ⟨.mk k v s ((List.range l).map fun i => (F i).1), .slice (some ⟨b, off, none⟩) l c, rfl, ?_, ?_⟩
          · have := ExAt.args (B := 0) (w := W) k v s b off c ((List.range l).map fun i => (F i).1) (fun i => exV (F i).1.k (F i).1.v (F i).1.nm (F i).2) (by intro hh; have := congrArg List.length hh; rw [hll] at this; simp at this; omega) (Nat.zero_le _)
              (by have := World.cells?_block (hF 0 h0).1 (by omega); simpa [Addr.add] using this) ?_ ?_
            · rw [hll] at this; exact this
            · intro i hi
              rw [hll] at hi
              have hc := (World.cells?_some (hF i hi).1).2.2
              have e0 := hc 0 (by omega)
              have e1 := hc 1 (by omega)
              have e2 := hc 2 (by omega)
              have e3 := hc 3 (by omega)
              have e4 := hc 4 (by omega)
              have e5 := hc 5 (by omega)
              rw [add_plain, Go.WideShapes.add_plain, Nat.mul_comm i 6] at e0 e1 e2 e3 e4 e5
              exact ⟨_, _, _, _, rfl, e0, e1, e2, e3, e4, e5⟩
            · intro i y hy
              obtain ⟨hi, rfl⟩ := hget i y hy
              exact (hF i hi).2.1
          · refine .mk k v s _ z1 z2 ?_ ?_
            · rw [hll]
              have e1 : reachBytes = 140737488351232 := by decide
              have : l * 80 ≤ (l + (m' - l)) * 80 := Nat.mul_le_mul_right _ (by omega)
              omega
            · intro y hy
              obtain ⟨i, hi, rfl⟩ := List.mem_map.1 hy
              exact (hF i (by simpa using hi)).2.2

set_option maxRecDepth 100000 in
/-- a command, read off twenty-six cells -/
theorem open_cm {b0 : Nat} {v : Value} {d : DataW H} {p : List MemPlace} (hv : Value.okWide Tryz.prog W .any b0 31 v) (h : DataW.Trod enc Tryz.prog W 0 spare held 31 v d p) (hsz : ∀ n ∈ d.weights Tryz.prog 31, n ≤ reachBytes) :
    ∃ c : Cm, CmAt 0 W v c ∧ CmFit c := by
  obtain ⟨cs, rfl, hn⟩ := WideShapes.okWide_struct Tryz.underlying31 hv
  rw [oc31] at hn
  obtain ⟨fuel, hf⟩ := h
  obtain ⟨xs, n, _, hx, hl, hlen, hF⟩ := DataW.trod_struct Tryz.underlying31 hf
  rw [oc31] at hl
  simp only [Value.cells] at hF hl
  generalize hcs : cs.toList = l at hF hl
  obtain rfl : cs = l.toArray := by rw [← hcs]
  clear hcs hf hn
  obtain ⟨y0, y1, y2, y3, y4, y5, y6, y7, y8, y9, y10, y11, y12, xr, rfl, hxr⟩ := len13 (n := 1) hlen
  obtain ⟨y13, rfl⟩ := len1 hxr
  obtain ⟨c0, c1, c2, c3, c4, c5, c6, c7, c8, c9, c10, c11, c12, lr, rfl, hlr⟩ := len13 (n := 13) hl
  obtain ⟨c13, c14, c15, c16, c17, c18, c19, c20, c21, c22, c23, c24, c25, lr', rfl, hlr'⟩ := len13 (n := 0) hlr
  obtain rfl := len0 hlr'
  · have r0 := hF 0 _ rfl
    have g0 : DataW.trod enc Tryz.prog W 0 spare held n 3 [c0] = some y0 := fld oc3 r0 rfl
    have r1 := hF 1 _ rfl
    have g1 : DataW.trod enc Tryz.prog W 0 spare held n 9 [c1] = some y1 := fld oc9 r1 rfl
    have r2 := hF 2 _ rfl
    have g2 : DataW.trod enc Tryz.prog W 0 spare held n 9 [c2] = some y2 := fld oc9 r2 rfl
    have r3 := hF 3 _ rfl
    have g3 : DataW.trod enc Tryz.prog W 0 spare held n 9 [c3] = some y3 := fld oc9 r3 rfl
    have r4 := hF 4 _ rfl
    have g4 : DataW.trod enc Tryz.prog W 0 spare held n 22 [c4] = some y4 := fld oc22 r4 rfl
    have r5 := hF 5 _ rfl
    have g5 : DataW.trod enc Tryz.prog W 0 spare held n 3 [c5] = some y5 := fld oc3 r5 rfl
    have r6 := hF 6 _ rfl
    have g6 : DataW.trod enc Tryz.prog W 0 spare held n 24 [c6, c7, c8] = some y6 := fld oc24 r6 rfl
    have r7 := hF 7 _ rfl
    have g7 : DataW.trod enc Tryz.prog W 0 spare held n 25 [c9] = some y7 := fld oc25 r7 rfl
    have r8 := hF 8 _ rfl
    have g8 : DataW.trod enc Tryz.prog W 0 spare held n 26 [c10] = some y8 := fld oc26 r8 rfl
    have r9 := hF 9 _ rfl
    have g9 : DataW.trod enc Tryz.prog W 0 spare held n 29 [c11, c12, c13, c14, c15, c16] = some y9 := fld oc29 r9 rfl
    have r10 := hF 10 _ rfl
    have g10 : DataW.trod enc Tryz.prog W 0 spare held n 4 [c17] = some y10 := fld oc4 r10 rfl
    have r11 := hF 11 _ rfl
    have g11 : DataW.trod enc Tryz.prog W 0 spare held n 29 [c18, c19, c20, c21, c22, c23] = some y11 := fld oc29 r11 rfl
    have r12 := hF 12 _ rfl
    have g12 : DataW.trod enc Tryz.prog W 0 spare held n 9 [c24] = some y12 := fld oc9 r12 rfl
    have r13 := hF 13 _ rfl
    have g13 : DataW.trod enc Tryz.prog W 0 spare held n 3 [c25] = some y13 := fld oc3 r13 rfl
    simp only [Prod.mk.injEq] at hx
    have hd : d = .agg [y0.1, y1.1, y2.1, y3.1, y4.1, y5.1, y6.1, y7.1, y8.1, y9.1, y10.1, y11.1, y12.1, y13.1] := hx.1
    subst hd
    have W1 : ∀ n ∈ y1.1.weights Tryz.prog 9, n ≤ reachBytes := fun n hn => hsz n (by simp [DataW.weights, DataW.weightsEach, Tryz.underlying31, hn])
    have W2 : ∀ n ∈ y2.1.weights Tryz.prog 9, n ≤ reachBytes := fun n hn => hsz n (by simp [DataW.weights, DataW.weightsEach, Tryz.underlying31, hn])
    have W3 : ∀ n ∈ y3.1.weights Tryz.prog 9, n ≤ reachBytes := fun n hn => hsz n (by simp [DataW.weights, DataW.weightsEach, Tryz.underlying31, hn])
    have W4 : ∀ n ∈ y4.1.weights Tryz.prog 22, n ≤ reachBytes := fun n hn => hsz n (by simp [DataW.weights, DataW.weightsEach, Tryz.underlying31, hn])
    have W6 : ∀ n ∈ y6.1.weights Tryz.prog 24, n ≤ reachBytes := fun n hn => hsz n (by simp [DataW.weights, DataW.weightsEach, Tryz.underlying31, hn])
    have W7 : ∀ n ∈ y7.1.weights Tryz.prog 25, n ≤ reachBytes := fun n hn => hsz n (by simp [DataW.weights, DataW.weightsEach, Tryz.underlying31, hn])
    have W8 : ∀ n ∈ y8.1.weights Tryz.prog 26, n ≤ reachBytes := fun n hn => hsz n (by simp [DataW.weights, DataW.weightsEach, Tryz.underlying31, hn])
    have W9 : ∀ n ∈ y9.1.weights Tryz.prog 29, n ≤ reachBytes := fun n hn => hsz n (by simp [DataW.weights, DataW.weightsEach, Tryz.underlying31, hn])
    have W11 : ∀ n ∈ y11.1.weights Tryz.prog 29, n ≤ reachBytes := fun n hn => hsz n (by simp [DataW.weights, DataW.weightsEach, Tryz.underlying31, hn])
    have W12 : ∀ n ∈ y12.1.weights Tryz.prog 9, n ≤ reachBytes := fun n hn => hsz n (by simp [DataW.weights, DataW.weightsEach, Tryz.underlying31, hn])
    obtain ⟨k, rfl⟩ := open_int g0
    obtain ⟨s1, rfl, d1⟩ := open_str g1
    obtain ⟨s2, rfl, d2⟩ := open_str g2
    obtain ⟨s3, rfl, d3⟩ := open_str g3
    obtain ⟨ty, rfl⟩ := open_int g5
    obtain ⟨vl, hvl, dvl⟩ := open_vl g6
    simp only [vlC, List.cons.injEq, and_true] at hvl
    obtain ⟨rfl, rfl, rfl⟩ := hvl
    obtain ⟨b, rfl⟩ : ∃ b, c17 = .bool b := by
      obtain ⟨b, e0, _, _⟩ := DataW.trod_bool Tryz.underlying4 g10
      simp at e0
      exact ⟨b, e0⟩
    obtain ⟨s12, rfl, d12⟩ := open_str g12
    obtain ⟨lm, rfl⟩ := open_int g13
    have i1 : Inhabited Cl := ⟨⟨[], 0⟩⟩
    have i2 : Inhabited Vl := ⟨⟨0, 0, []⟩⟩
    obtain ⟨L4, R4, n4, z4⟩ := open_row clC (fun y => .agg [.lit (.string y.name), .lit (.int .i64 y.ty)]) 2 24 (by decide) (by decide) (fun _ => rfl) Tryz.underlying22 oc56 ob56 open_cl g4 W4
    obtain ⟨L7, R7, n7, z7⟩ := open_row vlC (fun y => .agg [.lit (.int .i64 y.k), .lit (.int .i64 y.n), .lit (.string y.s)]) 3 32 (by decide) (by decide) (fun _ => rfl) Tryz.underlying25 oc24 ob24 open_vl g7 W7
    obtain ⟨L8, R8, n8, z8⟩ := open_row stC (fun y => .lit (.string y)) 1 16 (by decide) (by decide) (fun _ => rfl) Tryz.underlying26 oc9 ob9 open_st g8 W8
    obtain ⟨x9, a9, e9, f9, p9⟩ := open_ex _ (Nat.le_refl _) g9 W9
    obtain ⟨x11, a11, e11, f11, p11⟩ := open_ex _ (Nat.le_refl _) g11 W11
    simp only [List.cons.injEq, and_true] at e9 e11
    obtain ⟨rfl, rfl, rfl, rfl, rfl, rfl⟩ := e9
    obtain ⟨rfl, rfl, rfl, rfl, rfl, rfl⟩ := e11
    refine ⟨{ kind := k, name := s1, other := s2, column := s3, cols := L4, ty := ty, val := vl, vals := L7, fields := L8, expr := x9, all := b, wh := x11, order := s12, limit := lm }, ⟨c4, c9, c10, _, _, rfl, ⟨R4, R7, R8, f9, f11⟩⟩, ?_⟩
    have q : ∀ {s : List UInt8} {d : DataW H}, d = .lit (.string s) → (∀ n ∈ d.weights Tryz.prog 9, n ≤ reachBytes) → s.length ≤ 140737488355328 := fun e h => str_size (by rw [← e]; exact h)
    exact { name := q d1 W1, other := q d2 W2, column := q d3 W3, order := q d12 W12, val := vl_size dvl W6, cols := n4, vals := n7, fields := n8, colsN := fun x hx => cl_size rfl (z4 x hx), valsN := fun x hx => vl_size rfl (z7 x hx), fieldsN := fun x hx => str_size (z8 x hx), expr := p9, wh := p11 }
end
end Go.Proofs.YtkpeklealgicpabGreatDoor

namespace Go.Proofs.YtkpeklealgicpabGreatDoor
open Go.ChangeShapes Go.WideShapes Go.ChangeAt Go.RowKit

theorem Tryz.own : ownKnob Tryz.prog.godebug = none := by kernel_rfl
theorem Tryz.laidOut : laidOutB Tryz.prog = true := by kernel_rfl
theorem Tryz.gPowType : (Tryz.prog.globals[1]?).map (·.type) = some 174 := by kernel_rfl
theorem Tryz.gESType : (Tryz.prog.globals[2]?).map (·.type) = some 74 := by kernel_rfl
theorem Tryz.gERType : (Tryz.prog.globals[3]?).map (·.type) = some 74 := by kernel_rfl
theorem Tryz.c174 : Tryz.prog.cellsOf 174 = 20 := by kernel_rfl
theorem Tryz.c159 : Tryz.prog.cellsOf 159 = 1 := by kernel_rfl
theorem Tryz.c187 : Tryz.prog.cellsOf 187 = 1 := by kernel_rfl
theorem Tryz.c9 : Tryz.prog.cellsOf 9 = 1 := by kernel_rfl
theorem Tryz.star : "*" ++ "errors.errorString" = "*errors.errorString" := by decide
theorem Tryz.row185 (u : TypeId) (h : Tryz.prog.typeName? 3 u = some "*errors.errorString") : u = 185 :=
  typeName_ptr_named (nm := "errors.errorString") (by rw [Tryz.star]; kernel_rfl) (by kernel_rfl) (by decide) u (by rw [Tryz.star]; exact h)

theorem pow_laid : (Rows.laid_internal_strconv_uint64pow10 : DataW Unit) = Lib.tabData .u64 Lib.pow10Tab := by rfl

theorem Tryz.six : Tryz.prog.globals.size = 6 := by kernel_rfl
theorem max_int {W : World} (h : W.ShapedOpen Tryz.prog) : ∃ m, W.cell? ⟨0, 0, none⟩ = some (.int .i64 m) :=
  Go.Proofs.cell_of_shapedOpen_int (t := 3) (zero := #[.int .i64 0]) h (by rw [Tryz.six]; decide) (by kernel_rfl) rfl (by kernel_rfl) (by kernel_rfl) Tryz.underlying3
theorem low_six {W : World} (h : W.ShapedOpen Tryz.prog) : 6 ≤ W.heap.size := by
  have hz : (((begin Tryz.prog (fun _ _ => 0) default).world.heap[5]?).bind Obj.row?).isSome = true := by kernel_rfl
  obtain ⟨⟨z, t⟩, hz⟩ := Option.isSome_iff_exists.1 hz
  obtain ⟨cs, hh, -⟩ := h.1 5 z t (by rw [Tryz.six]; decide) hz
  have := (Array.getElem?_eq_some_iff.1 hh).1
  omega

theorem laid_of {W : World} (h : laidMetH Tryz.prog Rows.commandTellsRow.laid W) (hs : W.ShapedOpen Tryz.prog) : Laid W := by
  rw [MakeChecks.laidMetH_plain _ _ _ (by kernel_rfl)] at h
  have h3 : laidMet Tryz.prog (("internal/strconv.uint64pow10", Rows.laid_internal_strconv_uint64pow10) :: ("strconv.ErrRange", Rows.laid_strconv_ErrRange) :: ("strconv.ErrSyntax", Rows.laid_strconv_ErrSyntax) :: []) W := h.tail.tail
  rw [pow_laid] at h3
  refine ⟨Lib.tabIs_of_head Tryz.gPow Tryz.gPowType Tryz.underlying174 Tryz.underlying159 Tryz.c159 Tryz.c174 h3, ?_, ?_, max_int hs, low_six hs⟩
  · obtain ⟨a0, s0, hv0, -, -, -⟩ := laid_sentinel h3.tail.tail Tryz.gES Tryz.gESType Tryz.underlying74 Tryz.row185 Tryz.underlying185 Tryz.underlying187 rfl rfl Tryz.underlying9 Tryz.c187 Tryz.c9
    exact ⟨_, _, hv0⟩
  · obtain ⟨a0, s0, hv0, -, -, -⟩ := laid_sentinel h3.tail Tryz.gER Tryz.gERType Tryz.underlying74 Tryz.row185 Tryz.underlying185 Tryz.underlying187 rfl rfl Tryz.underlying9 Tryz.c187 Tryz.c9
    exact ⟨_, _, hv0⟩

theorem door_met (os : Os) (args : Array Value) : laidMetH Tryz.prog Rows.commandTellsRow.laid ((World.doorLaid Tryz.prog 200 os).forCall (fun _ _ => 0) ⟨#[], args, []⟩).memory := by
  rw [MakeChecks.laidMetH_plain _ _ _ (by kernel_rfl)]
  exact laidMet_of_run' 8 (by kernel_rfl) (by kernel_rfl)

end Go.Proofs.YtkpeklealgicpabGreatDoor
