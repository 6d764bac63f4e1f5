/-
  The words of kinds of columns (package words), and which kinds there are.
-/
import Derived.Test.YtcnnjladaoaeiaaGreatDoorFlt
namespace Go.Proofs.YtcnnjladaoaeiaaGreatDoor
open Go.RowKit

abbrev w_int : List UInt8 := [105, 110, 116]
abbrev w_text : List UInt8 := [116, 101, 120, 116]
abbrev w_bool : List UInt8 := [98, 111, 111, 108]
def typesL : List (List UInt8) := [[], w_int, w_text, w_bool]
def atL (l : List (List UInt8)) (k : Int) : List UInt8 := if k < 0 then [] else l.getD k.toNat []

/-- words at the head of a block -/
def StrAt (w : World) (b : Nat) (ws : List (List UInt8)) : Prop := ∀ k s, ws[k]? = some s → w.cell? ⟨b, k, none⟩ = some (.string ⟨s.toArray⟩)

theorem beq_bytes (s : ByteArray) (l : List UInt8) : (s.toList == l) = decide (s.data.toList = l) := by
  rw [Lib.toList_data, Bool.eq_iff_iff, beq_iff_eq, decide_eq_true_iff]

theorem atL_nil (ws : List (List UInt8)) (k : Int) (h : k < 0 ∨ (ws.length : Int) ≤ k) : atL ws k = [] := by
  unfold atL
  split
  · rfl
  · rw [List.getD_eq_getElem?_getD, List.getElem?_eq_none (by omega)]; rfl

set_option maxRecDepth 100000 in
set_option maxHeartbeats 800000 in
theorem at_any (k : Int) (w : World) (b cap : Nat) (ws : List (List UInt8)) (hc : StrAt w b ws) :
    Calls Tryz.prog 134 #[.slice (some ⟨b, 0, none⟩) ws.length cap, .int .i64 k] w fun e w' => e = .returned (.string ⟨(atL ws k).toArray⟩) ∧ w' = w := by
  obtain ⟨n, hl⟩ : ∃ n, ws.length = n := ⟨_, rfl⟩
  rw [hl]
  by_cases h0 : k < 0
  · rw [atL_nil ws k (.inl h0)]
    clear hc
    go_enter Tryz.func134, Tryz.ntmps134
    go_wp2
    go_ret
    exact ⟨rfl, rfl⟩
  by_cases h1 : (n : Int) ≤ k
  · rw [atL_nil ws k (.inr (by omega))]
    have hd : decide (k < 0) = false := by simpa using h0
    clear hc h0
    go_enter Tryz.func134, Tryz.ntmps134
    go_wp2
    go_ret
    exact ⟨rfl, rfl⟩
  · obtain ⟨j, rfl⟩ : ∃ j : Nat, k = (j : Int) := ⟨k.toNat, by omega⟩
    obtain ⟨u, hu⟩ : ∃ u, ws[j]? = some u := ⟨ws[j], List.getElem?_eq_getElem (by omega)⟩
    have a0 := hc j u hu
    have e : atL ws (j : Int) = u := by
      unfold atL
      rw [if_neg h0, List.getD_eq_getElem?_getD, Int.toNat_natCast, hu]; rfl
    rw [e]
    have hd : decide ((j : Int) < 0) = false := by simp
    have hd2 : decide ((n : Int) ≤ (j : Int)) = false := by simpa using h1
    have hlt' : (j : Int) < (n : Int) := by omega
    clear hc h0 h1 e hu
    go_enter Tryz.func134, Tryz.ntmps134
    go_wp2
    go_ret
    exact ⟨rfl, rfl⟩

def strsOf (ws : List (List UInt8)) : Array Value := (ws.map fun s => Value.string ⟨s.toArray⟩).toArray

theorem strAt_new (w : World) (ws : List (List UInt8)) : StrAt (w.alloc (.cells (strsOf ws) 9)) w.heap.size ws := by
  intro k s hk
  have h : (w.alloc (.cells (strsOf ws) 9)).heap[w.heap.size]? = some (.cells (strsOf ws) 9) := heap_alloc_new _ _
  rw [Lib.cell_of_heap h]
  simp [strsOf, hk]

set_option maxRecDepth 100000 in
set_option maxHeartbeats 800000 in
theorem types_any (w : World) : Calls Tryz.prog 135 #[] w fun e w' => e = .returned (.slice (some ⟨w.heap.size, 0, none⟩) 4 4) ∧ w' = w.alloc (.cells (strsOf typesL) 9) := by
  go_enter Tryz.func135, Tryz.ntmps135
  go_wp2
  go_ret
  exact ⟨rfl, rfl⟩

set_option maxRecDepth 100000 in
set_option maxHeartbeats 800000 in
theorem ofType_any (k : Int) (w : World) : Calls Tryz.prog 86 #[.int .i64 k] w fun e w' => e = .returned (.string ⟨(atL typesL k).toArray⟩) ∧ Below w.heap.size w w' := by
  have h2 := at_any k _ w.heap.size 4 typesL (strAt_new w typesL)
  go_enter Tryz.func86, Tryz.ntmps86
  go_wp2_with (first | (go_at_call 135; refine (types_any _).mono ?_; rintro e w1 ⟨rfl, rfl⟩) | (go_at_call 134; refine h2.mono ?_; rintro e w2 ⟨rfl, rfl⟩))
  go_ret
  exact ⟨rfl, (Below.refl _ _).alloc (Nat.le_refl _) _⟩

theorem isType_iff (k : Int) : atL typesL k = [] ↔ ¬ (1 ≤ k ∧ k ≤ 3) := by
  by_cases h0 : k < 0
  · simp [atL, h0]; omega
  by_cases h4 : 4 ≤ k
  · rw [atL_nil typesL k (.inr (by simpa [typesL] using h4))]; simp; omega
  have hc : k = 0 ∨ k = 1 ∨ k = 2 ∨ k = 3 := by omega
  rcases hc with rfl | rfl | rfl | rfl <;> decide

theorem ne_empty (l : List UInt8) : ((⟨l.toArray⟩ : ByteArray).toList == []) = decide (l = []) := by
  rw [beq_bytes]

end Go.Proofs.YtcnnjladaoaeiaaGreatDoor
