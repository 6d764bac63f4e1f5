/-
  'kindOf' of package expr, and cmp.Or of two.
-/
import Derived.Test.YtjmhkeooiimpfaaGreatFlx
namespace Go.Proofs.YtjmhkeooiimpfaaGreat
open Go.RowKit

set_option maxRecDepth 100000 in
set_option maxHeartbeats 1600000 in
theorem or_two (a b r : Int) (HR1 : Hid (a ≠ 0 → r = a)) (HR2 : Hid (a = 0 → r = b)) (W : World) (g : Nat) (ha : W.cell? ⟨g, 0, none⟩ = some (.int .i64 a)) (hb : W.cell? ⟨g, 1, none⟩ = some (.int .i64 b)) :
    Calls Tryz.prog 26 #[.slice (some ⟨g, 0, none⟩) 2 2] W fun e w' => e = .returned (.int .i64 r) ∧ w' = W := by
  go_enter Tryz.func26, Tryz.ntmps26
  go_wp2
  go_loopw [8] (fun i wl => ∃ j : Nat, j ≤ 2 ∧ i = .int .i64 j ∧ wl = W ∧ (1 ≤ j → a = 0) ∧ (2 ≤ j → b = 0)) (fun i _ => 2 - (intOf i).toNat)
  case atStart => exact ⟨0, by omega, rfl, rfl, by omega, by omega⟩
  case round =>
    obtain ⟨j, hj, rfl, rfl, h1, h2⟩ := hrel
    have hj3 : j = 0 ∨ j = 1 ∨ j = 2 := by omega
    rcases hj3 with rfl | rfl | rfl
    · clear h1 h2 hj
      by_cases h : a = 0
      · have H := hide h
        have hz : (a == 0) = true := by simpa using h
        have hz2 : (a != 0) = false := by simpa using h
        clear h
        go_wp2
        go_roundw
        case rel => exact ⟨1, by omega, rfl, (by first | exact trivial | rfl), (by first | exact trivial | exact fun _ => H.out), by omega⟩
        case measure => simp [intOf]
      · have hne : (a != 0) = true := by simpa using h
        have H := hide h
        clear h
        go_wp2
        go_ret
        exact ⟨by rw [HR1.out H.out]; rfl, rfl⟩
    · have H := hide (h1 (by omega))
      clear h1 h2 hj
      by_cases h : b = 0
      · have H2 := hide h
        clear h
        have hz : (b == 0) = true := by simpa using H2.out
        have hz2 : (b != 0) = false := by simpa using H2.out
        go_wp2
        go_roundw
        case rel => exact ⟨2, by omega, rfl, (by first | exact trivial | rfl), (by first | exact trivial | exact fun _ => H.out), (by first | exact trivial | exact fun _ => H2.out)⟩
        case measure => simp [intOf]
      · have hne : (b != 0) = true := by simpa using h
        clear h
        go_wp2
        go_ret
        exact ⟨by rw [HR2.out H.out]; rfl, rfl⟩
    · have H := hide (h1 (by omega))
      have H2 := hide (h2 (by omega))
      clear h1 h2 hj
      go_wp2
      go_ret
      exact ⟨by rw [HR2.out H.out, H2.out]; rfl, rfl⟩

/-- what kindOf answers -/
def kindR (o : Option Int) : Value := .tuple #[.int .i64 (o.getD 0), .bool o.isSome]

set_option maxRecDepth 100000 in
set_option maxHeartbeats 1600000 in
theorem kof_1 (cv : Value) (v : Vl) (nm : List UInt8) (ao : Option Addr) (n ca : Nat) (W : World) :
    Calls Tryz.prog 15 #[cv, exL 1 v nm (.slice ao n ca)] W fun e w' => e = .returned (.tuple #[.int .i64 v.k, .bool true]) ∧ Below W.heap.size W w' := by
  go_enter Tryz.func15, Tryz.ntmps15
  go_wp2
  go_ret2
  exact ⟨rfl, (Below.refl _ _).alloc (Nat.le_refl _) _⟩

set_option maxRecDepth 100000 in
set_option maxHeartbeats 1600000 in
theorem kof_2 (g o cc m i : Nat) (t : Int) (v : Vl) (nm : List UInt8) (ao : Option Addr) (n ca : Nat) (W : World) (hg : g < W.heap.size) (hi : i < m) (ht : W.cell? ⟨g, o + i * 2 + 1, none⟩ = some (.int .i64 t))
    (hp : ∀ W' : World, Below W.heap.size W W' → Calls Tryz.prog 24 #[.slice (some ⟨g, o, none⟩) m cc, .string ⟨nm.toArray⟩] W' fun e w' => e = .returned (.int .i64 (i : Nat)) ∧ Below W'.heap.size W' w') :
    Calls Tryz.prog 15 #[.slice (some ⟨g, o, none⟩) m cc, exL 2 v nm (.slice ao n ca)] W fun e w' => e = .returned (.tuple #[.int .i64 t, .bool true]) ∧ Below W.heap.size W w' := by
  have b0 := (Below.refl W.heap.size W).alloc (Nat.le_refl _) (.cells #[.int .i64 2, .int .i64 v.k, .int .i64 v.n, .string ⟨v.s.toArray⟩, .string ⟨nm.toArray⟩, .slice ao n ca] 28)
  have h1 := hp _ b0
  have hi' : (i : Int) < (m : Int) := by omega
  clear hp
  go_enter Tryz.func15, Tryz.ntmps15
  go_wp2_with fail
  refine h1.mono ?_
  rintro e w1 ⟨rfl, b1⟩
  have q1 : Below W.heap.size W w1 := b0.trans (b1.mono (by simp))
  have c1 := (q1.cell (p := ⟨g, o + i * 2 + 1, none⟩) hg).trans ht
  clear h1 b0 b1 ht
  go_wp2
  go_ret2
  exact ⟨rfl, q1⟩

end Go.Proofs.YtjmhkeooiimpfaaGreat
