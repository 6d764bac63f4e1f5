/-
  'Check' of package delta, whole.
-/
import Derived.Test.YtcnnjladaoaeiaaGreatDoorDls
namespace Go.Proofs.YtcnnjladaoaeiaaGreatDoor
open Go.RowKit

/-- whether one is wrong, and what the two boxes hold then -/
def ConPost (w : World) (L : List Dl) (wd : Int) (p q : Nat) (e : Ending) (W' : World) : Prop :=
  e = .returned (.bool (decide ((ckD wd L).2 ≠ 0))) ∧ W'.heap[p]? = some (.cells #[.int .i64 (ckD wd L).1] 3) ∧ W'.heap[q]? = some (.cells #[.int .i64 ((ckD wd L).2 : Nat)] 30) ∧ Below w.heap.size w W'

set_option maxRecDepth 100000 in
set_option maxHeartbeats 1600000 in
theorem con_any (L : List Dl) (u : Value) (w W : World) (h : DsAt w u L) (hb : Below w.heap.size w W) (p q : Nat) (np : w.heap.size ≤ p) (nq : w.heap.size ≤ q) (ne : p ≠ q) (wd : Int) (hp : W.heap[p]? = some (.cells #[.int .i64 wd] 3)) (hq : W.heap[q]? = some (.cells #[.int .i64 0] 30)) (h0 : 0 ≤ wd) (h5 : wd ≤ 5) :
    Calls Tryz.prog 121 #[u, .func (.func 119) #[] #[.pointer (some ⟨p, 0, none⟩), .pointer (some ⟨q, 0, none⟩)]] W fun e W' => ConPost w L wd p q e W' := by
  have hi := dix_any L u w W h hb p q np nq ne wd hp hq h0 h5
  obtain ⟨ao, cap, rfl, -⟩ := h
  have HQ : ∀ (i : Int) (W' : World), (0 ≤ i ↔ (ckD wd L).2 ≠ 0) → W'.heap[p]? = some (.cells #[.int .i64 (ckD wd L).1] 3) ∧ W'.heap[q]? = some (.cells #[.int .i64 ((ckD wd L).2 : Nat)] 30) ∧ Below w.heap.size w W' → ConPost w L wd p q (.returned (.bool (decide (0 ≤ i)))) W' := fun i W' h1 h2 => ⟨ret_bool (by rw [Bool.eq_iff_iff, decide_eq_true_eq, decide_eq_true_eq]; exact h1), h2⟩
  have HH := hide HQ
  clear HQ hp hq hb
  unfold DixPost at hi
  generalize ConPost w L wd p q = CP at HH ⊢
  go_enter Tryz.func121, Tryz.ntmps121
  go_wp2_with fail
  refine hi.mono ?_
  rintro e W1 ⟨⟨i, rfl, hie⟩, hrest⟩
  have H1 := hide hie
  have H2 := hide hrest
  clear hi hie hrest
  go_wp2
  exact HH.out i W1 H1.out H2.out

set_option maxRecDepth 100000 in
set_option maxHeartbeats 1600000 in
theorem check_out (wd : Int) (ao : Option Addr) (n cap : Nat) (w : World) (h : wd < 0 ∨ (¬ wd < 0 ∧ 5 < wd)) :
    Calls Tryz.prog 73 #[.int .i64 wd, .slice ao n cap] w fun e w' => e = .returned (.tuple #[.int .i64 0, .int .i64 3]) ∧ Below w.heap.size w w' := by
  rcases h with h | ⟨h, h'⟩
  all_goals
    go_enter Tryz.func73, Tryz.ntmps73
    go_wp2
    go_ret2
    exact ⟨rfl, (Below.refl _ _).alloc (Nat.le_refl _) _⟩

set_option maxRecDepth 100000 in
set_option maxHeartbeats 3200000 in
theorem check_in (L : List Dl) (u : Value) (wd : Int) (w : World) (h : DsAt w u L) (h0 : 0 ≤ wd) (h5 : wd ≤ 5) :
    Calls Tryz.prog 73 #[.int .i64 wd, u] w fun e w' => e = .returned (.tuple #[.int .i64 (ckD wd L).1, .int .i64 ((ckD wd L).2 : Nat)]) ∧ Below w.heap.size w w' := by
  have z1 : (w.alloc (.cells #[.int .i64 wd] 3)).heap.size = w.heap.size + 1 := by simp
  have hp : ((w.alloc (.cells #[.int .i64 wd] 3)).alloc (.cells #[.int .i64 0] 30)).heap[w.heap.size]? = some (.cells #[.int .i64 wd] 3) := (Below.heap_alloc _ _ _ (by omega)).trans (heap_alloc_new _ _)
  have hq : ((w.alloc (.cells #[.int .i64 wd] 3)).alloc (.cells #[.int .i64 0] 30)).heap[w.heap.size + 1]? = some (.cells #[.int .i64 0] 30) := by rw [← z1]; exact heap_alloc_new _ _
  have hc := con_any L u w _ h (((Below.refl _ _).alloc (Nat.le_refl _) _).alloc (by simp) _) w.heap.size (w.heap.size + 1) (Nat.le_refl _) (by omega) (by omega) wd hp hq h0 h5
  have hE := ckD_err L wd
  obtain ⟨ao, cap, rfl, -⟩ := h
  unfold ConPost at hc
  generalize (ckD wd L).1 = X at hc hE ⊢
  generalize (ckD wd L).2 = Y at hc hE ⊢
  clear hp hq z1
  by_cases hY : Y = 0
  · subst hY
    clear hE
    go_enter Tryz.func73, Tryz.ntmps73
    go_wp2_with fail
    refine hc.mono ?_
    rintro e w1 ⟨rfl, hp, hq, b1⟩
    have c0 : w1.cell? ⟨w.heap.size, 0, none⟩ = some (.int .i64 X) := Lib.cell_of_heap hp 0
    clear hc hp hq
    go_wp2
    go_ret2
    exact ⟨rfl, b1⟩
  · obtain rfl := hE hY
    have hd : decide (Y ≠ 0) = true := decide_eq_true hY
    rw [hd] at hc
    clear hd hE
    go_enter Tryz.func73, Tryz.ntmps73
    go_wp2_with fail
    refine hc.mono ?_
    rintro e w1 ⟨rfl, hp, hq, b1⟩
    have c0 : w1.cell? ⟨w.heap.size + 1, 0, none⟩ = some (.int .i64 (Y : Int)) := Lib.cell_of_heap hq 0
    clear hc hp hq hY
    go_wp2_with fail
    go_quiet (fail)
    go_wp2
    go_ret2
    exact ⟨rfl, below_drewN b1 _⟩

theorem checkD_any (L : List Dl) (u : Value) (wd : Int) (w : World) (h : DsAt w u L) :
    Calls Tryz.prog 73 #[.int .i64 wd, u] w fun e w' => e = .returned (.tuple #[.int .i64 (checkD wd L).1, .int .i64 ((checkD wd L).2 : Nat)]) ∧ Below w.heap.size w w' := by
  unfold checkD
  by_cases hw : wd < 0 ∨ 5 < wd
  · rw [if_pos hw]
    obtain ⟨ao, cap, rfl, -⟩ := h
    exact check_out wd ao L.length cap w (by omega)
  · rw [if_neg hw]
    exact check_in L u wd w h (by omega) (by omega)

end Go.Proofs.YtcnnjladaoaeiaaGreatDoor
