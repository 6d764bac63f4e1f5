/-
  'rowFault' of package expr.
-/
import Derived.Test.YtjmhkeooiimpfaaGreatRwf
namespace Go.Proofs.YtjmhkeooiimpfaaGreat
open Go.RowKit

set_option maxRecDepth 100000 in
set_option maxHeartbeats 800000 in
theorem rf_len (ao ao2 : Option Addr) (n m cap cap2 : Nat) (W : World) (h : ((m : Int) != (n : Int)) = true) :
    Calls Tryz.prog 16 #[.slice ao n cap, .slice ao2 m cap2] W fun e w' => e = .returned (.int .i64 1) ∧ Below W.heap.size W w' := by
  go_enter Tryz.func16, Tryz.ntmps16
  go_wp2
  go_ret
  exact ⟨rfl, Below.refl _ _⟩

set_option maxRecDepth 100000 in
set_option maxHeartbeats 800000 in
theorem rf_bad (ao ao2 : Option Addr) (n cap cap2 : Nat) (W : World) (F : Nat) (hF : ((F : Int) != 0) = true)
    (h : Calls Tryz.prog 27 #[.slice ao2 n cap2] W fun e w' => e = .returned (.int .i64 (F : Nat)) ∧ Below W.heap.size W w') :
    Calls Tryz.prog 16 #[.slice ao n cap, .slice ao2 n cap2] W fun e w' => e = .returned (.int .i64 (F : Nat)) ∧ Below W.heap.size W w' := by
  go_enter Tryz.func16, Tryz.ntmps16
  go_wp2_with (go_at_call 27; refine h.mono ?_; rintro e w1 ⟨rfl, b1⟩)
  go_ret
  exact ⟨rfl, b1⟩

set_option maxRecDepth 100000 in
set_option maxHeartbeats 800000 in
theorem rf_row (ao ao2 : Option Addr) (n cap cap2 : Nat) (W : World) (B : Bool)
    (h : Calls Tryz.prog 27 #[.slice ao2 n cap2] W fun e w' => e = .returned (.int .i64 0) ∧ Below W.heap.size W w')
    (h2 : ∀ W1 : World, Below W.heap.size W W1 → Calls Tryz.prog 28 #[.slice ao n cap, .slice ao2 n cap2] W1 fun e w' => e = .returned (.bool B) ∧ Below W1.heap.size W1 w') (r : Int) (hr : Hid (r = if B = true then 0 else 4)) :
    Calls Tryz.prog 16 #[.slice ao n cap, .slice ao2 n cap2] W fun e w' => e = .returned (.int .i64 r) ∧ Below W.heap.size W w' := by
  cases B
  all_goals
    go_enter Tryz.func16, Tryz.ntmps16
    go_wp2_with (first | (go_at_call 27; refine h.mono ?_; rintro e w1 ⟨rfl, b1⟩) | (go_at_call 28; refine (h2 _ b1).mono ?_; rintro e w2 ⟨rfl, b2⟩))
    go_ret
    exact ⟨by rw [hr.out]; rfl, b1.trans (b2.mono b1.size)⟩

theorem rowFault_any (L : List Cl) (R : List Vl) (cu ru : Value) (W : World) (hC : CsAt W cu L) (hR : VsAt W ru R) :
    Calls Tryz.prog 16 #[cu, ru] W fun e w' => e = .returned (.int .i64 (rowF L R : Nat)) ∧ Below W.heap.size W w' := by
  have h36 := fitFault_any R ru W hR
  rw [badL_badR] at h36
  unfold rowF
  by_cases hl : R.length ≠ L.length
  · rw [if_pos hl]
    obtain ⟨ao, cap, rfl, -⟩ := hC
    obtain ⟨ao2, cap2, rfl, -⟩ := hR
    exact rf_len ao ao2 _ _ cap cap2 W (by simp; omega)
  rw [if_neg hl]
  replace hl := Classical.not_not.1 hl
  have h37 := fun (W1 : World) (hW : Below W.heap.size W W1) => fitRow_any L R cu ru W1 (hC.below hW) (hR.below hW) hl
  obtain ⟨ao, cap, rfl, -⟩ := hC
  obtain ⟨ao2, cap2, rfl, -⟩ := hR
  rw [hl] at h36 h37 ⊢
  by_cases hb : badR R ≠ 0
  · rw [if_pos hb]
    exact rf_bad ao ao2 _ cap cap2 W _ (by simpa using hb) h36
  rw [if_neg hb]
  rw [Classical.not_not.1 hb] at h36
  refine rf_row ao ao2 _ cap cap2 W _ h36 h37 _ ?_
  cases kindsR L R <;> rfl

end Go.Proofs.YtjmhkeooiimpfaaGreat
