/-
  Disks: New.
-/
import Derived.Test.YtppgkhcmdajolaaDsm
namespace Go.Proofs.Ytppgkhcmdajolaa
open Go.RowKit

/-- a sector of zeros -/
def zeroS : ByteArray := ⟨(List.replicate 64 0).toArray⟩
def newN (n : Int) : Nat := if n < 1 ∨ 400 < n then 3 else 0
def newD (n : Int) : Dk := if n < 1 ∨ 400 < n then ⟨[], []⟩ else ⟨List.replicate n.toNat zeroS, []⟩

theorem zeros_any (w : World) : Calls Try.prog 26 #[.string ⟨#[0]⟩, .int .i64 64] w fun e w' => e = .returned (.string zeroS) ∧ Below w.heap.size w w' := by
  refine (Try.strings_Repeat ⟨#[0]⟩ 64 w (by decide) (by decide)).mono ?_
  rintro e w' ⟨rfl, h⟩
  refine ⟨?_, h⟩
  have e1 : Lib.repeatL (⟨#[0]⟩ : ByteArray).data.toList 64 = List.replicate 64 0 := by decide
  rw [e1]; rfl

set_option maxRecDepth 100000 in
set_option maxHeartbeats 1600000 in
theorem new_bad (n : Int) (h : n < 1 ∨ 400 < n) (w : World) :
    Calls Try.prog 7 #[.int .i64 n] w fun e w' => e = .returned (.tuple #[.agg #[.slice none 0 0, .slice none 0 0], .int .i64 3]) ∧ Below w.heap.size w w' := by
  have b0 := (Below.refl w.heap.size w).alloc (Nat.le_refl _) (.cells #[.slice none 0 0, .slice none 0 0] 25)
  have k0 := heap_alloc_new w (.cells #[.slice none 0 0, .slice none 0 0] 25)
  have HB : Hid (∀ l : List Value, Below w.heap.size w (putAll (w.alloc (.cells #[.slice none 0 0, .slice none 0 0] 25)) w.heap.size 0 l)) := fun l => below_putAll (Nat.le_refl _) _ _ _ b0
  have HK := hide k0
  clear b0 k0
  rcases h with h | h
  · have h1 : decide (n < 1) = true := decide_eq_true h
    go_enter Try.func7, Try.ntmps7
    go_wp2_with (refine wpList_store_whole 25 _ _ rfl rfl w.heap.size [.slice none 0 0, .slice none 0 0] [.slice none 0 0, .slice none 0 0] 25 rfl rfl (by exact HK.out) rfl Try.size25 (by intro v hv; simp only [List.mem_cons, List.not_mem_nil, or_false] at hv; rcases hv with rfl | rfl <;> rfl) ?_; intro w9 l2 p9)
    have q2 : Below w.heap.size w w9 := by rw [p9.out]; exact HB.out _
    obtain ⟨s0, s1⟩ := two_in l2
    refine bodyPost_ret (v := .tuple #[.agg #[.slice none 0 0, .slice none 0 0], .int .i64 3]) ?_ rfl ⟨rfl, q2⟩
    simp [results, Try.results7, go_sem, s0, s1]
  · have h1 : decide (n < 1) = false := decide_eq_false (by omega)
    have h2 : decide (n > 400) = true := decide_eq_true h
    have h3 : ¬ n < 1 := by omega
    go_enter Try.func7, Try.ntmps7
    go_wp2_with (refine wpList_store_whole 25 _ _ rfl rfl w.heap.size [.slice none 0 0, .slice none 0 0] [.slice none 0 0, .slice none 0 0] 25 rfl rfl (by exact HK.out) rfl Try.size25 (by intro v hv; simp only [List.mem_cons, List.not_mem_nil, or_false] at hv; rcases hv with rfl | rfl <;> rfl) ?_; intro w9 l2 p9)
    have q2 : Below w.heap.size w w9 := by rw [p9.out]; exact HB.out _
    obtain ⟨s0, s1⟩ := two_in l2
    refine bodyPost_ret (v := .tuple #[.agg #[.slice none 0 0, .slice none 0 0], .int .i64 3]) ?_ rfl ⟨rfl, q2⟩
    simp [results, Try.results7, go_sem, s0, s1]

set_option maxRecDepth 100000 in
set_option maxHeartbeats 1600000 in
theorem new_ok (c : Nat) (h1 : 1 ≤ c) (h2 : c ≤ 400) (w : World) :
    Calls Try.prog 7 #[.int .i64 c] w fun e w' => ∃ v, e = .returned (.tuple #[.agg #[v, .slice none 0 0], .int .i64 0]) ∧ w'.ownsRow w.heap.size 9 1 v c ((List.replicate c zeroS).map Value.string) ∧ Below w.heap.size w w' := by
  have b0 := (Below.refl w.heap.size w).alloc (Nat.le_refl _) (.cells #[.slice none 0 0, .slice none 0 0] 25)
  have k0 := heap_alloc_new w (.cells #[.slice none 0 0, .slice none 0 0] 25)
  have z0 : (w.alloc (.cells #[.slice none 0 0, .slice none 0 0] 25)).heap.size = w.heap.size + 1 := by simp
  have g1 : ¬ (c : Int) < 1 := by omega
  have g2 : ¬ (400 : Int) < (c : Int) := by omega
  go_enter Try.func7, Try.ntmps7
  go_wp2_with fail
  generalize (w.alloc (.cells #[.slice none 0 0, .slice none 0 0] 25)) = w0 at *
  refine (zeros_any w0).mono ?_
  rintro e w1 ⟨rfl, b1⟩
  have k1 := (b1.block w.heap.size (by omega)).trans k0
  have q1 := b0.trans (b1.mono b0.size)
  have z1 : w.heap.size + 1 ≤ w1.heap.size := by have := b1.size; omega
  have b2 := (Below.refl w1.heap.size w1).alloc (Nat.le_refl _) (.cells #[.string zeroS] 9)
  have hc := repeat_any zeroS w1.heap.size 0 1 c (w1.alloc (.cells #[.string zeroS] 9)) h1 h2 (by simp) (Lib.cell_of_heap (heap_alloc_new w1 _) 0)
  have z2 : (w1.alloc (.cells #[.string zeroS] 9)).heap.size = w1.heap.size + 1 := by simp
  clear b1 k0 b0 z0
  go_wp2_with fail
  refine hc.mono ?_
  rintro e w3 ⟨v, rfl, o3, b3⟩
  obtain ⟨a, cc, rfl⟩ := owns_slice o3
  have q3 := q1.trans ((b2.trans (b3.mono b2.size)).mono q1.size)
  have K3 := hide (((b2.trans (b3.mono b2.size)).block w.heap.size (by omega)).trans k1)
  have O3 := hide (own_lower o3 (show w.heap.size + 1 ≤ _ by rw [z2]; omega))
  clear hc b3 o3 b2 k1 z2
  go_wp2_with (refine wpList_store_whole 25 _ _ rfl rfl w.heap.size [.slice none 0 0, .slice none 0 0] [.slice a c cc, .slice none 0 0] 25 rfl rfl (by exact K3.out) rfl Try.size25 (by intro v hv; simp only [List.mem_cons, List.not_mem_nil, or_false] at hv; rcases hv with rfl | rfl <;> rfl) ?_; intro w9 l2 p9)
  have q2 : Below w.heap.size w w9 := by rw [p9.out]; exact below_putAll (Nat.le_refl _) _ _ _ q3
  have O9 : w9.ownsRow w.heap.size 9 1 (.slice a c cc) c ((List.replicate c zeroS).map Value.string) := by
    rw [p9.out]; exact own_lower (owns_putAll (Nat.lt_succ_self _) _ _ _ O3.out) (Nat.le_succ _)
  obtain ⟨s0, s1⟩ := two_in l2
  refine bodyPost_ret (v := .tuple #[.agg #[.slice a c cc, .slice none 0 0], .int .i64 0]) ?_ rfl ⟨_, rfl, O9, q2⟩
  simp [results, Try.results7, go_sem, s0, s1]

theorem new_any (n : Int) (w : World) :
    Calls Try.prog 7 #[.int .i64 n] w fun e w' => ∃ kv wv, e = .returned (.tuple #[.agg #[kv, wv], .int .i64 (newN n : Nat)]) ∧ DkOwn w' w.heap.size kv wv (newD n) ∧ Below w.heap.size w w' := by
  unfold newN newD
  by_cases h : n < 1 ∨ 400 < n
  · rw [if_pos h, if_pos h]
    refine (new_bad n h w).mono ?_
    rintro e w' ⟨rfl, hb⟩
    exact ⟨_, _, rfl, ⟨World.ownsRow_nil _ _ _ _, World.ownsRow_nil _ _ _ _⟩, hb⟩
  · rw [if_neg h, if_neg h]
    obtain ⟨c, rfl⟩ : ∃ c : Nat, n = c := ⟨n.toNat, by omega⟩
    refine (new_ok c (by omega) (by omega) w).mono ?_
    rintro e w' ⟨v, rfl, ho, hb⟩
    refine ⟨v, _, rfl, ⟨?_, World.ownsRow_nil _ _ _ _⟩, hb⟩
    rw [Int.toNat_natCast]
    simpa using ho

end Go.Proofs.Ytppgkhcmdajolaa
