/-
  Disks: Write, where something is wrong; Write of any disk.
-/
import Derived.Test.YtppgkhcmdajolaaDsh
namespace Go.Proofs.Ytppgkhcmdajolaa
open Go.RowKit

set_option maxRecDepth 100000 in
set_option maxHeartbeats 3200000 in
theorem write_bad1 (F : Nat) (hF : F ≠ 0) (ka wa : Option Addr) (n m kc wc : Nat) (x : Wr) (w : World)
    (hc : ∀ W, Below w.heap.size w W → Calls Try.prog 16 #[.agg #[.slice ka n kc, .slice wa m wc]] W fun e w' => e = .returned (.int .i64 (F : Nat)) ∧ Below W.heap.size W w') :
    Calls Try.prog 8 #[.agg #[.slice ka n kc, .slice wa m wc], .int .i64 x.n, .string x.s] w fun e w' => e = .returned (.tuple #[.agg #[.slice none 0 0, .slice none 0 0], .int .i64 (F : Nat)]) ∧ Below w.heap.size w w' := by
  obtain ⟨xn, xs⟩ := x
  have hE' : (((F : Nat) : Int) == 0) = false := by simpa using hF
  have hne : ((F : Nat) : Int) ≠ 0 := by omega
  have b0 := ((Below.refl w.heap.size w).alloc (Nat.le_refl _) (.cells #[.slice ka n kc, .slice wa m wc] 25)).alloc (by simp) (.cells #[.slice none 0 0, .slice none 0 0] 25)
  have hz1 : (w.alloc (.cells #[.slice ka n kc, .slice wa m wc] 25)).heap.size = w.heap.size + 1 := by simp
  have k1 : ((w.alloc (.cells #[.slice ka n kc, .slice wa m wc] 25)).alloc (.cells #[.slice none 0 0, .slice none 0 0] 25)).heap[w.heap.size + 1]? = some (.cells #[.slice none 0 0, .slice none 0 0] 25) := by
    rw [← hz1]; exact heap_alloc_new _ _
  have hz0 : ((w.alloc (.cells #[.slice ka n kc, .slice wa m wc] 25)).alloc (.cells #[.slice none 0 0, .slice none 0 0] 25)).heap.size = w.heap.size + 2 := by simp
  clear hz1 hF
  go_enter Try.func8, Try.ntmps8
  go_wp2_with fail
  generalize ((w.alloc (.cells #[.slice ka n kc, .slice wa m wc] 25)).alloc (.cells #[.slice none 0 0, .slice none 0 0] 25)) = w0 at *
  refine (hc _ b0).mono ?_
  rintro e w1 ⟨rfl, b1⟩
  have q1 : Below w.heap.size w w1 := b0.trans (b1.mono b0.size)
  have L1 := hide ((b1.block (w.heap.size + 1) (by omega)).trans k1)
  clear hc b1 b0 k1 hz0
  go_wp2_with (refine wpList_store_whole 25 _ _ rfl rfl (w.heap.size + 1) [.slice none 0 0, .slice none 0 0] [.slice none 0 0, .slice none 0 0] 25 rfl rfl (by exact L1.out) rfl Try.size25 (by intro v hv; simp only [List.mem_cons, List.not_mem_nil, or_false] at hv; rcases hv with rfl | rfl <;> rfl) ?_; intro w9 l2 p9)
  have q2 : Below w.heap.size w w9 := by rw [p9.out]; exact below_putAll (Nat.le_succ _) _ _ _ q1
  obtain ⟨s0, s1⟩ := two_in l2
  refine bodyPost_ret (v := .tuple #[.agg #[.slice none 0 0, .slice none 0 0], .int .i64 (F : Nat)]) ?_ rfl ⟨rfl, q2⟩
  simp [results, Try.results8, go_sem, s0, s1]

set_option maxRecDepth 100000 in
set_option maxHeartbeats 3200000 in
theorem write_bad2 (F : Nat) (ka wa : Option Addr) (n m kc wc : Nat) (x : Wr) (w : World) (G : Nat) (hG : (F ≠ 0 ∧ G = F) ∨ (F = 0 ∧ m = 400 ∧ G = 2))
    (hc : ∀ W, Below w.heap.size w W → Calls Try.prog 16 #[.agg #[.slice ka n kc, .slice wa m wc]] W fun e w' => e = .returned (.int .i64 0) ∧ Below W.heap.size W w')
    (hf : ∀ W, Calls Try.prog 28 #[.agg #[.slice ka n kc, .slice wa m wc], .agg #[.int .i64 x.n, .string x.s]] W fun e w' => e = .returned (.int .i64 (F : Nat)) ∧ Below W.heap.size W w') :
    Calls Try.prog 8 #[.agg #[.slice ka n kc, .slice wa m wc], .int .i64 x.n, .string x.s] w fun e w' => e = .returned (.tuple #[.agg #[.slice none 0 0, .slice none 0 0], .int .i64 (G : Nat)]) ∧ Below w.heap.size w w' := by
  obtain ⟨xn, xs⟩ := x
  have b0 := ((Below.refl w.heap.size w).alloc (Nat.le_refl _) (.cells #[.slice ka n kc, .slice wa m wc] 25)).alloc (by simp) (.cells #[.slice none 0 0, .slice none 0 0] 25)
  have hz1 : (w.alloc (.cells #[.slice ka n kc, .slice wa m wc] 25)).heap.size = w.heap.size + 1 := by simp
  have k1 : ((w.alloc (.cells #[.slice ka n kc, .slice wa m wc] 25)).alloc (.cells #[.slice none 0 0, .slice none 0 0] 25)).heap[w.heap.size + 1]? = some (.cells #[.slice none 0 0, .slice none 0 0] 25) := by
    rw [← hz1]; exact heap_alloc_new _ _
  have k0 : ((w.alloc (.cells #[.slice ka n kc, .slice wa m wc] 25)).alloc (.cells #[.slice none 0 0, .slice none 0 0] 25)).heap[w.heap.size]? = some (.cells #[.slice ka n kc, .slice wa m wc] 25) := (Below.heap_alloc (w.alloc (.cells #[.slice ka n kc, .slice wa m wc] 25)) _ _ (by omega)).trans (heap_alloc_new w _)
  have hz0 : ((w.alloc (.cells #[.slice ka n kc, .slice wa m wc] 25)).alloc (.cells #[.slice none 0 0, .slice none 0 0] 25)).heap.size = w.heap.size + 2 := by simp
  clear hz1
  go_enter Try.func8, Try.ntmps8
  go_wp2_with fail
  generalize ((w.alloc (.cells #[.slice ka n kc, .slice wa m wc] 25)).alloc (.cells #[.slice none 0 0, .slice none 0 0] 25)) = w0 at *
  refine (hc _ b0).mono ?_
  rintro e w1 ⟨rfl, b1⟩
  have q1 : Below w.heap.size w w1 := b0.trans (b1.mono b0.size)
  have l1 := (b1.block (w.heap.size + 1) (by omega)).trans k1
  have l0 := (b1.block w.heap.size (by omega)).trans k0
  have z1 : w.heap.size + 2 ≤ w1.heap.size := by have := b1.size; omega
  clear hc b1 b0 k1 k0 hz0
  have q2 := q1.alloc q1.size (.cells #[.int .i64 xn, .string xs] 56)
  have n2 := heap_alloc_new w1 (.cells #[.int .i64 xn, .string xs] 56)
  have m1 := (Below.heap_alloc w1 (.cells #[.int .i64 xn, .string xs] 56) _ (show w.heap.size + 1 < w1.heap.size by omega)).trans l1
  have m0 := (Below.heap_alloc w1 (.cells #[.int .i64 xn, .string xs] 56) _ (show w.heap.size < w1.heap.size by omega)).trans l0
  have z2 : w.heap.size + 2 ≤ (w1.alloc (.cells #[.int .i64 xn, .string xs] 56)).heap.size := by simp; omega
  have z3 : w1.heap.size < (w1.alloc (.cells #[.int .i64 xn, .string xs] 56)).heap.size := by simp
  obtain ⟨x0, x1⟩ := two_in m0
  obtain ⟨y0, y1⟩ := two_in n2
  go_wp2_with fail
  generalize (w1.alloc (.cells #[.int .i64 xn, .string xs] 56)) = w2 at *
  refine (hf _).mono ?_
  rintro e w3 ⟨rfl, b3⟩
  have q3 : Below w.heap.size w w3 := q2.trans (b3.mono q2.size)
  have r1 := (b3.block (w.heap.size + 1) (by omega)).trans m1
  have r0 := (b3.block w.heap.size (by omega)).trans m0
  have R1 := hide r1
  clear hf b3 n2 m1 m0 x0 x1 y0 y1 q2 q1 l1 l0 z2 z3
  rcases hG with ⟨hF, rfl⟩ | ⟨rfl, rfl, rfl⟩
  · have hE' : (((G : Nat) : Int) == 0) = false := by simpa using hF
    have hne : ((G : Nat) : Int) ≠ 0 := by omega
    clear hF r1 r0
    go_wp2_with (refine wpList_store_whole 25 _ _ rfl rfl (w.heap.size + 1) [.slice none 0 0, .slice none 0 0] [.slice none 0 0, .slice none 0 0] 25 rfl rfl (by exact R1.out) rfl Try.size25 (by intro v hv; simp only [List.mem_cons, List.not_mem_nil, or_false] at hv; rcases hv with rfl | rfl <;> rfl) ?_; intro w9 l2 p9)
    have q2 : Below w.heap.size w w9 := by rw [p9.out]; exact below_putAll (Nat.le_succ _) _ _ _ q3
    obtain ⟨s0, s1⟩ := two_in l2
    refine bodyPost_ret (v := .tuple #[.agg #[.slice none 0 0, .slice none 0 0], .int .i64 (G : Nat)]) ?_ rfl ⟨rfl, q2⟩
    simp [results, Try.results8, go_sem, s0, s1]
  · obtain ⟨x0, x1⟩ := two_in r0
    clear r1 r0
    go_wp2_with (refine wpList_store_whole 25 _ _ rfl rfl (w.heap.size + 1) [.slice none 0 0, .slice none 0 0] [.slice none 0 0, .slice none 0 0] 25 rfl rfl (by exact R1.out) rfl Try.size25 (by intro v hv; simp only [List.mem_cons, List.not_mem_nil, or_false] at hv; rcases hv with rfl | rfl <;> rfl) ?_; intro w9 l2 p9)
    have q2 : Below w.heap.size w w9 := by rw [p9.out]; exact below_putAll (Nat.le_succ _) _ _ _ q3
    obtain ⟨s0, s1⟩ := two_in l2
    refine bodyPost_ret (v := .tuple #[.agg #[.slice none 0 0, .slice none 0 0], .int .i64 2]) ?_ rfl ⟨rfl, q2⟩
    simp [results, Try.results8, go_sem, s0, s1]

theorem write_any (d : Dk) (x : Wr) (ku wu : Value) (w : World) (h : DkAt w ku wu d) :
    Calls Try.prog 8 #[.agg #[ku, wu], .int .i64 x.n, .string x.s] w fun e w' => ∃ kv wv, e = .returned (.tuple #[.agg #[kv, wv], .int .i64 (writeN d x : Nat)]) ∧ DkOwn w' w.heap.size kv wv (writeD d x) ∧ Below w.heap.size w w' := by
  by_cases h0 : writeN d x = 0
  · refine (write_ok d x ku wu w h h0).mono ?_
    rintro e w' ⟨kv, wv, rfl, h1, h2⟩
    refine ⟨kv, wv, by rw [h0]; rfl, ?_, h2⟩
    unfold writeD
    rw [if_pos h0]; exact h1
  · have hD : writeD d x = ⟨[], []⟩ := by unfold writeD; rw [if_neg h0]
    rw [hD]
    have hc := fun W (hb : Below w.heap.size w W) => check_any d ku wu W (h.1.below hb) (h.2.below hb)
    obtain ⟨ka, kc, rfl⟩ := h.1.form
    obtain ⟨wa, wc, rfl⟩ := h.2.form
    have hR : Calls Try.prog 8 #[.agg #[.slice ka d.ks.length kc, .slice wa d.ws.length wc], .int .i64 x.n, .string x.s] w fun e w' => e = .returned (.tuple #[.agg #[.slice none 0 0, .slice none 0 0], .int .i64 (writeN d x : Nat)]) ∧ Below w.heap.size w w' := by
      by_cases h1 : checkD d = 0
      · rw [h1] at hc
        refine write_bad2 (faultN d.ks.length x) ka wa d.ks.length d.ws.length kc wc x w (writeN d x) ?_ hc (fun W => fault_any x ka wa d.ks.length d.ws.length kc wc W)
        unfold writeN at h0 ⊢
        rw [if_pos h1] at h0 ⊢
        by_cases h2 : faultN d.ks.length x = 0
        · rw [if_pos h2] at h0 ⊢
          by_cases h3 : d.ws.length = 400
          · rw [if_pos h3]; exact .inr ⟨h2, h3, rfl⟩
          · rw [if_neg h3] at h0; exact absurd rfl h0
        · rw [if_neg h2]; exact .inl ⟨h2, rfl⟩
      · have hN : writeN d x = checkD d := by unfold writeN; rw [if_neg h1]
        rw [hN]
        exact write_bad1 (checkD d) h1 ka wa d.ks.length d.ws.length kc wc x w hc
    refine hR.mono ?_
    rintro e w' ⟨rfl, h1⟩
    exact ⟨_, _, rfl, ⟨World.ownsRow_nil _ _ _ _, World.ownsRow_nil _ _ _ _⟩, h1⟩

end Go.Proofs.Ytppgkhcmdajolaa
