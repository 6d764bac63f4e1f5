/-
  Disks: Flush and Crash.
-/
import Derived.Test.YtppgkhcmdajolaaDsd
namespace Go.Proofs.Ytppgkhcmdajolaa
open Go.RowKit

/-- a disk in memory -/
def DkAt (w : World) (ku wu : Value) (d : Dk) : Prop := StAt w ku d.ks ∧ WrAt w wu d.ws

theorem DkAt.below {w w' : World} {ku wu : Value} {d : Dk} (h : DkAt w ku wu d) (hb : Below w.heap.size w w') : DkAt w' ku wu d := ⟨h.1.below hb, h.2.below hb⟩

/-- a disk of one's own -/
def DkOwn (w : World) (B : Nat) (ku wu : Value) (d : Dk) : Prop := w.ownsRow B 9 1 ku d.ks.length (d.ks.map Value.string) ∧ w.ownsRow B 56 2 wu d.ws.length (d.ws.flatMap wrC)

theorem DkOwn.at {w : World} {B : Nat} {ku wu : Value} {d : Dk} (h : DkOwn w B ku wu d) (h1 : d.ks.length ≤ 1000) (h2 : d.ws.length ≤ 1000) : DkAt w ku wu d := ⟨st_of_own h.1 h1, wr_of_own h.2 h2⟩
theorem DkOwn.below {w w' : World} {B : Nat} {ku wu : Value} {d : Dk} (h : DkOwn w B ku wu d) (hb : Below w.heap.size w w') : DkOwn w' B ku wu d := ⟨owns_keep h.1 hb, owns_keep h.2 hb⟩
theorem DkOwn.lower {w : World} {B B' : Nat} {ku wu : Value} {d : Dk} (h : DkOwn w B' ku wu d) (hB : B ≤ B') : DkOwn w B ku wu d := ⟨own_lower h.1 hB, own_lower h.2 hB⟩
theorem DkOwn.form {w : World} {B : Nat} {ku wu : Value} {d : Dk} (h : DkOwn w B ku wu d) : (∃ a c, ku = .slice a d.ks.length c) ∧ ∃ a c, wu = .slice a d.ws.length c := ⟨owns_slice h.1, owns_slice h.2⟩
theorem owns_putAll {B : Nat} {e : TypeId} {m : Nat} {v : Value} {n : Nat} {xs : List Value} {g : Nat} (hg : g < B) : ∀ (l : List Value) (w : World) (o : Nat), w.ownsRow B e m v n xs → (putAll w g o l).ownsRow B e m v n xs
  | [], _, _, h => h
  | x :: l, _, o, h => owns_putAll hg l _ _ (owns_put0 h hg o x)
theorem DkOwn.putAll {w : World} {B : Nat} {ku wu : Value} {d : Dk} (h : DkOwn w B ku wu d) {g : Nat} (hg : g < B) (o : Nat) (l : List Value) : DkOwn (putAll w g o l) B ku wu d := ⟨owns_putAll hg _ _ _ h.1, owns_putAll hg _ _ _ h.2⟩

theorem st_nil (w : World) : StAt w (.slice none 0 0) [] := ⟨none, 0, rfl, by decide, fun _ => ⟨rfl, rfl⟩, fun h => absurd rfl h⟩
theorem wr_nil (w : World) : WrAt w (.slice none 0 0) [] := ⟨none, 0, rfl, by decide, fun _ => ⟨rfl, rfl⟩, fun h => absurd rfl h⟩

/-- what Flush and Crash leave -/
def settleD (P : Nat → Bool) (d : Dk) : List ByteArray := if checkD d = 0 then settleL P 0 d.ws d.ks else []

/-- slices of truths in memory -/
def BoAt (w : World) (u : Value) (L : List Bool) : Prop :=
  ∃ ao cap, u = .slice ao L.length cap ∧ L.length ≤ 140737488355328 ∧ (L ≠ [] → ∃ g o, ao = some ⟨g, o, none⟩ ∧ g < w.heap.size ∧ ∀ i x, L[i]? = some x → w.cell? ⟨g, o + i, none⟩ = some (.bool x))

theorem BoAt.below {w w' : World} {u : Value} {L : List Bool} (h : BoAt w u L) (hb : Below w.heap.size w w') : BoAt w' u L := by
  obtain ⟨ao, cap, e, hl, hc⟩ := h
  refine ⟨ao, cap, e, hl, fun hne => ?_⟩
  obtain ⟨g, o, e, hg, hcc⟩ := hc hne
  exact ⟨g, o, e, Nat.lt_of_lt_of_le hg hb.size, fun i x hi => (hb.cell (p := ⟨g, o + i, none⟩) hg).trans (hcc i x hi)⟩

def keepL (L : List Bool) (i : Nat) : Bool := L[i]?.getD false

theorem flush1_any (i : Int) (w : World) : Calls Try.prog 32 #[.int .i64 i] w fun e w' => e = .returned (.bool true) ∧ Below w.heap.size w w' := by
  go_enter Try.func32, Try.ntmps32
  go_wp2
  go_ret
  exact ⟨rfl, Below.refl _ _⟩

set_option maxRecDepth 100000 in
set_option maxHeartbeats 1600000 in
theorem crash1_any (L : List Bool) (ao : Option Addr) (n cap i p : Nat) (w : World) (h : BoAt w (.slice ao n cap) L) (hp : w.cell? ⟨p, 0, none⟩ = some (.slice ao n cap)) :
    Calls Try.prog 33 #[.int .i64 i, .pointer (some ⟨p, 0, none⟩)] w fun e w' => e = .returned (.bool (keepL L i)) ∧ Below w.heap.size w w' := by
  obtain ⟨a', c', e, hl, hc⟩ := h
  cases e
  obtain ⟨n, hn⟩ : ∃ n, L.length = n := ⟨_, rfl⟩
  have HN := hide hn
  rw [hn] at hl hp
  clear hn
  by_cases hlt : i < n
  · obtain ⟨x, hx⟩ : ∃ x, L[i]? = some x := ⟨L[i]'(by rw [HN.out]; exact hlt), List.getElem?_eq_getElem _⟩
    obtain ⟨g, o, rfl, hg, hcc⟩ := hc (by intro e; rw [e] at hx; cases hx)
    have c0 := hcc i x hx
    have HK : Hid (keepL L i = x) := by unfold keepL; rw [Hid, hx]; rfl
    have hlt' : (i : Int) < (n : Int) := by omega
    have hd : decide ((i : Int) < (n : Int)) = true := decide_eq_true hlt'
    clear hcc hx hc
    go_enter Try.func33, Try.ntmps33
    go_wp2
    go_ret
    exact ⟨ret_bool HK.out.symm, Below.refl _ _⟩
  · have HK : Hid (keepL L i = false) := by unfold keepL; rw [Hid, List.getElem?_eq_none (by rw [HN.out]; omega)]; rfl
    have hd : decide ((i : Int) < (n : Int)) = false := decide_eq_false (by omega)
    clear hc
    go_enter Try.func33, Try.ntmps33
    go_wp2
    go_ret
    exact ⟨ret_bool HK.out.symm, Below.refl _ _⟩

theorem settled_anyF (P : Nat → Bool) (d : Dk) (ku wu : Value) (w : World) (h : DkAt w ku wu d)
    (hf : ∀ (W : World) (i : Nat), Below w.heap.size w W → i < d.ws.length → d.ws.length ≤ 400 → Calls Try.prog 32 #[.int .i64 i] W fun e w' => e = .returned (.bool (P i)) ∧ Below W.heap.size W w') :
    Calls Try.prog 31 #[.agg #[ku, wu], .func (.func 32) #[] #[]] w fun e w' => ∃ v, e = .returned (.tuple #[.agg #[v, .slice none 0 0], .int .i64 (checkD d : Nat)]) ∧ w'.ownsRow w.heap.size 9 1 v (settleD P d).length ((settleD P d).map Value.string) ∧ Below w.heap.size w w' := by
  by_cases hE : checkD d = 0
  · refine (settled_okF P d ku wu w h.1 h.2 hE (fun W i hb hi => hf W i hb hi (checkD_zero hE).2.2.2.1)).mono ?_
    rintro e w' ⟨v, rfl, h1, h2⟩
    refine ⟨_, by rw [hE]; rfl, ?_, h2⟩
    have hl := settleL_length P d.ws 0 d.ks
    unfold settleD
    rw [if_pos hE, hl]
    exact h1
  · refine (settled_badF d ku wu w h.1 h.2 hE).mono ?_
    rintro e w' ⟨rfl, h1⟩
    refine ⟨_, rfl, ?_, h1⟩
    unfold settleD
    rw [if_neg hE]
    exact World.ownsRow_nil _ _ _ _

theorem settled_anyC (P : Nat → Bool) (p : Nat) (d : Dk) (ku wu : Value) (w : World) (h : DkAt w ku wu d)
    (hf : ∀ (W : World) (i : Nat), Below w.heap.size w W → i < d.ws.length → d.ws.length ≤ 400 → Calls Try.prog 33 #[.int .i64 i, .pointer (some ⟨p, 0, none⟩)] W fun e w' => e = .returned (.bool (P i)) ∧ Below W.heap.size W w') :
    Calls Try.prog 31 #[.agg #[ku, wu], .func (.func 33) #[] #[.pointer (some ⟨p, 0, none⟩)]] w fun e w' => ∃ v, e = .returned (.tuple #[.agg #[v, .slice none 0 0], .int .i64 (checkD d : Nat)]) ∧ w'.ownsRow w.heap.size 9 1 v (settleD P d).length ((settleD P d).map Value.string) ∧ Below w.heap.size w w' := by
  by_cases hE : checkD d = 0
  · refine (settled_okC P p d ku wu w h.1 h.2 hE (fun W i hb hi => hf W i hb hi (checkD_zero hE).2.2.2.1)).mono ?_
    rintro e w' ⟨v, rfl, h1, h2⟩
    refine ⟨_, by rw [hE]; rfl, ?_, h2⟩
    have hl := settleL_length P d.ws 0 d.ks
    unfold settleD
    rw [if_pos hE, hl]
    exact h1
  · refine (settled_badC p d ku wu w h.1 h.2 hE).mono ?_
    rintro e w' ⟨rfl, h1⟩
    refine ⟨_, rfl, ?_, h1⟩
    unfold settleD
    rw [if_neg hE]
    exact World.ownsRow_nil _ _ _ _

/-- what Flush leaves, and its errno -/
def flushD (d : Dk) : Dk := ⟨settleD (fun _ => true) d, []⟩
def crashD (d : Dk) (keep : List Bool) : Dk := ⟨settleD (keepL keep) d, []⟩

set_option maxRecDepth 100000 in
set_option maxHeartbeats 1600000 in
theorem flush_any (d : Dk) (ku wu : Value) (w : World) (h : DkAt w ku wu d) :
    Calls Try.prog 9 #[.agg #[ku, wu]] w fun e w' => ∃ kv wv, e = .returned (.tuple #[.agg #[kv, wv], .int .i64 (checkD d : Nat)]) ∧ DkOwn w' w.heap.size kv wv (flushD d) ∧ Below w.heap.size w w' := by
  have hs := fun W (hb : Below w.heap.size w W) => settled_anyF (fun _ => true) d ku wu W (h.below hb) (fun W' i _ _ _ => flush1_any i W')
  obtain ⟨ka, kc, rfl⟩ := h.1.form
  obtain ⟨wa, wc, rfl⟩ := h.2.form
  clear h
  unfold flushD
  generalize settleD (fun _ => true) d = R at *
  generalize checkD d = F at *
  generalize d.ks.length = n at *
  generalize d.ws.length = m at *
  have b0 := ((Below.refl w.heap.size w).alloc (Nat.le_refl _) (.cells #[.slice ka n kc, .slice wa m wc] 25)).alloc (by simp) (.cells #[.slice none 0 0, .slice none 0 0] 25)
  have hz1 : (w.alloc (.cells #[.slice ka n kc, .slice wa m wc] 25)).heap.size = w.heap.size + 1 := by simp
  have k1 : ((w.alloc (.cells #[.slice ka n kc, .slice wa m wc] 25)).alloc (.cells #[.slice none 0 0, .slice none 0 0] 25)).heap[w.heap.size + 1]? = some (.cells #[.slice none 0 0, .slice none 0 0] 25) := by
    rw [← hz1]; exact heap_alloc_new _ _
  have hz0 : ((w.alloc (.cells #[.slice ka n kc, .slice wa m wc] 25)).alloc (.cells #[.slice none 0 0, .slice none 0 0] 25)).heap.size = w.heap.size + 2 := by simp
  clear hz1
  go_enter Try.func9, Try.ntmps9
  go_wp2_with fail
  generalize ((w.alloc (.cells #[.slice ka n kc, .slice wa m wc] 25)).alloc (.cells #[.slice none 0 0, .slice none 0 0] 25)) = w0 at *
  refine (hs _ b0).mono ?_
  rintro e w1 ⟨v, rfl, hst, b1⟩
  obtain ⟨a, c, rfl⟩ := owns_slice hst
  have q1 : Below w.heap.size w w1 := b0.trans (b1.mono b0.size)
  have L1 := hide ((b1.block (w.heap.size + 1) (by omega)).trans k1)
  have HS := hide (own_lower hst (show w.heap.size + 2 ≤ w0.heap.size by omega))
  clear hs b1 b0 k1 hz0 hst
  go_wp2_with (refine wpList_store_whole 25 _ _ rfl rfl (w.heap.size + 1) [.slice none 0 0, .slice none 0 0] [.slice a R.length c, .slice none 0 0] 25 rfl rfl (by exact L1.out) rfl Try.size25 (by intro v hv; simp only [List.mem_cons, List.not_mem_nil, or_false] at hv; rcases hv with rfl | rfl <;> rfl) ?_; intro w9 l2 p9)
  have q2 : Below w.heap.size w w9 := by rw [p9.out]; exact below_putAll (Nat.le_succ _) _ _ _ q1
  obtain ⟨s0, s1⟩ := two_in l2
  have HS9 : w9.ownsRow w.heap.size 9 1 (.slice a R.length c) R.length (R.map Value.string) := by
    rw [p9.out]; exact own_lower (owns_putAll (by omega) _ _ _ HS.out) (by omega)
  refine bodyPost_ret (v := .tuple #[.agg #[.slice a R.length c, .slice none 0 0], .int .i64 (F : Nat)]) ?_ rfl ⟨_, _, rfl, ⟨HS9, World.ownsRow_nil _ _ _ _⟩, q2⟩
  simp [results, Try.results9, go_sem, s0, s1]

set_option maxRecDepth 100000 in
set_option maxHeartbeats 1600000 in
theorem crash_any (d : Dk) (keep : List Bool) (ba : Option Addr) (bn bc : Nat) (ku wu : Value) (w : World) (h : DkAt w ku wu d) (hk : BoAt w (.slice ba bn bc) keep) :
    Calls Try.prog 10 #[.agg #[ku, wu], .slice ba bn bc] w fun e w' => ∃ kv wv, e = .returned (.tuple #[.agg #[kv, wv], .int .i64 (checkD d : Nat)]) ∧ DkOwn w' w.heap.size kv wv (crashD d keep) ∧ Below w.heap.size w w' := by
  have hs := fun W (hb : Below w.heap.size w W) (p : Nat) (hp : W.cell? ⟨p, 0, none⟩ = some (.slice ba bn bc)) (lp : p < W.heap.size) => settled_anyC (keepL keep) p d ku wu W (h.below hb) (fun W' i hb2 _ _ => crash1_any keep ba bn bc i p W' (hk.below (hb.trans (hb2.mono hb.size))) ((hb2.cell (p := ⟨p, 0, none⟩) lp).trans hp))
  obtain ⟨ka, kc, rfl⟩ := h.1.form
  obtain ⟨wa, wc, rfl⟩ := h.2.form
  clear h hk
  unfold crashD
  generalize settleD (keepL keep) d = R at *
  generalize checkD d = F at *
  generalize d.ks.length = n at *
  generalize d.ws.length = m at *
  have b0 := (((Below.refl w.heap.size w).alloc (Nat.le_refl _) (.cells #[.slice ka n kc, .slice wa m wc] 25)).alloc (by simp) (.cells #[.slice ba bn bc] 26)).alloc (by simp; omega) (.cells #[.slice none 0 0, .slice none 0 0] 25)
  have hz1 : ((w.alloc (.cells #[.slice ka n kc, .slice wa m wc] 25)).alloc (.cells #[.slice ba bn bc] 26)).heap.size = w.heap.size + 1 + 1 := by simp
  have k1 : (((w.alloc (.cells #[.slice ka n kc, .slice wa m wc] 25)).alloc (.cells #[.slice ba bn bc] 26)).alloc (.cells #[.slice none 0 0, .slice none 0 0] 25)).heap[w.heap.size + 1 + 1]? = some (.cells #[.slice none 0 0, .slice none 0 0] 25) := by
    rw [← hz1]; exact heap_alloc_new _ _
  have hz0 : (((w.alloc (.cells #[.slice ka n kc, .slice wa m wc] 25)).alloc (.cells #[.slice ba bn bc] 26)).alloc (.cells #[.slice none 0 0, .slice none 0 0] 25)).heap.size = w.heap.size + 3 := by simp
  have kb : (((w.alloc (.cells #[.slice ka n kc, .slice wa m wc] 25)).alloc (.cells #[.slice ba bn bc] 26)).alloc (.cells #[.slice none 0 0, .slice none 0 0] 25)).heap[w.heap.size + 1]? = some (.cells #[.slice ba bn bc] 26) := by
    rw [Below.heap_alloc _ _ _ (by simp)]
    have hz2 : (w.alloc (.cells #[.slice ka n kc, .slice wa m wc] 25)).heap.size = w.heap.size + 1 := by simp
    rw [← hz2]; exact heap_alloc_new _ _
  clear hz1
  go_enter Try.func10, Try.ntmps10
  go_wp2_with fail
  generalize (((w.alloc (.cells #[.slice ka n kc, .slice wa m wc] 25)).alloc (.cells #[.slice ba bn bc] 26)).alloc (.cells #[.slice none 0 0, .slice none 0 0] 25)) = w0 at *
  refine (hs _ b0 (w.heap.size + 1) (by rw [Lib.cell_of_heap kb]; rfl) (by omega)).mono ?_
  rintro e w1 ⟨v, rfl, hst, b1⟩
  obtain ⟨a, c, rfl⟩ := owns_slice hst
  have q1 : Below w.heap.size w w1 := b0.trans (b1.mono b0.size)
  have L1 := hide ((b1.block (w.heap.size + 1 + 1) (by omega)).trans k1)
  have HS := hide (own_lower hst (show w.heap.size + 3 ≤ w0.heap.size by omega))
  clear hs kb b1 b0 k1 hz0 hst
  go_wp2_with (refine wpList_store_whole 25 _ _ rfl rfl (w.heap.size + 1 + 1) [.slice none 0 0, .slice none 0 0] [.slice a R.length c, .slice none 0 0] 25 rfl rfl (by exact L1.out) rfl Try.size25 (by intro v hv; simp only [List.mem_cons, List.not_mem_nil, or_false] at hv; rcases hv with rfl | rfl <;> rfl) ?_; intro w9 l2 p9)
  have q2 : Below w.heap.size w w9 := by rw [p9.out]; exact below_putAll (by omega) _ _ _ q1
  obtain ⟨s0, s1⟩ := two_in l2
  have HS9 : w9.ownsRow w.heap.size 9 1 (.slice a R.length c) R.length (R.map Value.string) := by
    rw [p9.out]; exact own_lower (owns_putAll (by omega) _ _ _ HS.out) (by omega)
  refine bodyPost_ret (v := .tuple #[.agg #[.slice a R.length c, .slice none 0 0], .int .i64 (F : Nat)]) ?_ rfl ⟨_, _, rfl, ⟨HS9, World.ownsRow_nil _ _ _ _⟩, q2⟩
  simp [results, Try.results10, go_sem, s0, s1]

end Go.Proofs.Ytppgkhcmdajolaa
