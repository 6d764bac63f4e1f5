/-
  'fault' of package expr: of an expression in memory.
-/
import Derived.Test.YtjmhkeooiimpfaaGreatPfa
namespace Go.Proofs.YtjmhkeooiimpfaaGreat
open Go.RowKit

/-- an argument's six cells, its slice laid open -/
theorem six_slice {B b o : Nat} {w w0 : World} {u : Value} {x : Ex} (h : Six w b o u) (hx : ExAt B w0 u x) :
    ∃ (k : Int) (v : Vl) (nm : List UInt8) (ao : Option Addr) (n ca : Nat), u = exL k v nm (.slice ao n ca) ∧ w.cell? ⟨b, o, none⟩ = some (.int .i64 k) ∧ w.cell? ⟨b, o + 1, none⟩ = some (.int .i64 v.k) ∧ w.cell? ⟨b, o + 2, none⟩ = some (.int .i64 v.n) ∧
      w.cell? ⟨b, o + 3, none⟩ = some (.string ⟨v.s.toArray⟩) ∧ w.cell? ⟨b, o + 4, none⟩ = some (.string ⟨nm.toArray⟩) ∧ w.cell? ⟨b, o + 5, none⟩ = some (.slice ao n ca) := by
  obtain ⟨k, v, nm, a, rfl, h0, h1, h2, h3, h4, h5⟩ := h
  obtain ⟨ao, ca, e⟩ := hx.len
  simp only [exV, Value.agg.injEq, Array.mk.injEq, List.cons.injEq] at e
  obtain rfl := e.2.2.2.2.2.1
  exact ⟨k, v, nm, ao, _, ca, rfl, h0, h1, h2, h3, h4, h5⟩

set_option maxRecDepth 100000 in
set_option maxHeartbeats 1600000 in
/-- the part itself is wrong -/
theorem fault_bad (cv : Value) (k : Int) (v : Vl) (nm : List UInt8) (ao : Option Addr) (n ca : Nat) (W : World) (F : Nat) (hF : ((F : Int) != 0) = true)
    (hp : ∀ W' : World, Below W.heap.size W W' → Calls Tryz.prog 23 #[cv, exL k v nm (.slice ao n ca)] W' fun e w' => e = .returned (.int .i64 (F : Nat)) ∧ Below W'.heap.size W' w') :
    Calls Tryz.prog 14 #[cv, exL k v nm (.slice ao n ca)] W fun e w' => e = .returned (.int .i64 (F : Nat)) ∧ Below W.heap.size W w' := by
  have b0 := (Below.refl W.heap.size W).alloc (Nat.le_refl _) (.cells #[.int .i64 k, .int .i64 v.k, .int .i64 v.n, .string ⟨v.s.toArray⟩, .string ⟨nm.toArray⟩, .slice ao n ca] 28)
  go_enter Tryz.func14, Tryz.ntmps14
  go_wp2_with (go_at_call 23; refine (hp _ b0).mono ?_; rintro e w1 ⟨rfl, b1⟩)
  go_ret
  exact ⟨rfl, b0.trans (b1.mono (by simp))⟩

set_option maxRecDepth 100000 in
set_option maxHeartbeats 1600000 in
/-- it has no Args -/
theorem fault_nil (cv : Value) (k : Int) (v : Vl) (nm : List UInt8) (ao : Option Addr) (ca : Nat) (W : World)
    (hp : ∀ W' : World, Below W.heap.size W W' → Calls Tryz.prog 23 #[cv, exL k v nm (.slice ao 0 ca)] W' fun e w' => e = .returned (.int .i64 0) ∧ Below W'.heap.size W' w') :
    Calls Tryz.prog 14 #[cv, exL k v nm (.slice ao 0 ca)] W fun e w' => e = .returned (.int .i64 0) ∧ Below W.heap.size W w' := by
  have b0 := (Below.refl W.heap.size W).alloc (Nat.le_refl _) (.cells #[.int .i64 k, .int .i64 v.k, .int .i64 v.n, .string ⟨v.s.toArray⟩, .string ⟨nm.toArray⟩, .slice ao 0 ca] 28)
  have h1 := hp _ b0
  go_enter Tryz.func14, Tryz.ntmps14
  go_wp2_with fail
  refine h1.mono ?_
  rintro e w1 ⟨rfl, b1⟩
  have d5 := (b1.cell (p := ⟨W.heap.size, 5, none⟩) (by simp)).trans (by simp : _ = some (.slice ao 0 ca))
  have q1 : Below W.heap.size W w1 := b0.trans (b1.mono (by simp))
  clear hp h1 b0 b1
  go_wp2
  go_loopw [18] (fun i wl => i = .int .i64 0 ∧ wl = w1) (fun _ _ => 0)
  case atStart => exact ⟨rfl, rfl⟩
  case round =>
    obtain ⟨rfl, rfl⟩ := hrel
    go_wp2
    go_ret
    exact ⟨rfl, q1⟩

set_option maxRecDepth 100000 in
set_option maxHeartbeats 1600000 in
/-- it has Args -/
theorem fault_args (L : List Cl) (cv : Value) (k : Int) (v : Vl) (nm : List UInt8) (b off n ca : Nat) (xs : List Ex) (us : Nat → Value) (W : World) (hn : xs.length = n) (hn2 : n * 80 ≤ 140737488351232) (hbW : b < W.heap.size)
    (hp : ∀ W' : World, Below W.heap.size W W' → Calls Tryz.prog 23 #[cv, exL k v nm (.slice (some ⟨b, off, none⟩) n ca)] W' fun e w' => e = .returned (.int .i64 0) ∧ Below W'.heap.size W' w')
    (hS : ∀ i y, xs[i]? = some y → ∃ (k : Int) (v : Vl) (nm : List UInt8) (ao : Option Addr) (n ca : Nat), us i = exL k v nm (.slice ao n ca) ∧ W.cell? ⟨b, off + i * 6, none⟩ = some (.int .i64 k) ∧ W.cell? ⟨b, off + i * 6 + 1, none⟩ = some (.int .i64 v.k) ∧ W.cell? ⟨b, off + i * 6 + 2, none⟩ = some (.int .i64 v.n) ∧
      W.cell? ⟨b, off + i * 6 + 3, none⟩ = some (.string ⟨v.s.toArray⟩) ∧ W.cell? ⟨b, off + i * 6 + 4, none⟩ = some (.string ⟨nm.toArray⟩) ∧ W.cell? ⟨b, off + i * 6 + 5, none⟩ = some (.slice ao n ca))
    (hf : ∀ i y, xs[i]? = some y → ∀ W' : World, Below W.heap.size W W' → Calls Tryz.prog 14 #[cv, us i] W' fun e w' => e = .returned (.int .i64 (faultE L y : Nat)) ∧ Below W'.heap.size W' w') :
    Calls Tryz.prog 14 #[cv, exL k v nm (.slice (some ⟨b, off, none⟩) n ca)] W fun e w' => e = .returned (.int .i64 (faultL L xs : Nat)) ∧ Below W.heap.size W w' := by
  have b0 := (Below.refl W.heap.size W).alloc (Nat.le_refl _) (.cells #[.int .i64 k, .int .i64 v.k, .int .i64 v.n, .string ⟨v.s.toArray⟩, .string ⟨nm.toArray⟩, .slice (some ⟨b, off, none⟩) n ca] 28)
  have h1 := hp _ b0
  have HS := hide hS
  have HF := hide hf
  clear hS hf
  go_enter Tryz.func14, Tryz.ntmps14
  go_wp2_with fail
  refine h1.mono ?_
  rintro e w1 ⟨rfl, b1⟩
  have d5 := (b1.cell (p := ⟨W.heap.size, 5, none⟩) (by simp)).trans (by simp : _ = some (.slice (some ⟨b, off, none⟩) n ca))
  have q1 : Below W.heap.size W w1 := b0.trans (b1.mono (by simp))
  clear hp h1 b0 b1
  go_wp2
  go_loopw [18] (fun i wl => ∃ j : Nat, j ≤ n ∧ i = .int .i64 j ∧ Below W.heap.size W wl ∧ Hid (faultL L xs = faultL L (xs.drop j))) (fun i _ => n - (intOf i).toNat)
  case atStart => exact ⟨0, Nat.zero_le _, rfl, q1, rfl⟩
  case round =>
    obtain ⟨j, hj, rfl, hnx, HA⟩ := hrel
    clear q1 d5
    by_cases hlt : j < n
    · obtain ⟨y, hy⟩ : ∃ y, xs[j]? = some y := ⟨xs[j], List.getElem?_eq_getElem (by omega)⟩
      obtain ⟨k2, v2, nm2, ao2, n2, ca2, hu, a0, a1, a2, a3, a4, a5⟩ := HS.out j y hy
      have c0 := (hnx.cell (p := ⟨b, off + j * 6, none⟩) hbW).trans a0
      have c1 := (hnx.cell (p := ⟨b, off + j * 6 + 1, none⟩) hbW).trans a1
      have c2 := (hnx.cell (p := ⟨b, off + j * 6 + 2, none⟩) hbW).trans a2
      have c3 := (hnx.cell (p := ⟨b, off + j * 6 + 3, none⟩) hbW).trans a3
      have c4 := (hnx.cell (p := ⟨b, off + j * 6 + 4, none⟩) hbW).trans a4
      have c5 := (hnx.cell (p := ⟨b, off + j * 6 + 5, none⟩) hbW).trans a5
      have hlt' : (j : Int) < (n : Int) := by omega
      have hsz := hnx.size
      have q2 := hnx.alloc hsz (.cells #[.int .i64 k2, .int .i64 v2.k, .int .i64 v2.n, .string ⟨v2.s.toArray⟩, .string ⟨nm2.toArray⟩, .slice ao2 n2 ca2] 28)
      have hc := HF.out j y hy _ q2
      rw [hu] at hc
      have HDr : Hid (xs.drop j = y :: xs.drop (j + 1)) := by
        obtain ⟨hi, rfl⟩ := List.getElem?_eq_some_iff.1 hy
        exact List.drop_eq_getElem_cons hi
      clear a0 a1 a2 a3 a4 a5 hy hu
      by_cases hB : faultE L y = 0
      · have HB : Hid (faultL L xs = faultL L (xs.drop (j + 1))) := by rw [Hid, HA.out, HDr.out, faultL, if_pos hB]
        rw [hB] at hc
        clear hB HA HDr
        go_wp2_with (go_at_call 14; refine hc.mono ?_; rintro e w2 ⟨rfl, b2⟩)
        go_roundw
        case rel => exact ⟨j + 1, by omega, by go_num, q2.trans (b2.mono (by simp; omega)), HB⟩
        case measure => simp [intOf]; omega
      · have HB : Hid (faultL L xs = faultE L y) := by rw [Hid, HA.out, HDr.out, faultL, if_neg hB]
        have hne : ((faultE L y : Int) != 0) = true := by simpa using hB
        generalize faultE L y = F at hc HB hne
        clear hB HA HDr
        go_wp2_with (go_at_call 14; refine hc.mono ?_; rintro e w2 ⟨rfl, b2⟩)
        go_ret
        exact ⟨by rw [HB.out]; rfl, q2.trans (b2.mono (by simp; omega))⟩
    · have hN : faultL L xs = 0 := by rw [HA.out, List.drop_of_length_le (by omega)]; rfl
      clear HA
      go_wp2
      go_ret
      exact ⟨by rw [hN]; rfl, hnx⟩

/-- an argument's cells, told in a later world -/
theorem six_at {B b off : Nat} {w0 W : World} {us : Nat → Value} {xs : List Ex} (hb : Below w0.heap.size w0 W) (hs : b < w0.heap.size) (hc : ∀ i, i < xs.length → Six w0 b (off + 6 * i) (us i)) (h : ∀ i y, xs[i]? = some y → ExAt B w0 (us i) y) (i : Nat) (y : Ex) (hy : xs[i]? = some y) :
    ∃ (k : Int) (v : Vl) (nm : List UInt8) (ao : Option Addr) (n ca : Nat), us i = exL k v nm (.slice ao n ca) ∧ W.cell? ⟨b, off + i * 6, none⟩ = some (.int .i64 k) ∧ W.cell? ⟨b, off + i * 6 + 1, none⟩ = some (.int .i64 v.k) ∧ W.cell? ⟨b, off + i * 6 + 2, none⟩ = some (.int .i64 v.n) ∧
      W.cell? ⟨b, off + i * 6 + 3, none⟩ = some (.string ⟨v.s.toArray⟩) ∧ W.cell? ⟨b, off + i * 6 + 4, none⟩ = some (.string ⟨nm.toArray⟩) ∧ W.cell? ⟨b, off + i * 6 + 5, none⟩ = some (.slice ao n ca) := by
  have h1 := (hc i (List.getElem?_eq_some_iff.1 hy).1).keep (hb.block b hs)
  rw [Nat.mul_comm 6 i] at h1
  exact six_slice h1 (h i y hy)

theorem flt_any (L : List Cl) (cv : Value) {B : Nat} {w0 : World} {u : Value} {x : Ex} (h : ExAt B w0 u x) : Fit x → ∀ W : World, Below w0.heap.size w0 W → CsAt W cv L →
    Calls Tryz.prog 14 #[cv, u] W fun e w' => e = .returned (.int .i64 (faultE L x : Nat)) ∧ Below W.heap.size W w' := by
  induction h with
  | nil k v nm ao cap hz =>
    intro hf W hb hC
    have hp := fun (W' : World) (hW : Below W.heap.size W W') => partFault_any L cv (hC.below hW) (ExAt.nil (B := B) (w := w0) k v nm ao cap hz) hf
    simp only [faultE, faultL]
    by_cases hB : partF L (.mk k v nm []) = 0
    · rw [if_pos hB]
      rw [hB] at hp
      exact fault_nil cv k v nm ao cap W hp
    · rw [if_neg hB]
      exact fault_bad cv k v nm ao 0 cap W _ (by simpa using hB) hp
  | args k v nm b off cap xs us hx hB hs hc hh ih =>
    intro hf W hb hC
    have hp := fun (W' : World) (hW : Below W.heap.size W W') => partFault_any L cv (hC.below hW) (ExAt.args (B := B) (w := w0) k v nm b off cap xs us hx hB hs hc hh) hf
    rw [faultE]
    by_cases hB : partF L (.mk k v nm xs) = 0
    · rw [if_pos hB]
      rw [hB] at hp
      have hbW : b < W.heap.size := Nat.lt_of_lt_of_le hs hb.size
      refine fault_args L cv k v nm b off xs.length cap xs us W rfl hf.args.1 hbW hp (six_at hb hs hc hh) fun i y hy W' hW => ?_
      exact ih i y hy (hf.args.2 y (List.mem_of_getElem? hy)) W' (hb.trans (hW.mono hb.size)) (hC.below hW)
    · rw [if_neg hB]
      exact fault_bad cv k v nm _ _ cap W _ (by simpa using hB) hp

end Go.Proofs.YtjmhkeooiimpfaaGreat
