/-
  Disks: the document's NewDisk.
-/
import Derived.Test.YtppgkhcmdajolaaDso
namespace Go.Proofs.Ytppgkhcmdajolaa
open Go.RowKit

def zs (k : Nat) : ByteArray := ⟨(List.replicate k 0).toArray⟩
theorem zs_size (k : Nat) : (zs k).size = k := by show (List.replicate k (0 : UInt8)).toArray.size = k; simp
theorem mk_append (a b : List UInt8) : ((⟨a.toArray⟩ : ByteArray) ++ ⟨b.toArray⟩) = ⟨(a ++ b).toArray⟩ := by
  apply ByteArray.ext
  simp
theorem zs_succ (k : Nat) : zs k ++ ⟨#[0]⟩ = zs (k + 1) := by
  have h := mk_append (List.replicate k 0) [0]
  rw [← List.replicate_succ'] at h
  exact h

theorem conv_zero (w : World) :
    (convert 62 9 (.slice (some ⟨w.heap.size, 0, none⟩) 1 1)).run Try.prog (w.alloc (.cells #[.int .u8 0] 5)) = .ok (.string ⟨#[0]⟩) (w.alloc (.cells #[.int .u8 0] 5)) := by
  have h := run_convert_bytes_back (P := Try.prog) (w.alloc (.cells #[.int .u8 0] 5)) 62 9 5 ⟨w.heap.size, 0, none⟩ 1 [0] Try.underlying62 Try.underlying5 Try.underlying9 (by
    intro j hj
    have : j = 0 := by simpa using hj
    subst this
    simp [Addr.add])
  exact h

/-- the rows of the second loop -/
def Nd (p : Nat) (w0 w : World) (k : Nat) : Prop := ∃ v, w.heap[p]? = some (.cells #[v, .slice none 0 0] 25) ∧ w.ownsRow (p + 1) 9 1 v k (List.replicate k (.string zeroS)) ∧ Below p w0 w

set_option maxRecDepth 100000 in
set_option maxHeartbeats 1600000 in
theorem newDisk_any (c : Nat) (h2 : c ≤ 400) (w : World) :
    Calls Try.prog 11 #[.int .i64 c] w fun e w' => ∃ v, e = .returned (.agg #[v, .slice none 0 0]) ∧ w'.ownsRow w.heap.size 9 1 v c ((List.replicate c zeroS).map Value.string) ∧ Below w.heap.size w w' := by
  obtain ⟨i0, hi, hz0, hz1, hz2⟩ := info_parts Try.info_st9'
  have b0 := (Below.refl w.heap.size w).alloc (Nat.le_refl _) (.cells #[.slice none 0 0, .slice none 0 0] 25)
  have k0 := heap_alloc_new w (.cells #[.slice none 0 0, .slice none 0 0] 25)
  have z0 : (w.alloc (.cells #[.slice none 0 0, .slice none 0 0] 25)).heap.size = w.heap.size + 1 := by simp
  go_enter Try.func11, Try.ntmps11
  go_wp2_with fail
  generalize (w.alloc (.cells #[.slice none 0 0, .slice none 0 0] 25)) = w0 at *
  go_loopw [3, 4] (fun v i wl => ∃ k : Nat, k ≤ 64 ∧ v = .string (zs k) ∧ i = .int .i64 k ∧ Below w0.heap.size w0 wl) (fun _ i _ => 64 - (intOf i).toNat)
  case atStart => exact ⟨0, by decide, rfl, rfl, Below.refl _ _⟩
  case round =>
    obtain ⟨k, hk, rfl, rfl, hb⟩ := hrel
    by_cases hkc : k < 64
    · have hkc' : (k : Int) < 64 := by omega
      have bX := hb.alloc hb.size (.cells #[.int .u8 0] 5)
      have hc := conv_zero wr
      have hs := zs_size k
      have hs1 : (⟨#[0]⟩ : ByteArray).size = 1 := rfl
      go_wp2
      go_roundw
      case rel => exact ⟨k + 1, by omega, by rw [← zs_succ], by go_num, bX⟩
      case measure => simp [intOf]; omega
    · obtain rfl : k = 64 := by omega
      have hz : zs 64 = zeroS := rfl
      have b5 := (Below.refl wr.heap.size wr).alloc (Nat.le_refl _) (.cells #[.slice none 0 0, .slice none 0 0] 25)
      have k5 := heap_alloc_new wr (.cells #[.slice none 0 0, .slice none 0 0] 25)
      have z5 : (wr.alloc (.cells #[.slice none 0 0, .slice none 0 0] 25)).heap.size = wr.heap.size + 1 := by simp
      have kr := (hb.block w.heap.size (by omega)).trans k0
      have zr : w.heap.size + 1 ≤ wr.heap.size := by have := hb.size; omega
      have qr := b0.trans (hb.mono b0.size)
      have k2 := (Below.heap_alloc wr (.cells #[.slice none 0 0, .slice none 0 0] 25) w.heap.size (by omega)).trans kr
      have q5 := qr.alloc qr.size (.cells #[.slice none 0 0, .slice none 0 0] 25)
      rw [hz]
      clear hz hkc hk hb k0 b0 z0
      go_wp2_with fail
      generalize hW : wr.alloc (.cells #[.slice none 0 0, .slice none 0 0] 25) = w5 at *
      generalize wr.heap.size = p at *
      clear hW
      go_loopw [6] (fun i wl => ∃ k : Nat, k ≤ c ∧ i = .int .i64 k ∧ Nd p w5 wl k) (fun i _ => c - (intOf i).toNat)
      case atStart => exact ⟨0, Nat.zero_le _, rfl, _, k5, World.ownsRow_nil _ _ _ _, Below.refl _ _⟩
      case round =>
        obtain ⟨k, hk, rfl, v, hp, ho, hb⟩ := hrel
        have hps : p < wr.heap.size := by have := hb.size; omega
        obtain ⟨x0, x1⟩ := two_in hp
        by_cases hkc : k < c
        · obtain ⟨ao, cap, rfl⟩ := owns_slice ho
          have hkc' : (k : Int) < (c : Int) := by omega
          have nX := heap_alloc_new wr (.cells #[.string zeroS] 9)
          have bX : Below p w5 (wr.alloc (.cells #[.string zeroS] 9)) := hb.alloc (Nat.le_of_lt hps) _
          have pX := (Below.heap_alloc wr (.cells #[.string zeroS] 9) p hps).trans hp
          have oX := hide (owns_keep ho ((Below.refl wr.heap.size wr).alloc (Nat.le_refl _) (.cells #[.string zeroS] 9)))
          have hnw := hide (World.news_of_block nX)
          have lX : p + 1 ≤ (wr.alloc (.cells #[.string zeroS] 9)).heap.size := by simp; omega
          obtain ⟨y0, y1⟩ := two_in pX
          have HP := hide pX
          clear ho nX pX
          go_wp2_with (at_builtin; (refine wpList_append_lies _ rfl (.tmp 21) (.tmp 23) 22 (by rfl) (p + 1) 9 i0 (.string ⟨#[]⟩) 1 16 Try.underlying22 hi hz0 hz1 hz2 rfl (by decide) (.slice ao k cap) k (List.replicate k (.string zeroS)) (by rfl) oX.out ⟨wr.heap.size, 0, none⟩ 1 1 [.string zeroS] (by rfl) rfl hnw.out (by intro u hu; rw [List.mem_singleton.1 hu]; rfl) (by decide) (by unfold maxLen; omega) (by omega) lX _ rfl ?_); intro g1 c1 w7 o7 gr7 hg7 lt7; have hp7 := (gr7.block p (by omega) (fun e => absurd (own_block_ge oX.out e.symm) (by omega))).trans HP.out; obtain ⟨t0, t1⟩ := two_in hp7; have f0 := Lib.frozen_of_heap hp7 0; have b7 := hide (bX.grown gr7 (by omega) (fun q e => Nat.le_of_succ_le (own_block_ge oX.out e))); have HP7 := hide hp7; have O7 := hide o7; clear hp7 o7)
          exact ⟨⟨k + 1, by omega, by omega, .slice (some ⟨g1, 0, none⟩) (k + 1) c1, heap_setCell_same w7 p 0 _ 25 _ HP7.out, owns_put0 (by rw [List.replicate_succ']; exact O7.out) (Nat.lt_succ_self _) 0 _, b7.out.setCell (p := ⟨p, 0, none⟩) (Nat.le_refl _) _⟩, by simp [intOf]; omega⟩
        · obtain rfl : k = c := by omega
          have hm := hb.block w.heap.size (by omega)
          have K2 := hide (hm.trans k2)
          have q6 := q5.trans (hb.mono (by omega))
          obtain ⟨ao, cap, rfl⟩ := owns_slice ho
          have O6 := hide (own_lower ho (show w.heap.size + 1 ≤ p + 1 by omega))
          clear hm ho hb hp k2 kr
          go_wp2_with (refine wpList_store_whole 25 _ _ rfl rfl w.heap.size [.slice none 0 0, .slice none 0 0] [.slice ao k cap, .slice none 0 0] 25 rfl rfl (by exact K2.out) rfl Try.size25 (by intro v hv; simp only [List.mem_cons, List.not_mem_nil, or_false] at hv; rcases hv with rfl | rfl <;> rfl) ?_; intro w9 l2 p9)
          have q2 : Below w.heap.size w w9 := by rw [p9.out]; exact below_putAll (Nat.le_refl _) _ _ _ q6
          have O9 : w9.ownsRow w.heap.size 9 1 (.slice ao k cap) k ((List.replicate k zeroS).map Value.string) := by
            rw [p9.out, List.map_replicate]; exact own_lower (owns_putAll (Nat.lt_succ_self _) _ _ _ O6.out) (Nat.le_succ _)
          obtain ⟨s0, s1⟩ := two_in l2
          refine bodyPost_ret (v := .agg #[.slice ao k cap, .slice none 0 0]) ?_ rfl ⟨_, rfl, O9, q2⟩
          simp [results, Try.results11, go_sem, s0, s1]

end Go.Proofs.Ytppgkhcmdajolaa
