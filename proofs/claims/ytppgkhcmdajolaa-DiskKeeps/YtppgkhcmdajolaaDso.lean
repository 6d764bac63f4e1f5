/-
  Disks: the law's sector of sevens.
-/
import Derived.Test.YtppgkhcmdajolaaDsn
import Derived.Laws.IdiomStrings
namespace Go.Proofs.Ytppgkhcmdajolaa
open Go.RowKit

theorem Try.info_u8 : (Try.prog.info? 5).map (fun i => (i.zero, i.size, i.bytes)) = some (some (.int .u8 0), 1, 1) := by kernel_rfl

def sevenS : ByteArray := ⟨(List.replicate 64 7).toArray⟩

theorem conv_sevens (w : World) (B : Nat) (g cap : Nat) (h : w.ownsRow B 5 1 (.slice (some ⟨g, 0, none⟩) 64 cap) 64 (List.replicate 64 (.int .u8 7))) :
    (convert 62 9 (.slice (some ⟨g, 0, none⟩) 64 cap)).run Try.prog w = .ok (.string sevenS) w := by
  have h' := run_convert_bytes_back (P := Try.prog) w 62 9 5 ⟨g, 0, none⟩ cap (List.replicate 64 7) Try.underlying62 Try.underlying5 Try.underlying9 (by
    intro j hj
    have hj' : j < 64 := by simpa using hj
    have hadd : (⟨g, 0, none⟩ : Addr).add j = ⟨g, j, none⟩ := by unfold Addr.add; split <;> simp_all
    rw [hadd, h.cellAt j (by simpa using hj'), List.getElem?_replicate, if_pos hj', List.getElem_replicate]
    rfl)
  rw [List.length_replicate] at h'
  exact h'

theorem own_block_ge {w : World} {B : Nat} {e : TypeId} {m : Nat} {v : Value} {n : Nat} {xs : List Value} (h : w.ownsRow B e m v n xs) {q : Nat} (hq : v.ownBlock = some q) : B ≤ q := by
  rcases h.2 with ⟨rfl, -⟩ | ⟨g, cap, cur, rfl, hB, -⟩
  · cases hq
  · cases hq; exact hB

/-- the rows of the loop -/
def Sev (B : Nat) (w0 w : World) (v : Value) (k : Nat) : Prop := w.ownsRow B 5 1 v k (List.replicate k (.int .u8 7)) ∧ Below B w0 w

set_option maxRecDepth 100000 in
set_option maxHeartbeats 1600000 in
theorem sector_any (w : World) : Calls Try.prog 35 #[.int .u8 7] w fun e w' => e = .returned (.string sevenS) ∧ Below w.heap.size w w' := by
  obtain ⟨i0, hi, hz0, hz1, hz2⟩ := info_parts Try.info_u8
  go_enter Try.func35, Try.ntmps35
  go_wp2_with fail
  go_loopw [3, 4] (fun v i wl => ∃ k : Nat, k ≤ 64 ∧ i = .int .i64 k ∧ Sev w.heap.size w wl v k) (fun _ i _ => 64 - (intOf i).toNat)
  case atStart => exact ⟨0, by decide, rfl, World.ownsRow_nil _ _ _ _, Below.refl _ _⟩
  case round =>
    obtain ⟨k, hk, rfl, ho, hb⟩ := hrel
    by_cases hkc : k < 64
    · obtain ⟨ao, cap, rfl⟩ := owns_slice ho
      have hkc' : (k : Int) < 64 := by omega
      have nX := heap_alloc_new wr (.cells #[.int .u8 7] 5)
      have bX : Below w.heap.size w (wr.alloc (.cells #[.int .u8 7] 5)) := hb.alloc hb.size _
      have oX := hide (owns_keep ho ((Below.refl wr.heap.size wr).alloc (Nat.le_refl _) (.cells #[.int .u8 7] 5)))
      have hnw := hide (World.news_of_block nX)
      clear ho nX
      have hbs := hb.size
      go_wp2_with (at_builtin; (refine wpList_append_lies _ rfl (.tmp 9) (.tmp 11) 62 (by rfl) w.heap.size 5 i0 (.int .u8 0) 1 1 Try.underlying62 hi hz0 hz1 hz2 rfl (by decide) (.slice ao k cap) k (List.replicate k (.int .u8 7)) (by rfl) oX.out ⟨wr.heap.size, 0, none⟩ 1 1 [.int .u8 7] (by rfl) rfl hnw.out (by intro u hu; rw [List.mem_singleton.1 hu]; rfl) (by decide) (by unfold maxLen; omega) (by omega) (by have := bX.size; omega) _ rfl ?_); intro g1 c1 w5 o5 gr5 hg5 lt5)
      have bb := hide (bX.grown gr5 bX.size (fun q e => own_block_ge oX.out e))
      go_roundw
      case rel => exact ⟨k + 1, by omega, by go_num, by rw [List.replicate_succ']; exact o5, bb.out⟩
      case measure => simp [intOf]; omega
    · obtain rfl : k = 64 := by omega
      obtain ⟨g, cap, rfl, -⟩ := owns_some ho (by decide)
      have hc := conv_sevens wr _ g cap ho
      go_wp2
      go_ret
      exact ⟨rfl, hb⟩

end Go.Proofs.Ytppgkhcmdajolaa
