/-
  slices.Repeat of one text.
-/
import Derived.Test.YtppgkhcmdajolaaDsg
import Derived.Laws.CopyOwn
namespace Go.Proofs.Ytppgkhcmdajolaa
open Go.RowKit

theorem Try.info_st9' : (Try.prog.info? 9).map (fun i => (i.zero, i.size, i.bytes)) = some (some (.string ⟨#[]⟩), 1, 16) := by kernel_rfl
theorem Try.size9 : (Try.prog.info? 9).map (·.size) = some 1 := by kernel_rfl

theorem mul_one (c : Nat) (hc : c ≤ 400) (w : World) : Calls Try.prog 43 #[.int .u64 1, .int .u64 c] w fun e w' => e = .returned (.tuple #[.int .u64 0, .int .u64 c]) ∧ w' = w := by
  have h := Try.bits_Mul 1 c (by decide) (by omega) w
  rw [Nat.one_mul, Nat.div_eq_of_lt (by omega), Nat.mod_eq_of_lt (by omega)] at h
  exact h

theorem take_splice {z : Value} {c k : Nat} {cu : List Value} (hl : cu.length = c) (ht : cu.take k = List.replicate k z) (m : Nat) (hkm : k + m ≤ c) :
    (splice cu k (List.replicate m z)).length = c ∧ (splice cu k (List.replicate m z)).take (k + m) = List.replicate (k + m) z := by
  refine ⟨by rw [length_splice _ _ _ (by simp; omega), hl], ?_⟩
  unfold splice
  rw [ht, ← List.append_assoc, List.replicate_append_replicate, List.take_append_of_le_length (by simp), List.take_of_length_le (by simp)]

theorem cells_of {w : World} {B g n : Nat} {e : TypeId} {xs : List Value} (h : w.ownsRow B e 1 (.slice (some ⟨g, 0, none⟩) n n) n xs) : ∃ cu : List Value, cu.length = n ∧ w.heap[g]? = some (.cells cu.toArray e (0, 0)) := by
  rcases h.2 with ⟨h1, -⟩ | ⟨g', cap, cur, hv, -, hg, -, -, hs, -⟩
  · cases h1
  · cases hv
    exact ⟨cur.toList, by simpa using hs, by simpa using hg⟩

theorem own_of_cells {w : World} {B g c : Nat} {e : TypeId} {cu : List Value} (hB : B ≤ g) (hc : c ≤ maxLen) (hl : cu.length = c) (h : w.heap[g]? = some (.cells cu.toArray e (0, 0))) {xs : List Value} (hx : cu.take c = xs) : w.ownsRow B e 1 (.slice (some ⟨g, 0, none⟩) c c) c xs := by
  refine ⟨?_, .inr ⟨g, c, cu.toArray, rfl, hB, h, Nat.le_refl _, hc, by simpa using hl, by simpa using hx⟩⟩
  rw [← hx, List.length_take, hl]; simp

theorem cell_take {w : World} {g k : Nat} {e : TypeId} {cu : List Value} {z : Value} (h : w.heap[g]? = some (.cells cu.toArray e (0, 0))) (ht : cu.take k = List.replicate k z) (m : Nat) (hm : m ≤ k) :
    ∀ j v, (List.replicate m z)[j]? = some v → w.cell? ((⟨g, 0, none⟩ : Addr).add j) = some v := by
  intro j v hv
  have hadd : (⟨g, 0, none⟩ : Addr).add j = ⟨g, j, none⟩ := by unfold Addr.add; split <;> simp_all
  have hj := (List.getElem?_eq_some_iff.1 hv).1
  rw [List.length_replicate] at hj
  rw [List.getElem?_replicate, if_pos hj] at hv
  rw [hadd, Lib.cell_of_heap h, ← hv]
  have h1 := congrArg (fun l : List Value => l[j]?) ht
  simp only [List.getElem?_take, List.getElem?_replicate] at h1
  rw [if_pos (by omega), if_pos (by omega)] at h1
  simpa using h1

theorem ones_replicate (m : Nat) (z : ByteArray) : ∀ v ∈ List.replicate m (Value.string z), v.oneCell' = true := by
  intro v hv; rw [List.eq_of_mem_replicate hv]; rfl

/-- the rows of the loop: so many are copied -/
def Rep (z : ByteArray) (c g : Nat) (B : Nat) (w0 w : World) (k : Nat) : Prop :=
  ∃ cu : List Value, cu.length = c ∧ w.heap[g]? = some (.cells cu.toArray 9 (0, 0)) ∧ cu.take k = List.replicate k (.string z) ∧ Below B w0 w

set_option maxRecDepth 100000 in
set_option maxHeartbeats 800000 in
theorem repeat_any (z : ByteArray) (g o cap c : Nat) (w : World) (hc1 : 1 ≤ c) (hc2 : c ≤ 400) (hg : g < w.heap.size) (h0 : w.cell? ⟨g, o, none⟩ = some (.string z)) :
    Calls Try.prog 27 #[.slice (some ⟨g, o, none⟩) 1 cap, .int .i64 c] w fun e w' => ∃ v, e = .returned v ∧ w'.ownsRow w.heap.size 9 1 v c ((List.replicate c z).map Value.string) ∧ Below w.heap.size w w' := by
  obtain ⟨i0, hi, hz0, hz1, hz2⟩ := info_parts Try.info_st9'
  have hm := mul_one c hc2
  have hcb : i0.bytes * c ≤ 281474976710656 := by rw [hz2]; omega
  have hcm : c ≤ maxLen := by unfold maxLen; omega
  have hlt : (c : Int) ≤ 9223372036854775807 := by omega
  have hge : ¬ (c : Int) < 0 := by omega
  have hmin : ([Value.string z] : List Value).length = Nat.min 1 c := by show 1 = Nat.min 1 c; exact (Nat.min_eq_left hc1).symm
  have HREP : Hid ((List.replicate c z).map Value.string = List.replicate c (Value.string z)) := by rw [Hid, List.map_replicate]
  go_enter Try.func27, Try.ntmps27
  go_wp2_with fail
  refine (hm _).mono ?_
  rintro e w9 ⟨rfl, rfl⟩
  go_wp2_with (first
    | (at_make; refine wpList_make_full _ rfl _ _ 22 rfl w9.heap.size 9 i0 (.string ⟨#[]⟩) 1 Try.underlying22 hi hz0 hz1 .i64 .i64 _ _ c rfl rfl rfl rfl hcb hcm (Nat.le_refl _) ?_; intro w1 o1 g1; obtain ⟨cu, hcu, hk⟩ := cells_of o1; have b1 : Below w9.heap.size w9 w1 := (Below.refl _ _).grown g1 (Nat.le_refl _) (by intro k e; cases e); have HK := hide hk; have HCU := hide hcu; have hs := (b1.cell (p := ⟨g, o, none⟩) hg).trans h0; clear hk hcu)
    | (refine wpList_copy_splice rfl (.tmp 31) (.tmp 32) 22 22 rfl 9 Try.underlying22 Try.size9 (some ⟨w9.heap.size, 0, none⟩) (some ⟨g, o, none⟩) c c 1 cap rfl rfl w9.heap.size 0 cu 9 HK.out [.string z] hmin (fun _ => ⟨rfl, _, rfl, fun j v hv => by cases j with | zero => (simp at hv; rw [← hv]; simpa [Addr.add] using hs) | succ j => simp at hv⟩) (by rw [HCU.out]; exact hc1) (by intro v hv; rw [List.mem_singleton.1 hv]; rfl) w9.heap.size w9 b1 (Nat.le_refl _) ?_; intro w2 hk2 b2))
  have HS0 := take_splice (z := Value.string z) (k := 0) HCU.out rfl 1 (by omega)
  clear hs b1 HK g1 o1 HCU hcb hz0 hz1 hz2 hi hmin
  go_loopw [8] (fun i wl => ∃ k : Nat, 1 ≤ k ∧ k ≤ c ∧ i = .int .i64 k ∧ Rep z c w9.heap.size w9.heap.size w9 wl k) (fun i _ => c - (intOf i).toNat)
  case atStart => exact ⟨1, Nat.le_refl _, hc1, rfl, _, HS0.1, hk2.out, HS0.2, b2⟩
  case round =>
    obtain ⟨k, hk1, hk, rfl, cu2, hl2, hh2, ht2, bb⟩ := hrel
    by_cases hkc : k < c
    · obtain ⟨m, hm1, hm2, hm3⟩ : ∃ m : Nat, m ≤ k ∧ k + m ≤ c ∧ (List.replicate m (Value.string z)).length = Nat.min k (c - k) := ⟨min k (c - k), Nat.min_le_left _ _, by omega, by rw [List.length_replicate]⟩
      have hmpos : 1 ≤ m := by
        rw [List.length_replicate] at hm3
        have h1 : m = min k (c - k) := hm3
        omega
      have hck : ¬ c = k := by omega
      have hkc' : (k : Int) < (c : Int) := by omega
      have HM3 := hide hm3
      have hkm : (k : Int) + (m : Int) ≤ 400 := by omega
      clear hm3
      have HH := hide hh2
      have HL := hide hl2
      have HT := hide ht2
      have hd1 : decide ((k : Int) < (c : Int)) = true := decide_eq_true hkc'
      have HD : Hid (wr.drew.heap[w9.heap.size]? = some (Obj.cells cu2.toArray 9)) := hh2
      have bd : Below w9.heap.size w9 wr.drew := below_drewN bb 1
      have hct := cell_take (w := wr.drew) hh2 ht2 m hm1
      clear hh2 hl2 ht2
      go_wp2_with fail
      go_region_law ((refine step_copy_splice (by rfl) (.tmp 41) (.tmp 44) 22 22 (by rfl) 9 Try.underlying22 Try.size9 (some ⟨w9.heap.size, k, none⟩) (some ⟨w9.heap.size, 0, none⟩) (c - k) (c - k) k c (by simp [Act.eval, Act.put]) (by simp [Act.eval, Act.put]) w9.heap.size k cu2 9 HD.out (List.replicate m (.string z)) HM3.out (fun _ => ⟨rfl, _, rfl, hct⟩) (by rw [HL.out, List.length_replicate]; exact hm2) (ones_replicate m z) w9.heap.size w9 bd (Nat.le_refl _) ?_); intro w4 hg4 hb4)
      have HS := take_splice (z := Value.string z) HL.out HT.out m hm2
      have H4 := hide hg4.out
      obtain ⟨H5, H6⟩ : Hid _ ∧ Hid _ := ⟨hide HS.1, hide HS.2⟩
      generalize splice cu2 k (List.replicate m (Value.string z)) = cu3 at *
      clear hct bd HD HT HL HH hg4 HS bb cu2 HM3
      have hwr : IntKind.i64.wrap ((k : Int) + (m : Int)) = ((k + m : Nat) : Int) := by simp [IntKind.wrap, IntKind.bits, IntKind.signed]; omega
      go_simp
      go_wp2
      go_roundw
      case rel => exact ⟨k + m, by omega, hm2, by rw [Int.natCast_add], cu3, H5.out, H4.out, H6.out, hb4⟩
      case measure => simp [intOf]; omega
    · obtain rfl : k = c := by omega
      have HO := own_of_cells (w := wr) (B := w9.heap.size) (Nat.le_refl _) hcm hl2 hh2 ht2
      rw [← HREP.out] at HO
      have HO' := hide HO
      clear HO hh2 hl2 ht2 hm h0
      go_wp2
      go_ret
      exact ⟨_, rfl, HO'.out, bb⟩

end Go.Proofs.Ytppgkhcmdajolaa
