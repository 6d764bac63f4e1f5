/-
  'Join' of package token at every slice of tokens; the laws' own first look, 'tokenBegun': it answers true.
-/
import Derived.Test.YtpigdmnpnceohaaJoin
namespace Go.Proofs.Ytpigdmnpnceohaa
open Go.RowKit

set_option maxHeartbeats 800000 in
theorem join_none (ao : Option Addr) (cap : Nat) (w : World) :
    Calls Try.prog 11 #[.slice ao 0 cap] w fun e w' => e = .returned (.tuple #[.string ⟨#[]⟩, .int .i64 0]) ∧ Below w.heap.size w w' := by
  go_enter Try.func11, Try.ntmps11
  go_wp2
  go_loopw [9] (fun i wr => i = .int .i64 0 ∧ wr = w.alloc (.cells #[.pointer none, .slice none 0 0] 45)) (fun i _ => 0)
  case atStart => exact ⟨rfl, rfl⟩
  case round =>
    obtain ⟨rfl, rfl⟩ := hrel
    have hB := Lib.fresh_isBuilder 45 5 w
    have hlen2 := Try.Builder_Len w.heap.size w.heap.size [] _ hB
    have hst := Try.Builder_String_empty w.heap.size w.heap.size _ hB (by simp)
    go_wp2_with (first | (go_at_call 22; refine hlen2.mono ?_; rintro e w' ⟨rfl, hw'⟩; obtain rfl := hw'.symm; clear hw') | (go_at_call 23; refine hst.mono ?_; rintro e w5 ⟨rfl, hb5⟩))
    go_ret2
    exact ⟨rfl, ((Below.refl _ _).alloc (Nat.le_refl _) _).trans hb5⟩

/-- the tokens of the first look -/
def begunT : List Tk := [⟨1, 0, [97, 98]⟩, ⟨4, 3, [61]⟩, ⟨2, 5, [55]⟩, ⟨4, 6, [59]⟩, ⟨3, 8, [39, 120, 39]⟩]
theorem begun_scan : scanS [97, 98, 32, 61, 32, 55, 59, 32, 39, 120, 39] = (begunT, 0, 0) := by kernel_rfl
theorem begun_join : joinS begunT = ([97, 98, 32, 61, 32, 55, 32, 59, 32, 39, 120, 39], 0) := by kernel_rfl

theorem owns_tokRow {w : World} {base g cap : Nat} {L : List Tk} (h : w.ownsRow base 34 3 (.slice (some ⟨g, 0, none⟩) L.length cap) L.length (cellsT L)) : TokRow w g 0 L.length L := by
  refine ⟨rfl, ?_⟩
  intro i x hx
  have hi := (List.getElem?_eq_some_iff.1 hx).1
  have key : ∀ (L : List Tk) (i : Nat) (x : Tk), L[i]? = some x → ∀ j, j < 3 → (cellsT L)[i * 3 + j]? = x.cells[j]? := by
    intro L
    induction L with
    | nil => intro i x h; simp at h
    | cons y r ih =>
      intro i x h j hj
      have e : cellsT (y :: r) = y.cells ++ cellsT r := by simp [cellsT]
      rw [e]
      have hl : y.cells.length = 3 := rfl
      cases i with
      | zero =>
        simp at h; subst h
        rw [Nat.zero_mul, Nat.zero_add, List.getElem?_append_left (by omega)]
      | succ i =>
        rw [List.getElem?_append_right (by omega), hl, show (i + 1) * 3 + j - 3 = i * 3 + j by omega]
        exact ih i x (by simpa using h) j hj
  have k0 := key L i x hx 0 (by omega)
  have k1 := key L i x hx 1 (by omega)
  have k2 := key L i x hx 2 (by omega)
  rw [Nat.add_zero] at k0
  refine ⟨?_, ?_, ?_⟩
  · rw [Nat.zero_add, h.cellAt _ (by omega), k0]; rfl
  · rw [Nat.zero_add, h.cellAt _ (by omega), k1]; rfl
  · rw [Nat.zero_add, h.cellAt _ (by omega), k2]; rfl

set_option maxHeartbeats 800000 in
theorem begun_any (w : World) : Calls Try.prog 9 #[] w fun e w' => e = .returned (.bool true) ∧ Below w.heap.size w w' := by
  have hs := fun W => scan_any ⟨#[97, 98, 32, 61, 32, 55, 59, 32, 39, 120, 39]⟩ W (by decide)
  simp only [begun_scan] at hs
  have hq := eql34
  go_enter Try.func9, Try.ntmps9
  go_wp2_with (go_at_call 7; refine (hs _).mono ?_)
  rintro e w1 ⟨v, rfl, hown, hb1⟩
  obtain ⟨g, cap, hv, hg1, hg2⟩ := owns_some hown (by decide)
  rw [hv] at hown
  have hrow := owns_tokRow hown
  have hj := join_some g 0 begunT.length cap begunT w1 (by decide) (by decide) hg2 hrow (by intro x hx; exact Nat.le_trans (alone_len (K := x.k) (by revert x; decide +kernel)) (by decide))
  rw [begun_join] at hj
  have c0 := (hrow.2 1 ⟨4, 3, [61]⟩ rfl).1
  have c1 := (hrow.2 1 ⟨4, 3, [61]⟩ rfl).2.1
  have c2 := (hrow.2 1 ⟨4, 3, [61]⟩ rfl).2.2
  simp at c0 c1 c2
  rw [hv]
  clear hv hown hs hrow
  have hl5 : begunT.length = 5 := rfl
  rw [hl5] at hj ⊢
  have hst : sameTk 4 3 ⟨#[61]⟩ 4 3 ⟨#[61]⟩ = true := by decide +kernel
  clear hl5
  go_wp2_with (go_at_call 11; refine hj.mono ?_)
  rintro e w2 ⟨rfl, hb2⟩
  have d0 := (hb2.cell (p := ⟨g, 3, none⟩) hg2).trans c0
  have d1 := (hb2.cell (p := ⟨g, 4, none⟩) hg2).trans c1
  have d2 := (hb2.cell (p := ⟨g, 5, none⟩) hg2).trans c2
  clear c0 c1 c2 hj
  go_wp2
  go_ret
  exact ⟨rfl, hb1.trans (hb2.mono hb1.size)⟩

end Go.Proofs.Ytpigdmnpnceohaa
