/-
  The law TokenScans: its call.
-/
import Derived.Test.YtpigdmnpnceohaaSame
namespace Go.Proofs.Ytpigdmnpnceohaa
open Go.RowKit

theorem scanGo_count (f : Nat) : ∀ (a : Nat) (l : List UInt8) (acc : List Tk), (scanGo f a l acc).1.length ≤ acc.length + f := by
  induction f with
  | zero => intro a l acc; simp [scanGo]
  | succ f ih =>
    intro a l acc
    cases l with
    | nil => simp [scanGo]
    | cons c r =>
      rw [scanGo]
      split
      · have := ih (a + 1) r acc; omega
      · split
        · have := ih (a + (tokL (c :: r)).2) ((c :: r).drop (tokL (c :: r)).2) (acc ++ [⟨((tokL (c :: r)).1 : Nat), (a : Nat), (c :: r).take (tokL (c :: r)).2⟩])
          simp only [List.length_append, List.length_cons, List.length_nil] at this; omega
        · simp

theorem scanS_count (s : List UInt8) : (scanS s).1.length ≤ 2001 := by
  unfold scanS
  split
  · simp
  · have := scanGo_count (s.length + 1) 0 s []
    unfold scanL
    simp only [List.length_nil] at this; omega

theorem sameToks_refl (b : Bool) (L : List Tk) : sameToks b L L := by
  refine ⟨rfl, ?_⟩
  intro i x y hx hy
  rw [hx] at hy
  cases hy
  exact ⟨rfl, rfl, fun _ => rfl⟩

set_option maxHeartbeats 800000 in
theorem scans_any (s : ByteArray) (w : World) (hm : s.size ≤ 9223372036854775000) : Calls Try.prog 3 #[.string s] w fun e w' => e = .returned (.bool true) ∧ Below w.heap.size w w' := by
  have h1 := fun W => scan_any s W hm
  have h2 := fun W => scanOf_any s W hm
  have hcn := scanS_count s.data.toList
  obtain ⟨L, at_, E, hr⟩ : ∃ L a E, scanS s.data.toList = (L, a, E) := ⟨_, _, _, rfl⟩
  rw [hr] at h1 h2 hcn
  clear hr
  go_enter Try.func3, Try.ntmps3
  go_wp2_with (first | (go_at_call 7; refine (h1 _).mono ?_; rintro e w1 ⟨v1, rfl, hown1, hb1⟩) | (go_at_call 8; refine (h2 _).mono ?_; rintro e w2 ⟨v2, rfl, hown2, hb2⟩) | (go_at_call 9; refine (begun_any _).mono ?_; rintro e w3 ⟨rfl, hb3⟩) | (go_at_call 10; refine (same_rows true L L v1 v2 w3 (by exact Nat.le_trans hcn (by decide)) (owns_rows hown1 (hb2.trans (hb3.mono hb2.size))) (owns_rows hown2 hb3) (sameToks_refl _ _)).mono ?_; rintro e w4 ⟨rfl, hb4⟩))
  go_ret
  exact ⟨rfl, hb1.trans ((hb2.mono hb1.size).trans ((hb3.mono (by have := hb1.size; have := hb2.size; omega)).trans (hb4.mono (by have := hb1.size; have := hb2.size; have := hb3.size; omega))))⟩

end Go.Proofs.Ytpigdmnpnceohaa
