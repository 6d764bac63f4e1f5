/-
  diskBegun: its calls.
-/
import Derived.Test.YtppgkhcmdajolaaDsq
import Derived.Test.YtppgkhcmdajolaaDsp
import Derived.Test.YtppgkhcmdajolaaDsi
import Derived.Test.YtppgkhcmdajolaaDsk
namespace Go.Proofs.Ytppgkhcmdajolaa
open Go.RowKit

def dA : Dk := ⟨[zeroS, zeroS], []⟩
def dB : Dk := ⟨[zeroS, zeroS], [⟨1, sevenS⟩]⟩
def dC : Dk := ⟨[zeroS, sevenS], []⟩

theorem c_wN : writeN dA ⟨1, sevenS⟩ = 0 := by decide +kernel
theorem c_wD : writeD dA ⟨1, sevenS⟩ = dB := by unfold writeD; rw [if_pos c_wN]; rfl
theorem c_ck : checkD dB = 0 := by decide +kernel
theorem c_fl : flushD dB = dC := by unfold flushD settleD; rw [if_pos c_ck]; rfl
theorem c_cr : crashD dB [false] = dA := by unfold crashD settleD; rw [if_pos c_ck]; rfl

theorem n2_any (w : World) : Calls Try.prog 7 #[.int .i64 2] w fun e w' => ∃ ka kc, e = .returned (.tuple #[.agg #[.slice ka 2 kc, .slice none 0 0], .int .i64 0]) ∧ DkAt w' (.slice ka 2 kc) (.slice none 0 0) dA ∧ Below w.heap.size w w' := by
  refine (new_ok 2 (by decide) (by decide) w).mono ?_
  rintro e w' ⟨v, rfl, ho, hb⟩
  obtain ⟨a, c, rfl⟩ := owns_slice ho
  exact ⟨a, c, rfl, ⟨st_of_own (L := [zeroS, zeroS]) ho (by decide), wr_nil _⟩, hb⟩

theorem wr1_any (ku wu : Value) (w : World) (h : DkAt w ku wu dA) : Calls Try.prog 8 #[.agg #[ku, wu], .int .i64 1, .string sevenS] w fun e w' => ∃ ka kc wa wc, e = .returned (.tuple #[.agg #[.slice ka 2 kc, .slice wa 1 wc], .int .i64 0]) ∧ DkOwn w' w.heap.size (.slice ka 2 kc) (.slice wa 1 wc) dB ∧ Below w.heap.size w w' := by
  refine (write_any dA ⟨1, sevenS⟩ ku wu w h).mono ?_
  rintro e w' ⟨kv, wv, rfl, ho, hb⟩
  rw [c_wD] at ho
  obtain ⟨⟨ka, kc, e1⟩, wa, wc, e2⟩ := ho.form
  obtain rfl : kv = .slice ka 2 kc := e1
  obtain rfl : wv = .slice wa 1 wc := e2
  exact ⟨ka, kc, wa, wc, by rw [c_wN]; rfl, ho, hb⟩

theorem fl_any (ku wu : Value) (w : World) (h : DkAt w ku wu dB) : Calls Try.prog 9 #[.agg #[ku, wu]] w fun e w' => ∃ g o kc wa wc, e = .returned (.tuple #[.agg #[.slice (some ⟨g, o, none⟩) 2 kc, .slice wa 0 wc], .int .i64 0]) ∧ g < w'.heap.size ∧ w'.cell? ⟨g, o + 1, none⟩ = some (.string sevenS) ∧ Below w.heap.size w w' := by
  refine (flush_any dB ku wu w h).mono ?_
  rintro e w' ⟨kv, wv, rfl, ho, hb⟩
  rw [c_fl] at ho
  obtain ⟨⟨ka, kc, e1⟩, wa, wc, e2⟩ := ho.form
  obtain rfl : kv = .slice ka 2 kc := e1
  obtain rfl : wv = .slice wa 0 wc := e2
  obtain ⟨_, _, e3, -, -, hc⟩ := (ho.at (by decide) (by decide)).1
  obtain ⟨g, o, e4, hg, hcc⟩ := hc (by intro e; cases e)
  cases e3
  subst e4
  exact ⟨g, o, kc, wa, wc, by rw [c_ck]; rfl, hg, hcc 1 sevenS rfl, hb⟩

theorem cr_any (ku wu : Value) (ba : Option Addr) (bc : Nat) (w : World) (h : DkAt w ku wu dB) (hk : BoAt w (.slice ba 1 bc) [false]) : Calls Try.prog 10 #[.agg #[ku, wu], .slice ba 1 bc] w fun e w' => ∃ ka kc wa wc, e = .returned (.tuple #[.agg #[.slice ka 2 kc, .slice wa 0 wc], .int .i64 0]) ∧ DkAt w' (.slice ka 2 kc) (.slice wa 0 wc) dA ∧ Below w.heap.size w w' := by
  refine (crash_any dB [false] ba 1 bc ku wu w h hk).mono ?_
  rintro e w' ⟨kv, wv, rfl, ho, hb⟩
  rw [c_cr] at ho
  obtain ⟨⟨ka, kc, e1⟩, wa, wc, e2⟩ := ho.form
  obtain rfl : kv = .slice ka 2 kc := e1
  obtain rfl : wv = .slice wa 0 wc := e2
  exact ⟨ka, kc, wa, wc, by rw [c_ck]; rfl, ho.at (by decide) (by decide), hb⟩

theorem ck_any (ku wu : Value) (w : World) (h : DkAt w ku wu dB) : Calls Try.prog 16 #[.agg #[ku, wu]] w fun e w' => e = .returned (.int .i64 0) ∧ Below w.heap.size w w' := by
  have := check_any dB ku wu w h.1 h.2
  rw [c_ck] at this
  exact this

theorem sd_any (d : Dk) (ku wu kv wv : Value) (w : World) (h1 : DkAt w ku wu d) (h2 : DkAt w kv wv d) : Calls Try.prog 18 #[.agg #[ku, wu], .agg #[kv, wv]] w fun e w' => e = .returned (.bool true) ∧ Below w.heap.size w w' := by
  refine (sameDisk_any d d ku wu kv wv w h1 h2).mono ?_
  rintro e w' ⟨b, rfl, hb, h⟩
  exact ⟨by rw [hb.2 rfl], h⟩

theorem bo_one {w : World} {g : Nat} (hg : w.heap[g]? = some (.cells #[.bool false] 4)) : BoAt w (.slice (some ⟨g, 0, none⟩) 1 1) [false] := by
  refine ⟨_, 1, rfl, by decide, fun _ => ⟨g, 0, rfl, (Array.getElem?_eq_some_iff.1 hg).1, fun i x hx => ?_⟩⟩
  cases i with
  | zero => simp at hx; subst hx; exact (Lib.cell_of_heap hg _).trans rfl
  | succ i => simp at hx

/-- two cells into a block -/
theorem two_set {w : World} {b : Nat} {a0 a1 : Value} {t : TypeId} (h : w.heap[b]? = some (.cells #[a0, a1] t)) (x y : Value) : ((w.setCell ⟨b, 0, none⟩ x).setCell ⟨b, 1, none⟩ y).heap[b]? = some (.cells #[x, y] t) :=
  heap_setCell_same _ b 1 _ t y (heap_setCell_same w b 0 _ t x h)
theorem DkOwn.two_set {w : World} {B : Nat} {ku wu : Value} {d : Dk} (h : DkOwn w B ku wu d) {g : Nat} (hg : g < B) (x y : Value) : DkOwn ((w.setCell ⟨g, 0, none⟩ x).setCell ⟨g, 1, none⟩ y) B ku wu d :=
  ⟨owns_put0 (owns_put0 h.1 hg 0 x) hg 1 y, owns_put0 (owns_put0 h.2 hg 0 x) hg 1 y⟩
theorem two_of {w : World} {b : Nat} {a0 a1 : Value} {t : TypeId} (h : w.heap[b]? = some (.cells #[a0, a1] t)) : (w.cell? ⟨b, 0, none⟩ = some a0 ∧ w.cell? ⟨b, 1, none⟩ = some a1) ∧ (w.frozen? ⟨b, 0, none⟩ = false ∧ w.frozen? ⟨b, 1, none⟩ = false) := ⟨two_in h, Lib.frozen_of_heap h 0, Lib.frozen_of_heap h 1⟩

end Go.Proofs.Ytppgkhcmdajolaa
