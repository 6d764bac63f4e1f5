/-
  'Check' of package delta, with its search.
-/
import Derived.Test.YtcnnjladaoaeiaaGreatDoorDlw
import Derived.Deep.QuietTactic
import Derived.BigQuiet
namespace Go.Proofs.YtcnnjladaoaeiaaGreatDoor
open Go.RowKit

/-- a delta's six cells -/
structure Dc (w : World) (g o : Nat) (d : Dl) : Prop where
  c0 : w.cell? ⟨g, o, none⟩ = some (.int .i64 d.k)
  c1 : w.cell? ⟨g, o + 1, none⟩ = some (.int .i64 d.a)
  c2 : w.cell? ⟨g, o + 2, none⟩ = some (.int .i64 d.ty)
  c3 : w.cell? ⟨g, o + 3, none⟩ = some (.int .i64 d.v.k)
  c4 : w.cell? ⟨g, o + 4, none⟩ = some (.int .i64 d.v.n)
  c5 : w.cell? ⟨g, o + 5, none⟩ = some (.string ⟨d.v.s.toArray⟩)

theorem Dc.keep {w w' : World} {g o : Nat} {d : Dl} (h : Dc w g o d) (hg : w'.heap[g]? = w.heap[g]?) : Dc w' g o d := by
  have e : ∀ j, w'.cell? ⟨g, j, none⟩ = w.cell? ⟨g, j, none⟩ := fun j => World.cell?_of_block (w := w) hg
  exact ⟨(e _).trans h.c0, (e _).trans h.c1, (e _).trans h.c2, (e _).trans h.c3, (e _).trans h.c4, (e _).trans h.c5⟩

/-- deltas in memory, one behind the other -/
def DsAt (w : World) (u : Value) (L : List Dl) : Prop :=
  ∃ ao cap, u = .slice ao L.length cap ∧ L.length ≤ cap ∧ cap ≤ 9223372036854775807 ∧ L.length * 56 ≤ 140737488355328 ∧ (∀ x ∈ L, x.v.s.length ≤ 140737488355328) ∧
    (L ≠ [] → ∃ g o, ao = some ⟨g, o, none⟩ ∧ g < w.heap.size ∧ ∀ i x, L[i]? = some x → Dc w g (o + i * 6) x)

theorem DsAt.below {w w' : World} {u : Value} {L : List Dl} (h : DsAt w u L) (hb : Below w.heap.size w w') : DsAt w' u L := by
  obtain ⟨ao, cap, h1, h2, h3, h4, h5, h6⟩ := h
  refine ⟨ao, cap, h1, h2, h3, h4, h5, fun hn => ?_⟩
  obtain ⟨g, o, e, hg, hc⟩ := h6 hn
  exact ⟨g, o, e, Nat.lt_of_lt_of_le hg hb.size, fun i x hx => (hc i x hx).keep (hb.block g hg)⟩

theorem one_put {W : World} {b : Nat} {x : Value} {t : TypeId} (h : W.heap[b]? = some (.cells #[x] t)) (x' : Value) : (W.setCell ⟨b, 0, none⟩ x').heap[b]? = some (.cells #[x'] t) :=
  heap_setCell_same _ b 0 _ t x' h

set_option maxRecDepth 100000 in
set_option maxHeartbeats 1600000 in
/-- 'isWrong', with what it holds by reference -/
theorem wrong_any (d : Dl) (wd e0 : Int) (W : World) (p q : Nat) (hp : W.heap[p]? = some (.cells #[.int .i64 wd] 3)) (hq : W.heap[q]? = some (.cells #[.int .i64 e0] 30)) (ne : p ≠ q) (h0 : 0 ≤ wd) (h5 : wd ≤ 5) (hs : d.v.s.length ≤ 140737488355328) :
    Calls Tryz.prog 119 #[dlV d, .pointer (some ⟨p, 0, none⟩), .pointer (some ⟨q, 0, none⟩)] W fun e W' => e = .returned (.bool (decide ((widB wd d).2 ≠ 0))) ∧ W'.heap[p]? = some (.cells #[.int .i64 (widB wd d).1] 3) ∧ W'.heap[q]? = some (.cells #[.int .i64 ((widB wd d).2 : Nat)] 30) ∧
      ∀ B, B ≤ p → B ≤ q → B ≤ W.heap.size → Below B W W' := by
  have hw := fun W' => wid_any wd d W' h0 h5 hs
  have lp := (Array.getElem?_eq_some_iff.1 hp).1
  have lq := (Array.getElem?_eq_some_iff.1 hq).1
  have a0 : W.cell? ⟨p, 0, none⟩ = some (.int .i64 wd) := Lib.cell_of_heap hp 0
  have b0 := (Below.refl W.heap.size W).alloc (Nat.le_refl _) (.cells #[.int .i64 d.k, .int .i64 d.a, .int .i64 d.ty, .int .i64 d.v.k, .int .i64 d.v.n, .string ⟨d.v.s.toArray⟩] 51)
  have a1 := (b0.cell (p := ⟨p, 0, none⟩) lp).trans a0
  generalize (widB wd d).1 = X at hw ⊢
  generalize (widB wd d).2 = Y at hw ⊢
  clear a0
  go_enter Tryz.func119, Tryz.ntmps119
  go_wp2_with fail
  refine (hw _).mono ?_
  rintro e w1 ⟨rfl, b1⟩
  have q1 : Below W.heap.size W w1 := b0.trans (b1.mono (by simp))
  have kp := (q1.block p lp).trans hp
  have kq := (q1.block q lq).trans hq
  have ep : w1.cell? ⟨p, 0, none⟩ = some (.int .i64 wd) := Lib.cell_of_heap kp 0
  have eq : w1.cell? ⟨q, 0, none⟩ = some (.int .i64 e0) := Lib.cell_of_heap kq 0
  have fp := Lib.frozen_of_heap kp 0
  have fq := Lib.frozen_of_heap kq 0
  have kp2 := one_put kp (.int .i64 X)
  have kq2 : (w1.setCell ⟨p, 0, none⟩ (.int .i64 X)).heap[q]? = some (.cells #[.int .i64 e0] 30) := (heap_setCell_other w1 _ q _ (by simp only; omega)).trans kq
  have fq2 := Lib.frozen_of_heap kq2 0
  have kq3 := one_put kq2 (.int .i64 (Y : Int))
  have kp3 : ((w1.setCell ⟨p, 0, none⟩ (.int .i64 X)).setCell ⟨q, 0, none⟩ (.int .i64 (Y : Int))).heap[p]? = some (.cells #[.int .i64 X] 3) := (heap_setCell_other _ _ p _ (by simp only; omega)).trans kp2
  have d0 : ((w1.setCell ⟨p, 0, none⟩ (.int .i64 X)).setCell ⟨q, 0, none⟩ (.int .i64 (Y : Int))).cell? ⟨q, 0, none⟩ = some (.int .i64 (Y : Int)) := Lib.cell_of_heap kq3 0
  have hB : ∀ B, B ≤ p → B ≤ q → B ≤ W.heap.size → Below B W ((w1.setCell ⟨p, 0, none⟩ (.int .i64 X)).setCell ⟨q, 0, none⟩ (.int .i64 (Y : Int))) := fun B h1 h2 h3 => ((q1.mono h3).setCell h1 _).setCell h2 _
  have KP := hide kp3
  have KQ := hide kq3
  have HB := hide hB
  clear hw b0 b1 a1 hp hq kp kq kp2 kq2 kq3 kp3 hB lp lq
  go_wp2
  go_ret
  refine ⟨ret_bool ?_, KP.out, KQ.out, HB.out⟩
  rw [Bool.eq_iff_iff]; simp

/-- what the search leaves -/
def DixPost (w : World) (L : List Dl) (wd : Int) (p q : Nat) (e : Ending) (W' : World) : Prop :=
  (∃ i : Int, e = .returned (.int .i64 i) ∧ (0 ≤ i ↔ (ckD wd L).2 ≠ 0)) ∧ W'.heap[p]? = some (.cells #[.int .i64 (ckD wd L).1] 3) ∧ W'.heap[q]? = some (.cells #[.int .i64 ((ckD wd L).2 : Nat)] 30) ∧ Below w.heap.size w W'

set_option maxRecDepth 100000 in
set_option maxHeartbeats 3200000 in
theorem dix_any (L : List Dl) (u : Value) (w W : World) (h : DsAt w u L) (hb : Below w.heap.size w W) (p q : Nat) (np : w.heap.size ≤ p) (nq : w.heap.size ≤ q) (ne : p ≠ q) (wd : Int) (hp : W.heap[p]? = some (.cells #[.int .i64 wd] 3)) (hq : W.heap[q]? = some (.cells #[.int .i64 0] 30)) (h0 : 0 ≤ wd) (h5 : wd ≤ 5) :
    Calls Tryz.prog 151 #[u, .func (.func 119) #[] #[.pointer (some ⟨p, 0, none⟩), .pointer (some ⟨q, 0, none⟩)]] W fun e W' => DixPost w L wd p q e W' := by
  obtain ⟨ao, cap, rfl, hcap, hcm, hl, hs, hc⟩ := h
  obtain ⟨n, hn⟩ : ∃ n, L.length = n := ⟨_, rfl⟩
  rw [hn] at hl hcap ⊢
  have HC : Hid (L ≠ [] → ∃ g o, ao = some ⟨g, o, none⟩ ∧ g < w.heap.size ∧ ∀ i x, L[i]? = some x → Dc w g (o + i * 6) x) := hc
  have HS : Hid (∀ x ∈ L, x.v.s.length ≤ 140737488355328) := hs
  have HP : Hid (W.heap[p]? = some (.cells #[.int .i64 wd] 3)) := hp
  have HQ : Hid (W.heap[q]? = some (.cells #[.int .i64 0] 30)) := hq
  clear hc hs hp hq
  go_enter Tryz.func151, Tryz.ntmps151
  go_wp2
  go_loopw [8] (fun i wl => ∃ (k : Nat) (wk : Int), k ≤ n ∧ i = .int .i64 k ∧ Hid (0 ≤ wk ∧ wk ≤ 5) ∧ Hid (wl.heap[p]? = some (.cells #[.int .i64 wk] 3)) ∧ Hid (wl.heap[q]? = some (.cells #[.int .i64 0] 30)) ∧ Below w.heap.size w wl ∧ Hid (ckD wd L = ckD wk (L.drop k))) (fun i _ => n - (intOf i).toNat)
  case atStart => exact ⟨0, wd, Nat.zero_le _, rfl, ⟨h0, h5⟩, HP, HQ, hb, rfl⟩
  case round =>
    obtain ⟨k, wk, hk, rfl, HK, KP, KQ, hnx, HD⟩ := hrel
    by_cases hlt : k < n
    · obtain ⟨x, hx⟩ : ∃ x, L[k]? = some x := ⟨L[k], List.getElem?_eq_getElem (by omega)⟩
      obtain ⟨g, o, rfl, hg, hcc⟩ := HC.out (by intro e; rw [e] at hx; cases hx)
      obtain ⟨a0, a1, a2, a3, a4, a5⟩ := (hcc k x hx).keep (hnx.block g hg)
      have hlt' : (k : Int) < (n : Int) := by omega
      have hf := wrong_any x wk 0 wr p q KP.out KQ.out ne HK.out.1 HK.out.2 (HS.out x (List.mem_of_getElem? hx))
      have HDr : Hid (L.drop k = x :: L.drop (k + 1)) := by
        obtain ⟨hi, rfl⟩ := List.getElem?_eq_some_iff.1 hx
        exact List.drop_eq_getElem_cons hi
      have hsz := hnx.size
      clear hcc hx HC HS HP HQ KP KQ
      by_cases hB : (widB wk x).2 = 0
      · have HB := hide hB
        have hdn : decide ((widB wk x).2 ≠ 0) = false := by rw [hB]; rfl
        rw [hdn, hB] at hf
        have HW := hide (widB_fit hB HK.out.1 HK.out.2)
        have HD2 : Hid (ckD wd L = ckD (widB wk x).1 (L.drop (k + 1))) := by
          rw [Hid, HD.out, HDr.out, ckD, if_pos hB]
        generalize (widB wk x).1 = wk2 at hf HW HD2
        clear hB hdn HB HD HDr HK
        go_wp2_with (go_at_call 119; refine hf.mono ?_; rintro e w2 ⟨rfl, kp2, kq2, hb2⟩; have KP2 := hide kp2; have KQ2 := hide kq2; have b2 := hnx.trans (hb2 _ np nq hsz); clear kp2 kq2 hb2)
        go_roundw
        case rel => exact ⟨k + 1, wk2, by omega, by go_num, HW, KP2, KQ2, b2, HD2⟩
        case measure => simp [intOf]; omega
      · have hdn : decide ((widB wk x).2 ≠ 0) = true := decide_eq_true hB
        rw [hdn] at hf
        have HE : Hid ((widB wk x).1 = 0) := widB_err wk x hB
        have HD2 : Hid (ckD wd L = (0, (widB wk x).2)) := by rw [Hid, HD.out, HDr.out, ckD, if_neg hB]
        rw [HE.out] at hf
        have HB := hide hB
        generalize (widB wk x).2 = F at hf HD2 HB
        clear hB hdn HD HDr HK
        go_wp2_with (go_at_call 119; refine hf.mono ?_; rintro e w2 ⟨rfl, kp2, kq2, hb2⟩; have KP2 := hide kp2; have KQ2 := hide kq2; have b2 := hnx.trans (hb2 _ np nq hsz); clear kp2 kq2 hb2)
        go_ret
        refine ⟨⟨k, rfl, ?_⟩, ?_, ?_, b2⟩
        · rw [HD2.out]; exact ⟨fun _ => HB.out, fun _ => by omega⟩
        · rw [HD2.out]; exact KP2.out
        · rw [HD2.out]; exact KQ2.out
    · have hkn : k = n := by omega
      have HD2 : Hid (ckD wd L = (wk, 0)) := by
        rw [Hid, HD.out, hkn, ← hn, List.drop_length]; rfl
      clear HC HS HP HQ HD
      go_wp2
      go_ret
      refine ⟨⟨-1, rfl, ?_⟩, ?_, ?_, hnx⟩
      · rw [HD2.out]; exact ⟨fun h => absurd h (by decide), fun h => absurd rfl h⟩
      · rw [HD2.out]; exact KP.out
      · rw [HD2.out]; exact KQ.out

end Go.Proofs.YtcnnjladaoaeiaaGreatDoor
