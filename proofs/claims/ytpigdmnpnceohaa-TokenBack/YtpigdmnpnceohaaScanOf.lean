/-
  The document's 'TokenWrong' and 'ScanOf' (package overhaulref): they answer the same plain functions as the program's.
-/
import Derived.Test.YtpigdmnpnceohaaRef
namespace Go.Proofs.Ytpigdmnpnceohaa
open Go.RowKit

set_option maxHeartbeats 400000 in
theorem wrong_0 (t : ByteArray) (w : World)  :
    Calls Try.prog 18 #[.int .i64 0, .string t] w fun e w' => e = .returned (.int .i64 1) ∧ w' = w := by
  go_enter Try.func18, Try.ntmps18
  go_wp2
  go_ret
  exact ⟨rfl, rfl⟩

set_option maxHeartbeats 400000 in
theorem wrong_1_many (t : ByteArray) (w : World) (hl : 12 < t.size) :
    Calls Try.prog 18 #[.int .i64 1, .string t] w fun e w' => e = .returned (.int .i64 2) ∧ w' = w := by
  go_enter Try.func18, Try.ntmps18
  go_wp2
  go_ret
  exact ⟨rfl, rfl⟩

set_option maxHeartbeats 400000 in
theorem wrong_1_ok (t : ByteArray) (w : World) (hl : t.size ≤ 12) :
    Calls Try.prog 18 #[.int .i64 1, .string t] w fun e w' => e = .returned (.int .i64 0) ∧ w' = w := by
  go_enter Try.func18, Try.ntmps18
  go_wp2
  go_ret
  exact ⟨rfl, rfl⟩

set_option maxHeartbeats 400000 in
theorem wrong_2_many (t : ByteArray) (w : World) (hl : 9 < t.size) :
    Calls Try.prog 18 #[.int .i64 2, .string t] w fun e w' => e = .returned (.int .i64 2) ∧ w' = w := by
  go_enter Try.func18, Try.ntmps18
  go_wp2
  go_ret
  exact ⟨rfl, rfl⟩

set_option maxHeartbeats 400000 in
theorem wrong_2_one (t : ByteArray) (w : World) (hl : t.size ≤ 1) :
    Calls Try.prog 18 #[.int .i64 2, .string t] w fun e w' => e = .returned (.int .i64 0) ∧ w' = w := by
  go_enter Try.func18, Try.ntmps18
  go_wp2
  go_ret
  exact ⟨rfl, rfl⟩

set_option maxHeartbeats 400000 in
theorem wrong_2_nought (t : ByteArray) (w : World) (hl : t.size ≤ 9) (h1 : 1 < t.size) (hz : ((t[0].toNat : Int) == 48) = true) :
    Calls Try.prog 18 #[.int .i64 2, .string t] w fun e w' => e = .returned (.int .i64 1) ∧ w' = w := by
  go_enter Try.func18, Try.ntmps18
  go_wp2
  go_ret
  exact ⟨rfl, rfl⟩

set_option maxHeartbeats 400000 in
theorem wrong_2_ok (t : ByteArray) (w : World) (hl : t.size ≤ 9) (h1 : 1 < t.size) (hz : ((t[0].toNat : Int) == 48) = false) :
    Calls Try.prog 18 #[.int .i64 2, .string t] w fun e w' => e = .returned (.int .i64 0) ∧ w' = w := by
  go_enter Try.func18, Try.ntmps18
  go_wp2
  go_ret
  exact ⟨rfl, rfl⟩

set_option maxHeartbeats 400000 in
theorem wrong_3_many (t : ByteArray) (w : World) (hl : 22 < t.size) :
    Calls Try.prog 18 #[.int .i64 3, .string t] w fun e w' => e = .returned (.int .i64 2) ∧ w' = w := by
  go_enter Try.func18, Try.ntmps18
  go_wp2
  go_ret
  exact ⟨rfl, rfl⟩

set_option maxHeartbeats 400000 in
theorem wrong_3_ok (t : ByteArray) (w : World) (hl : t.size ≤ 22) :
    Calls Try.prog 18 #[.int .i64 3, .string t] w fun e w' => e = .returned (.int .i64 0) ∧ w' = w := by
  go_enter Try.func18, Try.ntmps18
  go_wp2
  go_ret
  exact ⟨rfl, rfl⟩

set_option maxHeartbeats 400000 in
theorem wrong_4 (t : ByteArray) (w : World)  :
    Calls Try.prog 18 #[.int .i64 4, .string t] w fun e w' => e = .returned (.int .i64 0) ∧ w' = w := by
  go_enter Try.func18, Try.ntmps18
  go_wp2
  go_ret
  exact ⟨rfl, rfl⟩

theorem wrong_any (k : Nat) (t : ByteArray) (w : World) (hk : k ≤ 4) :
    Calls Try.prog 18 #[.int .i64 (k : Int), .string t] w fun e w' => e = .returned (.int .i64 (wrongL k t.data.toList : Nat)) ∧ w' = w := by
  match k, hk with
  | 0, _ => exact wrong_0 t w
  | 1, _ =>
    by_cases h : 12 < t.size
    · rw [show wrongL 1 t.data.toList = 2 by simp [wrongL, h]]; exact wrong_1_many t w h
    · rw [show wrongL 1 t.data.toList = 0 by simp [wrongL]; omega]; exact wrong_1_ok t w (by omega)
  | 2, _ =>
    by_cases h : 9 < t.size
    · rw [show wrongL 2 t.data.toList = 2 by simp [wrongL, h]]; exact wrong_2_many t w h
    · by_cases h1 : 1 < t.size
      · have hh : t.data.toList.head? = some t[0] := by
          rw [List.head?_eq_getElem?, List.getElem?_eq_getElem (by simp; omega)]; rfl
        cases hz : ((t[0].toNat : Int) == 48)
        · have hz' : ¬ t[0] = 48 := by
            intro e; rw [e] at hz; revert hz; decide
          rw [show wrongL 2 t.data.toList = 0 by unfold wrongL; rw [hh]; simp [h, hz']]; exact wrong_2_ok t w (by omega) h1 hz
        · have hz' : t[0] = 48 := by
            apply UInt8.toNat_inj.1; have := eq_of_beq hz; simp; omega
          rw [show wrongL 2 t.data.toList = 1 by unfold wrongL; rw [hh]; simp [h, h1, hz']]; exact wrong_2_nought t w (by omega) h1 hz
      · rw [show wrongL 2 t.data.toList = 0 by simp [wrongL, h, h1]]; exact wrong_2_one t w (by omega)
  | 3, _ =>
    by_cases h : 22 < t.size
    · rw [show wrongL 3 t.data.toList = 2 by simp [wrongL, h]]; exact wrong_3_many t w h
    · rw [show wrongL 3 t.data.toList = 0 by simp [wrongL, h]]; exact wrong_3_ok t w (by omega)
  | 4, _ => rw [show wrongL 4 t.data.toList = 0 by simp [wrongL]]; exact wrong_4 t w

set_option maxHeartbeats 400000 in
theorem scanOf_long (s : ByteArray) (w : World) (hs : 2000 < s.size) (hm : s.size ≤ 9223372036854775000) :
    Calls Try.prog 8 #[.string s] w fun e w' => e = .returned (.tuple #[.slice none 0 0, .int .i64 0, .int .i64 2]) ∧ w' = w := by
  go_enter Try.func8, Try.ntmps8
  go_wp2
  go_ret3
  exact ⟨rfl, rfl⟩

theorem isB_cases {c : UInt8} (h : isB c = true) : ((c.toNat : Int) == 32) = true ∨ (((c.toNat : Int) == 32) = false ∧ ((c.toNat : Int) == 9) = true) ∨ (((c.toNat : Int) == 32) = false ∧ ((c.toNat : Int) == 9) = false ∧ ((c.toNat : Int) == 10) = true) := by
  unfold isB at h
  cases h1 : ((c.toNat : Int) == 32) <;> cases h2 : ((c.toNat : Int) == 9) <;> cases h3 : ((c.toNat : Int) == 10) <;> simp_all
theorem isB_not {c : UInt8} (h : isB c = false) : ((c.toNat : Int) == 32) = false ∧ ((c.toNat : Int) == 9) = false ∧ ((c.toNat : Int) == 10) = false := by
  unfold isB at h
  cases h1 : ((c.toNat : Int) == 32) <;> cases h2 : ((c.toNat : Int) == 9) <;> cases h3 : ((c.toNat : Int) == 10) <;> simp_all

set_option maxHeartbeats 1000000 in
theorem scanOf_short (s : ByteArray) (w : World) (hs : s.size ≤ 2000) :
    Calls Try.prog 8 #[.string s] w fun e w' => ∃ v, e = .returned (.tuple #[v, .int .i64 ((scanL 0 s.data.toList []).2.1 : Nat), .int .i64 ((scanL 0 s.data.toList []).2.2 : Nat)]) ∧
      w'.ownsRow w.heap.size 34 3 v (scanL 0 s.data.toList []).1.length (cellsT (scanL 0 s.data.toList []).1) ∧ Below w.heap.size w w' := by
  obtain ⟨i0, hi, hz0, hz1, hz2⟩ := info_parts Try.info34
  have hbs : decide ((2000 : Int) < (s.size : Int)) = false := by simp; omega
  go_enter Try.func8, Try.ntmps8
  go_wp2
  go_loopw [5, 6] (fun v i wr => ∃ (k : Nat) (acc : List Tk), k ≤ s.size ∧ i = .int .i64 k ∧ wr.ownsRow w.heap.size 34 3 v acc.length (cellsT acc) ∧ Below w.heap.size w wr ∧ acc.length ≤ k ∧
      Hid (scanL k (s.data.toList.drop k) acc = scanL 0 s.data.toList [])) (fun _ i _ => s.size - (intOf i).toNat)
  case atStart =>
    exact ⟨0, [], Nat.zero_le _, rfl, World.ownsRow_nil _ _ _ _, Below.refl _ _, Nat.zero_le _, rfl⟩
  case round =>
    obtain ⟨k, acc, hk, rfl, hown, hnx, hacc, HE⟩ := hrel
    by_cases hlt : k < s.size
    · have hsz := hnx.size
      cases hB : isB s[k]
      case true =>
        have h1 : scanL k (s.data.toList.drop k) acc = scanL (k + 1) (s.data.toList.drop (k + 1)) acc := by rw [drop_at s k hlt]; exact scanL_blank k _ _ acc hB
        have HG : Hid (scanL (k + 1) (s.data.toList.drop (k + 1)) acc = scanL 0 s.data.toList []) := h1.symm.trans HE.out
        clear h1 HE
        rcases isB_cases hB with h | ⟨h, h'⟩ | ⟨h, h', h''⟩
        all_goals
          clear hB
          go_wp2
          go_roundw
          case rel => exact ⟨k + 1, acc, by omega, by go_num, hown, hnx, by omega, HG⟩
          case measure => simp [intOf]; omega
      case false =>
      obtain ⟨K, N, hp⟩ : ∃ K N, tokL (s.data.toList.drop k) = (K, N) := ⟨_, _, rfl⟩
      have hk4 := (tokL_kind (s.data.toList.drop k)).1
      have hnl := tokL_le (s.data.toList.drop k)
      have ht := at_any s k wr hs hlt
      obtain ⟨g0, g1⟩ := scan_here s k acc K N hlt hp hB
      rw [HE.out] at g0 g1
      have hpos : K ≠ 0 → 1 ≤ N := by
        have := tokL_pos s[k] (s.data.toList.drop (k + 1))
        rw [← drop_at s k hlt, hp] at this; exact this
      rw [atV, hp] at ht
      rw [hp] at hk4 hnl
      obtain ⟨n1, n2, n3⟩ := isB_not hB
      simp only [List.length_drop] at hnl hk4
      have hnl' : N ≤ s.size - k := by simpa using hnl
      clear hnl hp HE hB
      obtain ⟨T, hT⟩ : ∃ T, T = s.extract k (k + N) := ⟨_, rfl⟩
      have hTs : T.size = N := by rw [hT]; simp; omega
      have hTl : T.data.toList = (s.data.toList.drop k).take N := by rw [hT, Lib.extract_data]; congr 1; omega
      rw [← hTl] at g0 g1
      have hw := fun W => wrong_any K T W hk4
      rw [hT] at hw
      obtain ⟨E, hE⟩ : ∃ E, wrongL K T.data.toList = E := ⟨_, rfl⟩
      rw [← hT, hE] at hw
      rw [hE] at g0 g1
      rw [hT] at hw
      have HT := hide hT
      have HS := hide hTs
      have HE := hide hE
      have HP := hide hpos
      clear hE hT hTl hpos hTs
      by_cases hE0 : E = 0
      · subst hE0
        have g0' := hide (g0 rfl)
        have hN1 : 1 ≤ N := HP.out (by intro e; subst e; have := HE.out; simp [wrongL] at this)
        clear g0 g1
        go_wp2_with (first | (go_at_call 17; refine ht.mono ?_; rintro e w' ⟨rfl, hw'⟩; obtain rfl := hw'.symm; clear hw') | (go_at_call 18; refine (hw _).mono ?_; rintro e w' ⟨rfl, hw'⟩; obtain rfl := hw'.symm; clear hw') | (at_builtin; refine wpList_append_own _ rfl _ _ 22 rfl w.heap.size 34 i0 (.agg #[.int .i64 0, .int .i64 0, .string ⟨#[]⟩]) 3 32 Try.underlying22 hi hz0 hz1 hz2 rfl (by decide) _ _ _ rfl (hown.alloc _) ⟨wr.heap.size, 0, none⟩ 1 1 [.int .i64 (K : Nat), .int .i64 (k : Nat), .string (s.extract k (k + N))] rfl rfl ?c1 ?c2 ?c3 ?c4 ?c5 ?_))
        case c1 =>
          intro j u hj
          match j, hj with
          | 0, hj => simp at hj; subst hj; simp [Addr.add]
          | 1, hj => simp at hj; subst hj; simp [Addr.add]
          | 2, hj => simp at hj; subst hj; simp [Addr.add]
        case c2 => intro u hu; simp at hu; rcases hu with rfl | rfl | rfl <;> rfl
        case c3 => unfold maxLen; omega
        case c4 => omega
        case c5 => simp; omega
        intro v' w3 hown' hgrow _
        have hB3 : Below w.heap.size w w3 := ((hnx.alloc hsz _).grown hgrow (by simp; omega) (fun j hj => (hown.lt j hj).1))
        have R3 : w3.ownsRow w.heap.size 34 3 v' (acc ++ [(⟨(K : Nat), (k : Nat), T.data.toList⟩ : Tk)]).length (cellsT (acc ++ [⟨(K : Nat), (k : Nat), T.data.toList⟩])) := by
          rw [cellsT_snoc, List.length_append]
          have := hown'
          rw [← HT.out] at this
          exact this
        clear hown' hgrow hown hw ht
        go_wp2
        go_roundw
        case rel => exact ⟨k + N, _, by omega, by go_num, R3, hB3, by simp; omega, hide g0'.out.symm⟩
        case measure => simp [intOf]; omega
      · have hEb : ((E : Int) != 0) = true := by simp; omega
        have HG : Hid (scanL 0 s.data.toList [] = ([], k, E)) := g1 hE0
        clear g0 g1 hE0
        go_wp2_with (first | (go_at_call 17; refine ht.mono ?_; rintro e w' ⟨rfl, hw'⟩; obtain rfl := hw'.symm; clear hw') | (go_at_call 18; refine (hw _).mono ?_; rintro e w' ⟨rfl, hw'⟩; obtain rfl := hw'.symm; clear hw'))
        go_ret3
        exact ⟨.slice none 0 0, by rw [HG.out]; rfl, by rw [HG.out]; exact World.ownsRow_nil _ _ _ _, hnx⟩
    · have hd : s.data.toList.drop k = [] := List.drop_eq_nil_of_le (by simp; omega)
      have HG : Hid (scanL 0 s.data.toList [] = (acc, 0, 0)) := by rw [← HE.out, hd]; rfl
      clear hd HE
      go_wp2
      go_ret3
      exact ⟨_, by rw [HG.out]; rfl, by rw [HG.out]; exact hown, hnx⟩

theorem scanOf_any (s : ByteArray) (w : World) (hm : s.size ≤ 9223372036854775000) :
    Calls Try.prog 8 #[.string s] w fun e w' => ∃ v, e = .returned (.tuple #[v, .int .i64 ((scanS s.data.toList).2.1 : Nat), .int .i64 ((scanS s.data.toList).2.2 : Nat)]) ∧
      w'.ownsRow w.heap.size 34 3 v (scanS s.data.toList).1.length (cellsT (scanS s.data.toList).1) ∧ Below w.heap.size w w' := by
  have hl : s.data.toList.length = s.size := by simp
  by_cases h : 2000 < s.size
  · refine (scanOf_long s w h hm).mono ?_
    rintro e w' ⟨rfl, rfl⟩
    have : scanS s.data.toList = ([], 0, 2) := by unfold scanS; rw [if_pos (by omega)]
    rw [this]
    exact ⟨_, rfl, World.ownsRow_nil _ _ _ _, Below.refl _ _⟩
  · have : scanS s.data.toList = scanL 0 s.data.toList [] := by unfold scanS; rw [if_neg (by omega)]
    rw [this]
    exact scanOf_short s w (by omega)

end Go.Proofs.Ytpigdmnpnceohaa
