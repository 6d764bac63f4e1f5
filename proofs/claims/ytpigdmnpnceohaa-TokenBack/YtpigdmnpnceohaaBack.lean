/-
  The law TokenBack: its call.
-/
import Derived.Test.YtpigdmnpnceohaaBackP
import Derived.Deep.RegionWith
namespace Go.Proofs.Ytpigdmnpnceohaa
open Go.RowKit

theorem scan_mk (S : List UInt8) (w : World) (hS : S.length ≤ 9223372036854775000) (M : List Tk) (a E : Nat) (hr : scanS S = (M, a, E)) :
    Calls Try.prog 7 #[.string ⟨S.toArray⟩] w fun e w' => ∃ v, e = .returned (.tuple #[v, .int .i64 (a : Nat), .int .i64 (E : Nat)]) ∧ w'.ownsRow w.heap.size 34 3 v M.length (cellsT M) ∧ Below w.heap.size w w' := by
  have := scan_any ⟨S.toArray⟩ w (by rw [size_mk]; exact hS)
  rw [show (⟨S.toArray⟩ : ByteArray).data.toList = S by simp, hr] at this
  exact this

theorem scanS_short (s : List UInt8) : ∀ x ∈ (scanS s).1, x.t.length ≤ 22 := by
  unfold scanS
  split
  · intro y hy; cases hy
  · exact scanGo_len _ _ _ _ (by intro y hy; cases hy)

/-- a row that Scan has made, as Join takes it -/
theorem owns_isToks {w : World} {base : Nat} {v : Value} {L : List Tk} (h : w.ownsRow base 34 3 v L.length (cellsT L)) (hn : L.length ≤ 2001) (ht : ∀ y ∈ L, y.t.length ≤ 22) : IsToks w v L := by
  by_cases hL : L = []
  · subst hL
    obtain ⟨ao, cap, hv⟩ := owns_slice h
    exact ⟨ao, cap, hv, by simp, (by intro y hy; cases hy), fun e => absurd rfl e⟩
  · obtain ⟨g, cap, hv, _, hg⟩ := owns_some h (by simpa using hL)
    rw [hv] at h
    exact ⟨_, cap, hv, by omega, (by intro y hy; exact Nat.le_trans (ht y hy) (by decide)), fun _ => ⟨g, 0, rfl, hg, owns_tokRow h⟩⟩

theorem IsToks.rows {w : World} {v : Value} {L : List Tk} (h : IsToks w v L) : ∃ ao cap, v = .slice ao L.length cap ∧ (L ≠ [] → ∃ g o, ao = some ⟨g, o, none⟩ ∧ TokRow w g o L.length L) := by
  obtain ⟨ao, cap, hv, _, _, h3⟩ := h
  refine ⟨ao, cap, hv, fun hL => ?_⟩
  obtain ⟨g, o, ha, _, ht⟩ := h3 hL
  exact ⟨g, o, ha, ht⟩

theorem IsToks.count {w : World} {v : Value} {L : List Tk} (h : IsToks w v L) : L.length ≤ 9223372036854775000 := by
  obtain ⟨_, _, _, h1, _⟩ := h
  omega

theorem back_join (v : Value) (L : List Tk) (w : World) (h : IsToks w v L) (W : World) (hW : Below w.heap.size w W) (S : List UInt8) (E : Nat) (hr : joinS L = (S, E)) :
    Calls Try.prog 11 #[v] W fun e w' => e = .returned (.tuple #[.string ⟨S.toArray⟩, .int .i64 (E : Nat)]) ∧ Below W.heap.size W w' := by
  have := join_any v L W (h.below hW)
  rw [hr] at this
  exact this

theorem back_same (v1 v2 : Value) (L M : List Tk) (w : World) (h1 : IsToks w v1 L) (h2 : IsToks w v2 M) (hs : sameToks false L M) :
    Calls Try.prog 10 #[v1, v2, .bool false] w fun e w' => e = .returned (.bool true) ∧ Below w.heap.size w w' :=
  same_rows false L M v1 v2 w h1.count h1.rows h2.rows hs

set_option maxHeartbeats 1000000 in
theorem back_ok_err (v : Value) (L : List Tk) (s : ByteArray) (w : World) (h : IsToks w v L) (hm : s.size ≤ 9223372036854775000) (S : List UInt8) (E : Nat) (hj : joinS L = (S, E)) (hE : E = 0)
    (M : List Tk) (aM F : Nat) (hr : scanS s.data.toList = (M, aM, F)) (hF : F ≠ 0) (hMe : M = []) :
    Calls Try.prog 5 #[v, .string s] w fun e w' => e = .returned (.bool true) ∧ Below w.heap.size w w' := by
  obtain ⟨ao, cap, hv⟩ : ∃ ao cap, v = .slice ao L.length cap := by obtain ⟨ao, cap, hv, _⟩ := h; exact ⟨ao, cap, hv⟩
  subst hv
  have k1 := fun W hW => back_join _ L w h W hW S E hj
  have k2 := fun W => scan_any s W hm
  rw [hr] at k2
  have hcM := scanS_count s.data.toList
  have htM := scanS_short s.data.toList
  rw [hr] at hcM htM
  have H := hide h
  have HT := hide htM
  subst hE
  obtain ⟨hS, M1, hr1, hs1⟩ := joinS_scan L S hj
  have k3 := fun W => scan_mk S W (by omega) M1 0 0 hr1
  have hcM1 := scanS_count S
  have htM1 := scanS_short S
  rw [hr1] at hcM1 htM1
  have HT1 := hide htM1
  have HS1 := hide hs1
  clear htM1 hs1 hr1 hS
  have hFb : ((F : Int) != 0) = true := by simp; omega
  subst hMe
  simp only [List.length_nil] at k2
  clear h hj hr htM
  go_enter Try.func5, Try.ntmps5
  go_wp2_with (go_at_call 9; refine (begun_any _).mono ?_; rintro e w1 ⟨rfl, hb1⟩)
  refine (k1 _ hb1).mono ?_
  rintro e w2 ⟨rfl, hb2⟩
  go_wp2_with fail
  refine (k3 _).mono ?_
  rintro e w3 ⟨v3, rfl, ho3, hb3⟩
  have q3 : Below w.heap.size w w3 := hb1.trans ((hb2.mono hb1.size).trans (hb3.mono (by have := hb1.size; have := hb2.size; omega)))
  have i3 := owns_isToks ho3 hcM1 HT1.out
  go_wp2_with fail
  refine (back_same _ _ L M1 w3 (H.out.below q3) i3 HS1.out).mono ?_
  rintro e w4 ⟨rfl, hb4⟩
  have q4 : Below w.heap.size w w4 := q3.trans (hb4.mono q3.size)
  clear hb1 hb2 hb3 hb4 ho3 q3
  go_wp2_with fail
  refine (k2 _).mono ?_
  rintro e w5 ⟨v5, rfl, ho5, hb5⟩
  obtain ⟨a5, c5, hv5⟩ := owns_slice ho5
  subst hv5
  go_wp2
  go_ret
  exact ⟨rfl, q4.trans (hb5.mono q4.size)⟩

set_option maxHeartbeats 1000000 in
theorem back_ok_many (v : Value) (L : List Tk) (s : ByteArray) (w : World) (h : IsToks w v L) (hm : s.size ≤ 9223372036854775000) (S : List UInt8) (E : Nat) (hj : joinS L = (S, E)) (hE : E = 0)
    (M : List Tk) (aM F : Nat) (hr : scanS s.data.toList = (M, aM, F)) (hF : F = 0) (T : List UInt8) (hj2 : joinS M = (T, 2)) :
    Calls Try.prog 5 #[v, .string s] w fun e w' => e = .returned (.bool true) ∧ Below w.heap.size w w' := by
  obtain ⟨ao, cap, hv⟩ : ∃ ao cap, v = .slice ao L.length cap := by obtain ⟨ao, cap, hv, _⟩ := h; exact ⟨ao, cap, hv⟩
  subst hv
  have k1 := fun W hW => back_join _ L w h W hW S E hj
  have k2 := fun W => scan_any s W hm
  rw [hr] at k2
  have hcM := scanS_count s.data.toList
  have htM := scanS_short s.data.toList
  rw [hr] at hcM htM
  have H := hide h
  have HT := hide htM
  subst hE
  obtain ⟨hS, M1, hr1, hs1⟩ := joinS_scan L S hj
  have k3 := fun W => scan_mk S W (by omega) M1 0 0 hr1
  have hcM1 := scanS_count S
  have htM1 := scanS_short S
  rw [hr1] at hcM1 htM1
  have HT1 := hide htM1
  have HS1 := hide hs1
  clear htM1 hs1 hr1 hS
  subst hF
  have k5 := fun V W h => back_join V M W h W (Below.refl _ _) T 2 hj2
  clear hj2
  clear h hj hr htM
  go_enter Try.func5, Try.ntmps5
  go_wp2_with (go_at_call 9; refine (begun_any _).mono ?_; rintro e w1 ⟨rfl, hb1⟩)
  refine (k1 _ hb1).mono ?_
  rintro e w2 ⟨rfl, hb2⟩
  go_wp2_with fail
  refine (k3 _).mono ?_
  rintro e w3 ⟨v3, rfl, ho3, hb3⟩
  have q3 : Below w.heap.size w w3 := hb1.trans ((hb2.mono hb1.size).trans (hb3.mono (by have := hb1.size; have := hb2.size; omega)))
  have i3 := owns_isToks ho3 hcM1 HT1.out
  go_wp2_with fail
  refine (back_same _ _ L M1 w3 (H.out.below q3) i3 HS1.out).mono ?_
  rintro e w4 ⟨rfl, hb4⟩
  have q4 : Below w.heap.size w w4 := q3.trans (hb4.mono q3.size)
  clear hb1 hb2 hb3 hb4 ho3 q3
  go_wp2_with fail
  refine (k2 _).mono ?_
  rintro e w5 ⟨v5, rfl, ho5, hb5⟩
  have i5 := owns_isToks ho5 hcM HT.out
  go_wp2_with fail
  refine (k5 _ _ i5).mono ?_
  rintro e w6 ⟨rfl, hb6⟩
  go_wp2
  go_ret
  exact ⟨rfl, q4.trans ((hb5.mono q4.size).trans (hb6.mono (by have := q4.size; have := hb5.size; omega)))⟩

set_option maxHeartbeats 1000000 in
theorem back_ok_ok (v : Value) (L : List Tk) (s : ByteArray) (w : World) (h : IsToks w v L) (hm : s.size ≤ 9223372036854775000) (S : List UInt8) (E : Nat) (hj : joinS L = (S, E)) (hE : E = 0)
    (M : List Tk) (aM F : Nat) (hr : scanS s.data.toList = (M, aM, F)) (hF : F = 0) (T : List UInt8) (hj2 : joinS M = (T, 0)) :
    Calls Try.prog 5 #[v, .string s] w fun e w' => e = .returned (.bool true) ∧ Below w.heap.size w w' := by
  obtain ⟨ao, cap, hv⟩ : ∃ ao cap, v = .slice ao L.length cap := by obtain ⟨ao, cap, hv, _⟩ := h; exact ⟨ao, cap, hv⟩
  subst hv
  have k1 := fun W hW => back_join _ L w h W hW S E hj
  have k2 := fun W => scan_any s W hm
  rw [hr] at k2
  have hcM := scanS_count s.data.toList
  have htM := scanS_short s.data.toList
  rw [hr] at hcM htM
  have H := hide h
  have HT := hide htM
  subst hE
  obtain ⟨hS, M1, hr1, hs1⟩ := joinS_scan L S hj
  have k3 := fun W => scan_mk S W (by omega) M1 0 0 hr1
  have hcM1 := scanS_count S
  have htM1 := scanS_short S
  rw [hr1] at hcM1 htM1
  have HT1 := hide htM1
  have HS1 := hide hs1
  clear htM1 hs1 hr1 hS
  subst hF
  have k5 := fun V W h => back_join V M W h W (Below.refl _ _) T 0 hj2
  obtain ⟨hT, N, hr2, hs2⟩ := joinS_scan M T hj2
  have k6 := fun W => scan_mk T W (by omega) N 0 0 hr2
  have hcN := scanS_count T
  have htN := scanS_short T
  rw [hr2] at hcN htN
  have HTN := hide htN
  have HS2 := hide hs2
  clear htN hs2 hr2 hT hj2
  clear h hj hr htM
  go_enter Try.func5, Try.ntmps5
  go_wp2_with (go_at_call 9; refine (begun_any _).mono ?_; rintro e w1 ⟨rfl, hb1⟩)
  refine (k1 _ hb1).mono ?_
  rintro e w2 ⟨rfl, hb2⟩
  go_wp2_with fail
  refine (k3 _).mono ?_
  rintro e w3 ⟨v3, rfl, ho3, hb3⟩
  have q3 : Below w.heap.size w w3 := hb1.trans ((hb2.mono hb1.size).trans (hb3.mono (by have := hb1.size; have := hb2.size; omega)))
  have i3 := owns_isToks ho3 hcM1 HT1.out
  go_wp2_with fail
  refine (back_same _ _ L M1 w3 (H.out.below q3) i3 HS1.out).mono ?_
  rintro e w4 ⟨rfl, hb4⟩
  have q4 : Below w.heap.size w w4 := q3.trans (hb4.mono q3.size)
  clear hb1 hb2 hb3 hb4 ho3 q3
  go_wp2_with fail
  refine (k2 _).mono ?_
  rintro e w5 ⟨v5, rfl, ho5, hb5⟩
  have i5 := owns_isToks ho5 hcM HT.out
  go_wp2_with fail
  refine (k5 _ _ i5).mono ?_
  rintro e w6 ⟨rfl, hb6⟩
  go_wp2_with fail
  refine (k6 _).mono ?_
  rintro e w7 ⟨v7, rfl, ho7, hb7⟩
  have q57 : Below w5.heap.size w5 w7 := hb6.trans (hb7.mono hb6.size)
  have i7 := owns_isToks ho7 hcN HTN.out
  go_wp2_with fail
  refine (back_same _ _ M N w7 (i5.below q57) i7 HS2.out).mono ?_
  rintro e w8 ⟨rfl, hb8⟩
  go_wp2
  go_ret
  have q5 : Below w.heap.size w w5 := q4.trans (hb5.mono q4.size)
  have q7 : Below w.heap.size w w7 := q5.trans (q57.mono q5.size)
  exact ⟨rfl, q7.trans (hb8.mono q7.size)⟩

set_option maxHeartbeats 1000000 in
theorem back_bad_err (v : Value) (L : List Tk) (s : ByteArray) (w : World) (h : IsToks w v L) (hm : s.size ≤ 9223372036854775000) (S : List UInt8) (E : Nat) (hj : joinS L = (S, E)) (hE : E ≠ 0)
    (M : List Tk) (aM F : Nat) (hr : scanS s.data.toList = (M, aM, F)) (hF : F ≠ 0) (hMe : M = []) :
    Calls Try.prog 5 #[v, .string s] w fun e w' => e = .returned (.bool true) ∧ Below w.heap.size w w' := by
  obtain ⟨ao, cap, hv⟩ : ∃ ao cap, v = .slice ao L.length cap := by obtain ⟨ao, cap, hv, _⟩ := h; exact ⟨ao, cap, hv⟩
  subst hv
  have k1 := fun W hW => back_join _ L w h W hW S E hj
  have k2 := fun W => scan_any s W hm
  rw [hr] at k2
  have hcM := scanS_count s.data.toList
  have htM := scanS_short s.data.toList
  rw [hr] at hcM htM
  have H := hide h
  have HT := hide htM
  have hEb : ((E : Int) == 0) = false := by simp; omega
  have hFb : ((F : Int) != 0) = true := by simp; omega
  subst hMe
  simp only [List.length_nil] at k2
  clear h hj hr htM
  go_enter Try.func5, Try.ntmps5
  go_wp2_with (go_at_call 9; refine (begun_any _).mono ?_; rintro e w1 ⟨rfl, hb1⟩)
  refine (k1 _ hb1).mono ?_
  rintro e w4 ⟨rfl, hb2⟩
  have q4 : Below w.heap.size w w4 := hb1.trans (hb2.mono hb1.size)
  clear hb1 hb2
  go_wp2_with fail
  refine (k2 _).mono ?_
  rintro e w5 ⟨v5, rfl, ho5, hb5⟩
  obtain ⟨a5, c5, hv5⟩ := owns_slice ho5
  subst hv5
  go_wp2
  go_ret
  exact ⟨rfl, q4.trans (hb5.mono q4.size)⟩

set_option maxHeartbeats 1000000 in
theorem back_bad_many (v : Value) (L : List Tk) (s : ByteArray) (w : World) (h : IsToks w v L) (hm : s.size ≤ 9223372036854775000) (S : List UInt8) (E : Nat) (hj : joinS L = (S, E)) (hE : E ≠ 0)
    (M : List Tk) (aM F : Nat) (hr : scanS s.data.toList = (M, aM, F)) (hF : F = 0) (T : List UInt8) (hj2 : joinS M = (T, 2)) :
    Calls Try.prog 5 #[v, .string s] w fun e w' => e = .returned (.bool true) ∧ Below w.heap.size w w' := by
  obtain ⟨ao, cap, hv⟩ : ∃ ao cap, v = .slice ao L.length cap := by obtain ⟨ao, cap, hv, _⟩ := h; exact ⟨ao, cap, hv⟩
  subst hv
  have k1 := fun W hW => back_join _ L w h W hW S E hj
  have k2 := fun W => scan_any s W hm
  rw [hr] at k2
  have hcM := scanS_count s.data.toList
  have htM := scanS_short s.data.toList
  rw [hr] at hcM htM
  have H := hide h
  have HT := hide htM
  have hEb : ((E : Int) == 0) = false := by simp; omega
  subst hF
  have k5 := fun V W h => back_join V M W h W (Below.refl _ _) T 2 hj2
  clear hj2
  clear h hj hr htM
  go_enter Try.func5, Try.ntmps5
  go_wp2_with (go_at_call 9; refine (begun_any _).mono ?_; rintro e w1 ⟨rfl, hb1⟩)
  refine (k1 _ hb1).mono ?_
  rintro e w4 ⟨rfl, hb2⟩
  have q4 : Below w.heap.size w w4 := hb1.trans (hb2.mono hb1.size)
  clear hb1 hb2
  go_wp2_with fail
  refine (k2 _).mono ?_
  rintro e w5 ⟨v5, rfl, ho5, hb5⟩
  have i5 := owns_isToks ho5 hcM HT.out
  go_wp2_with fail
  refine (k5 _ _ i5).mono ?_
  rintro e w6 ⟨rfl, hb6⟩
  go_wp2
  go_ret
  exact ⟨rfl, q4.trans ((hb5.mono q4.size).trans (hb6.mono (by have := q4.size; have := hb5.size; omega)))⟩

set_option maxHeartbeats 1000000 in
theorem back_bad_ok (v : Value) (L : List Tk) (s : ByteArray) (w : World) (h : IsToks w v L) (hm : s.size ≤ 9223372036854775000) (S : List UInt8) (E : Nat) (hj : joinS L = (S, E)) (hE : E ≠ 0)
    (M : List Tk) (aM F : Nat) (hr : scanS s.data.toList = (M, aM, F)) (hF : F = 0) (T : List UInt8) (hj2 : joinS M = (T, 0)) :
    Calls Try.prog 5 #[v, .string s] w fun e w' => e = .returned (.bool true) ∧ Below w.heap.size w w' := by
  obtain ⟨ao, cap, hv⟩ : ∃ ao cap, v = .slice ao L.length cap := by obtain ⟨ao, cap, hv, _⟩ := h; exact ⟨ao, cap, hv⟩
  subst hv
  have k1 := fun W hW => back_join _ L w h W hW S E hj
  have k2 := fun W => scan_any s W hm
  rw [hr] at k2
  have hcM := scanS_count s.data.toList
  have htM := scanS_short s.data.toList
  rw [hr] at hcM htM
  have H := hide h
  have HT := hide htM
  have hEb : ((E : Int) == 0) = false := by simp; omega
  subst hF
  have k5 := fun V W h => back_join V M W h W (Below.refl _ _) T 0 hj2
  obtain ⟨hT, N, hr2, hs2⟩ := joinS_scan M T hj2
  have k6 := fun W => scan_mk T W (by omega) N 0 0 hr2
  have hcN := scanS_count T
  have htN := scanS_short T
  rw [hr2] at hcN htN
  have HTN := hide htN
  have HS2 := hide hs2
  clear htN hs2 hr2 hT hj2
  clear h hj hr htM
  go_enter Try.func5, Try.ntmps5
  go_wp2_with (go_at_call 9; refine (begun_any _).mono ?_; rintro e w1 ⟨rfl, hb1⟩)
  refine (k1 _ hb1).mono ?_
  rintro e w4 ⟨rfl, hb2⟩
  have q4 : Below w.heap.size w w4 := hb1.trans (hb2.mono hb1.size)
  clear hb1 hb2
  go_wp2_with fail
  refine (k2 _).mono ?_
  rintro e w5 ⟨v5, rfl, ho5, hb5⟩
  have i5 := owns_isToks ho5 hcM HT.out
  go_wp2_with fail
  refine (k5 _ _ i5).mono ?_
  rintro e w6 ⟨rfl, hb6⟩
  go_wp2_with fail
  refine (k6 _).mono ?_
  rintro e w7 ⟨v7, rfl, ho7, hb7⟩
  have q57 : Below w5.heap.size w5 w7 := hb6.trans (hb7.mono hb6.size)
  have i7 := owns_isToks ho7 hcN HTN.out
  go_wp2_with fail
  refine (back_same _ _ M N w7 (i5.below q57) i7 HS2.out).mono ?_
  rintro e w8 ⟨rfl, hb8⟩
  go_wp2
  go_ret
  have q5 : Below w.heap.size w w5 := q4.trans (hb5.mono q4.size)
  have q7 : Below w.heap.size w w7 := q5.trans (q57.mono q5.size)
  exact ⟨rfl, q7.trans (hb8.mono q7.size)⟩

theorem back_any (v : Value) (L : List Tk) (s : ByteArray) (w : World) (h : IsToks w v L) (hm : s.size ≤ 9223372036854775000) :
    Calls Try.prog 5 #[v, .string s] w fun e w' => e = .returned (.bool true) ∧ Below w.heap.size w w' := by
  obtain ⟨S, E, hj⟩ : ∃ S E, joinS L = (S, E) := ⟨_, _, rfl⟩
  obtain ⟨M, aM, F, hr⟩ : ∃ M a F, scanS s.data.toList = (M, a, F) := ⟨_, _, _, rfl⟩
  obtain ⟨T, G, hj2⟩ : ∃ T G, joinS M = (T, G) := ⟨_, _, rfl⟩
  have hG : G = 0 ∨ G = 2 := by
    have := joinS_of_scan s.data.toList
    rw [hr] at this
    simp only at this
    rw [hj2] at this
    exact this
  have hMe : F ≠ 0 → M = [] := by
    intro hF
    have := scanS_err s.data.toList (by rw [hr]; exact hF)
    rw [hr] at this; exact this
  by_cases hE : E = 0
  · by_cases hF : F = 0
    · rcases hG with rfl | rfl
      · exact back_ok_ok v L s w h hm S E hj hE M aM F hr hF T hj2
      · exact back_ok_many v L s w h hm S E hj hE M aM F hr hF T hj2
    · exact back_ok_err v L s w h hm S E hj hE M aM F hr hF (hMe hF)
  · by_cases hF : F = 0
    · rcases hG with rfl | rfl
      · exact back_bad_ok v L s w h hm S E hj hE M aM F hr hF T hj2
      · exact back_bad_many v L s w h hm S E hj hE M aM F hr hF T hj2
    · exact back_bad_err v L s w h hm S E hj hE M aM F hr hF (hMe hF)

end Go.Proofs.Ytpigdmnpnceohaa
