/-
  The law 'RowBack'.
-/
import Derived.Test.YtkpeklealgicpacRbg
namespace Go.Proofs.Ytkpeklealgicpac
open Go.RowKit

theorem vs_dec {w : World} {B : Nat} {v : Value} {xs : List Vl} (h : w.ownsRow B 36 3 v xs.length (xs.flatMap vlC)) (hn : xs.length ≤ 255) (hs : ∀ x ∈ xs, x.s.length ≤ 255) : VsAt w v xs :=
  vs_of_own h (by omega) fun x hx => by have := hs x hx; omega

theorem str_same (s : List UInt8) : ((⟨s.toArray⟩ : ByteArray).toList == (⟨s.toArray⟩ : ByteArray).toList) = true := by simp

set_option maxRecDepth 100000 in
set_option maxHeartbeats 1600000 in
theorem back_yy (L : List Vl) (s : List UInt8) (u : Value) (w : World) (h : VsAt w u L) (hE : chkL L = 0) (hD : decE s = 0) :
    Calls Try.prog 4 #[u, .string ⟨s.toArray⟩] w fun e w' => e = .returned (.bool true) ∧ Below w.heap.size w w' := by
  have hu : ∃ ao n cap, u = .slice ao n cap := by obtain ⟨ao, cap, e, -⟩ := h; exact ⟨_, _, _, e⟩
  have hq := str_same s
  have hen := fun W (hW : Below w.heap.size w W) => encode_any L u W (h.below hW)
  have e1 : encR L = encL L := by rw [encR, if_pos hE]
  obtain ⟨d1, d2⟩ := dec_enc L hE
  have hdl := fun W => decode_any (encL L) W
  rw [e1, hE] at hen
  simp only [DecPost, d1, d2] at hdl
  have hsm := fun (W : World) (hW : Below w.heap.size w W) (v : Value) (hv : VsAt W v L) => same_vals L v u W hv (h.below hW)
  clear e1 d1 d2
  obtain ⟨k1, k2⟩ := enc_dec s hD
  have hds := fun W => decode_any s W
  simp only [DecPost, hD] at hds
  have hem := fun (W : World) (v : Value) (hv : VsAt W v (decR s)) => encode_any (decR s) v W hv
  have k3 : encR (decR s) = s := by rw [encR, if_pos k1, k2]
  rw [k3, k1] at hem
  clear k1 k2 k3
  clear hE hD
  obtain ⟨ao, n, cap, rfl⟩ := hu
  go_enter Try.func4, Try.ntmps4
  go_wp2_with fail
  refine (begun_any _).mono ?_
  rintro e w1 ⟨rfl, b1⟩
  go_wp2_with fail
  refine (hen _ b1).mono ?_
  rintro e w2 ⟨rfl, b2⟩
  have b2 := b1.trans (b2.mono b1.size)
  clear hen b1
  go_wp2_with fail
  refine (hdl _).mono ?_
  rintro e w3 ⟨v3, rfl, o3, b3, n3, s3⟩
  have b3 := b2.trans (b3.mono b2.size)
  have v3s := vs_dec o3 n3 s3
  obtain ⟨a3, c3, e3⟩ := owns_slice o3
  have hs3 := hsm _ b3 _ v3s
  subst e3
  clear hdl hsm o3 n3 s3 b2 v3s
  go_wp2_with fail
  refine hs3.mono ?_
  rintro e w4 ⟨rfl, b4⟩
  have b4 := b3.trans (b4.mono b3.size)
  clear hs3 b3
  go_wp2_with fail
  refine (hds _).mono ?_
  rintro e w5 ⟨v5, rfl, o5, b5, n5, s5⟩
  have b5 := b4.trans (b5.mono b4.size)
  clear hds b4
  have v5s := vs_dec o5 n5 s5
  have he5 := hem _ _ v5s
  obtain ⟨a5, c5, e5⟩ := owns_slice o5
  subst e5
  clear o5 n5 s5 v5s hem
  go_wp2_with fail
  refine he5.mono ?_
  rintro e w6 ⟨rfl, b6⟩
  have b6 := b5.trans (b6.mono b5.size)
  clear he5 b5
  go_wp2
  go_ret
  exact ⟨rfl, b6⟩

set_option maxRecDepth 100000 in
set_option maxHeartbeats 1600000 in
theorem back_yn (L : List Vl) (s : List UInt8) (u : Value) (w : World) (h : VsAt w u L) (hE : chkL L = 0) (hD : decE s ≠ 0) :
    Calls Try.prog 4 #[u, .string ⟨s.toArray⟩] w fun e w' => e = .returned (.bool true) ∧ Below w.heap.size w w' := by
  have hu : ∃ ao n cap, u = .slice ao n cap := by obtain ⟨ao, cap, e, -⟩ := h; exact ⟨_, _, _, e⟩
  have hq := str_same s
  have hen := fun W (hW : Below w.heap.size w W) => encode_any L u W (h.below hW)
  have e1 : encR L = encL L := by rw [encR, if_pos hE]
  obtain ⟨d1, d2⟩ := dec_enc L hE
  have hdl := fun W => decode_any (encL L) W
  rw [e1, hE] at hen
  simp only [DecPost, d1, d2] at hdl
  have hsm := fun (W : World) (hW : Below w.heap.size w W) (v : Value) (hv : VsAt W v L) => same_vals L v u W hv (h.below hW)
  clear e1 d1 d2
  have hds := fun W => decode_any s W
  have k3 := decR_none s hD
  have hD' : (((decE s : Nat) : Int) != 0) = true := by simpa using hD
  simp only [DecPost, k3] at hds
  generalize decE s = D at hds hD'
  clear k3
  clear hE hD
  obtain ⟨ao, n, cap, rfl⟩ := hu
  go_enter Try.func4, Try.ntmps4
  go_wp2_with fail
  refine (begun_any _).mono ?_
  rintro e w1 ⟨rfl, b1⟩
  go_wp2_with fail
  refine (hen _ b1).mono ?_
  rintro e w2 ⟨rfl, b2⟩
  have b2 := b1.trans (b2.mono b1.size)
  clear hen b1
  go_wp2_with fail
  refine (hdl _).mono ?_
  rintro e w3 ⟨v3, rfl, o3, b3, n3, s3⟩
  have b3 := b2.trans (b3.mono b2.size)
  have v3s := vs_dec o3 n3 s3
  obtain ⟨a3, c3, e3⟩ := owns_slice o3
  have hs3 := hsm _ b3 _ v3s
  subst e3
  clear hdl hsm o3 n3 s3 b2 v3s
  go_wp2_with fail
  refine hs3.mono ?_
  rintro e w4 ⟨rfl, b4⟩
  have b4 := b3.trans (b4.mono b3.size)
  clear hs3 b3
  go_wp2_with fail
  refine (hds _).mono ?_
  rintro e w5 ⟨v5, rfl, o5, b5, n5, s5⟩
  have b5 := b4.trans (b5.mono b4.size)
  clear hds b4
  obtain ⟨a5, c5, e5⟩ := owns_slice o5
  subst e5
  clear o5 n5 s5
  go_wp2
  go_ret
  exact ⟨rfl, b5⟩

set_option maxRecDepth 100000 in
set_option maxHeartbeats 1600000 in
theorem back_ny (L : List Vl) (s : List UInt8) (u : Value) (w : World) (h : VsAt w u L) (hE : chkL L ≠ 0) (hD : decE s = 0) :
    Calls Try.prog 4 #[u, .string ⟨s.toArray⟩] w fun e w' => e = .returned (.bool true) ∧ Below w.heap.size w w' := by
  have hu : ∃ ao n cap, u = .slice ao n cap := by obtain ⟨ao, cap, e, -⟩ := h; exact ⟨_, _, _, e⟩
  have hq := str_same s
  have hen := fun W (hW : Below w.heap.size w W) => encode_any L u W (h.below hW)
  have hE' : (((chkL L : Nat) : Int) == 0) = false := by simpa using hE
  generalize chkL L = E at hen hE'
  generalize encR L = t at hen
  obtain ⟨k1, k2⟩ := enc_dec s hD
  have hds := fun W => decode_any s W
  simp only [DecPost, hD] at hds
  have hem := fun (W : World) (v : Value) (hv : VsAt W v (decR s)) => encode_any (decR s) v W hv
  have k3 : encR (decR s) = s := by rw [encR, if_pos k1, k2]
  rw [k3, k1] at hem
  clear k1 k2 k3
  clear hE hD
  obtain ⟨ao, n, cap, rfl⟩ := hu
  go_enter Try.func4, Try.ntmps4
  go_wp2_with fail
  refine (begun_any _).mono ?_
  rintro e w1 ⟨rfl, b1⟩
  go_wp2_with fail
  refine (hen _ b1).mono ?_
  rintro e w2 ⟨rfl, b2⟩
  have b2 := b1.trans (b2.mono b1.size)
  clear hen b1
  go_wp2_with fail
  refine (hds _).mono ?_
  rintro e w5 ⟨v5, rfl, o5, b5, n5, s5⟩
  have b5 := b2.trans (b5.mono b2.size)
  clear hds b2
  have v5s := vs_dec o5 n5 s5
  have he5 := hem _ _ v5s
  obtain ⟨a5, c5, e5⟩ := owns_slice o5
  subst e5
  clear o5 n5 s5 v5s hem
  go_wp2_with fail
  refine he5.mono ?_
  rintro e w6 ⟨rfl, b6⟩
  have b6 := b5.trans (b6.mono b5.size)
  clear he5 b5
  go_wp2
  go_ret
  exact ⟨rfl, b6⟩

set_option maxRecDepth 100000 in
set_option maxHeartbeats 1600000 in
theorem back_nn (L : List Vl) (s : List UInt8) (u : Value) (w : World) (h : VsAt w u L) (hE : chkL L ≠ 0) (hD : decE s ≠ 0) :
    Calls Try.prog 4 #[u, .string ⟨s.toArray⟩] w fun e w' => e = .returned (.bool true) ∧ Below w.heap.size w w' := by
  have hu : ∃ ao n cap, u = .slice ao n cap := by obtain ⟨ao, cap, e, -⟩ := h; exact ⟨_, _, _, e⟩
  have hq := str_same s
  have hen := fun W (hW : Below w.heap.size w W) => encode_any L u W (h.below hW)
  have hE' : (((chkL L : Nat) : Int) == 0) = false := by simpa using hE
  generalize chkL L = E at hen hE'
  generalize encR L = t at hen
  have hds := fun W => decode_any s W
  have k3 := decR_none s hD
  have hD' : (((decE s : Nat) : Int) != 0) = true := by simpa using hD
  simp only [DecPost, k3] at hds
  generalize decE s = D at hds hD'
  clear k3
  clear hE hD
  obtain ⟨ao, n, cap, rfl⟩ := hu
  go_enter Try.func4, Try.ntmps4
  go_wp2_with fail
  refine (begun_any _).mono ?_
  rintro e w1 ⟨rfl, b1⟩
  go_wp2_with fail
  refine (hen _ b1).mono ?_
  rintro e w2 ⟨rfl, b2⟩
  have b2 := b1.trans (b2.mono b1.size)
  clear hen b1
  go_wp2_with fail
  refine (hds _).mono ?_
  rintro e w5 ⟨v5, rfl, o5, b5, n5, s5⟩
  have b5 := b2.trans (b5.mono b2.size)
  clear hds b2
  obtain ⟨a5, c5, e5⟩ := owns_slice o5
  subst e5
  clear o5 n5 s5
  go_wp2
  go_ret
  exact ⟨rfl, b5⟩

theorem back_any (L : List Vl) (s : List UInt8) (u : Value) (w : World) (h : VsAt w u L) :
    Calls Try.prog 4 #[u, .string ⟨s.toArray⟩] w fun e w' => e = .returned (.bool true) ∧ Below w.heap.size w w' := by
  by_cases hE : chkL L = 0 <;> by_cases hD : decE s = 0
  · exact back_yy L s u w h hE hD
  · exact back_yn L s u w h hE hD
  · exact back_ny L s u w h hE hD
  · exact back_nn L s u w h hE hD

end Go.Proofs.Ytkpeklealgicpac
