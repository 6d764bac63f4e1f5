/-
  The law 'RowTells'.
-/
import Derived.Test.YtkpeklealgicpacDof
import Derived.Test.YtkpeklealgicpacRbk
namespace Go.Proofs.Ytkpeklealgicpac
open Go.RowKit

set_option maxRecDepth 100000 in
set_option maxHeartbeats 1600000 in
theorem tells_y (L : List Vl) (s : List UInt8) (u : Value) (w : World) (h : VsAt w u L) (hs : s.length ≤ 140737488355328) (hE : chkL L = 0) :
    Calls Try.prog 3 #[u, .string ⟨s.toArray⟩] w fun e w' => e = .returned (.bool true) ∧ Below w.heap.size w w' := by
  have hu : ∃ ao n cap, u = .slice ao n cap := by obtain ⟨ao, cap, e, -⟩ := h; exact ⟨_, _, _, e⟩
  have hen := encode_any L u w h
  have hck := fun W (hW : Below w.heap.size w W) => ckvs_any L u W (h.below hW)
  have hd := fun W => decode_any s W
  have hr := fun W => dof_any ⟨s.toArray⟩ W (by rw [size_mk]; exact hs)
  simp only [DecPost] at hd hr
  generalize decE s = D at hd hr
  generalize decR s = R at hd hr
  have heo := fun W (hW : Below w.heap.size w W) => encodeOf_any L u W (h.below hW) hE
  have e1 : encR L = encL L := by rw [encR, if_pos hE]
  rw [e1, hE] at hen
  rw [hE] at hck
  simp only [TxPost] at heo
  generalize encL L = t at hen heo
  clear e1
  clear hE h hs
  obtain ⟨ao, n, cap, rfl⟩ := hu
  go_enter Try.func3, Try.ntmps3
  go_wp2_with fail
  refine hen.mono ?_
  rintro e w1 ⟨rfl, b1⟩
  clear hen
  go_wp2_with fail
  refine (hd _).mono ?_
  rintro e w2 ⟨v2, rfl, o2, b2, n2, s2⟩
  have V2 := vs_dec o2 n2 s2
  obtain ⟨a2, c2, e2⟩ := owns_slice o2
  subst e2
  have q2 := b1.trans (b2.mono b1.size)
  clear hd b1 b2 o2
  go_wp2_with fail
  refine (hck _ q2).mono ?_
  rintro e w3 ⟨rfl, b3⟩
  have V3 := V2.below b3
  have q3 := q2.trans (b3.mono q2.size)
  clear hck V2 q2 b3
  go_wp2_with fail
  refine (heo _ q3).mono ?_
  rintro e w4 ⟨rfl, b4⟩
  have V4 := V3.below b4
  have q4 := q3.trans (b4.mono q3.size)
  clear heo V3 q3 b4
  go_wp2_with fail
  refine (hr _).mono ?_
  rintro e w5 ⟨v5, rfl, o5, b5, n5, s5⟩
  have V5 := V4.below b5
  have U5 := vs_dec o5 n5 s5
  obtain ⟨a5, c5, e5⟩ := owns_slice o5
  subst e5
  have q5 := q4.trans (b5.mono q4.size)
  clear hr V4 q4 b5 o5 n5 s5 n2 s2
  go_wp2_with fail
  refine (begun_any _).mono ?_
  rintro e w6 ⟨rfl, b6⟩
  have hsm := same_vals R _ _ _ (V5.below b6) (U5.below b6)
  have q6 := q5.trans (b6.mono q5.size)
  clear V5 U5 q5 b6
  go_wp2_with fail
  refine hsm.mono ?_
  rintro e w7 ⟨rfl, b7⟩
  go_wp2
  go_ret
  exact ⟨rfl, q6.trans (b7.mono q6.size)⟩

set_option maxRecDepth 100000 in
set_option maxHeartbeats 1600000 in
theorem tells_n (L : List Vl) (s : List UInt8) (u : Value) (w : World) (h : VsAt w u L) (hs : s.length ≤ 140737488355328) (hE : chkL L ≠ 0) :
    Calls Try.prog 3 #[u, .string ⟨s.toArray⟩] w fun e w' => e = .returned (.bool true) ∧ Below w.heap.size w w' := by
  have hu : ∃ ao n cap, u = .slice ao n cap := by obtain ⟨ao, cap, e, -⟩ := h; exact ⟨_, _, _, e⟩
  have hen := encode_any L u w h
  have hck := fun W (hW : Below w.heap.size w W) => ckvs_any L u W (h.below hW)
  have hd := fun W => decode_any s W
  have hr := fun W => dof_any ⟨s.toArray⟩ W (by rw [size_mk]; exact hs)
  simp only [DecPost] at hd hr
  generalize decE s = D at hd hr
  generalize decR s = R at hd hr
  have hE' : (((chkL L : Nat) : Int) == 0) = false := by simpa using hE
  have e1 : encR L = [] := by rw [encR, if_neg hE]
  rw [e1] at hen
  generalize chkL L = E at hen hE' hck
  clear e1
  clear hE h hs
  obtain ⟨ao, n, cap, rfl⟩ := hu
  go_enter Try.func3, Try.ntmps3
  go_wp2_with fail
  refine hen.mono ?_
  rintro e w1 ⟨rfl, b1⟩
  clear hen
  go_wp2_with fail
  refine (hd _).mono ?_
  rintro e w2 ⟨v2, rfl, o2, b2, n2, s2⟩
  have V2 := vs_dec o2 n2 s2
  obtain ⟨a2, c2, e2⟩ := owns_slice o2
  subst e2
  have q2 := b1.trans (b2.mono b1.size)
  clear hd b1 b2 o2
  go_wp2_with fail
  refine (hck _ q2).mono ?_
  rintro e w3 ⟨rfl, b3⟩
  have V3 := V2.below b3
  have q3 := q2.trans (b3.mono q2.size)
  clear hck V2 q2 b3
  go_wp2_with fail
  refine (hr _).mono ?_
  rintro e w5 ⟨v5, rfl, o5, b5, n5, s5⟩
  have V5 := V3.below b5
  have U5 := vs_dec o5 n5 s5
  obtain ⟨a5, c5, e5⟩ := owns_slice o5
  subst e5
  have q5 := q3.trans (b5.mono q3.size)
  clear hr V3 q3 b5 o5 n5 s5 n2 s2
  go_wp2_with fail
  refine (begun_any _).mono ?_
  rintro e w6 ⟨rfl, b6⟩
  have hsm := same_vals R _ _ _ (V5.below b6) (U5.below b6)
  have q6 := q5.trans (b6.mono q5.size)
  clear V5 U5 q5 b6
  go_wp2_with fail
  refine hsm.mono ?_
  rintro e w7 ⟨rfl, b7⟩
  go_wp2
  go_ret
  exact ⟨rfl, q6.trans (b7.mono q6.size)⟩

theorem tells_any (L : List Vl) (s : List UInt8) (u : Value) (w : World) (h : VsAt w u L) (hs : s.length ≤ 140737488355328) :
    Calls Try.prog 3 #[u, .string ⟨s.toArray⟩] w fun e w' => e = .returned (.bool true) ∧ Below w.heap.size w w' := by
  by_cases hE : chkL L = 0
  · exact tells_y L s u w h hs hE
  · exact tells_n L s u w h hs hE

end Go.Proofs.Ytkpeklealgicpac
