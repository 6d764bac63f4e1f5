/-
  'Encode' of package row.
-/
import Derived.Test.YtkpeklealgicpacFlt
import Derived.Laws.IdiomStrings
namespace Go.Proofs.Ytkpeklealgicpac
open Go.RowKit

theorem encV_len (x : Vl) (h : chkV x.k x.n x.s = 0) : (encV x).length ≤ 22 := by
  unfold encV
  rcases chkV_zero h with ⟨q1, q2, q3⟩ | ⟨q1, q2, q3, q4⟩ | ⟨q1, q2, q3⟩ | ⟨q1, q2, q3⟩
  all_goals simp [q1, leB_length]
  omega

/-- bytes of one's own as a text -/
theorem bs_text {w : World} {B : Nat} {ao : Option Addr} {m cap : Nat} {l : List UInt8} (h : Bs w B (.slice ao m cap) l) (hl : l ≠ []) :
    (convert 33 9 (.slice ao m cap)).run Try.prog w = .ok (.string ⟨l.toArray⟩) w := by
  obtain ⟨g, cap', e, -, -⟩ := owns_some h (by intro e; exact hl (List.eq_nil_of_length_eq_zero e))
  rw [e] at h ⊢
  refine run_convert_bytes_back w 33 9 5 ⟨g, 0, none⟩ cap' l Try.underlying33 Try.underlying5 Try.underlying9 ?_
  intro j hj
  have h' : w.ownsRow B 5 1 (.slice (some ⟨g, 0, none⟩) l.length cap') l.length (l.map u8V) := h
  have := (h'.cellAt j (by rw [← h'.1, List.length_map]; exact hj)).trans (show (l.map u8V)[j]? = some (u8V l[j]) by rw [List.getElem?_map, List.getElem?_eq_getElem hj]; rfl)
  rw [Go.WideShapes.add_plain, Nat.zero_add]
  exact this

def encR (L : List Vl) : List UInt8 := if chkL L = 0 then encL L else []

theorem flat_len (L : List Vl) (h : ∀ x ∈ L, chkV x.k x.n x.s = 0) : (L.flatMap encV).length ≤ 22 * L.length := by
  induction L with
  | nil => simp
  | cons x r ih =>
    have h1 := encV_len x (h x (by simp))
    have h2 := ih fun y hy => h y (by simp [hy])
    rw [List.flatMap_cons, List.length_append, List.length_cons]; omega

set_option maxRecDepth 100000 in
set_option maxHeartbeats 1600000 in
theorem encode_no (L : List Vl) (u : Value) (w : World) (h : VsAt w u L) (E : Nat) (hE : chkL L = E) (h0 : ((E : Int) != 0) = true) :
    Calls Try.prog 5 #[u] w fun e w' => e = .returned (.tuple #[.string ⟨#[]⟩, .int .i64 (E : Nat)]) ∧ Below w.heap.size w w' := by
  have hf := fault_any' L u w h
  rw [hE] at hf
  obtain ⟨ao, cap, rfl, -, -, -⟩ := h
  clear hE
  go_enter Try.func5, Try.ntmps5
  go_wp2_with (go_at_call 12; refine hf.mono ?_; rintro e w1 ⟨rfl, b1⟩)
  go_ret2
  exact ⟨rfl, b1⟩

set_option maxRecDepth 100000 in
set_option maxHeartbeats 1600000 in
theorem encode_yes (L : List Vl) (u : Value) (w : World) (h : VsAt w u L) (hE : chkL L = 0) :
    Calls Try.prog 5 #[u] w fun e w' => e = .returned (.tuple #[.string ⟨(encL L).toArray⟩, .int .i64 0]) ∧ Below w.heap.size w w' := by
  have hf := fault_any' L u w h
  have hE' := hE
  rw [hE] at hf
  unfold chkL at hE'
  have hl5 : ¬ 5 < L.length := by intro h5; rw [if_pos h5] at hE'; cases hE'
  rw [if_neg hl5] at hE'
  have hall := (badL_zero L).1 hE'
  obtain ⟨ao, cap, rfl, h1, h2, h3⟩ := h
  obtain ⟨n, hn⟩ : ∃ n, L.length = n := ⟨_, rfl⟩
  have HEnc : Hid (encL L = leB 1 (n : Int) ++ L.flatMap encV) := by show _ = _; rw [encL, hn]; rfl
  rw [hn] at hf hl5 h1 ⊢
  clear hE hE'
  go_enter Try.func5, Try.ntmps5
  go_wp2_with (go_at_call 12; refine hf.mono ?_; rintro e w1 ⟨rfl, b1⟩)
  have z1 := b1.size
  refine (number_app w.heap.size (.slice none 0 0) [] (n : Int) 1 w1 (World.ownsRow_nil _ _ _ _) z1 (by omega) (by omega) (by decide) (by decide)).mono ?_
  rintro e w2 ⟨v2, rfl, hv2, b2, -⟩
  obtain ⟨a2, m2, c2, rfl⟩ := hv2.len
  have b2 := b1.trans b2
  clear hf b1 z1
  go_wp2_with fail
  go_loopw [5, 18] (fun v i wl => ∃ (k : Nat), k ≤ n ∧ i = .int .i64 k ∧ Bs wl w.heap.size v (leB 1 (n : Int) ++ (L.take k).flatMap encV) ∧ Below w.heap.size w wl) (fun _ i _ => n - (intOf i).toNat)
  case atStart => exact ⟨0, Nat.zero_le _, rfl, by simpa using hv2, b2⟩
  case round =>
    obtain ⟨k, hk, rfl, hbs, hnx⟩ := hrel
    clear hv2 b2
    have hsz := hnx.size
    have hlen : (leB 1 (n : Int) ++ (L.take k).flatMap encV).length ≤ 200 := by
      have := flat_len (L.take k) fun x hx => hall x (List.mem_of_mem_take hx)
      rw [List.length_append, leB_length]
      rw [List.length_take] at this
      omega
    by_cases hlt : k < n
    · obtain ⟨x, hx⟩ : ∃ x, L[k]? = some x := ⟨L[k], List.getElem?_eq_getElem (by omega)⟩
      obtain ⟨g, o, rfl, hg, hc⟩ := h3 (by intro e; rw [e] at hx; cases hx)
      obtain ⟨a0, a1, a2⟩ := hc k x hx
      have c0 := (hnx.cell (p := ⟨g, o + k * 3, none⟩) hg).trans a0
      have c1 := (hnx.cell (p := ⟨g, o + k * 3 + 1, none⟩) hg).trans a1
      have c2 := (hnx.cell (p := ⟨g, o + k * 3 + 2, none⟩) hg).trans a2
      have hlt' : (k : Int) < (n : Int) := by omega
      have ha := value_app w.heap.size _ _ x _ (hbs.alloc (.cells #[.int .i64 x.k, .int .i64 x.n, .string ⟨x.s.toArray⟩] 36)) (by simp; omega) (hall x (List.mem_of_getElem? hx)) (by omega)
      have HT : Hid ((leB 1 (n : Int) ++ (L.take k).flatMap encV) ++ encV x = leB 1 (n : Int) ++ (L.take (k + 1)).flatMap encV) := by
        show _ = _
        obtain ⟨hkl, rfl⟩ := List.getElem?_eq_some_iff.1 hx
        rw [List.take_succ_eq_append_getElem hkl, List.flatMap_append]
        simp
      have hnx2 := hnx.alloc hsz (.cells #[.int .i64 x.k, .int .i64 x.n, .string ⟨x.s.toArray⟩] 36)
      rw [vlV] at ha
      obtain ⟨a5, m5, q5, e5⟩ := hbs.len
      subst e5
      clear hc a0 a1 a2 hx hbs
      go_wp2_with fail
      refine ha.mono ?_
      rintro e w3 ⟨v3, rfl, hv3, b3, -⟩
      rw [HT.out] at hv3
      have b3 := hnx2.trans b3
      clear ha
      go_wp2
      go_roundw
      case rel => exact ⟨k + 1, by omega, by go_num, hv3, b3⟩
      case measure => simp [intOf]; omega
    · obtain rfl : k = n := by omega
      have hconv := hbs
      obtain ⟨a5, m5, q5, e5⟩ := hbs.len
      subst e5
      have ht := bs_text hconv (by simp [leB])
      have HQ : Hid (leB 1 (k : Int) ++ (L.take k).flatMap encV = encL L) := by show _ = _; rw [HEnc.out, List.take_of_length_le (by omega)]
      generalize leB 1 (k : Int) ++ (L.take k).flatMap encV = q at ht HQ
      clear h2 h3 hall hconv hbs HEnc hlen
      go_wp2
      go_ret2
      exact ⟨by rw [← HQ.out]; rfl, hnx⟩

theorem encode_any (L : List Vl) (u : Value) (w : World) (h : VsAt w u L) :
    Calls Try.prog 5 #[u] w fun e w' => e = .returned (.tuple #[.string ⟨(encR L).toArray⟩, .int .i64 (chkL L : Nat)]) ∧ Below w.heap.size w w' := by
  unfold encR
  by_cases h0 : chkL L = 0
  · rw [h0, if_pos rfl]; exact encode_yes L u w h h0
  · rw [if_neg h0]; exact encode_no L u w h _ rfl (by simpa using h0)

end Go.Proofs.Ytkpeklealgicpac
