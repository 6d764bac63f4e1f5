/-
  'Apply' of package delta.
-/
import Derived.Test.YtcnnjladaoaeiaaGreatDoorDl3
namespace Go.Proofs.YtcnnjladaoaeiaaGreatDoor
open Go.RowKit

theorem Own.mono {w : World} {B B' : Nat} {u : Value} {L : List Vl} (h : Own w B u L) (hB : B' ≤ B) : Own w B' u L := by
  refine ⟨h.1, ?_⟩
  rcases h.2 with h' | ⟨g, cap, cur, hv, hg, r⟩
  · exact .inl h'
  · exact .inr ⟨g, cap, cur, hv, Nat.le_trans hB hg, r⟩

theorem short_of {x : Vl} (h : chkV x.k x.n x.s = 0) : x.s.length ≤ 20 := by
  rcases chk_zero h with ⟨_, _, e⟩ | ⟨_, _, e⟩ | ⟨_, _, e, _⟩ | ⟨_, _, e⟩
  · rw [e]; simp
  · rw [e]; simp
  · exact e
  · rw [e]; simp

theorem row_any (B : Nat) (u : Value) (r : List Vl) (d : Dl) (w : World) (h : Own w B u r) (hB : B ≤ w.heap.size) (hl : r.length ≤ 5) (hok : (widB (r.length : Nat) d).2 = 0) (hb : badL r = 0) (laid : Laid w) :
    Calls Tryz.prog 77 #[u, dlV d] w fun e w' => ∃ v, e = .returned v ∧ Own w' B v (rowB r d) ∧ Below B w w' := by
  obtain ⟨k, a, ty, x⟩ := d
  rcases widB_ok hok with ⟨e, _⟩ | ⟨e, a0, a1, _⟩ | ⟨e, a0, a1, t0, t1, _⟩
  · simp only at e
    subst e
    rw [rowB, if_pos rfl]
    exact row_1 B u r a ty x w h hB (by omega)
  · simp only at e a0 a1
    subst e
    rw [rowB, if_neg (show ¬ (2 : Int) = 1 by decide), if_pos rfl]
    obtain ⟨n, rfl⟩ : ∃ n : Nat, a = (n : Int) := ⟨a.toNat, by omega⟩
    exact row_2 B u r n ty x w h hB (by omega) (by omega)
  · simp only at e a0 a1 t0 t1
    subst e
    rw [rowB, if_neg (show ¬ (3 : Int) = 1 by decide), if_neg (show ¬ (3 : Int) = 2 by decide)]
    obtain ⟨n, rfl⟩ : ∃ n : Nat, a = (n : Int) := ⟨a.toNat, by omega⟩
    have hn : n < r.length := by omega
    obtain ⟨g, cap, hu, -⟩ := owns_some h (by omega)
    subst hu
    have hz : r[n]? = some r[n] := List.getElem?_eq_getElem hn
    have hc : chkV r[n].k r[n].n r[n].s = 0 := (badL_zero r).1 hb _ (List.getElem_mem _)
    have hs := short_of hc
    have e1 : castE r[n].k r[n].n r[n].s ty = 0 := by
      have : ty = 1 ∨ ty = 2 ∨ ty = 3 := by omega
      simp [castE, hc, this]
    have e2 : castR r[n].k r[n].n r[n].s ty = castV r[n].k r[n].n r[n].s ty := by rw [castR, if_pos e1]
    have eg : r.getD ((n : Int)).toNat vl0 = r[n] := by
      rw [Int.toNat_natCast, List.getD_eq_getElem?_getD, hz]; rfl
    rw [eg]
    refine row_3 B g r.length cap r rfl n ty x r[n] (castX r[n] ty) w h hB hn hz 0 (fun W hW => ?_)
    have := cast_any r[n].k r[n].n ty ⟨r[n].s.toArray⟩ W (by rw [size_mk]; omega) (laid.below hW)
    have e0 : (⟨r[n].s.toArray⟩ : ByteArray).data.toList = r[n].s := by simp
    rw [e0, e1, e2] at this
    exact this

set_option maxRecDepth 100000 in
set_option maxHeartbeats 1600000 in
theorem apply_many (ao bo : Option Addr) (n m ca cb : Nat) (w : World) (h : 5 < n) :
    Calls Tryz.prog 27 #[.slice ao n ca, .slice bo m cb] w fun e w' => e = .returned (.tuple #[.slice none 0 0, .int .i64 2]) ∧ w' = w := by
  have h' : (5 : Int) < (n : Int) := by omega
  go_enter Tryz.func27, Tryz.ntmps27
  go_wp2
  go_ret2
  exact ⟨rfl, rfl⟩

set_option maxRecDepth 100000 in
set_option maxHeartbeats 1600000 in
theorem apply_bad1 (ao bo : Option Addr) (n m ca cb : Nat) (w : World) (h : ¬ 5 < n) (X : Int) (E : Nat) (hE : ((E : Int) != 0) = true)
    (hc : Calls Tryz.prog 73 #[.int .i64 (n : Nat), .slice bo m cb] w fun e w' => e = .returned (.tuple #[.int .i64 X, .int .i64 (E : Nat)]) ∧ Below w.heap.size w w') :
    Calls Tryz.prog 27 #[.slice ao n ca, .slice bo m cb] w fun e w' => e = .returned (.tuple #[.slice none 0 0, .int .i64 (E : Nat)]) ∧ Below w.heap.size w w' := by
  have h' : ¬ (5 : Int) < (n : Int) := by omega
  go_enter Tryz.func27, Tryz.ntmps27
  go_wp2_with (go_at_call 73; refine hc.mono ?_; rintro e w1 ⟨rfl, b1⟩)
  go_ret2
  exact ⟨rfl, b1⟩

set_option maxRecDepth 100000 in
set_option maxHeartbeats 1600000 in
theorem apply_bad2 (ao bo : Option Addr) (n m ca cb : Nat) (w : World) (h : ¬ 5 < n) (X : Int) (E : Nat) (hE : ((E : Int) != 0) = true)
    (hc : Calls Tryz.prog 73 #[.int .i64 (n : Nat), .slice bo m cb] w fun e w' => e = .returned (.tuple #[.int .i64 X, .int .i64 0]) ∧ Below w.heap.size w w')
    (hf : ∀ W, Below w.heap.size w W → Calls Tryz.prog 75 #[.slice ao n ca] W fun e w' => e = .returned (.int .i64 (E : Nat)) ∧ Below W.heap.size W w') :
    Calls Tryz.prog 27 #[.slice ao n ca, .slice bo m cb] w fun e w' => e = .returned (.tuple #[.slice none 0 0, .int .i64 (E : Nat)]) ∧ Below w.heap.size w w' := by
  have h' : ¬ (5 : Int) < (n : Int) := by omega
  go_enter Tryz.func27, Tryz.ntmps27
  go_wp2_with fail
  refine hc.mono ?_
  rintro e w1 ⟨rfl, b1⟩
  go_wp2_with fail
  refine (hf _ b1).mono ?_
  rintro e w2 ⟨rfl, b2⟩
  have q2 := b1.trans (b2.mono b1.size)
  clear hc hf b1 b2
  go_wp2
  go_ret2
  exact ⟨rfl, q2⟩

/-- what a row is that some deltas were done to -/
structure Way (r : List Vl) (L : List Dl) (k : Nat) (rk : List Vl) : Prop where
  is : rk = (L.take k).foldl rowB r
  ok : (ckD (rk.length : Nat) (L.drop k)).2 = 0
  right : badL rk = 0
  few : rk.length ≤ 5

theorem Way.next {r : List Vl} {L : List Dl} {k : Nat} {rk : List Vl} (h : Way r L k rk) {d : Dl} (hd : L[k]? = some d) : (widB (rk.length : Nat) d).2 = 0 ∧ Way r L (k + 1) (rowB rk d) := by
  obtain ⟨h1, h2, h3, h4⟩ := h
  obtain ⟨hk, rfl⟩ := List.getElem?_eq_some_iff.1 hd
  rw [List.drop_eq_getElem_cons hk, ckD] at h2
  by_cases hw : (widB (rk.length : Nat) L[k]).2 = 0
  · rw [if_pos hw] at h2
    have hl := rowB_len hw
    have hf := widB_fit hw (by omega) (by omega)
    refine ⟨hw, ?_, ?_, rowB_ok hw h3, by omega⟩
    · rw [List.take_succ_eq_append_getElem hk, List.foldl_append, ← h1]; rfl
    · rw [hl]; exact h2
  · rw [if_neg hw] at h2; exact absurd h2 hw

set_option maxRecDepth 100000 in
set_option maxHeartbeats 3200000 in
theorem apply_yes (r : List Vl) (L : List Dl) (u v : Value) (w : World) (hu : VsAt w u r) (hz : ∀ ao cap, u = .slice ao 0 cap → ao = none → cap = 0) (hv : DsAt w v L) (laid : Laid w) (hr : ¬ 5 < r.length) (hE : applyE r L = 0) :
    Calls Tryz.prog 27 #[u, v] w fun e w' => ∃ x, e = .returned (.tuple #[x, .int .i64 0]) ∧ Own w' w.heap.size x (L.foldl rowB r) ∧ Below w.heap.size w w' := by
  have hc := checkD_any L v (r.length : Nat) w hv
  have hE' := hE
  unfold applyE at hE'
  rw [if_neg hr] at hE'
  have hc0 : (checkD (r.length : Nat) L).2 = 0 := by
    by_cases h : (checkD (r.length : Nat) L).2 ≠ 0
    · rw [if_pos h] at hE'; exact absurd hE' h
    · exact Classical.not_not.1 h
  rw [if_neg (by rw [hc0]; exact fun h => h rfl)] at hE'
  rw [hc0] at hc
  have hk0 : (ckD (r.length : Nat) L).2 = 0 := by
    unfold checkD at hc0
    rw [if_neg (by omega)] at hc0
    exact hc0
  have HW : Hid (Way r L 0 r) := ⟨rfl, by rw [List.drop_zero]; exact hk0, hE', by omega⟩
  have hf := fun W (hW : Below w.heap.size w W) => fitFault_any r u W (hu.below hW)
  rw [hE'] at hf
  have hcl := fun W (hW : Below w.heap.size w W) => clone_any r u W (hu.below hW) hz
  obtain ⟨ao, ca, rfl, -⟩ := hu
  obtain ⟨bo, cb, rfl, -, -, hlen, -, hcc⟩ := hv
  obtain ⟨m, hm⟩ : ∃ m, L.length = m := ⟨_, rfl⟩
  have HC : Hid (L ≠ [] → ∃ g o, bo = some ⟨g, o, none⟩ ∧ g < w.heap.size ∧ ∀ i x, L[i]? = some x → Dc w g (o + i * 6) x) := hcc
  have HL := hide laid
  generalize (checkD (r.length : Nat) L).1 = X at hc
  have h' : ¬ (5 : Int) < (r.length : Int) := by omega
  rw [hm] at hc hlen ⊢
  generalize r.length = n at hc hf hcl h' hr ⊢
  clear hE hE' hc0 hk0 hcc laid hz
  go_enter Tryz.func27, Tryz.ntmps27
  go_wp2_with fail
  refine hc.mono ?_
  rintro e w1 ⟨rfl, b1⟩
  clear hc
  go_wp2_with fail
  refine (hf _ b1).mono ?_
  rintro e w2 ⟨rfl, b2⟩
  have q2 := b1.trans (b2.mono b1.size)
  clear hf b1 b2
  go_wp2_with fail
  refine (hcl _ q2).mono ?_
  rintro e w3 ⟨x, rfl, ox, b3⟩
  have q3 := q2.trans (b3.mono q2.size)
  have O3 : Hid (Own w3 w.heap.size x r) := Own.mono ox q2.size
  clear hcl q2 b3 ox
  go_wp2_with fail
  go_loopw [0, 33] (fun v i wl => ∃ (k : Nat) (rk : List Vl), k ≤ m ∧ i = .int .i64 k ∧ Hid (Own wl w.heap.size v rk) ∧ Below w.heap.size w wl ∧ Hid (Way r L k rk)) (fun _ i _ => m - (intOf i).toNat)
  case atStart => exact ⟨0, r, Nat.zero_le _, rfl, O3, q3, HW⟩
  case round =>
    obtain ⟨k, rk, hk, rfl, OK, hnx, HK⟩ := hrel
    clear O3 q3 HW
    by_cases hlt : k < m
    · obtain ⟨d, hd⟩ : ∃ d, L[k]? = some d := ⟨L[k], List.getElem?_eq_getElem (by omega)⟩
      obtain ⟨g, o, rfl, hg, hcc⟩ := HC.out (by intro e; rw [e] at hd; cases hd)
      obtain ⟨a0, a1, a2, a3, a4, a5⟩ := (hcc k d hd).keep (hnx.block g hg)
      have hlt' : (k : Int) < (m : Int) := by omega
      obtain ⟨hw, hway⟩ := HK.out.next hd
      have HK2 := hide hway
      have hsz := hnx.size
      have b4 := hnx.alloc hsz (.cells #[.int .i64 d.k, .int .i64 d.a, .int .i64 d.ty, .int .i64 d.v.k, .int .i64 d.v.n, .string ⟨d.v.s.toArray⟩] 51)
      have hrow := row_any w.heap.size _ rk d _ (OK.out.alloc (.cells #[.int .i64 d.k, .int .i64 d.a, .int .i64 d.ty, .int .i64 d.v.k, .int .i64 d.v.n, .string ⟨d.v.s.toArray⟩] 51)) (by simp; omega) HK.out.few hw HK.out.right (HL.out.of_below b4 (Nat.le_refl _))
      obtain ⟨ra, rc, hrv⟩ := owns_slice OK.out
      subst hrv
      clear hcc hd HC hw hway HL OK HK
      go_wp2_with fail
      refine hrow.mono ?_
      rintro e w5 ⟨y, rfl, oy, b5⟩
      have OY := hide oy
      have q5 := b4.trans b5
      clear hrow oy b4 b5
      go_wp2
      go_roundw
      case rel => exact ⟨k + 1, _, by omega, by go_num, OY, q5, HK2⟩
      case measure => simp [intOf]; omega
    · obtain rfl : k = m := by omega
      have hq := OK.out
      rw [HK.out.is, List.take_of_length_le (by omega)] at hq
      have HF := hide hq
      clear hq
      obtain ⟨ra, rc, hrv⟩ := owns_slice OK.out
      subst hrv
      clear OK HK HC HL
      go_wp2
      go_ret2
      exact ⟨_, rfl, HF.out, hnx⟩

theorem apply_any (r : List Vl) (L : List Dl) (u v : Value) (w : World) (hu : VsAt w u r) (hz : ∀ ao cap, u = .slice ao 0 cap → ao = none → cap = 0) (hv : DsAt w v L) (laid : Laid w) :
    Calls Tryz.prog 27 #[u, v] w fun e w' => ∃ x, e = .returned (.tuple #[x, .int .i64 (applyE r L : Nat)]) ∧ Own w' w.heap.size x (applyL r L) ∧ Below w.heap.size w w' := by
  unfold applyL
  by_cases h5 : 5 < r.length
  · have e : applyE r L = 2 := by rw [applyE, if_pos h5]
    rw [e, if_neg (by decide)]
    obtain ⟨ao, ca, rfl, -⟩ := hu
    obtain ⟨bo, cb, rfl, -⟩ := hv
    refine (apply_many ao bo _ _ ca cb w h5).mono ?_
    rintro e w' ⟨rfl, rfl⟩
    exact ⟨_, rfl, World.ownsRow_nil _ _ _ _, Below.refl _ _⟩
  by_cases h0 : applyE r L = 0
  · rw [if_pos h0, h0]
    exact apply_yes r L u v w hu hz hv laid h5 h0
  rw [if_neg h0]
  have hc := checkD_any L v (r.length : Nat) w hv
  have hf := fun W (hW : Below w.heap.size w W) => fitFault_any r u W (hu.below hW)
  obtain ⟨ao, ca, rfl, -⟩ := hu
  obtain ⟨bo, cb, rfl, -⟩ := hv
  unfold applyE at h0 ⊢
  rw [if_neg h5] at h0 ⊢
  by_cases hq : (checkD (r.length : Nat) L).2 ≠ 0
  · rw [if_pos hq]
    refine (apply_bad1 ao bo _ _ ca cb w h5 _ _ (by simpa using hq) hc).mono ?_
    rintro e w' ⟨rfl, b⟩
    exact ⟨_, rfl, World.ownsRow_nil _ _ _ _, b⟩
  · rw [if_neg hq] at h0 ⊢
    have hq0 : (checkD (r.length : Nat) L).2 = 0 := Classical.not_not.1 hq
    rw [hq0] at hc
    refine (apply_bad2 ao bo _ _ ca cb w h5 _ _ (by simpa using h0) hc hf).mono ?_
    rintro e w' ⟨rfl, b⟩
    exact ⟨_, rfl, World.ownsRow_nil _ _ _ _, b⟩

end Go.Proofs.YtcnnjladaoaeiaaGreatDoor
