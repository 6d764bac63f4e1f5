/-
  The law RestRows, of a row, deltas and a text in memory.
-/
import Derived.Test.YtcnnjladaoaeiaaGreatDoorCastV
import Derived.Test.YtcnnjladaoaeiaaGreatDoorDlp
import Derived.Test.YtcnnjladaoaeiaaGreatDoorSmo
import Derived.Test.YtcnnjladaoaeiaaGreatDoorSxa
import Derived.Deep.AppendLies
import Derived.Laws.AppendOwnNone
import Derived.Deep.RegionLaw
import Derived.Test.YtcnnjladaoaeiaaGreatDoorRfa
import Derived.Test.YtcnnjladaoaeiaaGreatDoorDbg
import Derived.Lib.QuoteBits
import Derived.Lib.ConvBytes
import Derived.Laws.IdiomStrings
import Derived.Deep.RegionHeld3
namespace Go.Proofs.YtcnnjladaoaeiaaGreatDoor

section
open Go.RowKit

/-- CastOf of a right value, to a kind of columns -/
theorem cov_any (K N tt : Int) (s : ByteArray) (w : World) (hs : s.size ≤ 140737488355328) (h : chkV K N s.data.toList = 0) (ht : tt = 1 ∨ tt = 2 ∨ tt = 3) :
    Calls Tryz.prog 71 #[.agg #[.int .i64 K, .int .i64 N, .string s], .int .i64 tt] w fun e w' => e = .returned (tvl (castV K N s.data.toList tt)) ∧ Below w.heap.size w w' := by
  have nil : ∀ s : ByteArray, s.data.toList = [] → s = ⟨#[]⟩ := by
    rintro ⟨⟨l⟩⟩ e
    obtain rfl : l = [] := e
    rfl
  rcases chk_zero h with ⟨rfl, rfl, hS⟩ | ⟨rfl, ⟨h1, h2⟩, hS⟩ | ⟨rfl, rfl, -⟩ | ⟨rfl, h1, hS⟩
  · obtain rfl := nil s hS
    rcases ht with rfl | rfl | rfl <;> exact co_0 0 _ _ w
  · obtain rfl := nil s hS
    rcases ht with rfl | rfl | rfl
    · exact co_same 1 N _ (by decide) w
    · exact co_12 N _ _ w fun W => digits_any N W (by omega) (by omega)
    · exact co_13 N _ _ w fun W => truth_any (N != 0) W
  · have ht' : (s.toList == [116, 114, 117, 101]) = decide (s.data.toList = tru) := by rw [Lib.toList_data, Bool.eq_iff_iff, beq_iff_eq, decide_eq_true_iff]; rfl
    have hf' : (s.toList == [102, 97, 108, 115, 101]) = decide (s.data.toList = fal) := by rw [Lib.toList_data, Bool.eq_iff_iff, beq_iff_eq, decide_eq_true_iff]; rfl
    rcases ht with rfl | rfl | rfl
    · have hi : ∀ W : World, Calls Tryz.prog 115 #[.string s] W fun e w' => e = .returned (.tuple #[.int .i64 ((intV s.data.toList).getD 0), .bool (intV s.data.toList).isSome]) ∧ Below W.heap.size W w' := fun W =>
        (riv_any s W hs).mono fun e W' ⟨a, b⟩ => ⟨a, by rw [b]; exact Below.refl _ _⟩
      cases hv : intV s.data.toList with
      | some n =>
        rw [hv] at hi
        rw [show castV 2 0 s.data.toList 1 = (1, n, []) by simp [castV, hv]]
        exact co_21y 0 n s w hi
      | none =>
        rw [hv] at hi
        rw [show castV 2 0 s.data.toList 1 = (0, 0, []) by simp [castV, hv]]
        exact co_21n 0 s w hi
    · exact co_same 2 0 s (by decide) w
    · by_cases t : s.data.toList = tru
      · rw [show castV 2 0 s.data.toList 3 = (3, 1, []) by simp [castV, t]]
        exact co_23t 0 1 s (by rw [ht']; simp [t]) w fun W => truth_any true W
      · by_cases f : s.data.toList = fal
        · rw [show castV 2 0 s.data.toList 3 = (3, 0, []) by simp only [castV, f]; simp [tru, fal]]
          exact co_23f 0 0 s (by rw [ht']; simp [t]) (by rw [hf']; simp [f]) w fun W => truth_any false W
        · rw [show castV 2 0 s.data.toList 3 = (0, 0, []) by simp [castV, t, f]]
          exact co_23o 0 s (by rw [ht']; simp [t]) (by rw [hf']; simp [f]) w
  · obtain rfl := nil s hS
    rcases ht with rfl | rfl | rfl
    · exact co_31 N _ w
    · exact co_32 N _ _ w fun W => text_3 N _ W
    · have e : castV 3 N [] 3 = (3, N, []) := by rcases h1 with rfl | rfl <;> decide
      show Calls Tryz.prog 71 #[.agg #[.int .i64 3, .int .i64 N, .string ⟨#[]⟩], .int .i64 3] w fun e w' => e = .returned (tvl (castV 3 N [] 3)) ∧ Below w.heap.size w w'
      rw [e]
      exact co_same 3 N _ (by decide) w
end

section
open Go.RowKit

theorem applied_ok {r : List Vl} {L : List Dl} (h : applyE r L = 0) : (applyL r L).length ≤ 5 ∧ badL (applyL r L) = 0 := by
  obtain ⟨h1, h2, h3, h4⟩ := apply_parts r L L.length h
  rw [List.take_length, List.drop_length] at h2
  unfold applyE at h2
  by_cases h5 : 5 < (applyL r L).length
  · rw [if_pos h5] at h2; cases h2
  rw [if_neg h5] at h2
  refine ⟨by omega, ?_⟩
  by_cases hq : (checkD ((applyL r L).length : Nat) []).2 ≠ 0
  · rw [if_pos hq] at h2; exact absurd h2 hq
  · rw [if_neg hq] at h2; exact h2

theorem Own.vs {w : World} {B : Nat} {x : Value} {r : List Vl} {L : List Dl} (h : Own w B x (applyL r L)) (hE : applyE r L = 0) : VsAt w x (applyL r L) := by
  obtain ⟨h5, hb⟩ := applied_ok hE
  exact vs_of_own h (by omega) fun y hy => by have := short_of ((badL_zero _).1 hb y hy); omega
end

section
open Go.RowKit

/-- what comes of a row's first values -/
def gP (d : Dl) (z : Vl) (l : List Vl) : List Vl := if d.k = 2 then l.eraseIdx d.a.toNat else if d.k = 3 then l.set d.a.toNat z else l

theorem gP_nil (d : Dl) (z : Vl) : gP d z [] = [] := by
  unfold gP; split
  · simp
  · split <;> simp

theorem gP_else (d : Dl) (z : Vl) (l : List Vl) (j : Nat) (x : Vl) (hx : l[j]? = some x) (h : (d.k = 2 ∨ d.k = 3) → j ≠ d.a.toNat) : gP d z (l.take (j + 1)) = gP d z (l.take j) ++ [x] := by
  obtain ⟨hj, rfl⟩ := List.getElem?_eq_some_iff.1 hx
  have hl : (l.take j).length = j := by rw [List.length_take]; omega
  rw [List.take_succ_eq_append_getElem hj]
  unfold gP
  by_cases h2 : d.k = 2
  · rw [if_pos h2, if_pos h2]
    have hne := h (.inl h2)
    rcases Nat.lt_or_ge d.a.toNat j with hlt | hge
    · rw [List.eraseIdx_append_of_lt_length (by omega)]
    · rw [List.eraseIdx_of_length_le (by rw [List.length_append, hl]; simp; omega), List.eraseIdx_of_length_le (by omega)]
  rw [if_neg h2, if_neg h2]
  by_cases h3 : d.k = 3
  · rw [if_pos h3, if_pos h3]
    have hne := h (.inr h3)
    rcases Nat.lt_or_ge d.a.toNat j with hlt | hge
    · rw [List.set_append_left _ _ (by omega)]
    · rw [List.set_eq_of_length_le (by rw [List.length_append, hl]; simp; omega), List.set_eq_of_length_le (by omega)]
  rw [if_neg h3, if_neg h3]

theorem gP_skip (d : Dl) (z : Vl) (l : List Vl) (j : Nat) (hk : d.k = 2) (hj : j < l.length) (h : j = d.a.toNat) : gP d z (l.take (j + 1)) = gP d z (l.take j) := by
  have hl : (l.take j).length = j := by rw [List.length_take]; omega
  rw [List.take_succ_eq_append_getElem hj]
  unfold gP
  rw [if_pos hk, if_pos hk, ← h, List.eraseIdx_of_length_le (l := l.take j) (by omega), List.eraseIdx_append_of_length_le (by omega), hl, Nat.sub_self]
  simp

theorem gP_cast (d : Dl) (z : Vl) (l : List Vl) (j : Nat) (hk : d.k = 3) (hj : j < l.length) (h : j = d.a.toNat) : gP d z (l.take (j + 1)) = gP d z (l.take j) ++ [z] := by
  have hl : (l.take j).length = j := by rw [List.length_take]; omega
  have h2 : ¬ d.k = 2 := by omega
  rw [List.take_succ_eq_append_getElem hj]
  unfold gP
  rw [if_neg h2, if_neg h2, if_pos hk, if_pos hk, ← h, List.set_eq_of_length_le (l := l.take j) (by omega), List.set_append_right _ _ (by omega), hl, Nat.sub_self]
  rfl

theorem gP_len (d : Dl) (z : Vl) (l : List Vl) : (gP d z l).length ≤ l.length := by
  unfold gP; split
  · rw [List.length_eraseIdx]; split <;> omega
  · split
    · rw [List.length_set]; exact Nat.le_refl _
    · exact Nat.le_refl _

theorem gP_all (d : Dl) (l : List Vl) (hk : d.k = 1 ∨ d.k = 2 ∨ d.k = 3) : rowB l d = if d.k = 1 then l ++ [d.v] else gP d (castX (l.getD d.a.toNat vl0) d.ty) l := by
  unfold rowB gP
  by_cases h1 : d.k = 1
  · rw [if_pos h1, if_pos h1]
  rw [if_neg h1, if_neg h1]
  by_cases h2 : d.k = 2
  · rw [if_pos h2, if_pos h2]
  rw [if_neg h2, if_neg h2]
  by_cases h3 : d.k = 3
  · rw [if_pos h3]
  · omega

/-- a value more in a row of one's own: what append leaves -/
theorem own_push {w : World} {B n : Nat} {v : Value} {l l' : List Vl} {x : Vl} (h : w.ownsRow B 49 3 v (n + 1) (l.flatMap vlC ++ [.int .i64 x.k, .int .i64 x.n, .string ⟨x.s.toArray⟩])) (hn : l.length = n) (hl : l' = l ++ [x]) : Own w B v l' := by
  subst hl
  unfold Own
  rw [List.length_append, hn, flatV_append]
  have e : [x].flatMap vlC = [.int .i64 x.k, .int .i64 x.n, .string ⟨x.s.toArray⟩] := by simp [vlC]
  rw [e]; exact h


theorem way_start {r : List Vl} {L : List Dl} (hE : applyE r L = 0) : Way r L 0 r := by
  unfold applyE at hE
  by_cases h5 : 5 < r.length
  · rw [if_pos h5] at hE; cases hE
  rw [if_neg h5] at hE
  by_cases hq : (checkD (r.length : Nat) L).2 ≠ 0
  · rw [if_pos hq] at hE; exact absurd hE hq
  rw [if_neg hq] at hE
  have hq0 : (checkD (r.length : Nat) L).2 = 0 := Classical.not_not.1 hq
  unfold checkD at hq0
  rw [if_neg (by omega)] at hq0
  exact ⟨rfl, by rw [List.drop_zero]; exact hq0, hE, by omega⟩

theorem append_any {P : Program} {w : World} {ops : Array Oper} {rest : List Oper} {o : Oper} {a : Act} {Q : Exit → Act → World → Prop} (hgd : o.guard = none) (s x : Operand) (t : TypeId)
    (ho : o.op = .call { callee := .builtin .append, args := #[s, x], argTypes := #[t, t] })
    (base : Nat) (e : TypeId) (i : TypeInfo) (z : Value) (size bytes : Nat) (ht : P.underlying t = some (.slice e)) (hi : P.info? e = some i) (hz : i.zero = some z)
    (hsize : i.size = size) (hby : i.bytes = bytes) (hzs : z.cells.size = size) (hsz : 0 < size)
    (v : Value) (n : Nat) (xs : List Value) (hs : a.eval s = v) (hown : w.ownsRow base e size v n xs)
    (ao : Option Addr) (m c : Nat) (news : List Value) (hx : a.eval x = .slice ao m c) (hno : ao = none → m = 0 ∧ c = 0) (hl : news.length = m * size) (hnews : ∀ ad, ao = some ad → ∀ j u, news[j]? = some u → w.cell? (ad.add j) = some u) (h1 : ∀ u ∈ news, u.oneCell' = true)
    (h63 : n + m ≤ maxLen) (hbytes : (n + m) * bytes ≤ 140737488355328) (hbase : base ≤ w.heap.size)
    (h : ∀ v' w', w'.ownsRow base e size v' (n + m) (xs ++ news) → w.grownBy w' v.ownBlock → wpList P ops Q rest (a.put o.dst v') w') : wpList P ops Q (o :: rest) a w := by
  cases ao with
  | some ad => exact wpList_append_own _ hgd s x t ho base e i z size bytes ht hi hz hsize hby hzs hsz v n xs hs hown ad m c news hx hl (hnews ad rfl) h1 h63 hbytes hbase fun v' w' h2 h3 _ => h v' w' h2 h3
  | none =>
    obtain ⟨rfl, rfl⟩ := hno rfl
    have hn : news = [] := List.eq_nil_of_length_eq_zero (by rw [hl]; simp)
    subst hn
    exact wpList_append_own_none hgd s x t ho base e i size ht hi v n xs hs hown hx (h v w (by simpa using hown) ⟨rfl, rfl, rfl, Nat.le_refl _, fun _ _ _ => rfl⟩)

theorem owned_below {w w' : World} {B : Nat} {v : Value} {n : Nat} {fl : List Value} (h : w.ownsRow B 49 3 v n fl) (hb : Below w.heap.size w w') : w'.ownsRow B 49 3 v n fl := by
  refine ⟨h.1, ?_⟩
  rcases h.2 with h' | ⟨g, cap, cur, hv, hB, hg, r⟩
  · exact .inl h'
  · exact .inr ⟨g, cap, cur, hv, hB, (hb.block g (Array.getElem?_eq_some_iff.1 hg).1).trans hg, r⟩

theorem Own.owned {w w' : World} {N : Nat} {v : Value} {n : Nat} {fl : List Value} (h : w.ownsRow N 49 3 v n fl) (hb : Below w.drew.heap.size w.drew w') : w'.ownsRow N 49 3 v n fl := by
  refine ⟨h.1, ?_⟩
  rcases h.2 with h' | ⟨g, cap, cur, hv, hB, hg, r⟩
  · exact .inl h'
  · exact .inr ⟨g, cap, cur, hv, hB, (hb.block g (Array.getElem?_eq_some_iff.1 hg).1).trans hg, r⟩

set_option maxRecDepth 100000 in
set_option maxHeartbeats 12800000 in
theorem rap_any (r : List Vl) (L : List Dl) (u v : Value) (w : World) (hu : VsAt w u r) (hz : ∀ ao cap, u = .slice ao 0 cap → ao = none → cap = 0) (hv : DsAt w v L) (hE : applyE r L = 0) :
    Calls Tryz.prog 23 #[u, v] w fun e w' => ∃ x, e = .returned x ∧ Own w' w.heap.size x (L.foldl rowB r) ∧ Below w.heap.size w w' := by
  obtain ⟨i0, hi, hz0, hz1, hz2⟩ := info_parts Tryz.info_val
  obtain ⟨PP, hPP⟩ : ∃ PP : Ending → World → Prop, PP = fun e w' => ∃ x, e = .returned x ∧ Own w' w.heap.size x (L.foldl rowB r) ∧ Below w.heap.size w w' := ⟨_, rfl⟩
  have HP : Hid (∀ (x : Value) (w' : World), Own w' w.heap.size x (L.foldl rowB r) → Below w.heap.size w w' → PP (.returned x) w') := by
    intro x w' h1 h2
    rw [hPP]
    exact ⟨x, rfl, h1, h2⟩
  refine Calls.mono (R := PP) ?_ (by rw [hPP]; exact fun _ _ h => h)
  have HW : Hid (Way r L 0 r) := way_start hE
  have hr5 : r.length ≤ 5 := HW.out.few
  obtain ⟨ao, ca, rfl, hul, hus, huc⟩ := hu
  obtain ⟨bo, cb, rfl, -, -, hlen, -, hcc⟩ := hv
  obtain ⟨m, hm⟩ : ∃ m, L.length = m := ⟨_, rfl⟩
  have HC : Hid (L ≠ [] → ∃ g o, bo = some ⟨g, o, none⟩ ∧ g < w.heap.size ∧ ∀ i x, L[i]? = some x → Dc w g (o + i * 6) x) := hcc
  have hno : ao = none → r.length = 0 ∧ ca = 0 := by
    intro h
    have h0 : r = [] := by
      rcases Classical.em (r = []) with h' | h'
      · exact h'
      · obtain ⟨g, o, e, -⟩ := huc h'; rw [h] at e; cases e
    subst h0
    exact ⟨rfl, hz ao ca rfl h⟩
  have hnews : ∀ ad, ao = some ad → ∀ j x, (r.flatMap vlC)[j]? = some x → (w.alloc (.cells #[] 49)).cell? (ad.add j) = some x := by
    intro ad had j x hj
    rcases Classical.em (r = []) with h | h
    · rw [h] at hj; simp at hj
    · obtain ⟨g, o, e, hg, hcc⟩ := huc h
      rw [had] at e
      cases e
      rw [Go.WideShapes.add_plain]
      exact (((Below.refl w.heap.size w).alloc (Nat.le_refl _) _).cell (p := ⟨g, o + j, none⟩) hg).trans (VsAt.cells hcc j x hj)
  have hnl := flatV_len r
  have h1 := flatV_one r
  have b0 := (Below.refl w.heap.size w).alloc (Nat.le_refl _) (.cells #[] 49)
  rw [hm] at hlen ⊢
  obtain ⟨n, hn⟩ : ∃ n, r.length = n := ⟨_, rfl⟩
  rw [hn] at hul hno hnl hr5 ⊢
  have HFR : Hid (∀ v' w', w'.ownsRow w.heap.size 49 3 v' (0 + n) ([] ++ r.flatMap vlC) → Own w' w.heap.size v' r) := by
    intro v' w' h
    unfold Own
    rw [hn]
    simpa using h
  generalize r.flatMap vlC = news at hnews hnl h1 HFR
  clear huc hus hz hcc hPP hE
  go_enter Tryz.func23, Tryz.ntmps23
  go_wp2_with (at_builtin; refine append_any rfl _ _ 41 rfl w.heap.size 49 i0 (.agg #[.int .i64 0, .int .i64 0, .string ⟨#[]⟩]) 3 32 Tryz.underlying41 hi hz0 hz1 hz2 rfl (by decide) _ _ _ rfl (World.ownsRow_made w #[] 0 (Nat.le_refl _) (Nat.zero_le _) rfl) ao n ca news rfl hno hnl hnews h1 ?c3 ?c4 ?c5 ?_)
  case c3 => unfold maxLen; omega
  case c4 => omega
  case c5 => simp
  intro v1 w1 hown hgrow
  have q1 := b0.grown hgrow (by simp) (fun j hj => by cases hj; exact Nat.le_refl _)
  have O1 := hide (HFR.out v1 w1 (by simpa using hown))
  obtain ⟨va, vc, hv1⟩ := owns_slice O1.out
  rw [hn] at hv1
  subst hv1
  clear hnews hnl h1 b0 hown hgrow HFR hno
  go_wp2_with fail
  go_loopw [5, 6] (fun x i wl => ∃ (k : Nat) (rk : List Vl), k ≤ m ∧ i = .int .i64 k ∧ Hid (Own wl w.heap.size x rk) ∧ Below w.heap.size w wl ∧ Hid (Way r L k rk)) (fun _ i _ => m - (intOf i).toNat)
  case atStart => exact ⟨0, r, Nat.zero_le _, rfl, O1, q1, HW⟩
  case round =>
    obtain ⟨k, rk, hk, rfl, OK, hnx, HK⟩ := hrel
    clear O1 q1 HW
    by_cases hlt : k < m
    · obtain ⟨d, hd⟩ : ∃ d, L[k]? = some d := ⟨L[k], List.getElem?_eq_getElem (by omega)⟩
      obtain ⟨g, o, rfl, hg, hcc⟩ := HC.out (by intro e; rw [e] at hd; cases hd)
      obtain ⟨a0, a1, a2, a3, a4, a5⟩ := (hcc k d hd).keep (hnx.block g hg)
      have hlt' : (k : Int) < (m : Int) := by omega
      obtain ⟨hw, hway⟩ := HK.out.next hd
      have HK2 := hide hway
      have hsz := hnx.size
      have hr5 := HK.out.few
      have hrb := HK.out.right
      obtain ⟨dk, da, dt, dv⟩ := d
      have qw := hnx.alloc hsz (.cells #[.int .i64 dk, .int .i64 da, .int .i64 dt, .int .i64 dv.k, .int .i64 dv.n, .string ⟨dv.s.toArray⟩] 51)
      have KB := hide (heap_alloc_new wr (.cells #[.int .i64 dk, .int .i64 da, .int .i64 dt, .int .i64 dv.k, .int .i64 dv.n, .string ⟨dv.s.toArray⟩] 51))
      have hbN : wr.heap.size < (wr.alloc (.cells #[.int .i64 dk, .int .i64 da, .int .i64 dt, .int .i64 dv.k, .int .i64 dv.n, .string ⟨dv.s.toArray⟩] 51)).heap.size := by simp
      have OW := hide (OK.out.alloc (.cells #[.int .i64 dk, .int .i64 da, .int .i64 dt, .int .i64 dv.k, .int .i64 dv.n, .string ⟨dv.s.toArray⟩] 51))
      obtain ⟨oa, oc, hov⟩ := owns_slice OK.out
      subst hov
      obtain ⟨rn, hrn⟩ : ∃ rn, rk.length = rn := ⟨_, rfl⟩
      rw [hrn] at hr5 OW ⊢
      obtain ⟨z, HZ1⟩ : ∃ z, Hid (castX (rk.getD da.toNat vl0) dt = z) := ⟨_, rfl⟩
      clear hcc hd HC hway OK
      simp only at a0 a1 a2 a3 a4 a5
      rcases widB_ok hw with ⟨e, -⟩ | ⟨e, y0, y1, -⟩ | ⟨e, y0, y1, t0, t1, -⟩
      · simp only at e
        subst e
        clear hw HK HZ1
        go_wp2_with fail
        generalize hW0 : wr.alloc (.cells #[.int .i64 1, .int .i64 da, .int .i64 dt, .int .i64 dv.k, .int .i64 dv.n, .string ⟨dv.s.toArray⟩] 51) = W0 at *
        generalize hbb : wr.heap.size = bb at *
        clear hW0 hbb
        obtain ⟨N, hN⟩ : ∃ N, W0.heap.size = N := ⟨_, rfl⟩
        rw [hN] at hbN
        go_loopw [8, 9] (fun x i wl => ∃ j : Nat, j ≤ rn ∧ i = .int .i64 j ∧ Hid (Own wl N x (gP ⟨1, da, dt, dv⟩ z (rk.take j))) ∧ Below N W0 wl) (fun _ i _ => rn - (intOf i).toNat)
        case atStart => exact ⟨0, Nat.zero_le _, rfl, by rw [List.take_zero, gP_nil]; exact World.ownsRow_nil _ _ _ _, Below.refl _ _⟩
        case round =>
          obtain ⟨j, hj, rfl, OX, hin⟩ := hrel
          obtain ⟨d0, d1, d2, d3, d4, d5⟩ := six_at ((hin.block bb hbN).trans KB.out)
          have hszN : N ≤ wr.heap.size := by have := hin.size; omega
          have hNw : w.heap.size ≤ N := by have := qw.size; omega
          obtain ⟨acc, hacc⟩ : ∃ acc, gP ⟨1, da, dt, dv⟩ z (rk.take j) = acc := ⟨_, rfl⟩
          obtain ⟨cn, hcn⟩ : ∃ cn, acc.length = cn := ⟨_, rfl⟩
          have hcn5 : cn ≤ 5 := by
            have := gP_len ⟨1, da, dt, dv⟩ z (rk.take j)
            rw [hacc, List.length_take] at this
            omega
          by_cases hlj : j < rn
          · obtain ⟨x, hx⟩ : ∃ x, rk[j]? = some x := ⟨rk[j], List.getElem?_eq_getElem (by omega)⟩
            have hOo := owned_below OW.out (by rw [hN]; exact hin)
            obtain ⟨og, oc', hov, -⟩ := owns_some hOo (by omega)
            cases hov
            obtain ⟨f0, f1, f2⟩ := flatV_get rk j x hx
            have e0 := (hOo.cellAt (j * 3) (by omega)).trans f0
            have e1 := (hOo.cellAt (j * 3 + 1) (by omega)).trans f1
            have e2 := (hOo.cellAt (j * 3 + 2) (by omega)).trans f2
            have hlj' : (j : Int) < (rn : Int) := by omega
            clear hOo f0 f1 f2
            have HN : Hid (acc ++ [x] = gP ⟨1, da, dt, dv⟩ z (rk.take (j + 1))) := by rw [Hid, ← hacc]; exact (gP_else _ z rk j x hx (by intro h; rcases h with h | h <;> cases h)).symm
            have ho := OX.out
            rw [hacc] at ho
            obtain ⟨xa, xc, hx0⟩ := owns_slice ho
            subst hx0
            have ox := ho.alloc (.cells #[.int .i64 x.k, .int .i64 x.n, .string ⟨x.s.toArray⟩] 49)
            have hnw := World.news_of_block (cs := #[.int .i64 x.k, .int .i64 x.n, .string ⟨x.s.toArray⟩]) (t := 49) (fr := (0, 0)) (heap_alloc_new wr (.cells #[.int .i64 x.k, .int .i64 x.n, .string ⟨x.s.toArray⟩] 49))
            have hxlt := ox.lt
            unfold Own at ox
            rw [hcn] at ox hxlt ⊢
            generalize hfl : acc.flatMap vlC = fl at ox
            clear hx OX hacc
            go_wp2_with (at_builtin; refine wpList_append_own _ rfl _ _ 41 rfl N 49 i0 (.agg #[.int .i64 0, .int .i64 0, .string ⟨#[]⟩]) 3 32 Tryz.underlying41 hi hz0 hz1 hz2 rfl (by decide) _ _ _ rfl ox ⟨wr.heap.size, 0, none⟩ 1 1 [.int .i64 x.k, .int .i64 x.n, .string ⟨x.s.toArray⟩] rfl rfl hnw (by intro y hy; simp only [List.mem_cons, List.not_mem_nil, or_false] at hy; rcases hy with rfl | rfl | rfl <;> rfl) ?c3 ?c4 ?c5 ?_)
            case c3 => unfold maxLen; omega
            case c4 => omega
            case c5 => first | omega | (simp; omega)
            intro v3 w3 hown hgrow _
            have hb3 : Below N W0 w3 := (hin.alloc hszN _).grown hgrow (by simp; omega) (fun q hq => (hxlt q hq).1)
            have HO3 := hide (own_push (l := acc) (by rw [hfl]; exact hown) hcn HN.out.symm)
            clear hown hgrow ox hxlt hnw ho
            go_wp2
            go_roundw
            case rel => exact ⟨j + 1, by omega, by go_num, HO3, hb3⟩
            case measure => simp [intOf]; omega
          · obtain rfl : j = rn := by omega
            have HR : Hid (acc ++ [dv] = rowB rk ⟨1, da, dt, dv⟩) := by
              rw [Hid, ← hacc, gP_all _ _ (.inl rfl), List.take_of_length_le (by omega)]; rfl
            have ho := OX.out
            rw [hacc] at ho
            obtain ⟨xa, xc, hx0⟩ := owns_slice ho
            subst hx0
            have ox := ho.alloc (.cells #[.int .i64 dv.k, .int .i64 dv.n, .string ⟨dv.s.toArray⟩] 49)
            have hnw := World.news_of_block (cs := #[.int .i64 dv.k, .int .i64 dv.n, .string ⟨dv.s.toArray⟩]) (t := 49) (fr := (0, 0)) (heap_alloc_new wr (.cells #[.int .i64 dv.k, .int .i64 dv.n, .string ⟨dv.s.toArray⟩] 49))
            have hxlt := ox.lt
            unfold Own at ox
            rw [hcn] at ox hxlt ⊢
            generalize hfl : acc.flatMap vlC = fl at ox
            clear OX hacc
            go_wp2_with (at_builtin; refine wpList_append_own _ rfl _ _ 41 rfl N 49 i0 (.agg #[.int .i64 0, .int .i64 0, .string ⟨#[]⟩]) 3 32 Tryz.underlying41 hi hz0 hz1 hz2 rfl (by decide) _ _ _ rfl ox ⟨wr.heap.size, 0, none⟩ 1 1 [.int .i64 dv.k, .int .i64 dv.n, .string ⟨dv.s.toArray⟩] rfl rfl hnw (by intro y hy; simp only [List.mem_cons, List.not_mem_nil, or_false] at hy; rcases hy with rfl | rfl | rfl <;> rfl) ?c3 ?c4 ?c5 ?_)
            case c3 => unfold maxLen; omega
            case c4 => omega
            case c5 => first | omega | (simp; omega)
            intro v3 w3 hown hgrow _
            have hb3 : Below N W0 w3 := (hin.alloc hszN _).grown hgrow (by simp; omega) (fun q hq => (hxlt q hq).1)
            have HO3 := hide (Own.mono (own_push (l := acc) (by rw [hfl]; exact hown) hcn HR.out.symm) hNw)
            have q3 := qw.trans (hb3.mono hNw)
            clear hown hgrow ox hxlt hnw ho
            go_wp2
            go_roundw
            case rel => exact ⟨k + 1, _, by omega, by go_num, HO3, q3, HK2⟩
            case measure => simp [intOf]; omega
      · simp only at e y0 y1
        subst e
        clear hw HK
        go_wp2_with fail
        generalize hW0 : wr.alloc (.cells #[.int .i64 2, .int .i64 da, .int .i64 dt, .int .i64 dv.k, .int .i64 dv.n, .string ⟨dv.s.toArray⟩] 51) = W0 at *
        generalize hbb : wr.heap.size = bb at *
        clear hW0 hbb
        obtain ⟨N, hN⟩ : ∃ N, W0.heap.size = N := ⟨_, rfl⟩
        rw [hN] at hbN
        go_loopw [8, 9] (fun x i wl => ∃ j : Nat, j ≤ rn ∧ i = .int .i64 j ∧ Hid (Own wl N x (gP ⟨2, da, dt, dv⟩ z (rk.take j))) ∧ Below N W0 wl) (fun _ i _ => rn - (intOf i).toNat)
        case atStart => exact ⟨0, Nat.zero_le _, rfl, by rw [List.take_zero, gP_nil]; exact World.ownsRow_nil _ _ _ _, Below.refl _ _⟩
        case round =>
          obtain ⟨j, hj, rfl, OX, hin⟩ := hrel
          obtain ⟨d0, d1, d2, d3, d4, d5⟩ := six_at ((hin.block bb hbN).trans KB.out)
          have hszN : N ≤ wr.heap.size := by have := hin.size; omega
          have hNw : w.heap.size ≤ N := by have := qw.size; omega
          obtain ⟨acc, hacc⟩ : ∃ acc, gP ⟨2, da, dt, dv⟩ z (rk.take j) = acc := ⟨_, rfl⟩
          obtain ⟨cn, hcn⟩ : ∃ cn, acc.length = cn := ⟨_, rfl⟩
          have hcn5 : cn ≤ 5 := by
            have := gP_len ⟨2, da, dt, dv⟩ z (rk.take j)
            rw [hacc, List.length_take] at this
            omega
          by_cases hlj : j < rn
          · obtain ⟨x, hx⟩ : ∃ x, rk[j]? = some x := ⟨rk[j], List.getElem?_eq_getElem (by omega)⟩
            have hOo := owned_below OW.out (by rw [hN]; exact hin)
            obtain ⟨og, oc', hov, -⟩ := owns_some hOo (by omega)
            cases hov
            obtain ⟨f0, f1, f2⟩ := flatV_get rk j x hx
            have e0 := (hOo.cellAt (j * 3) (by omega)).trans f0
            have e1 := (hOo.cellAt (j * 3 + 1) (by omega)).trans f1
            have e2 := (hOo.cellAt (j * 3 + 2) (by omega)).trans f2
            have hlj' : (j : Int) < (rn : Int) := by omega
            clear hOo f0 f1 f2
            by_cases hja : j = da.toNat
            · have hji : (j : Int) = da := by omega
              have HN : Hid (gP ⟨2, da, dt, dv⟩ z (rk.take j) = gP ⟨2, da, dt, dv⟩ z (rk.take (j + 1))) := (gP_skip _ z rk j rfl (by omega) hja).symm
              have ho := OX.out
              rw [HN.out] at ho
              obtain ⟨xa, xc, hx0⟩ := owns_slice ho
              subst hx0
              have HO3 := hide ho
              clear hx OX hacc ho HN hja hcn
              subst hji
              go_wp2
              go_roundw
              case rel => exact ⟨j + 1, by omega, by go_num, HO3, hin⟩
              case measure => simp [intOf]; omega
            · have hne : j ≠ (⟨2, da, dt, dv⟩ : Dl).a.toNat := hja
              have hji : ¬ (j : Int) = da := by omega
              have HN : Hid (acc ++ [x] = gP ⟨2, da, dt, dv⟩ z (rk.take (j + 1))) := by rw [Hid, ← hacc]; exact (gP_else _ z rk j x hx (fun _ => hne)).symm
              have ho := OX.out
              rw [hacc] at ho
              obtain ⟨xa, xc, hx0⟩ := owns_slice ho
              subst hx0
              have ox := ho.alloc (.cells #[.int .i64 x.k, .int .i64 x.n, .string ⟨x.s.toArray⟩] 49)
              have hnw := World.news_of_block (cs := #[.int .i64 x.k, .int .i64 x.n, .string ⟨x.s.toArray⟩]) (t := 49) (fr := (0, 0)) (heap_alloc_new wr (.cells #[.int .i64 x.k, .int .i64 x.n, .string ⟨x.s.toArray⟩] 49))
              have hxlt := ox.lt
              unfold Own at ox
              rw [hcn] at ox hxlt ⊢
              generalize hfl : acc.flatMap vlC = fl at ox
              clear hx OX hacc
              go_wp2_with (at_builtin; refine wpList_append_own _ rfl _ _ 41 rfl N 49 i0 (.agg #[.int .i64 0, .int .i64 0, .string ⟨#[]⟩]) 3 32 Tryz.underlying41 hi hz0 hz1 hz2 rfl (by decide) _ _ _ rfl ox ⟨wr.heap.size, 0, none⟩ 1 1 [.int .i64 x.k, .int .i64 x.n, .string ⟨x.s.toArray⟩] rfl rfl hnw (by intro y hy; simp only [List.mem_cons, List.not_mem_nil, or_false] at hy; rcases hy with rfl | rfl | rfl <;> rfl) ?c3 ?c4 ?c5 ?_)
              case c3 => unfold maxLen; omega
              case c4 => omega
              case c5 => first | omega | (simp; omega)
              intro v3 w3 hown hgrow _
              have hb3 : Below N W0 w3 := (hin.alloc hszN _).grown hgrow (by simp; omega) (fun q hq => (hxlt q hq).1)
              have HO3 := hide (own_push (l := acc) (by rw [hfl]; exact hown) hcn HN.out.symm)
              clear hown hgrow ox hxlt hnw ho
              go_wp2
              go_roundw
              case rel => exact ⟨j + 1, by omega, by go_num, HO3, hb3⟩
              case measure => simp [intOf]; omega
          · obtain rfl : j = rn := by omega
            have ho := OX.out
            have HR : gP ⟨2, da, dt, dv⟩ z (rk.take j) = rowB rk ⟨2, da, dt, dv⟩ := by
              rw [gP_all _ _ (.inr (.inl rfl)), List.take_of_length_le (by omega), HZ1.out]; rfl
            rw [HR] at ho
            obtain ⟨xa, xc, hx0⟩ := owns_slice ho
            subst hx0
            have HO3 := hide (Own.mono ho hNw)
            have q3 := qw.trans (hin.mono hNw)
            clear OX hacc ho HR
            go_wp2
            go_roundw
            case rel => exact ⟨k + 1, _, by omega, by go_num, HO3, q3, HK2⟩
            case measure => simp [intOf]; omega
      · simp only at e y0 y1 t0 t1
        subst e
        have HZ : Hid (∀ x, x = rk.getD da.toNat vl0 → ∀ W, Calls Tryz.prog 71 #[.agg #[.int .i64 x.k, .int .i64 x.n, .string ⟨x.s.toArray⟩], .int .i64 dt] W fun e w' => e = .returned (.agg #[.int .i64 z.k, .int .i64 z.n, .string ⟨z.s.toArray⟩]) ∧ Below W.heap.size W w') := by
          intro x hx W
          have hmem : x ∈ rk := by
            have hl : da.toNat < rk.length := by omega
            rw [hx, List.getD_eq_getElem?_getD, List.getElem?_eq_getElem hl]
            exact List.getElem_mem _
          have hc := (badL_zero rk).1 hrb x hmem
          have hsx := short_of hc
          have := cov_any x.k x.n dt ⟨x.s.toArray⟩ W (by rw [size_mk]; omega) (by simpa using hc) (by omega)
          have e0 : (⟨x.s.toArray⟩ : ByteArray).data.toList = x.s := by simp
          rw [e0] at this
          rw [← HZ1.out, ← hx]
          exact this
        clear hw HK
        go_wp2_with fail
        generalize hW0 : wr.alloc (.cells #[.int .i64 3, .int .i64 da, .int .i64 dt, .int .i64 dv.k, .int .i64 dv.n, .string ⟨dv.s.toArray⟩] 51) = W0 at *
        generalize hbb : wr.heap.size = bb at *
        clear hW0 hbb
        obtain ⟨N, hN⟩ : ∃ N, W0.heap.size = N := ⟨_, rfl⟩
        rw [hN] at hbN
        go_loopw [8, 9] (fun x i wl => ∃ j : Nat, j ≤ rn ∧ i = .int .i64 j ∧ Hid (Own wl N x (gP ⟨3, da, dt, dv⟩ z (rk.take j))) ∧ Below N W0 wl) (fun _ i _ => rn - (intOf i).toNat)
        case atStart => exact ⟨0, Nat.zero_le _, rfl, by rw [List.take_zero, gP_nil]; exact World.ownsRow_nil _ _ _ _, Below.refl _ _⟩
        case round =>
          obtain ⟨j, hj, rfl, OX, hin⟩ := hrel
          obtain ⟨d0, d1, d2, d3, d4, d5⟩ := six_at ((hin.block bb hbN).trans KB.out)
          have hszN : N ≤ wr.heap.size := by have := hin.size; omega
          have hNw : w.heap.size ≤ N := by have := qw.size; omega
          obtain ⟨acc, hacc⟩ : ∃ acc, gP ⟨3, da, dt, dv⟩ z (rk.take j) = acc := ⟨_, rfl⟩
          obtain ⟨cn, hcn⟩ : ∃ cn, acc.length = cn := ⟨_, rfl⟩
          have hcn5 : cn ≤ 5 := by
            have := gP_len ⟨3, da, dt, dv⟩ z (rk.take j)
            rw [hacc, List.length_take] at this
            omega
          by_cases hlj : j < rn
          · obtain ⟨x, hx⟩ : ∃ x, rk[j]? = some x := ⟨rk[j], List.getElem?_eq_getElem (by omega)⟩
            have hOo := owned_below OW.out (by rw [hN]; exact hin)
            obtain ⟨og, oc', hov, -⟩ := owns_some hOo (by omega)
            cases hov
            obtain ⟨f0, f1, f2⟩ := flatV_get rk j x hx
            have e0 := (hOo.cellAt (j * 3) (by omega)).trans f0
            have e1 := (hOo.cellAt (j * 3 + 1) (by omega)).trans f1
            have e2 := (hOo.cellAt (j * 3 + 2) (by omega)).trans f2
            have hlj' : (j : Int) < (rn : Int) := by omega
            clear hOo f0 f1 f2
            by_cases hja : j = da.toNat
            · have hji : (j : Int) = da := by omega
              have hxz : x = rk.getD da.toNat vl0 := by rw [← hja, List.getD_eq_getElem?_getD, hx]; rfl
              have HN : Hid (acc ++ [z] = gP ⟨3, da, dt, dv⟩ z (rk.take (j + 1))) := by rw [Hid, ← hacc]; exact (gP_cast _ z rk j rfl (by omega) hja).symm
              have hcast := HZ.out x hxz
              have ho := OX.out
              rw [hacc] at ho
              obtain ⟨xa, xc, hx0⟩ := owns_slice ho
              subst hx0
              have hxlt := ho.lt
              have ox := ho
              unfold Own at ox
              rw [hcn] at ox hxlt ⊢
              generalize hfl : acc.flatMap vlC = fl at ox
              have OXX := hide ox
              clear hx OX hacc hja hxz ho ox
              subst hji
              go_wp2_with fail
              go_region_law (first | (refine step_append_lies _ (by rfl) _ _ _ (by rfl) N 49 i0 _ 3 32 Tryz.underlying41 hi hz0 hz1 hz2 rfl (by omega) (.slice xa cn xc) cn fl (by rfl) (OC.out.alloc _) ⟨wc.heap.size, 0, none⟩ 1 1 [.int .i64 z.k, .int .i64 z.n, .string ⟨z.s.toArray⟩] (by rfl) (by rfl) (World.news_of_block (cs := #[.int .i64 z.k, .int .i64 z.n, .string ⟨z.s.toArray⟩]) (t := 49) (fr := (0, 0)) (heap_alloc_new wc _)) (by simp [Value.oneCell']) (by omega) (by unfold maxLen; omega) (by omega) (by simp; omega) (wc.heap.size + 1) (by simp) ?_; intro gg cap' w3 hown hgrow _ _) | (go_simp; refine (hcast _ ).mono ?_; rintro e wc ⟨rfl, bc⟩; have OC := hide (Own.owned OXX.out bc); have hinc := hin.drew.trans (bc.mono hszN); have hszc : N ≤ wc.heap.size := Nat.le_trans hszN bc.size; dsimp only))
              all_goals (
                have hb3 : Below N W0 w3 := (hinc.alloc hszc _).grown hgrow (by simp; omega) (fun q hq => (hxlt q hq).1)
                have HO3 := hide (own_push (l := acc) (by rw [hfl]; exact hown) hcn HN.out.symm)
                clear hown hgrow
                go_wp2
                go_roundw
                case rel => exact ⟨j + 1, by omega, by go_num, HO3, hb3⟩
                case measure => simp [intOf]; omega)
            · have hne : j ≠ (⟨3, da, dt, dv⟩ : Dl).a.toNat := hja
              have hji : ¬ (j : Int) = da := by omega
              have HN : Hid (acc ++ [x] = gP ⟨3, da, dt, dv⟩ z (rk.take (j + 1))) := by rw [Hid, ← hacc]; exact (gP_else _ z rk j x hx (fun _ => hne)).symm
              have ho := OX.out
              rw [hacc] at ho
              obtain ⟨xa, xc, hx0⟩ := owns_slice ho
              subst hx0
              have ox := ho.alloc (.cells #[.int .i64 x.k, .int .i64 x.n, .string ⟨x.s.toArray⟩] 49)
              have hnw := World.news_of_block (cs := #[.int .i64 x.k, .int .i64 x.n, .string ⟨x.s.toArray⟩]) (t := 49) (fr := (0, 0)) (heap_alloc_new wr (.cells #[.int .i64 x.k, .int .i64 x.n, .string ⟨x.s.toArray⟩] 49))
              have hxlt := ox.lt
              unfold Own at ox
              rw [hcn] at ox hxlt ⊢
              generalize hfl : acc.flatMap vlC = fl at ox
              clear hx OX hacc
              go_wp2_with (at_builtin; refine wpList_append_own _ rfl _ _ 41 rfl N 49 i0 (.agg #[.int .i64 0, .int .i64 0, .string ⟨#[]⟩]) 3 32 Tryz.underlying41 hi hz0 hz1 hz2 rfl (by decide) _ _ _ rfl ox ⟨wr.heap.size, 0, none⟩ 1 1 [.int .i64 x.k, .int .i64 x.n, .string ⟨x.s.toArray⟩] rfl rfl hnw (by intro y hy; simp only [List.mem_cons, List.not_mem_nil, or_false] at hy; rcases hy with rfl | rfl | rfl <;> rfl) ?c3 ?c4 ?c5 ?_)
              case c3 => unfold maxLen; omega
              case c4 => omega
              case c5 => first | omega | (simp; omega)
              intro v3 w3 hown hgrow _
              have hb3 : Below N W0 w3 := (hin.alloc hszN _).grown hgrow (by simp; omega) (fun q hq => (hxlt q hq).1)
              have HO3 := hide (own_push (l := acc) (by rw [hfl]; exact hown) hcn HN.out.symm)
              clear hown hgrow ox hxlt hnw ho
              go_wp2
              go_roundw
              case rel => exact ⟨j + 1, by omega, by go_num, HO3, hb3⟩
              case measure => simp [intOf]; omega
          · obtain rfl : j = rn := by omega
            have ho := OX.out
            have HR : gP ⟨3, da, dt, dv⟩ z (rk.take j) = rowB rk ⟨3, da, dt, dv⟩ := by
              rw [gP_all _ _ (.inr (.inr rfl)), List.take_of_length_le (by omega), HZ1.out]; rfl
            rw [HR] at ho
            obtain ⟨xa, xc, hx0⟩ := owns_slice ho
            subst hx0
            have HO3 := hide (Own.mono ho hNw)
            have q3 := qw.trans (hin.mono hNw)
            clear OX hacc ho HR
            go_wp2
            go_roundw
            case rel => exact ⟨k + 1, _, by omega, by go_num, HO3, q3, HK2⟩
            case measure => simp [intOf]; omega
    · obtain rfl : k = m := by omega
      have hq := OK.out
      rw [HK.out.is, List.take_of_length_le (by omega)] at hq
      have HF := hide hq
      obtain ⟨ra, rc, hrv⟩ := owns_slice OK.out
      subst hrv
      clear OK HK HC hq
      go_wp2
      exact HP.out _ _ HF.out hnx
end

section
open Go.RowKit

/-- the lowest byte of a number -/
def b8 (n : Int) : UInt8 := UInt8.ofNat (n % 256).toNat

theorem b8_toNat (n : Int) : ((b8 n).toNat : Int) = n % 256 := by
  unfold b8
  have h1 : (UInt8.ofNat (n % 256).toNat).toNat = (n % 256).toNat % 256 := by simp
  rw [h1]; omega

theorem b8_of (c : UInt8) : b8 (c.toNat : Int) = c := by
  apply UInt8.toNat_inj.1
  have h := b8_toNat (c.toNat : Int)
  have := c.toNat_lt
  omega

theorem b8_at (c : UInt8) (n : Int) (h : n % 256 = (c.toNat : Int)) : b8 n = c := by
  apply UInt8.toNat_inj.1
  have := b8_toNat n
  omega

/-- so many bytes of a number, the lesser ones first -/
def leB : Nat → Int → List UInt8
  | 0, _ => []
  | k + 1, n => b8 n :: leB k (n / 256)

theorem leB_length (k : Nat) : ∀ n, (leB k n).length = k := by
  induction k with
  | zero => intro n; rfl
  | succ k ih => intro n; simp [leB, ih]

/-- the number that bytes are, the lesser ones first -/
def numL : List UInt8 → Nat
  | [] => 0
  | c :: r => c.toNat + 256 * numL r

theorem numL_lt (l : List UInt8) : numL l < 256 ^ l.length := by
  induction l with
  | nil => simp [numL]
  | cons c r ih =>
    have := c.toNat_lt
    simp only [numL, List.length_cons, Nat.pow_succ]
    omega

theorem numL_le (l : List UInt8) (n : Nat) (h : l.length = n) : leB n (numL l : Nat) = l := by
  induction l generalizing n with
  | nil => subst h; rfl
  | cons c r ih =>
    subst h
    have hc := c.toNat_lt
    simp only [List.length_cons, leB, numL]
    have h1 : ((c.toNat + 256 * numL r : Nat) : Int) / 256 = (numL r : Nat) := by omega
    rw [h1, ih _ rfl]
    congr 1
    exact b8_at c _ (by omega)

theorem leB_num (k : Nat) : ∀ n : Int, 0 ≤ n → n < 256 ^ k → ((numL (leB k n) : Nat) : Int) = n := by
  induction k with
  | zero => intro n h0 h1; simp [leB, numL] at *; omega
  | succ k ih =>
    intro n h0 h1
    have h2 : n / 256 < 256 ^ k := by
      have : (256 : Int) ^ (k + 1) = 256 ^ k * 256 := by rw [Int.pow_succ]
      omega
    have h3 := ih (n / 256) (by omega) h2
    have h4 := b8_toNat n
    simp only [leB, numL]
    omega

/-- a value's bytes -/
def encV (x : Vl) : List UInt8 :=
  b8 x.k :: (if x.k = 1 then leB 4 (x.n + 999999999) else if x.k = 2 then b8 (x.s.length : Nat) :: x.s else if x.k = 3 then [b8 x.n] else [])

def encL (l : List Vl) : List UInt8 := b8 (l.length : Nat) :: l.flatMap encV

/-- a value off bytes, and what is left of them -/
def valP : List UInt8 → Option (Vl × List UInt8)
  | [] => none
  | c :: r =>
    if c = 0 then some (⟨0, 0, []⟩, r)
    else if c = 1 then (if r.length < 4 then none else some (⟨1, (numL (r.take 4) : Nat) - 999999999, []⟩, r.drop 4))
    else if c = 2 then (match r with | [] => none | m :: r' => if r'.length < m.toNat then none else some (⟨2, 0, r'.take m.toNat⟩, r'.drop m.toNat))
    else if c = 3 then (match r with | [] => none | m :: r' => some (⟨3, (m.toNat : Nat), []⟩, r'))
    else none

def valsP : Nat → List UInt8 → Option (List Vl × List UInt8)
  | 0, l => some ([], l)
  | k + 1, l => (valP l).bind fun p => (valsP k p.2).map fun q => (p.1 :: q.1, q.2)

def decP : List UInt8 → Option (List Vl)
  | [] => none
  | c :: r => match valsP c.toNat r with | some (xs, []) => some xs | _ => none

def decE (s : List UInt8) : Nat := match decP s with | none => 1 | some xs => chkL xs
def decR (s : List UInt8) : List Vl := if decE s = 0 then (decP s).getD [] else []

theorem chkV_zero {K N : Int} {S : List UInt8} (h : chkV K N S = 0) : (K = 0 ∧ N = 0 ∧ S = []) ∨ (K = 1 ∧ -999999999 ≤ N ∧ N ≤ 999999999 ∧ S = []) ∨ (K = 2 ∧ N = 0 ∧ S.length ≤ 20) ∨ (K = 3 ∧ (N = 0 ∨ N = 1) ∧ S = []) := by
  unfold chkV at h
  by_cases h0 : K = 0
  · rw [if_pos h0] at h
    left
    by_cases h1 : N = 0 ∧ S = []
    · exact ⟨h0, h1.1, h1.2⟩
    · rw [if_neg h1] at h; cases h
  rw [if_neg h0] at h
  by_cases h1 : K = 1
  · rw [if_pos h1] at h
    right; left
    by_cases h2 : isInt N = true ∧ S = []
    · have := h2.1
      simp only [isInt, Bool.and_eq_true, decide_eq_true_eq] at this
      exact ⟨h1, this.1, this.2, h2.2⟩
    · rw [if_neg h2] at h; cases h
  rw [if_neg h1] at h
  by_cases h2 : K = 2
  · rw [if_pos h2] at h
    right; right; left
    by_cases h3 : N = 0 ∧ quotB S = true
    · have := h3.2
      simp only [quotB, Bool.and_eq_true, decide_eq_true_eq] at this
      exact ⟨h2, h3.1, this.1⟩
    · rw [if_neg h3] at h; cases h
  rw [if_neg h2] at h
  by_cases h3 : K = 3
  · rw [if_pos h3] at h
    right; right; right
    by_cases h4 : (N = 0 ∨ N = 1) ∧ S = []
    · exact ⟨h3, h4.1, h4.2⟩
    · rw [if_neg h4] at h; cases h
  rw [if_neg h3] at h
  cases h

theorem valP_enc (x : Vl) (r : List UInt8) (h : chkV x.k x.n x.s = 0) : valP (encV x ++ r) = some (x, r) := by
  obtain ⟨K, N, S⟩ := x
  rcases chkV_zero h with ⟨h1, h2, h3⟩ | ⟨h1, h2, h3, h4⟩ | ⟨h1, h2, h3⟩ | ⟨h1, h2, h3⟩
  · simp only at h1 h2 h3; subst h1 h2 h3
    simp [encV, valP, b8]
  · simp only at h1 h2 h3 h4; subst h1 h4
    have hl := leB_length 4 (N + 999999999)
    have hn := leB_num 4 (N + 999999999) (by omega) (by simp; omega)
    simp only [encV, if_true, List.cons_append, valP]
    rw [if_neg (by decide), if_pos (by decide), if_neg (by simp [hl])]
    have t1 : List.take 4 (leB 4 (N + 999999999) ++ r) = leB 4 (N + 999999999) := List.take_left' hl
    have t2 : List.drop 4 (leB 4 (N + 999999999) ++ r) = r := List.drop_left' hl
    rw [t1, t2, hn]
    simp
  · simp only at h1 h2 h3; subst h1 h2
    have e : (b8 ((S.length : Nat) : Int)).toNat = S.length := by
      have := b8_toNat (S.length : Nat); omega
    have e0 : encV ⟨2, 0, S⟩ = 2 :: b8 (S.length : Nat) :: S := rfl
    rw [e0]
    simp only [List.cons_append, valP]
    rw [if_neg (by decide), if_neg (by decide), if_pos (by decide)]
    simp [e]
  · simp only at h1 h2 h3; subst h1 h3
    have e : ((b8 N).toNat : Int) = N := by
      have := b8_toNat N; omega
    have e0 : encV ⟨3, N, []⟩ = 3 :: [b8 N] := rfl
    rw [e0]
    simp only [List.cons_append, valP]
    rw [if_neg (by decide), if_neg (by decide), if_neg (by decide), if_pos (by decide)]
    simp [e]

theorem valsP_enc (l : List Vl) (h : ∀ x ∈ l, chkV x.k x.n x.s = 0) : valsP l.length (l.flatMap encV) = some (l, []) := by
  induction l with
  | nil => rfl
  | cons x r ih =>
    simp only [List.length_cons, valsP, List.flatMap_cons]
    rw [valP_enc x _ (h x (by simp))]
    simp [ih fun y hy => h y (by simp [hy])]

theorem dec_enc (l : List Vl) (h : chkL l = 0) : decE (encL l) = 0 ∧ decR (encL l) = l := by
  unfold chkL at h
  have hl : ¬ 5 < l.length := by intro h5; rw [if_pos h5] at h; cases h
  have h0 := h
  rw [if_neg hl] at h
  have e : (b8 ((l.length : Nat) : Int)).toNat = l.length := by
    have := b8_toNat (l.length : Nat); omega
  have hp : decP (encL l) = some l := by
    simp only [encL, decP]
    rw [e, valsP_enc l ((badL_zero l).1 h)]
  have hE : decE (encL l) = 0 := by unfold decE; rw [hp]; exact h0
  exact ⟨hE, by unfold decR; rw [if_pos hE, hp]; rfl⟩

theorem valP_some (l : List UInt8) (x : Vl) (r : List UInt8) (h : valP l = some (x, r)) (hx : chkV x.k x.n x.s = 0) : l = encV x ++ r := by
  cases l with
  | nil => cases h
  | cons c t =>
    simp only [valP] at h
    by_cases h0 : c = 0
    · subst h0; rw [if_pos rfl] at h; cases h; rfl
    rw [if_neg h0] at h
    by_cases h1 : c = 1
    · subst h1
      rw [if_pos rfl] at h
      by_cases h4 : t.length < 4
      · rw [if_pos h4] at h; cases h
      rw [if_neg h4] at h
      cases h
      have e : (t.take 4).length = 4 := by rw [List.length_take]; omega
      have := numL_le (t.take 4) 4 e
      simp only [encV, if_true, List.cons_append]
      have e2 : ((numL (t.take 4) : Nat) : Int) - 999999999 + 999999999 = (numL (t.take 4) : Nat) := by omega
      rw [e2, this, List.take_append_drop]
      rfl
    rw [if_neg h1] at h
    by_cases h2 : c = 2
    · subst h2
      rw [if_pos rfl] at h
      cases t with
      | nil => cases h
      | cons m t =>
        simp only at h
        by_cases h4 : t.length < m.toNat
        · rw [if_pos h4] at h; cases h
        rw [if_neg h4] at h
        cases h
        have e : (t.take m.toNat).length = m.toNat := by rw [List.length_take]; omega
        simp only [encV]
        rw [e, b8_of]
        simp [b8]
    rw [if_neg h2] at h
    by_cases h3 : c = 3
    · subst h3
      rw [if_pos rfl] at h
      cases t with
      | nil => cases h
      | cons m t =>
        cases h
        simp only [encV]
        rw [b8_of]
        simp [b8]
    rw [if_neg h3] at h
    cases h

theorem valsP_some (k : Nat) : ∀ (l : List UInt8) (xs : List Vl) (r : List UInt8), valsP k l = some (xs, r) → (∀ x ∈ xs, chkV x.k x.n x.s = 0) → xs.length = k ∧ l = xs.flatMap encV ++ r := by
  induction k with
  | zero => intro l xs r h _; simp only [valsP] at h; cases h; exact ⟨rfl, rfl⟩
  | succ k ih =>
    intro l xs r h hx
    simp only [valsP] at h
    cases hv : valP l with
    | none => rw [hv] at h; cases h
    | some p =>
      obtain ⟨x, t⟩ := p
      rw [hv] at h
      simp only [Option.bind_some] at h
      cases hw : valsP k t with
      | none => rw [hw] at h; cases h
      | some q =>
        obtain ⟨ys, u⟩ := q
        rw [hw] at h
        simp only [Option.map_some] at h
        cases h
        obtain ⟨h1, h2⟩ := ih t ys _ hw fun y hy => hx y (by simp [hy])
        have h3 := valP_some l x t hv (hx x (by simp))
        exact ⟨by simp [h1], by rw [h3, h2]; simp⟩

theorem enc_dec (s : List UInt8) (h : decE s = 0) : chkL (decR s) = 0 ∧ encL (decR s) = s := by
  have h0 := h
  unfold decE at h
  unfold decR
  rw [if_pos h0]
  cases hp : decP s with
  | none => rw [hp] at h; cases h
  | some xs =>
    rw [hp] at h
    simp only [Option.getD_some]
    refine ⟨h, ?_⟩
    simp only at h
    unfold chkL at h
    have hl : ¬ 5 < xs.length := by intro h5; rw [if_pos h5] at h; cases h
    rw [if_neg hl] at h
    cases s with
    | nil => cases hp
    | cons c r =>
      simp only [decP] at hp
      split at hp
      · rename_i ys hy
        cases hp
        obtain ⟨h1, h2⟩ := valsP_some _ _ _ _ hy ((badL_zero _).1 h)
        unfold encL
        rw [h1, b8_of, h2]; simp
      · cases hp

theorem decR_none (s : List UInt8) (h : decE s ≠ 0) : decR s = [] := by unfold decR; rw [if_neg h]
end

section
open Go.RowKit

theorem grown_refl (w : World) (r : Option Nat) : w.grownBy w r := ⟨rfl, rfl, rfl, Nat.le_refl _, fun _ _ _ => rfl⟩
theorem grown_below {w w' : World} (h : Below w.heap.size w w') (r : Option Nat) : w.grownBy w' r := ⟨h.os, h.tape, h.output, h.size, fun k hk _ => h.block k hk⟩
theorem grown_trans {a b c : World} {r : Option Nat} (h : a.grownBy b r) (k : b.grownBy c r) : a.grownBy c r :=
  ⟨k.os.trans h.os, k.tape.trans h.tape, k.output.trans h.output, Nat.le_trans h.size k.size, fun j hj hr => (k.block j (Nat.lt_of_lt_of_le hj h.size) hr).trans (h.block j hj hr)⟩
theorem grown_set (w : World) (b o : Nat) (x : Value) : w.grownBy (w.setCell ⟨b, o, none⟩ x) (some b) :=
  ⟨rfl, rfl, rfl, by simp [World.setCell], fun k _ hr => heap_setCell_other w _ k x (by intro e; exact hr (by rw [e]))⟩
theorem grown_put {w w' : World} {r : Option Nat} (h : w.grownBy w' r) {b : Nat} (hb : w.heap.size ≤ b) (o : Nat) (x : Value) : w.grownBy (w'.setCell ⟨b, o, none⟩ x) r :=
  ⟨h.os, h.tape, h.output, by simpa [World.setCell] using h.size, fun k hk hr => (heap_setCell_other w' _ k x (by simp only; omega)).trans (h.block k hk hr)⟩
theorem grown_alloc {w w' : World} {r : Option Nat} (h : w.grownBy w' r) (o : Obj) : w.grownBy (w'.alloc o) r :=
  grown_trans h (grown_below ((Below.refl _ _).alloc (Nat.le_refl _) o) r)

theorem two {W : World} {b : Nat} {x y : Value} {t : TypeId} (h : W.heap[b]? = some (.cells #[x, y] t)) :
    (W.cell? ⟨b, 0, none⟩ = some x ∧ W.cell? ⟨b, 1, none⟩ = some y) ∧ (W.frozen? ⟨b, 0, none⟩ = false ∧ W.frozen? ⟨b, 1, none⟩ = false) := by
  refine ⟨⟨?_, ?_⟩, Lib.frozen_of_heap h 0, Lib.frozen_of_heap h 1⟩
  all_goals (rw [Lib.cell_of_heap h]; rfl)

theorem inner (l : List UInt8) (a b : Nat) : (⟨l.toArray⟩ : ByteArray).extract a b = ⟨((l.drop a).take (b - a)).toArray⟩ := by
  apply ByteArray.ext
  apply Array.ext'
  have := Lib.extract_data (⟨l.toArray⟩ : ByteArray) a b
  rw [this]
def tkB (m : Nat) (L : List UInt8) : List UInt8 := if L.length < m then [] else L.take m
def tkL (m : Nat) (L : List UInt8) : List UInt8 := if L.length < m then L else L.drop m

/-- a reader in memory -/
def RdAt (w : World) (b : Nat) (L : List UInt8) (wr : Bool) : Prop := w.heap[b]? = some (.cells #[.string ⟨L.toArray⟩, .bool wr] 107)

set_option maxRecDepth 100000 in
set_option maxHeartbeats 800000 in
theorem take_any (b : Nat) (m : Int) (L : List UInt8) (wr : Bool) (w : World) (hb : RdAt w b L wr) (h0 : 0 ≤ m) :
    Calls Tryz.prog 155 #[.pointer (some ⟨b, 0, none⟩), .int .i64 m] w fun e w' => e = .returned (.string ⟨(tkB m.toNat L).toArray⟩) ∧ RdAt w' b (tkL m.toNat L) (wr || decide (L.length < m.toNat)) ∧ w.grownBy w' (some b) := by
  obtain ⟨n, rfl⟩ := Int.eq_ofNat_of_zero_le h0
  rw [Int.toNat_natCast]
  obtain ⟨⟨c0, c1⟩, f0, f1⟩ := two hb
  have hsz := size_mk L
  by_cases h : L.length < n
  · have hd : ((n : Int) > (L.length : Int)) := by omega
    rw [decide_eq_true h, Bool.or_true, tkB, tkL, if_pos h, if_pos h]
    have H : Hid (RdAt (w.setCell ⟨b, 1, none⟩ (.bool true)) b L true) := heap_setCell_same w b 1 _ 107 _ hb
    clear hb
    go_enter Tryz.func155, Tryz.ntmps155
    go_wp2
    go_ret
    exact ⟨rfl, H.out, grown_set _ _ _ _⟩
  · have hd : ¬ ((n : Int) > (L.length : Int)) := by omega
    have hd2 : (n : Int) ≤ (L.length : Int) := by omega
    rw [decide_eq_false h, Bool.or_false, tkB, tkL, if_neg h, if_neg h]
    have H : Hid (RdAt (w.setCell ⟨b, 0, none⟩ (.string ⟨(L.drop n).toArray⟩)) b (L.drop n) wr) := heap_setCell_same w b 0 _ 107 _ hb
    clear hb
    go_enter Tryz.func155, Tryz.ntmps155
    go_wp2
    go_ret
    have e1 : (⟨L.toArray⟩ : ByteArray).extract 0 n = ⟨(L.take n).toArray⟩ := by rw [inner]; simp
    have e2 : (⟨L.toArray⟩ : ByteArray).extract n L.length = ⟨(L.drop n).toArray⟩ := by rw [inner, List.take_of_length_le (by simp)]
    rw [e2]
    exact ⟨by rw [← e1]; rfl, H.out, grown_set _ _ _ _⟩

theorem numL_append (a b : List UInt8) : numL (a ++ b) = numL a + 256 ^ a.length * numL b := by
  induction a with
  | nil => simp [numL]
  | cons c r ih =>
    rw [List.cons_append, numL, numL, ih, List.length_cons, Nat.pow_succ, Nat.mul_add, Nat.mul_comm (256 ^ r.length) 256, Nat.mul_assoc]
    omega

theorem or_nat (a b : Nat) (ha : a < 9223372036854775808) (hb : b < 9223372036854775808) (h : a ||| b < 9223372036854775808) : bits .or .i64 (a : Int) (b : Int) = ((a ||| b : Nat) : Int) := by
  show IntKind.i64.wrap ((BitVec.ofInt 64 (a : Int) ||| BitVec.ofInt 64 (b : Int)).toNat : Int) = _
  rw [BitVec.toNat_or, ofInt_u64 a (by omega), ofInt_u64 b (by omega)]
  exact Lib.wrap_i64_small _ (by omega)

theorem or_place (a c i : Nat) (hi : i ≤ 3) (ha : a < 256 ^ i) (hc : c < 256) : bits .or .i64 (a : Int) ((c * 256 ^ i : Nat) : Int) = ((a + c * 256 ^ i : Nat) : Int) := by
  have e : a ||| c * 256 ^ i = a + c * 256 ^ i := by
    have e1 : 256 ^ i = 2 ^ (8 * i) := by rw [Nat.pow_mul]
    rw [e1] at ha ⊢
    have := Nat.shiftLeft_add_eq_or_of_lt ha c
    rw [Nat.shiftLeft_eq] at this
    rw [Nat.or_comm, ← this]; omega
  have b1 : 256 ^ i ≤ 16777216 := by
    have := Nat.pow_le_pow_right (show 0 < 256 by decide) hi
    simpa using this
  have b2 : c * 256 ^ i ≤ 256 * 16777216 := Nat.mul_le_mul (by omega) b1
  rw [or_nat a _ (by omega) (by omega) (by rw [e]; omega), e]

theorem wrap_place (c i : Nat) (hi : i ≤ 3) (hc : c < 256) : wrap64 ((c : Int) * 2 ^ (8 * i)) = ((c * 256 ^ i : Nat) : Int) := by
  have e : (c : Int) * 2 ^ (8 * i) = ((c * 256 ^ i : Nat) : Int) := by
    have e1 : 256 ^ i = 2 ^ (8 * i) := by rw [Nat.pow_mul]
    rw [e1]; simp
  have b1 : 256 ^ i ≤ 16777216 := by
    have := Nat.pow_le_pow_right (show 0 < 256 by decide) hi
    simpa using this
  have b2 : c * 256 ^ i ≤ 256 * 16777216 := Nat.mul_le_mul (by omega) b1
  rw [e]
  unfold wrap64
  omega

theorem tkB_len (m : Nat) (L : List UInt8) : (tkB m L).length ≤ m := by
  unfold tkB
  by_cases h : L.length < m
  · rw [if_pos h]; exact Nat.zero_le _
  · rw [if_neg h, List.length_take]; omega

theorem grown_bytes (w : World) (e : TypeId) (s : ByteArray) (r : Option Nat) : w.grownBy (Lib.bytesWorld w e s) r :=
  ⟨by simp [Lib.bytesWorld, World.freeze, World.alloc, World.drew, -World.alloc_eq, -World.drew_eq], by simp [Lib.bytesWorld, World.freeze, World.alloc, World.drew, -World.alloc_eq, -World.drew_eq], by simp [Lib.bytesWorld, World.freeze, World.alloc, World.drew, -World.alloc_eq, -World.drew_eq],
   by rw [Lib.bytesWorld_size]; omega, fun k hk _ => Lib.bytesWorld_at_old w e s k hk⟩

theorem numL_at (B : List UInt8) (k : Nat) (c : UInt8) (h : B[k]? = some c) : numL (B.take (k + 1)) = numL (B.take k) + c.toNat * 256 ^ k := by
  obtain ⟨hk, rfl⟩ := List.getElem?_eq_some_iff.1 h
  rw [List.take_succ_eq_append_getElem hk, numL_append]
  have : (B.take k).length = k := by rw [List.length_take]; omega
  rw [this]
  simp [numL, Nat.mul_comm]

set_option maxRecDepth 100000 in
set_option maxHeartbeats 1600000 in
theorem number_any (b : Nat) (m : Int) (L : List UInt8) (wr : Bool) (w : World) (hb : RdAt w b L wr) (h0 : 0 ≤ m) (hm : m ≤ 4) :
    Calls Tryz.prog 127 #[.pointer (some ⟨b, 0, none⟩), .int .i64 m] w fun e w' => e = .returned (.int .i64 (numL (tkB m.toNat L) : Nat)) ∧ RdAt w' b (tkL m.toNat L) (wr || decide (L.length < m.toNat)) ∧ w.grownBy w' (some b) := by
  have ht := take_any b m L wr w hb h0
  obtain ⟨B, hB⟩ : ∃ B, tkB m.toNat L = B := ⟨_, rfl⟩
  have hl := tkB_len m.toNat L
  have hbl := (Array.getElem?_eq_some_iff.1 hb).1
  rw [hB] at ht hl ⊢
  clear hB hb
  have hl4 : B.length ≤ 4 := by omega
  have hsz := size_mk B
  generalize tkL m.toNat L = L' at ht ⊢
  generalize (wr || decide (L.length < m.toNat)) = wr' at ht ⊢
  go_enter Tryz.func127, Tryz.ntmps127
  have hcv := fun W => Lib.run_convert_string_bytes (P := Tryz.prog) W 9 134 5 ⟨B.toArray⟩ (u := .string) Tryz.underlying9 Tryz.underlying134 Tryz.underlying5
  go_wp2_with (go_at_call 155; refine ht.mono ?_; rintro e w1 ⟨rfl, r1, g1⟩)
  have hcell := Lib.bytesWorld_cell w1 5 ⟨B.toArray⟩
  have g2 := hide (grown_trans g1 (grown_bytes w1 5 ⟨B.toArray⟩ (some b)))
  have r2 : Hid (RdAt (Lib.bytesWorld w1 5 ⟨B.toArray⟩) b L' wr') := (Lib.bytesWorld_at_old w1 5 ⟨B.toArray⟩ b (Nat.lt_of_lt_of_le hbl g1.size)).trans r1
  clear r1 g1 hcv ht
  generalize Lib.bytesWorld w1 5 ⟨B.toArray⟩ = W at hcell g2 r2 ⊢
  generalize w1.heap.size = nb at hcell ⊢
  go_loop [5, 13] (fun n i => ∃ k : Nat, k ≤ B.length ∧ i = .int .i64 k ∧ n = .int .i64 (numL (B.take k) : Nat)) (fun _ i => B.length - (intOf i).toNat)
  case atStart => exact ⟨0, Nat.zero_le _, rfl, rfl⟩
  case round =>
    obtain ⟨k, hk, rfl, rfl⟩ := hrel
    by_cases hlt : k < B.length
    · obtain ⟨c, hc⟩ : ∃ c, B[k]? = some c := ⟨B[k], List.getElem?_eq_getElem hlt⟩
      have hc0 : W.cell? ⟨nb, k, none⟩ = some (.int .u8 (c.toNat : Int)) := by
        rw [hcell k (by rw [size_mk]; exact hlt)]
        simp [List.getD, hc]
      have HN := hide (numL_at B k c hc)
      have hN := numL_lt (B.take k)
      have hkl : (B.take k).length = k := by rw [List.length_take]; omega
      rw [hkl] at hN
      have hc1 := c.toNat_lt
      clear hcell hc hkl
      generalize numL (B.take k) = a at HN hN ⊢
      obtain ⟨a', HA⟩ : ∃ a', Hid (numL (B.take (k + 1)) = a') := ⟨_, rfl⟩
      rw [Hid, HA.out] at HN
      replace HN : Hid (a' = a + c.toNat * 256 ^ k) := HN
      have HO := hide (or_place a c.toNat k (by omega) hN hc1)
      have HW := hide (wrap_place c.toNat k (by omega) hc1)
      have hlt' : (k : Int) < (B.length : Int) := by omega
      go_wp2
      go_round
      case rel =>
        refine ⟨k + 1, hlt, by go_num, ?_⟩
        rw [HA.out, HN.out, HW.out, HO.out]
      case measure => simp [intOf]; omega
    · go_wp2
      go_ret
      exact ⟨by rw [List.take_of_length_le (by omega)]; rfl, r2.out, g2.out⟩
end

section
open Go.RowKit

theorem RdAt.lt {w : World} {b : Nat} {L : List UInt8} {wr : Bool} (h : RdAt w b L wr) : b < w.heap.size := (Array.getElem?_eq_some_iff.1 h).1
theorem RdAt.alloc {w : World} {b : Nat} {L : List UInt8} {wr : Bool} (h : RdAt w b L wr) (o : Obj) : RdAt (w.alloc o) b L wr :=
  (((Below.refl w.heap.size w).alloc (Nat.le_refl _) o).block b h.lt).trans h
theorem RdAt.put {w : World} {b : Nat} {L : List UInt8} {wr : Bool} (h : RdAt w b L wr) {c : Nat} (hc : c ≠ b) (o : Nat) (x : Value) : RdAt (w.setCell ⟨c, o, none⟩ x) b L wr :=
  (heap_setCell_other w ⟨c, o, none⟩ b x (by simpa using fun e => hc e.symm)).trans h
theorem RdAt.wrong {w : World} {b : Nat} {L : List UInt8} {wr : Bool} (h : RdAt w b L wr) : RdAt (w.setCell ⟨b, 1, none⟩ (.bool true)) b L true := heap_setCell_same w b 1 _ 107 _ h

/-- what 'value' leaves -/
def ValPost (w : World) (b : Nat) (L : List UInt8) (e : Ending) (w' : World) : Prop :=
  ∃ (x : Vl) (L' : List UInt8) (wr : Bool), e = .returned (vlV x) ∧ RdAt w' b L' wr ∧ w.grownBy w' (some b) ∧ valP L = if wr = true then none else some (x, L')



set_option maxRecDepth 100000 in
set_option maxHeartbeats 1600000 in
theorem value_no (b : Nat) (w : World) (hb : RdAt w b ([]) false) :
    Calls Tryz.prog 128 #[.pointer (some ⟨b, 0, none⟩)] w fun e w' => ValPost w b ([]) e w' := by
  have n1 := number_any b 1 _ false _ (hb.alloc (.cells #[.int .i64 0, .int .i64 0, .string ⟨#[]⟩] 49)) (by decide) (by decide)
  have hlt := hb.lt
  have k0 : (w.alloc (.cells #[.int .i64 0, .int .i64 0, .string ⟨#[]⟩] 49)).heap[w.heap.size]? = some (.cells #[.int .i64 0, .int .i64 0, .string ⟨#[]⟩] 49) := heap_alloc_new _ _
  have g0 := grown_alloc (grown_refl w (some b)) (.cells #[.int .i64 0, .int .i64 0, .string ⟨#[]⟩] 49)
  have e1 : numL (tkB 1 []) = 0 := by simp [tkB, numL]
  have e2 : tkL 1 [] = [] := by simp [tkL]
  have e3 : decide (([] : List UInt8).length < 1) = true := by simp
  rw [show (1 : Int).toNat = 1 from rfl, e1, e2, e3] at n1
  clear e1 e2 e3
  clear hb
  go_enter Tryz.func128, Tryz.ntmps128
  go_wp2_with fail
  refine n1.mono ?_
  rintro e w1 ⟨rfl, r1, g1⟩
  have k1 := (g1.block w.heap.size (by simp) (by simp; omega)).trans k0
  have z1 : w.heap.size < w1.heap.size := by have := g1.size; simp at this; omega
  have g1 := grown_trans g0 g1
  have p : w.heap.size ≠ b := by omega
  have zb : b < w1.heap.size := by omega
  clear k0 g0 n1
  obtain ⟨⟨c0, c1, c2⟩, f0, f1, f2⟩ := three k1
  have kz := three_put k1 (.int .i64 0) (.int .i64 0) (.string ⟨#[]⟩)
  have rz := ((r1.put p 0 (.int .i64 0)).put p 1 (.int .i64 0)).put p 2 (.string ⟨#[]⟩)
  have gz := grown_put (grown_put (grown_put g1 (Nat.le_refl _) 0 (.int .i64 0)) (Nat.le_refl _) 1 (.int .i64 0)) (Nat.le_refl _) 2 (.string ⟨#[]⟩)
  have kz := (((Below.refl _ _).alloc (Nat.le_refl _) (.cells #[.int .i64 0, .int .i64 0, .string ⟨#[]⟩] 49)).block _ (Array.getElem?_eq_some_iff.1 kz).1).trans kz
  have rz := rz.alloc (.cells #[.int .i64 0, .int .i64 0, .string ⟨#[]⟩] 49)
  have gz := grown_alloc gz (.cells #[.int .i64 0, .int .i64 0, .string ⟨#[]⟩] 49)
  have Kz := hide kz
  have Rz := hide rz
  have Gz := hide gz
  clear kz rz gz 
  go_wp2_with fail
  generalize ((((w1.setCell ⟨w.heap.size, 0, none⟩ (.int .i64 0)).setCell ⟨w.heap.size, 1, none⟩ (.int .i64 0)).setCell ⟨w.heap.size, 2, none⟩ (.string ⟨#[]⟩)).alloc (.cells #[.int .i64 0, .int .i64 0, .string ⟨#[]⟩] 49)) = wz at *
  obtain ⟨⟨e0, e1, e2⟩, -⟩ := three Kz.out
  refine bodyPost_ret (v := vlV ⟨0, 0, []⟩) ?_ rfl ⟨_, _, true, rfl, Rz.out, Gz.out, rfl⟩
  simp [results, Tryz.results128, go_sem, vlV, e0, e1, e2]


set_option maxRecDepth 100000 in
set_option maxHeartbeats 1600000 in
theorem value_0 (b : Nat) (r : List UInt8) (w : World) (hb : RdAt w b (0 :: r) false) :
    Calls Tryz.prog 128 #[.pointer (some ⟨b, 0, none⟩)] w fun e w' => ValPost w b (0 :: r) e w' := by
  have n1 := number_any b 1 _ false _ (hb.alloc (.cells #[.int .i64 0, .int .i64 0, .string ⟨#[]⟩] 49)) (by decide) (by decide)
  have hlt := hb.lt
  have k0 : (w.alloc (.cells #[.int .i64 0, .int .i64 0, .string ⟨#[]⟩] 49)).heap[w.heap.size]? = some (.cells #[.int .i64 0, .int .i64 0, .string ⟨#[]⟩] 49) := heap_alloc_new _ _
  have g0 := grown_alloc (grown_refl w (some b)) (.cells #[.int .i64 0, .int .i64 0, .string ⟨#[]⟩] 49)
  have e1 : numL (tkB 1 (0 :: r)) = 0 := by simp [tkB, numL]
  have e2 : tkL 1 (0 :: r) = r := by simp [tkL]
  have e3 : decide ((0 :: r).length < 1) = false := by simp
  rw [show (1 : Int).toNat = 1 from rfl, e1, e2, e3] at n1
  clear e1 e2 e3
  clear hb
  go_enter Tryz.func128, Tryz.ntmps128
  go_wp2_with fail
  refine n1.mono ?_
  rintro e w1 ⟨rfl, r1, g1⟩
  have k1 := (g1.block w.heap.size (by simp) (by simp; omega)).trans k0
  have z1 : w.heap.size < w1.heap.size := by have := g1.size; simp at this; omega
  have g1 := grown_trans g0 g1
  have p : w.heap.size ≠ b := by omega
  have zb : b < w1.heap.size := by omega
  clear k0 g0 n1
  obtain ⟨⟨c0, c1, c2⟩, f0, f1, f2⟩ := three k1
  have kz := three_put k1 (.int .i64 0) (.int .i64 0) (.string ⟨#[]⟩)
  have rz := ((r1.put p 0 (.int .i64 0)).put p 1 (.int .i64 0)).put p 2 (.string ⟨#[]⟩)
  have gz := grown_put (grown_put (grown_put g1 (Nat.le_refl _) 0 (.int .i64 0)) (Nat.le_refl _) 1 (.int .i64 0)) (Nat.le_refl _) 2 (.string ⟨#[]⟩)
  have kz := (((Below.refl _ _).alloc (Nat.le_refl _) (.cells #[.int .i64 0, .int .i64 0, .string ⟨#[]⟩] 49)).block _ (Array.getElem?_eq_some_iff.1 kz).1).trans kz
  have rz := rz.alloc (.cells #[.int .i64 0, .int .i64 0, .string ⟨#[]⟩] 49)
  have gz := grown_alloc gz (.cells #[.int .i64 0, .int .i64 0, .string ⟨#[]⟩] 49)
  have Kz := hide kz
  have Rz := hide rz
  have Gz := hide gz
  clear kz rz gz 
  go_wp2_with fail
  generalize ((((w1.setCell ⟨w.heap.size, 0, none⟩ (.int .i64 0)).setCell ⟨w.heap.size, 1, none⟩ (.int .i64 0)).setCell ⟨w.heap.size, 2, none⟩ (.string ⟨#[]⟩)).alloc (.cells #[.int .i64 0, .int .i64 0, .string ⟨#[]⟩] 49)) = wz at *
  obtain ⟨⟨e0, e1, e2⟩, -⟩ := three Kz.out
  refine bodyPost_ret (v := vlV ⟨0, 0, []⟩) ?_ rfl ⟨_, _, false, rfl, Rz.out, Gz.out, rfl⟩
  simp [results, Tryz.results128, go_sem, vlV, e0, e1, e2]


theorem valP_one (r : List UInt8) : valP (1 :: r) = if (false || decide (r.length < 4)) = true then none else some (⟨1, (numL (tkB 4 r) : Nat) - 999999999, []⟩, tkL 4 r) := by
  by_cases h : r.length < 4
  · simp [h, valP]
  · simp [h, valP, tkB, tkL]
theorem valP_two (r : List UInt8) : valP (2 :: r) = if ((false || decide (r.length < 1)) || decide ((tkL 1 r).length < numL (tkB 1 r))) = true then none else some (⟨2, 0, tkB (numL (tkB 1 r)) (tkL 1 r)⟩, tkL (numL (tkB 1 r)) (tkL 1 r)) := by
  cases r with
  | nil => simp [valP]
  | cons m r =>
    have e1 : numL (tkB 1 (m :: r)) = m.toNat := by simp [tkB, numL]
    have e2 : tkL 1 (m :: r) = r := by simp [tkL]
    rw [e1, e2]
    simp only [valP]
    rw [if_neg (by decide), if_neg (by decide), if_pos trivial]
    by_cases h : r.length < m.toNat
    · simp [h]
    · simp [h, tkB, tkL]
theorem valP_three (r : List UInt8) : valP (3 :: r) = if (false || decide (r.length < 1)) = true then none else some (⟨3, (numL (tkB 1 r) : Nat), []⟩, tkL 1 r) := by
  cases r with
  | nil => simp [valP]
  | cons m r =>
    have e1 : numL (tkB 1 (m :: r)) = m.toNat := by simp [tkB, numL]
    have e2 : tkL 1 (m :: r) = r := by simp [tkL]
    rw [e1, e2]
    simp [valP]
theorem numL_4 (r : List UInt8) : ((numL (tkB 4 r) : Nat) : Int) < 4294967296 := by
  have h := numL_lt (tkB 4 r)
  have h2 := Nat.pow_le_pow_right (show 0 < 256 by decide) (tkB_len 4 r)
  have h3 : (256 : Nat) ^ 4 = 4294967296 := by decide
  omega
theorem numL_1 (r : List UInt8) : ((numL (tkB 1 r) : Nat) : Int) < 256 := by
  have h := numL_lt (tkB 1 r)
  have h2 := Nat.pow_le_pow_right (show 0 < 256 by decide) (tkB_len 1 r)
  have h3 : (256 : Nat) ^ 1 = 256 := by decide
  omega


set_option maxRecDepth 100000 in
set_option maxHeartbeats 1600000 in
theorem value_1 (b : Nat) (r : List UInt8) (w : World) (hb : RdAt w b (1 :: r) false) :
    Calls Tryz.prog 128 #[.pointer (some ⟨b, 0, none⟩)] w fun e w' => ValPost w b (1 :: r) e w' := by
  have n1 := number_any b 1 _ false _ (hb.alloc (.cells #[.int .i64 0, .int .i64 0, .string ⟨#[]⟩] 49)) (by decide) (by decide)
  have hlt := hb.lt
  have k0 : (w.alloc (.cells #[.int .i64 0, .int .i64 0, .string ⟨#[]⟩] 49)).heap[w.heap.size]? = some (.cells #[.int .i64 0, .int .i64 0, .string ⟨#[]⟩] 49) := heap_alloc_new _ _
  have g0 := grown_alloc (grown_refl w (some b)) (.cells #[.int .i64 0, .int .i64 0, .string ⟨#[]⟩] 49)
  have e1 : numL (tkB 1 (1 :: r)) = 1 := by simp [tkB, numL]
  have e2 : tkL 1 (1 :: r) = r := by simp [tkL]
  have e3 : decide ((1 :: r).length < 1) = false := by simp
  rw [show (1 : Int).toNat = 1 from rfl, e1, e2, e3] at n1
  clear e1 e2 e3
  have HV := hide (valP_one r)
  have hn := numL_4 r
  clear hb
  go_enter Tryz.func128, Tryz.ntmps128
  go_wp2_with fail
  refine n1.mono ?_
  rintro e w1 ⟨rfl, r1, g1⟩
  have k1 := (g1.block w.heap.size (by simp) (by simp; omega)).trans k0
  have z1 : w.heap.size < w1.heap.size := by have := g1.size; simp at this; omega
  have g1 := grown_trans g0 g1
  have p : w.heap.size ≠ b := by omega
  have zb : b < w1.heap.size := by omega
  clear k0 g0 n1
  have n2 := number_any b 4 r (false || false) _ (r1.alloc (.cells #[.int .i64 1, .int .i64 0, .string ⟨#[]⟩] 49)) (by decide) (by decide)
  have g1 := grown_alloc g1 (.cells #[.int .i64 1, .int .i64 0, .string ⟨#[]⟩] 49)
  have k1 : (w1.alloc (.cells #[.int .i64 1, .int .i64 0, .string ⟨#[]⟩] 49)).heap[w.heap.size]? = some (.cells #[.int .i64 0, .int .i64 0, .string ⟨#[]⟩] 49) := (((Below.refl w1.heap.size w1).alloc (Nat.le_refl _) _).block _ z1).trans k1
  have v1 : (w1.alloc (.cells #[.int .i64 1, .int .i64 0, .string ⟨#[]⟩] 49)).heap[w1.heap.size]? = some (.cells #[.int .i64 1, .int .i64 0, .string ⟨#[]⟩] 49) := heap_alloc_new _ _
  rw [show (4 : Int).toNat = 4 from rfl, Bool.false_or] at n2
  clear r1
  go_wp2_with fail
  refine n2.mono ?_
  rintro e w2 ⟨rfl, r2, g2⟩
  have k2 := (g2.block w.heap.size (by simp; omega) (by simp; omega)).trans k1
  have v2 := (g2.block w1.heap.size (by simp) (by simp; omega)).trans v1
  have z2 : w1.heap.size < w2.heap.size := by have := g2.size; simp at this; omega
  have g2 := grown_trans g1 g2
  clear k1 v1 g1 n2
  generalize numL (tkB 4 r) = n at HV hn ⊢
  generalize tkL 4 r = L' at HV r2
  generalize (false || decide (r.length < 4)) = wr at HV r2
  obtain ⟨⟨v0, v1, v2⟩, y0, y1, y2⟩ := three v2
  obtain ⟨⟨c0, c1, c2⟩, f0, f1, f2⟩ := three k2
  have kk' := (heap_setCell_other w2 ⟨w1.heap.size, 1, none⟩ w.heap.size (.int .i64 ((n : Int) - 999999999)) (by simp; omega)).trans k2
  have rr' := r2.put (show w1.heap.size ≠ b by omega) 1 (.int .i64 ((n : Int) - 999999999))
  have gg' := grown_put g2 (show w.heap.size ≤ w1.heap.size by omega) 1 (.int .i64 ((n : Int) - 999999999))
  have kz := three_put kk' (.int .i64 1) (.int .i64 ((n : Int) - 999999999)) (.string ⟨#[]⟩)
  have rz := ((rr'.put p 0 (.int .i64 1)).put p 1 (.int .i64 ((n : Int) - 999999999))).put p 2 (.string ⟨#[]⟩)
  have gz := grown_put (grown_put (grown_put gg' (Nat.le_refl _) 0 (.int .i64 1)) (Nat.le_refl _) 1 (.int .i64 ((n : Int) - 999999999))) (Nat.le_refl _) 2 (.string ⟨#[]⟩)
  have Kz := hide kz
  have Rz := hide rz
  have Gz := hide gz
  clear kz rz gz kk' rr' gg'
  go_wp2_with fail
  generalize ((((w2.setCell ⟨w1.heap.size, 1, none⟩ (.int .i64 ((n : Int) - 999999999))).setCell ⟨w.heap.size, 0, none⟩ (.int .i64 1)).setCell ⟨w.heap.size, 1, none⟩ (.int .i64 ((n : Int) - 999999999))).setCell ⟨w.heap.size, 2, none⟩ (.string ⟨#[]⟩)) = wz at *
  obtain ⟨⟨e0, e1, e2⟩, -⟩ := three Kz.out
  refine bodyPost_ret (v := vlV ⟨1, ((n : Int) - 999999999), []⟩) ?_ rfl ⟨_, _, _, rfl, Rz.out, Gz.out, HV.out⟩
  simp [results, Tryz.results128, go_sem, vlV, e0, e1, e2]


set_option maxRecDepth 100000 in
set_option maxHeartbeats 1600000 in
theorem value_3 (b : Nat) (r : List UInt8) (w : World) (hb : RdAt w b (3 :: r) false) :
    Calls Tryz.prog 128 #[.pointer (some ⟨b, 0, none⟩)] w fun e w' => ValPost w b (3 :: r) e w' := by
  have n1 := number_any b 1 _ false _ (hb.alloc (.cells #[.int .i64 0, .int .i64 0, .string ⟨#[]⟩] 49)) (by decide) (by decide)
  have hlt := hb.lt
  have k0 : (w.alloc (.cells #[.int .i64 0, .int .i64 0, .string ⟨#[]⟩] 49)).heap[w.heap.size]? = some (.cells #[.int .i64 0, .int .i64 0, .string ⟨#[]⟩] 49) := heap_alloc_new _ _
  have g0 := grown_alloc (grown_refl w (some b)) (.cells #[.int .i64 0, .int .i64 0, .string ⟨#[]⟩] 49)
  have e1 : numL (tkB 1 (3 :: r)) = 3 := by simp [tkB, numL]
  have e2 : tkL 1 (3 :: r) = r := by simp [tkL]
  have e3 : decide ((3 :: r).length < 1) = false := by simp
  rw [show (1 : Int).toNat = 1 from rfl, e1, e2, e3] at n1
  clear e1 e2 e3
  have HV := hide (valP_three r)
  clear hb
  go_enter Tryz.func128, Tryz.ntmps128
  go_wp2_with fail
  refine n1.mono ?_
  rintro e w1 ⟨rfl, r1, g1⟩
  have k1 := (g1.block w.heap.size (by simp) (by simp; omega)).trans k0
  have z1 : w.heap.size < w1.heap.size := by have := g1.size; simp at this; omega
  have g1 := grown_trans g0 g1
  have p : w.heap.size ≠ b := by omega
  have zb : b < w1.heap.size := by omega
  clear k0 g0 n1
  have n2 := number_any b 1 r (false || false) _ (r1.alloc (.cells #[.int .i64 3, .int .i64 0, .string ⟨#[]⟩] 49)) (by decide) (by decide)
  have g1 := grown_alloc g1 (.cells #[.int .i64 3, .int .i64 0, .string ⟨#[]⟩] 49)
  have k1 : (w1.alloc (.cells #[.int .i64 3, .int .i64 0, .string ⟨#[]⟩] 49)).heap[w.heap.size]? = some (.cells #[.int .i64 0, .int .i64 0, .string ⟨#[]⟩] 49) := (((Below.refl w1.heap.size w1).alloc (Nat.le_refl _) _).block _ z1).trans k1
  have v1 : (w1.alloc (.cells #[.int .i64 3, .int .i64 0, .string ⟨#[]⟩] 49)).heap[w1.heap.size]? = some (.cells #[.int .i64 3, .int .i64 0, .string ⟨#[]⟩] 49) := heap_alloc_new _ _
  rw [show (1 : Int).toNat = 1 from rfl, Bool.false_or] at n2
  clear r1
  go_wp2_with fail
  refine n2.mono ?_
  rintro e w2 ⟨rfl, r2, g2⟩
  have k2 := (g2.block w.heap.size (by simp; omega) (by simp; omega)).trans k1
  have v2 := (g2.block w1.heap.size (by simp) (by simp; omega)).trans v1
  have z2 : w1.heap.size < w2.heap.size := by have := g2.size; simp at this; omega
  have g2 := grown_trans g1 g2
  clear k1 v1 g1 n2
  generalize numL (tkB 1 r) = n at HV ⊢
  generalize tkL 1 r = L' at HV r2
  generalize (false || decide (r.length < 1)) = wr at HV r2
  obtain ⟨⟨v0, v1, v2⟩, y0, y1, y2⟩ := three v2
  obtain ⟨⟨c0, c1, c2⟩, f0, f1, f2⟩ := three k2
  have kk' := (heap_setCell_other w2 ⟨w1.heap.size, 1, none⟩ w.heap.size (.int .i64 (n : Int)) (by simp; omega)).trans k2
  have rr' := r2.put (show w1.heap.size ≠ b by omega) 1 (.int .i64 (n : Int))
  have gg' := grown_put g2 (show w.heap.size ≤ w1.heap.size by omega) 1 (.int .i64 (n : Int))
  have kz := three_put kk' (.int .i64 3) (.int .i64 (n : Int)) (.string ⟨#[]⟩)
  have rz := ((rr'.put p 0 (.int .i64 3)).put p 1 (.int .i64 (n : Int))).put p 2 (.string ⟨#[]⟩)
  have gz := grown_put (grown_put (grown_put gg' (Nat.le_refl _) 0 (.int .i64 3)) (Nat.le_refl _) 1 (.int .i64 (n : Int))) (Nat.le_refl _) 2 (.string ⟨#[]⟩)
  have Kz := hide kz
  have Rz := hide rz
  have Gz := hide gz
  clear kz rz gz kk' rr' gg'
  go_wp2_with fail
  generalize ((((w2.setCell ⟨w1.heap.size, 1, none⟩ (.int .i64 (n : Int))).setCell ⟨w.heap.size, 0, none⟩ (.int .i64 3)).setCell ⟨w.heap.size, 1, none⟩ (.int .i64 (n : Int))).setCell ⟨w.heap.size, 2, none⟩ (.string ⟨#[]⟩)) = wz at *
  obtain ⟨⟨e0, e1, e2⟩, -⟩ := three Kz.out
  refine bodyPost_ret (v := vlV ⟨3, (n : Int), []⟩) ?_ rfl ⟨_, _, _, rfl, Rz.out, Gz.out, HV.out⟩
  simp [results, Tryz.results128, go_sem, vlV, e0, e1, e2]


set_option maxRecDepth 100000 in
set_option maxHeartbeats 1600000 in
theorem value_2 (b : Nat) (r : List UInt8) (w : World) (hb : RdAt w b (2 :: r) false) :
    Calls Tryz.prog 128 #[.pointer (some ⟨b, 0, none⟩)] w fun e w' => ValPost w b (2 :: r) e w' := by
  have n1 := number_any b 1 _ false _ (hb.alloc (.cells #[.int .i64 0, .int .i64 0, .string ⟨#[]⟩] 49)) (by decide) (by decide)
  have hlt := hb.lt
  have k0 : (w.alloc (.cells #[.int .i64 0, .int .i64 0, .string ⟨#[]⟩] 49)).heap[w.heap.size]? = some (.cells #[.int .i64 0, .int .i64 0, .string ⟨#[]⟩] 49) := heap_alloc_new _ _
  have g0 := grown_alloc (grown_refl w (some b)) (.cells #[.int .i64 0, .int .i64 0, .string ⟨#[]⟩] 49)
  have e1 : numL (tkB 1 (2 :: r)) = 2 := by simp [tkB, numL]
  have e2 : tkL 1 (2 :: r) = r := by simp [tkL]
  have e3 : decide ((2 :: r).length < 1) = false := by simp
  rw [show (1 : Int).toNat = 1 from rfl, e1, e2, e3] at n1
  clear e1 e2 e3
  have HV := hide (valP_two r)
  clear hb
  go_enter Tryz.func128, Tryz.ntmps128
  go_wp2_with fail
  refine n1.mono ?_
  rintro e w1 ⟨rfl, r1, g1⟩
  have k1 := (g1.block w.heap.size (by simp) (by simp; omega)).trans k0
  have z1 : w.heap.size < w1.heap.size := by have := g1.size; simp at this; omega
  have g1 := grown_trans g0 g1
  have p : w.heap.size ≠ b := by omega
  have zb : b < w1.heap.size := by omega
  clear k0 g0 n1
  have n2 := number_any b 1 r (false || false) _ (r1.alloc (.cells #[.int .i64 2, .int .i64 0, .string ⟨#[]⟩] 49)) (by decide) (by decide)
  have g1 := grown_alloc g1 (.cells #[.int .i64 2, .int .i64 0, .string ⟨#[]⟩] 49)
  have k1 : (w1.alloc (.cells #[.int .i64 2, .int .i64 0, .string ⟨#[]⟩] 49)).heap[w.heap.size]? = some (.cells #[.int .i64 0, .int .i64 0, .string ⟨#[]⟩] 49) := (((Below.refl w1.heap.size w1).alloc (Nat.le_refl _) _).block _ z1).trans k1
  have v1 : (w1.alloc (.cells #[.int .i64 2, .int .i64 0, .string ⟨#[]⟩] 49)).heap[w1.heap.size]? = some (.cells #[.int .i64 2, .int .i64 0, .string ⟨#[]⟩] 49) := heap_alloc_new _ _
  rw [show (1 : Int).toNat = 1 from rfl, Bool.false_or] at n2
  clear r1
  go_wp2_with fail
  refine n2.mono ?_
  rintro e w2 ⟨rfl, r2, g2⟩
  have k2 := (g2.block w.heap.size (by simp; omega) (by simp; omega)).trans k1
  have v2 := (g2.block w1.heap.size (by simp) (by simp; omega)).trans v1
  have z2 : w1.heap.size < w2.heap.size := by have := g2.size; simp at this; omega
  have g2 := grown_trans g1 g2
  clear k1 v1 g1 n2
  generalize numL (tkB 1 r) = n at HV ⊢
  generalize tkL 1 r = L1 at HV r2
  generalize (false || decide (r.length < 1)) = wr1 at HV r2
  have n3 := take_any b (n : Int) L1 wr1 w2 r2 (by omega)
  rw [Int.toNat_natCast] at n3
  clear r2
  go_wp2_with fail
  refine n3.mono ?_
  rintro e w3 ⟨rfl, r3, g3⟩
  have k3 := (g3.block w.heap.size (by omega) (by simp; omega)).trans k2
  have v3 := (g3.block w1.heap.size (by omega) (by simp; omega)).trans v2
  have g3 := grown_trans g2 g3
  clear k2 v2 g2 n3
  generalize tkB n L1 = s at HV ⊢
  generalize tkL n L1 = L' at HV r3
  generalize (wr1 || decide (L1.length < n)) = wr at HV r3
  obtain ⟨⟨v0, v1, v2⟩, y0, y1, y2⟩ := three v3
  obtain ⟨⟨c0, c1, c2⟩, f0, f1, f2⟩ := three k3
  have kk' := (heap_setCell_other w3 ⟨w1.heap.size, 2, none⟩ w.heap.size (.string ⟨s.toArray⟩) (by simp; omega)).trans k3
  have rr' := r3.put (show w1.heap.size ≠ b by omega) 2 (.string ⟨s.toArray⟩)
  have gg' := grown_put g3 (show w.heap.size ≤ w1.heap.size by omega) 2 (.string ⟨s.toArray⟩)
  have kz := three_put kk' (.int .i64 2) (.int .i64 0) (.string ⟨s.toArray⟩)
  have rz := ((rr'.put p 0 (.int .i64 2)).put p 1 (.int .i64 0)).put p 2 (.string ⟨s.toArray⟩)
  have gz := grown_put (grown_put (grown_put gg' (Nat.le_refl _) 0 (.int .i64 2)) (Nat.le_refl _) 1 (.int .i64 0)) (Nat.le_refl _) 2 (.string ⟨s.toArray⟩)
  have Kz := hide kz
  have Rz := hide rz
  have Gz := hide gz
  clear kz rz gz kk' rr' gg'
  go_wp2_with fail
  generalize ((((w3.setCell ⟨w1.heap.size, 2, none⟩ (.string ⟨s.toArray⟩)).setCell ⟨w.heap.size, 0, none⟩ (.int .i64 2)).setCell ⟨w.heap.size, 1, none⟩ (.int .i64 0)).setCell ⟨w.heap.size, 2, none⟩ (.string ⟨s.toArray⟩)) = wz at *
  obtain ⟨⟨e0, e1, e2⟩, -⟩ := three Kz.out
  refine bodyPost_ret (v := vlV ⟨2, 0, s⟩) ?_ rfl ⟨_, _, _, rfl, Rz.out, Gz.out, HV.out⟩
  simp [results, Tryz.results128, go_sem, vlV, e0, e1, e2]


set_option maxRecDepth 100000 in
set_option maxHeartbeats 1600000 in
theorem value_x (b : Nat) (c : UInt8) (r : List UInt8) (h0 : ((c.toNat : Int) == 0) = false) (h1 : ((c.toNat : Int) == 1) = false) (h2 : ((c.toNat : Int) == 2) = false) (h3 : ((c.toNat : Int) == 3) = false) (w : World) (hb : RdAt w b (c :: r) false) :
    Calls Tryz.prog 128 #[.pointer (some ⟨b, 0, none⟩)] w fun e w' => ValPost w b (c :: r) e w' := by
  have n1 := number_any b 1 _ false _ (hb.alloc (.cells #[.int .i64 0, .int .i64 0, .string ⟨#[]⟩] 49)) (by decide) (by decide)
  have hlt := hb.lt
  have k0 : (w.alloc (.cells #[.int .i64 0, .int .i64 0, .string ⟨#[]⟩] 49)).heap[w.heap.size]? = some (.cells #[.int .i64 0, .int .i64 0, .string ⟨#[]⟩] 49) := heap_alloc_new _ _
  have g0 := grown_alloc (grown_refl w (some b)) (.cells #[.int .i64 0, .int .i64 0, .string ⟨#[]⟩] 49)
  have e1 : numL (tkB 1 (c :: r)) = c.toNat := by simp [tkB, numL]
  have e2 : tkL 1 (c :: r) = r := by simp [tkL]
  have e3 : decide ((c :: r).length < 1) = false := by simp
  rw [show (1 : Int).toNat = 1 from rfl, e1, e2, e3] at n1
  clear e1 e2 e3
  have HV : Hid (valP (c :: r) = none) := by
    have hc : ∀ d : UInt8, ((c.toNat : Int) == (d.toNat : Int)) = false → c ≠ d := by
      intro d hd e; rw [e] at hd; simp at hd
    show valP (c :: r) = none
    simp only [valP]
    rw [if_neg (hc 0 h0), if_neg (hc 1 h1), if_neg (hc 2 h2), if_neg (hc 3 h3)]
  clear hb
  go_enter Tryz.func128, Tryz.ntmps128
  go_wp2_with fail
  refine n1.mono ?_
  rintro e w1 ⟨rfl, r1, g1⟩
  have k1 := (g1.block w.heap.size (by simp) (by simp; omega)).trans k0
  have z1 : w.heap.size < w1.heap.size := by have := g1.size; simp at this; omega
  have g1 := grown_trans g0 g1
  have p : w.heap.size ≠ b := by omega
  have zb : b < w1.heap.size := by omega
  clear k0 g0 n1
  obtain ⟨⟨x0, x1⟩, y0, y1⟩ := two r1
  obtain ⟨⟨a0, a1, a2⟩, b0, b1, b2⟩ := three k1
  have k1 := (heap_setCell_other w1 ⟨b, 1, none⟩ w.heap.size (.bool true) (by simp; omega)).trans k1
  have r1 := r1.wrong
  have g1 := grown_trans g1 (grown_set w1 b 1 (.bool true))
  obtain ⟨⟨c0, c1, c2⟩, f0, f1, f2⟩ := three k1
  have kz := three_put k1 (.int .i64 (c.toNat : Int)) (.int .i64 0) (.string ⟨#[]⟩)
  have rz := ((r1.put p 0 (.int .i64 (c.toNat : Int))).put p 1 (.int .i64 0)).put p 2 (.string ⟨#[]⟩)
  have gz := grown_put (grown_put (grown_put g1 (Nat.le_refl _) 0 (.int .i64 (c.toNat : Int))) (Nat.le_refl _) 1 (.int .i64 0)) (Nat.le_refl _) 2 (.string ⟨#[]⟩)
  have kz := (((Below.refl _ _).alloc (Nat.le_refl _) (.cells #[.int .i64 (c.toNat : Int), .int .i64 0, .string ⟨#[]⟩] 49)).block _ (Array.getElem?_eq_some_iff.1 kz).1).trans kz
  have rz := rz.alloc (.cells #[.int .i64 (c.toNat : Int), .int .i64 0, .string ⟨#[]⟩] 49)
  have gz := grown_alloc gz (.cells #[.int .i64 (c.toNat : Int), .int .i64 0, .string ⟨#[]⟩] 49)
  have Kz := hide kz
  have Rz := hide rz
  have Gz := hide gz
  clear kz rz gz 
  go_wp2_with fail
  generalize (((((w1.setCell ⟨b, 1, none⟩ (.bool true)).setCell ⟨w.heap.size, 0, none⟩ (.int .i64 (c.toNat : Int))).setCell ⟨w.heap.size, 1, none⟩ (.int .i64 0)).setCell ⟨w.heap.size, 2, none⟩ (.string ⟨#[]⟩)).alloc (.cells #[.int .i64 (c.toNat : Int), .int .i64 0, .string ⟨#[]⟩] 49)) = wz at *
  obtain ⟨⟨e0, e1, e2⟩, -⟩ := three Kz.out
  refine bodyPost_ret (v := vlV ⟨(c.toNat : Int), 0, []⟩) ?_ rfl ⟨_, _, true, rfl, Rz.out, Gz.out, HV.out⟩
  simp [results, Tryz.results128, go_sem, vlV, e0, e1, e2]


theorem value_any (b : Nat) (L : List UInt8) (w : World) (hb : RdAt w b L false) :
    Calls Tryz.prog 128 #[.pointer (some ⟨b, 0, none⟩)] w fun e w' => ValPost w b L e w' := by
  cases L with
  | nil => exact value_no b w hb
  | cons c r =>
    have hq : ∀ d : UInt8, c ≠ d → ((c.toNat : Int) == (d.toNat : Int)) = false := by
      intro d hd
      rw [beq_eq_false_iff_ne]
      intro e
      exact hd (UInt8.toNat_inj.1 (by omega))
    by_cases h0 : c = 0
    · subst h0; exact value_0 b r w hb
    by_cases h1 : c = 1
    · subst h1; exact value_1 b r w hb
    by_cases h2 : c = 2
    · subst h2; exact value_2 b r w hb
    by_cases h3 : c = 3
    · subst h3; exact value_3 b r w hb
    exact value_x b c r (hq 0 h0) (hq 1 h1) (hq 2 h2) (hq 3 h3) w hb
end

section
open Go.RowKit

def valsOf : List UInt8 → Option (List Vl × List UInt8)
  | [] => none
  | c :: r => valsP c.toNat r
theorem RdAt.keep {w w' : World} {b : Nat} {L : List UInt8} {wr : Bool} (h : RdAt w b L wr) (hk : w'.heap[b]? = w.heap[b]?) : RdAt w' b L wr := hk.trans h

theorem vals_step (L : List UInt8) (m : Nat) (acc : List Vl) (x : Vl) (L' L2 : List UInt8) (wr : Bool) (h : valsOf L = (valsP (m + 1) L').map fun q => (acc ++ q.1, q.2)) (hv : valP L' = if wr = true then none else some (x, L2)) :
    valsOf L = if wr = true then none else (valsP m L2).map fun q => ((acc ++ [x]) ++ q.1, q.2) := by
  rw [h, valsP, hv]
  cases wr with
  | true => rfl
  | false =>
    simp only [Bool.false_eq_true, if_false, Option.bind_some]
    cases valsP m L2 <;> simp

theorem own_ne {w : World} {base b : Nat} {e : TypeId} {size n : Nat} {v : Value} {xs : List Value} (h : w.ownsRow base e size v n xs) (hb : b < base) : v.ownBlock = none ∨ v.ownBlock ≠ some b := by
  rcases h.2 with ⟨hv, -⟩ | ⟨g, cap, cur, hv, hg, -⟩
  · rw [hv]; exact .inl rfl
  · rw [hv]; right; simp only [Value.ownBlock, ne_eq, Option.some.injEq]; omega

/-- what 'values' leaves -/
def ValsPost (w : World) (b : Nat) (L : List UInt8) (e : Ending) (w' : World) : Prop :=
  ∃ (v : Value) (xs : List Vl) (L' : List UInt8) (wr : Bool), e = .returned v ∧ w'.ownsRow w.heap.size 49 3 v xs.length (xs.flatMap vlC) ∧ RdAt w' b L' wr ∧ w.grownBy w' (some b) ∧ xs.length ≤ 255 ∧ (valsOf L = if wr = true then none else some (xs, L'))

set_option maxRecDepth 100000 in
set_option maxHeartbeats 1600000 in
theorem values_any (b : Nat) (L : List UInt8) (w : World) (hb : RdAt w b L false) :
    Calls Tryz.prog 78 #[.pointer (some ⟨b, 0, none⟩)] w fun e w' => ValsPost w b L e w' := by
  obtain ⟨i0, hi, hz0, hz1, hz2⟩ := info_parts Tryz.info_val
  have n1 := number_any b 1 L false w hb (by decide) (by decide)
  have hlt := hb.lt
  obtain ⟨m0, L0, wr0, e1, e2, e3, hm0, hs⟩ : ∃ (m0 : Nat) (L0 : List UInt8) (wr0 : Bool), numL (tkB (1 : Int).toNat L) = m0 ∧ tkL (1 : Int).toNat L = L0 ∧ (false || decide (L.length < (1 : Int).toNat)) = wr0 ∧ m0 ≤ 255 ∧ valsOf L = if wr0 = true then none else (valsP m0 L0).map fun q => ([] ++ q.1, q.2) := by
    cases L with
    | nil => exact ⟨0, [], true, rfl, rfl, rfl, by omega, rfl⟩
    | cons c r =>
      refine ⟨c.toNat, r, false, by simp [tkB, numL], by simp [tkL], by simp, by have := c.toNat_lt; omega, ?_⟩
      simp [valsOf]
  rw [e1, e2, e3] at n1
  have HS := hide hs
  clear e1 e2 e3 hs hb
  go_enter Tryz.func78, Tryz.ntmps78
  go_wp2_with (go_at_call 127; refine n1.mono ?_; rintro e w1 ⟨rfl, r1, g1⟩)
  go_loopw [3, 4] (fun v i wl => ∃ (acc : List Vl) (m : Nat) (L' : List UInt8) (wr : Bool), i = .int .i64 (m : Int) ∧ wl.ownsRow w.heap.size 49 3 v acc.length (acc.flatMap vlC) ∧ RdAt wl b L' wr ∧ w.grownBy wl (some b) ∧ acc.length + m ≤ 255 ∧ Hid (valsOf L = if wr = true then none else (valsP m L').map fun q => (acc ++ q.1, q.2))) (fun _ i _ => (intOf i).toNat)
  case atStart => exact ⟨[], m0, L0, wr0, rfl, World.ownsRow_nil _ _ _ _, r1, g1, by simp; omega, HS⟩
  case round =>
    obtain ⟨acc, m, L', bad, rfl, hown, hr, hg, hacc, HE⟩ := hrel
    clear n1 r1 g1 HS hm0
    obtain ⟨⟨c0, c1⟩, f0, f1⟩ := two hr
    by_cases hm : 0 < m
    · have hm' : (m : Int) > 0 := by omega
      cases bad with
      | true =>
        obtain ⟨ao, cap, hv⟩ := owns_slice hown
        subst hv
        have Hown := hide hown
        clear hown
        go_wp2
        go_ret
        exact ⟨_, acc, L', true, rfl, Hown.out, hr, hg, by omega, HE.out⟩
      | false =>
        have hval := value_any b L' wr hr
        obtain ⟨m, rfl⟩ : ∃ m', m = m' + 1 := ⟨m - 1, by omega⟩
        have HE2 := HE.out
        simp only [Bool.false_eq_true, if_false] at HE2
        replace HE2 := hide HE2
        clear HE
        go_wp2_with fail
        refine hval.mono ?_
        rintro e wc ⟨x, L2, wr2, rfl, rc, gc, hv⟩
        have HE3 := hide (vals_step L m acc x L' L2 wr2 HE2.out hv)
        have hown2 := (hown.kept gc (own_ne hown hlt)).alloc (.cells #[.int .i64 x.k, .int .i64 x.n, .string ⟨x.s.toArray⟩] 49)
        have rc1 := rc.alloc (.cells #[.int .i64 x.k, .int .i64 x.n, .string ⟨x.s.toArray⟩] 49)
        have q := grown_alloc (grown_trans hg gc) (.cells #[.int .i64 x.k, .int .i64 x.n, .string ⟨x.s.toArray⟩] 49)
        have hlt5 := hown2.lt
        have hgs := hg.size
        have hgs2 := gc.size
        clear HE2 hv hval hown hr rc c0 c1 f0 f1
        rw [vlV]
        go_wp2_with (at_builtin; refine wpList_append_own _ rfl _ _ 41 rfl w.heap.size 49 i0 (.agg #[.int .i64 0, .int .i64 0, .string ⟨#[]⟩]) 3 32 Tryz.underlying41 hi hz0 hz1 hz2 rfl (by decide) _ _ _ rfl hown2 ⟨wc.heap.size, 0, none⟩ 1 1 [.int .i64 x.k, .int .i64 x.n, .string ⟨x.s.toArray⟩] rfl rfl ?c1 ?c2 ?c3 ?c4 ?c5 ?_)
        case c1 =>
          intro j u hj
          match j, hj with
            | 0, hj => simp at hj; subst hj; simp [Addr.add]
            | 1, hj => simp at hj; subst hj; simp [Addr.add]
            | 2, hj => simp at hj; subst hj; simp [Addr.add]
        case c2 => intro u hu; simp at hu; rcases hu with rfl | rfl | rfl <;> rfl
        case c3 => unfold maxLen; omega
        case c4 => omega
        case c5 => simp; omega
        intro v' w3 hown' hgrow _
        have hg3 : w.grownBy w3 (some b) := by
          refine ⟨hgrow.os.trans q.os, hgrow.tape.trans q.tape, hgrow.output.trans q.output, Nat.le_trans q.size hgrow.size, fun k hk hr => (hgrow.block k (Nat.lt_of_lt_of_le hk q.size) ?_).trans (q.block k hk hr)⟩
          intro e
          have := (hlt5 _ e.symm).1
          omega
        have rc3 : RdAt w3 b L2 wr2 := rc1.keep (hgrow.block b rc1.lt (fun e => by have := (hlt5 _ e.symm).1; omega))
        have R3 : w3.ownsRow w.heap.size 49 3 v' (acc ++ [x]).length ((acc ++ [x]).flatMap vlC) := by
          rw [List.length_append, List.flatMap_append]
          have e1 : [x].flatMap vlC = vlC x := by simp
          rw [e1]; exact hown'
        clear hown' hgrow hown2 hlt5 rc1 gc hg q
        go_wp2
        go_roundw
        case rel => exact ⟨acc ++ [x], m, L2, wr2, by go_num, R3, rc3, hg3, by simp; omega, HE3⟩
        case measure => simp [intOf]
    · obtain rfl : m = 0 := by omega
      obtain ⟨ao, cap, hv⟩ := owns_slice hown
      subst hv
      have Hown := hide hown
      clear hown
      go_wp2
      go_ret
      refine ⟨_, acc, L', bad, rfl, Hown.out, hr, hg, by omega, ?_⟩
      rw [HE.out]
      cases bad <;> simp [valsP]
end

section
open Go.RowKit

def u8V (c : UInt8) : Value := .int .u8 (c.toNat : Int)
theorem Tryz.info_u8 : (Tryz.prog.info? 5).map (fun i => (i.zero, i.size, i.bytes)) = some (some (.int .u8 0), 1, 1) := by kernel_rfl

/-- bytes of one's own -/
def Bs (w : World) (B : Nat) (v : Value) (l : List UInt8) : Prop := w.ownsRow B 5 1 v l.length (l.map u8V)

theorem grown_own {w0 w w3 : World} {B : Nat} {v : Value} {n : Nat} {xs : List Value} {e : TypeId} {size : Nat} (hown : w.ownsRow B e size v n xs) (hg : Below B w0 w) (hgrow : w.grownBy w3 v.ownBlock) (hB : B ≤ w.heap.size) : Below B w0 w3 :=
  hg.grown hgrow hB fun j hj => (hown.lt j hj).1

/-- all that is of another type stays -/
def Oth (w w' : World) : Prop := ∀ (k : Nat) c t fz, t ≠ 5 → w.heap[k]? = some (.cells c t fz) → w'.heap[k]? = some (.cells c t fz)
theorem Oth.refl (w : World) : Oth w w := fun _ _ _ _ _ h => h
theorem Oth.trans {a b c : World} (h : Oth a b) (k : Oth b c) : Oth a c := fun i x t f ht hx => k i x t f ht (h i x t f ht hx)
theorem Oth.alloc {a b : World} (h : Oth a b) (o : Obj) : Oth a (b.alloc o) := fun i x t f ht hx => by
  have := h i x t f ht hx
  exact (((Below.refl b.heap.size b).alloc (Nat.le_refl _) o).block i (Array.getElem?_eq_some_iff.1 this).1).trans this
theorem oth_grown {w w3 : World} {B : Nat} {v : Value} {n : Nat} {xs : List Value} (hown : w.ownsRow B 5 1 v n xs) (hg : w.grownBy w3 v.ownBlock) : Oth w w3 := fun k c t fz ht hk => by
  refine (hg.block k (Array.getElem?_eq_some_iff.1 hk).1 fun e => ?_).trans hk
  obtain ⟨c', fz', h'⟩ := ownsRow_kind hown k e.symm
  rw [hk] at h'
  simp only [Option.some.injEq, Obj.cells.injEq] at h'
  exact ht h'.2.1

theorem u8_b8 (n : Int) : (Value.int .u8 (n % 256)) = u8V (b8 n) := by
  rw [u8V, b8_toNat]

/-- what is left behind bytes that were put there -/
def BsPost (B : Nat) (w : World) (l : List UInt8) (e : Ending) (w' : World) : Prop := ∃ v', e = .returned v' ∧ Bs w' B v' l ∧ Below B w w' ∧ Oth w w'

set_option maxRecDepth 100000 in
set_option maxHeartbeats 1600000 in
theorem number_app (B : Nat) (v : Value) (cur : List UInt8) (n : Int) (many : Nat) (w : World) (hv : Bs w B v cur) (hB : B ≤ w.heap.size) (hn0 : -9223372036854775808 ≤ n) (hn1 : n ≤ 9223372036854775807) (hm : many ≤ 4) (hc : cur.length ≤ 1000000) :
    Calls Tryz.prog 117 #[v, .int .i64 n, .int .i64 (many : Int)] w fun e w' => BsPost B w (cur ++ leB many n) e w' := by
  obtain ⟨i0, hi, hz0, hz1, hz2⟩ := info_parts Tryz.info_u8
  unfold Bs at hv
  go_enter Tryz.func117, Tryz.ntmps117
  go_wp2_with fail
  go_loopw [0, 1, 8] (fun v' k i wl => ∃ (j : Nat) (n' : Int) (acc : List UInt8), j ≤ many ∧ i = .int .i64 (j : Int) ∧ k = .int .i64 n' ∧ wl.ownsRow B 5 1 v' acc.length (acc.map u8V) ∧ Below B w wl ∧ Oth w wl ∧ B ≤ wl.heap.size ∧ -9223372036854775808 ≤ n' ∧ n' ≤ 9223372036854775807 ∧ acc.length ≤ 1000000 + j ∧ Hid (acc ++ leB (many - j) n' = cur ++ leB many n)) (fun _ _ i _ => many - (intOf i).toNat)
  case atStart => exact ⟨0, n, cur, Nat.zero_le _, rfl, rfl, hv, Below.refl _ _, Oth.refl _, hB, hn0, hn1, hc, rfl⟩
  case round =>
    obtain ⟨j, n', acc, hj, rfl, rfl, hown, hnx, hox, hBw, h0, h1, hal, HE⟩ := hrel
    by_cases hlt : j < many
    · have hlt' : (j : Int) < (many : Int) := by omega
      have HE2 : Hid ((acc ++ [b8 n']) ++ leB (many - (j + 1)) (n' / 256) = cur ++ leB many n) := by
        show _ = _
        rw [← HE.out, show many - j = (many - (j + 1)) + 1 by omega, leB]
        simp
      clear HE
      have hown2 := hown.alloc (.cells #[.int .u8 (n' % 256)] 5)
      go_wp2_with (at_builtin; refine wpList_append_own _ rfl _ _ 134 rfl B 5 i0 (.int .u8 0) 1 1 Tryz.underlying134 hi hz0 hz1 hz2 rfl (by decide) _ _ _ rfl hown2 ⟨wr.heap.size, 0, none⟩ 1 1 [.int .u8 (n' % 256)] rfl rfl ?c1 ?c2 ?c3 ?c4 ?c5 ?_)
      case c1 =>
        intro j u hj
        match j, hj with
          | 0, hj => simp at hj; subst hj; simp [Addr.add]
      case c2 => intro u hu; simp at hu; subst hu; rfl
      case c3 => unfold maxLen; omega
      case c4 => omega
      case c5 => simp; omega
      intro v' w3 hown' hgrow _
      have hs3 := hgrow.size
      have hB3 : Below B w w3 := grown_own hown2 (hnx.alloc hBw _) hgrow (by simp; omega)
      have hO3 : Oth w w3 := (hox.alloc _).trans (oth_grown hown2 hgrow)
      have R3 : w3.ownsRow B 5 1 v' (acc ++ [b8 n']).length ((acc ++ [b8 n']).map u8V) := by
        rw [List.length_append, List.map_append]
        have e1 : [b8 n'].map u8V = [.int .u8 (n' % 256)] := by rw [List.map_singleton, ← u8_b8]
        rw [e1]; exact hown'
      clear hown' hgrow hown2 hown
      go_wp2_with fail
      exact ⟨⟨j + 1, n' / 256, acc ++ [b8 n'], hlt, by go_num, rfl, R3, hB3, hO3, by simp at hs3; omega, by omega, by omega, by simp; omega, HE2⟩, by simp [intOf]; omega⟩
    · obtain rfl : j = many := by omega
      have HE2 : Hid (acc = cur ++ leB j n) := by
        show _ = _
        rw [← HE.out, Nat.sub_self, leB, List.append_nil]
      obtain ⟨ao, cap, hv⟩ := owns_slice hown
      subst hv
      have Hown := hide hown
      clear hown HE
      go_wp2
      go_ret
      exact ⟨_, rfl, by rw [← HE2.out]; exact Hown.out, hnx, hox⟩

theorem Bs.len {w : World} {B : Nat} {v : Value} {l : List UInt8} (h : Bs w B v l) : ∃ ao n cap, v = .slice ao n cap := by
  obtain ⟨ao, cap, e⟩ := owns_slice h
  exact ⟨ao, _, cap, e⟩
theorem Bs.alloc {w : World} {B : Nat} {v : Value} {l : List UInt8} (h : Bs w B v l) (o : Obj) : Bs (w.alloc o) B v l := World.ownsRow.alloc h o

theorem str_cells (l : List UInt8) : Lib.strCells ⟨l.toArray⟩ = l.map u8V := by
  unfold Lib.strCells u8V
  simp

theorem three_cells {w : World} {b : Nat} {k n : Int} {s : ByteArray} (h : w.heap[b]? = some (.cells #[.int .i64 k, .int .i64 n, .string s] 49)) :
    w.cell? ⟨b, 0, none⟩ = some (.int .i64 k) ∧ w.cell? ⟨b, 1, none⟩ = some (.int .i64 n) ∧ w.cell? ⟨b, 2, none⟩ = some (.string s) := (three h).1

set_option maxRecDepth 100000 in
set_option maxHeartbeats 1600000 in
theorem value_app_0 (B : Nat) (v : Value) (cur : List UInt8) (n : Int) (s : List UInt8) (w : World) (hv : Bs w B v cur) (hB : B ≤ w.heap.size) (hc : cur.length ≤ 900000) :
    Calls Tryz.prog 118 #[v, .agg #[.int .i64 0, .int .i64 n, .string ⟨s.toArray⟩]] w fun e w' => BsPost B w (cur ++ [b8 0]) e w' := by
  have n1 := number_app B v cur 0 1 _ (hv.alloc (.cells #[.int .i64 0, .int .i64 n, .string ⟨s.toArray⟩] 49)) (by simp; omega) (by decide) (by decide) (by decide) (by omega)
  have b0 := (Below.refl B w).alloc hB (.cells #[.int .i64 0, .int .i64 n, .string ⟨s.toArray⟩] 49)
  have o0 := (Oth.refl w).alloc (.cells #[.int .i64 0, .int .i64 n, .string ⟨s.toArray⟩] 49)
  have k0 : (w.alloc (.cells #[.int .i64 0, .int .i64 n, .string ⟨s.toArray⟩] 49)).heap[w.heap.size]? = some (.cells #[.int .i64 0, .int .i64 n, .string ⟨s.toArray⟩] 49) := heap_alloc_new _ _
  have e0 : cur ++ leB 1 0 = cur ++ [b8 0] := rfl
  rw [e0] at n1
  go_enter Tryz.func118, Tryz.ntmps118
  go_wp2_with fail
  refine n1.mono ?_
  rintro e w1 ⟨v1, rfl, h1, b1, o1⟩
  have k1 := o1 _ _ _ _ (by decide) k0
  obtain ⟨c0, c1, c2⟩ := three_cells k1
  have b1 := b0.trans b1
  have o1 := o0.trans o1
  have z1 : B ≤ w1.heap.size := Nat.le_trans hB b1.size
  clear n1 b0 o0 k0 hv e0
  have hl1 : (cur ++ [b8 0]).length ≤ 900001 := by rw [List.length_append]; simp; omega
  obtain ⟨ao, m1, cap, e1⟩ := h1.len
  subst e1
  go_wp2
  go_ret
  exact ⟨_, rfl, h1, b1, o1⟩

set_option maxRecDepth 100000 in
set_option maxHeartbeats 1600000 in
theorem value_app_1 (B : Nat) (v : Value) (cur : List UInt8) (n : Int) (s : List UInt8) (w : World) (hv : Bs w B v cur) (hB : B ≤ w.heap.size) (hn0 : -999999999 ≤ n) (hn1 : n ≤ 999999999) (hc : cur.length ≤ 900000) :
    Calls Tryz.prog 118 #[v, .agg #[.int .i64 1, .int .i64 n, .string ⟨s.toArray⟩]] w fun e w' => BsPost B w (cur ++ (b8 1 :: leB 4 (n + 999999999))) e w' := by
  have n1 := number_app B v cur 1 1 _ (hv.alloc (.cells #[.int .i64 1, .int .i64 n, .string ⟨s.toArray⟩] 49)) (by simp; omega) (by decide) (by decide) (by decide) (by omega)
  have b0 := (Below.refl B w).alloc hB (.cells #[.int .i64 1, .int .i64 n, .string ⟨s.toArray⟩] 49)
  have o0 := (Oth.refl w).alloc (.cells #[.int .i64 1, .int .i64 n, .string ⟨s.toArray⟩] 49)
  have k0 : (w.alloc (.cells #[.int .i64 1, .int .i64 n, .string ⟨s.toArray⟩] 49)).heap[w.heap.size]? = some (.cells #[.int .i64 1, .int .i64 n, .string ⟨s.toArray⟩] 49) := heap_alloc_new _ _
  have e0 : cur ++ leB 1 1 = cur ++ [b8 1] := rfl
  rw [e0] at n1
  go_enter Tryz.func118, Tryz.ntmps118
  go_wp2_with fail
  refine n1.mono ?_
  rintro e w1 ⟨v1, rfl, h1, b1, o1⟩
  have k1 := o1 _ _ _ _ (by decide) k0
  obtain ⟨c0, c1, c2⟩ := three_cells k1
  have b1 := b0.trans b1
  have o1 := o0.trans o1
  have z1 : B ≤ w1.heap.size := Nat.le_trans hB b1.size
  clear n1 b0 o0 k0 hv e0
  have hl1 : (cur ++ [b8 1]).length ≤ 900001 := by rw [List.length_append]; simp; omega
  have n2 := number_app B _ _ (n + 999999999) 4 _ h1 z1 (by omega) (by omega) (by decide) (by omega)
  obtain ⟨ao, m1, cap, e1⟩ := h1.len
  subst e1
  have H1 := hide h1
  clear h1
  go_wp2_with fail
  refine n2.mono ?_
  rintro e w2 ⟨v2, rfl, h2, b2, o2⟩
  have e2 : (cur ++ [b8 1]) ++ leB 4 (n + 999999999) = cur ++ (b8 1 :: leB 4 (n + 999999999)) := by simp [leB]
  rw [e2] at h2
  obtain ⟨ao2, m2, cap2, e3⟩ := h2.len
  subst e3
  have H2 := hide h2
  clear h2 e2
  go_wp2
  go_ret
  exact ⟨_, rfl, H2.out, b1.trans b2, o1.trans o2⟩

set_option maxRecDepth 100000 in
set_option maxHeartbeats 1600000 in
theorem value_app_2 (B : Nat) (v : Value) (cur : List UInt8) (n : Int) (s : List UInt8) (w : World) (hv : Bs w B v cur) (hB : B ≤ w.heap.size) (hs : s.length ≤ 20) (hc : cur.length ≤ 900000) :
    Calls Tryz.prog 118 #[v, .agg #[.int .i64 2, .int .i64 n, .string ⟨s.toArray⟩]] w fun e w' => BsPost B w (cur ++ (b8 2 :: b8 (s.length : Nat) :: s)) e w' := by
  have n1 := number_app B v cur 2 1 _ (hv.alloc (.cells #[.int .i64 2, .int .i64 n, .string ⟨s.toArray⟩] 49)) (by simp; omega) (by decide) (by decide) (by decide) (by omega)
  have b0 := (Below.refl B w).alloc hB (.cells #[.int .i64 2, .int .i64 n, .string ⟨s.toArray⟩] 49)
  have o0 := (Oth.refl w).alloc (.cells #[.int .i64 2, .int .i64 n, .string ⟨s.toArray⟩] 49)
  have k0 : (w.alloc (.cells #[.int .i64 2, .int .i64 n, .string ⟨s.toArray⟩] 49)).heap[w.heap.size]? = some (.cells #[.int .i64 2, .int .i64 n, .string ⟨s.toArray⟩] 49) := heap_alloc_new _ _
  have e0 : cur ++ leB 1 2 = cur ++ [b8 2] := rfl
  rw [e0] at n1
  go_enter Tryz.func118, Tryz.ntmps118
  go_wp2_with fail
  refine n1.mono ?_
  rintro e w1 ⟨v1, rfl, h1, b1, o1⟩
  have k1 := o1 _ _ _ _ (by decide) k0
  obtain ⟨c0, c1, c2⟩ := three_cells k1
  have b1 := b0.trans b1
  have o1 := o0.trans o1
  have z1 : B ≤ w1.heap.size := Nat.le_trans hB b1.size
  clear n1 b0 o0 k0 hv e0
  have hl1 : (cur ++ [b8 2]).length ≤ 900001 := by rw [List.length_append]; simp; omega
  have n2 := number_app B _ _ (s.length : Nat) 1 _ h1 z1 (by omega) (by omega) (by decide) (by omega)
  obtain ⟨ao, m1, cap, e1⟩ := h1.len
  subst e1
  have H1 := hide h1
  clear h1
  go_wp2_with fail
  refine n2.mono ?_
  rintro e w2 ⟨v2, rfl, h2, b2, o2⟩
  have k2 := o2 _ _ _ _ (by decide) k1
  obtain ⟨d0, d1, d2⟩ := three_cells k2
  have b2 := b1.trans b2
  have o2 := o1.trans o2
  have z2 : B ≤ w2.heap.size := Nat.le_trans hB b2.size
  obtain ⟨i0, hi, hz0, hz1, hz2⟩ := info_parts Tryz.info_u8
  have hl2 : ((cur ++ [b8 2]) ++ leB 1 (s.length : Nat)).length ≤ 900002 := by rw [List.length_append, leB_length]; omega
  have hss := size_mk s
  clear k1 k2 c0 c1 c2 b1 o1 n2
  unfold Bs at h2
  go_wp2_with (at_builtin; refine Lib.wpList_append_own_string _ rfl _ _ 134 9 rfl B 5 i0 Tryz.underlying134 Tryz.underlying9 hi hz0 hz1 hz2 _ _ _ rfl h2 ⟨s.toArray⟩ rfl ?c3 ?c4 ?c5 ?_)
  case c3 => unfold maxLen; omega
  case c4 => omega
  case c5 => omega
  intro v3 w3 hown3 hgrow _
  have b3 : Below B w w3 := grown_own h2 b2 hgrow z2
  have o3 : Oth w w3 := o2.trans (oth_grown h2 hgrow)
  have h3 : Bs w3 B v3 (cur ++ (b8 2 :: b8 (s.length : Nat) :: s)) := by
    unfold Bs
    rw [str_cells] at hown3
    have e4 : (cur ++ (b8 2 :: b8 (s.length : Nat) :: s)).length = cur.length + ((leB 1 (s.length : Nat)).length + 1) + s.length := by simp [leB]; omega
    have e5 : (cur ++ (b8 2 :: b8 (s.length : Nat) :: s)).map u8V = cur.map u8V ++ u8V (b8 2) :: ((leB 1 (s.length : Nat)).map u8V ++ s.map u8V) := by simp [leB]
    rw [e4, e5]; exact hown3
  obtain ⟨ao3, m3, cap3, e3⟩ := h3.len
  subst e3
  have H3 := hide h3
  clear h3 h2 hown3 hgrow b2 o2
  go_wp2
  go_ret
  exact ⟨_, rfl, H3.out, b3, o3⟩

set_option maxRecDepth 100000 in
set_option maxHeartbeats 1600000 in
theorem value_app_3 (B : Nat) (v : Value) (cur : List UInt8) (n : Int) (s : List UInt8) (w : World) (hv : Bs w B v cur) (hB : B ≤ w.heap.size) (hn0 : 0 ≤ n) (hn1 : n ≤ 1) (hc : cur.length ≤ 900000) :
    Calls Tryz.prog 118 #[v, .agg #[.int .i64 3, .int .i64 n, .string ⟨s.toArray⟩]] w fun e w' => BsPost B w (cur ++ (b8 3 :: [b8 n])) e w' := by
  have n1 := number_app B v cur 3 1 _ (hv.alloc (.cells #[.int .i64 3, .int .i64 n, .string ⟨s.toArray⟩] 49)) (by simp; omega) (by decide) (by decide) (by decide) (by omega)
  have b0 := (Below.refl B w).alloc hB (.cells #[.int .i64 3, .int .i64 n, .string ⟨s.toArray⟩] 49)
  have o0 := (Oth.refl w).alloc (.cells #[.int .i64 3, .int .i64 n, .string ⟨s.toArray⟩] 49)
  have k0 : (w.alloc (.cells #[.int .i64 3, .int .i64 n, .string ⟨s.toArray⟩] 49)).heap[w.heap.size]? = some (.cells #[.int .i64 3, .int .i64 n, .string ⟨s.toArray⟩] 49) := heap_alloc_new _ _
  have e0 : cur ++ leB 1 3 = cur ++ [b8 3] := rfl
  rw [e0] at n1
  go_enter Tryz.func118, Tryz.ntmps118
  go_wp2_with fail
  refine n1.mono ?_
  rintro e w1 ⟨v1, rfl, h1, b1, o1⟩
  have k1 := o1 _ _ _ _ (by decide) k0
  obtain ⟨c0, c1, c2⟩ := three_cells k1
  have b1 := b0.trans b1
  have o1 := o0.trans o1
  have z1 : B ≤ w1.heap.size := Nat.le_trans hB b1.size
  clear n1 b0 o0 k0 hv e0
  have hl1 : (cur ++ [b8 3]).length ≤ 900001 := by rw [List.length_append]; simp; omega
  have n2 := number_app B _ _ n 1 _ h1 z1 (by omega) (by omega) (by decide) (by omega)
  obtain ⟨ao, m1, cap, e1⟩ := h1.len
  subst e1
  have H1 := hide h1
  clear h1
  go_wp2_with fail
  refine n2.mono ?_
  rintro e w2 ⟨v2, rfl, h2, b2, o2⟩
  have e2 : (cur ++ [b8 3]) ++ leB 1 n = cur ++ (b8 3 :: [b8 n]) := by simp [leB]
  rw [e2] at h2
  obtain ⟨ao2, m2, cap2, e3⟩ := h2.len
  subst e3
  have H2 := hide h2
  clear h2 e2
  go_wp2
  go_ret
  exact ⟨_, rfl, H2.out, b1.trans b2, o1.trans o2⟩

theorem value_app (B : Nat) (v : Value) (cur : List UInt8) (x : Vl) (w : World) (hv : Bs w B v cur) (hB : B ≤ w.heap.size) (hx : chkV x.k x.n x.s = 0) (hc : cur.length ≤ 900000) :
    Calls Tryz.prog 118 #[v, vlV x] w fun e w' => BsPost B w (cur ++ encV x) e w' := by
  obtain ⟨k, n, s⟩ := x
  rcases chkV_zero hx with ⟨q1, q2, q3⟩ | ⟨q1, q2, q3, q4⟩ | ⟨q1, q2, q3⟩ | ⟨q1, q2, q3⟩
  · simp only at q1; subst q1; exact value_app_0 B v cur n s w hv hB hc
  · simp only at q1; subst q1; exact value_app_1 B v cur n s w hv hB q2 q3 hc
  · simp only at q1; subst q1; exact value_app_2 B v cur n s w hv hB q3 hc
  · simp only at q1 q2; subst q1; exact value_app_3 B v cur n s w hv hB (by omega) (by omega) hc
end

section
open Go.RowKit

set_option maxRecDepth 100000 in
set_option maxHeartbeats 1600000 in
theorem fault_any' (L : List Vl) (u : Value) (w : World) (h : VsAt w u L) : Calls Tryz.prog 79 #[u] w fun e w' => e = .returned (.int .i64 (chkL L : Nat)) ∧ Below w.heap.size w w' := by
  have hi := fitFault_any L u w h
  obtain ⟨ao, cap, rfl, h1, h2, h3⟩ := h
  unfold chkL
  by_cases h5 : 5 < L.length
  · rw [if_pos h5]
    have h5' : (L.length : Int) > 5 := by omega
    clear hi h2 h3
    go_enter Tryz.func79, Tryz.ntmps79
    go_wp2
    go_ret
    exact ⟨rfl, Below.refl _ _⟩
  · rw [if_neg h5]
    have h5' : ¬ (L.length : Int) > 5 := by omega
    generalize badL L = c at hi ⊢
    clear h2 h3
    go_enter Tryz.func79, Tryz.ntmps79
    go_wp2_with (go_at_call 75; refine hi.mono ?_; rintro e w1 ⟨rfl, b1⟩)
    go_ret
    exact ⟨rfl, b1⟩
end

section
open Go.RowKit

theorem encV_len (x : Vl) (h : chkV x.k x.n x.s = 0) : (encV x).length ≤ 22 := by
  unfold encV
  rcases chkV_zero h with ⟨q1, q2, q3⟩ | ⟨q1, q2, q3, q4⟩ | ⟨q1, q2, q3⟩ | ⟨q1, q2, q3⟩
  all_goals simp [q1, leB_length]
  omega

/-- bytes of one's own as a text -/
theorem bs_text {w : World} {B : Nat} {ao : Option Addr} {m cap : Nat} {l : List UInt8} (h : Bs w B (.slice ao m cap) l) (hl : l ≠ []) :
    (convert 134 9 (.slice ao m cap)).run Tryz.prog w = .ok (.string ⟨l.toArray⟩) w := by
  obtain ⟨g, cap', e, -, -⟩ := owns_some h (by intro e; exact hl (List.eq_nil_of_length_eq_zero e))
  rw [e] at h ⊢
  refine run_convert_bytes_back w 134 9 5 ⟨g, 0, none⟩ cap' l Tryz.underlying134 Tryz.underlying5 Tryz.underlying9 ?_
  intro j hj
  have h' : w.ownsRow B 5 1 (.slice (some ⟨g, 0, none⟩) l.length cap') l.length (l.map u8V) := h
  have := (h'.cellAt j (by rw [← h'.1, List.length_map]; exact hj)).trans (show (l.map u8V)[j]? = some (u8V l[j]) by rw [List.getElem?_map, List.getElem?_eq_getElem hj]; rfl)
  rw [Go.WideShapes.add_plain, Nat.zero_add]
  exact this

def encR (L : List Vl) : List UInt8 := if chkL L = 0 then encL L else []

theorem flat_len (L : List Vl) (h : ∀ x ∈ L, chkV x.k x.n x.s = 0) : (L.flatMap encV).length ≤ 22 * L.length := by
  induction L with
  | nil => simp
  | cons x r ih =>
    have h1 := encV_len x (h x (by simp))
    have h2 := ih fun y hy => h y (by simp [hy])
    rw [List.flatMap_cons, List.length_append, List.length_cons]; omega

set_option maxRecDepth 100000 in
set_option maxHeartbeats 1600000 in
theorem encode_no (L : List Vl) (u : Value) (w : World) (h : VsAt w u L) (E : Nat) (hE : chkL L = E) (h0 : ((E : Int) != 0) = true) :
    Calls Tryz.prog 72 #[u] w fun e w' => e = .returned (.tuple #[.string ⟨#[]⟩, .int .i64 (E : Nat)]) ∧ Below w.heap.size w w' := by
  have hf := fault_any' L u w h
  rw [hE] at hf
  obtain ⟨ao, cap, rfl, -, -, -⟩ := h
  clear hE
  go_enter Tryz.func72, Tryz.ntmps72
  go_wp2_with (go_at_call 79; refine hf.mono ?_; rintro e w1 ⟨rfl, b1⟩)
  go_ret2
  exact ⟨rfl, b1⟩

set_option maxRecDepth 100000 in
set_option maxHeartbeats 1600000 in
theorem encode_yes (L : List Vl) (u : Value) (w : World) (h : VsAt w u L) (hE : chkL L = 0) :
    Calls Tryz.prog 72 #[u] w fun e w' => e = .returned (.tuple #[.string ⟨(encL L).toArray⟩, .int .i64 0]) ∧ Below w.heap.size w w' := by
  have hf := fault_any' L u w h
  have hE' := hE
  rw [hE] at hf
  unfold chkL at hE'
  have hl5 : ¬ 5 < L.length := by intro h5; rw [if_pos h5] at hE'; cases hE'
  rw [if_neg hl5] at hE'
  have hall := (badL_zero L).1 hE'
  obtain ⟨ao, cap, rfl, h1, h2, h3⟩ := h
  obtain ⟨n, hn⟩ : ∃ n, L.length = n := ⟨_, rfl⟩
  have HEnc : Hid (encL L = leB 1 (n : Int) ++ L.flatMap encV) := by show _ = _; rw [encL, hn]; rfl
  rw [hn] at hf hl5 h1 ⊢
  clear hE hE'
  go_enter Tryz.func72, Tryz.ntmps72
  go_wp2_with (go_at_call 79; refine hf.mono ?_; rintro e w1 ⟨rfl, b1⟩)
  have z1 := b1.size
  refine (number_app w.heap.size (.slice none 0 0) [] (n : Int) 1 w1 (World.ownsRow_nil _ _ _ _) z1 (by omega) (by omega) (by decide) (by decide)).mono ?_
  rintro e w2 ⟨v2, rfl, hv2, b2, -⟩
  obtain ⟨a2, m2, c2, rfl⟩ := hv2.len
  have b2 := b1.trans b2
  clear hf b1 z1
  go_wp2_with fail
  go_loopw [5, 18] (fun v i wl => ∃ (k : Nat), k ≤ n ∧ i = .int .i64 k ∧ Bs wl w.heap.size v (leB 1 (n : Int) ++ (L.take k).flatMap encV) ∧ Below w.heap.size w wl) (fun _ i _ => n - (intOf i).toNat)
  case atStart => exact ⟨0, Nat.zero_le _, rfl, by simpa using hv2, b2⟩
  case round =>
    obtain ⟨k, hk, rfl, hbs, hnx⟩ := hrel
    clear hv2 b2
    have hsz := hnx.size
    have hlen : (leB 1 (n : Int) ++ (L.take k).flatMap encV).length ≤ 200 := by
      have := flat_len (L.take k) fun x hx => hall x (List.mem_of_mem_take hx)
      rw [List.length_append, leB_length]
      rw [List.length_take] at this
      omega
    by_cases hlt : k < n
    · obtain ⟨x, hx⟩ : ∃ x, L[k]? = some x := ⟨L[k], List.getElem?_eq_getElem (by omega)⟩
      obtain ⟨g, o, rfl, hg, hc⟩ := h3 (by intro e; rw [e] at hx; cases hx)
      obtain ⟨a0, a1, a2⟩ := hc k x hx
      have c0 := (hnx.cell (p := ⟨g, o + k * 3, none⟩) hg).trans a0
      have c1 := (hnx.cell (p := ⟨g, o + k * 3 + 1, none⟩) hg).trans a1
      have c2 := (hnx.cell (p := ⟨g, o + k * 3 + 2, none⟩) hg).trans a2
      have hlt' : (k : Int) < (n : Int) := by omega
      have ha := value_app w.heap.size _ _ x _ (hbs.alloc (.cells #[.int .i64 x.k, .int .i64 x.n, .string ⟨x.s.toArray⟩] 49)) (by simp; omega) (hall x (List.mem_of_getElem? hx)) (by omega)
      have HT : Hid ((leB 1 (n : Int) ++ (L.take k).flatMap encV) ++ encV x = leB 1 (n : Int) ++ (L.take (k + 1)).flatMap encV) := by
        show _ = _
        obtain ⟨hkl, rfl⟩ := List.getElem?_eq_some_iff.1 hx
        rw [List.take_succ_eq_append_getElem hkl, List.flatMap_append]
        simp
      have hnx2 := hnx.alloc hsz (.cells #[.int .i64 x.k, .int .i64 x.n, .string ⟨x.s.toArray⟩] 49)
      rw [vlV] at ha
      obtain ⟨a5, m5, q5, e5⟩ := hbs.len
      subst e5
      clear hc a0 a1 a2 hx hbs
      go_wp2_with fail
      refine ha.mono ?_
      rintro e w3 ⟨v3, rfl, hv3, b3, -⟩
      rw [HT.out] at hv3
      have b3 := hnx2.trans b3
      clear ha
      go_wp2
      go_roundw
      case rel => exact ⟨k + 1, by omega, by go_num, hv3, b3⟩
      case measure => simp [intOf]; omega
    · obtain rfl : k = n := by omega
      have hconv := hbs
      obtain ⟨a5, m5, q5, e5⟩ := hbs.len
      subst e5
      have ht := bs_text hconv (by simp [leB])
      have HQ : Hid (leB 1 (k : Int) ++ (L.take k).flatMap encV = encL L) := by show _ = _; rw [HEnc.out, List.take_of_length_le (by omega)]
      generalize leB 1 (k : Int) ++ (L.take k).flatMap encV = q at ht HQ
      clear h2 h3 hall hconv hbs HEnc hlen
      go_wp2
      go_ret2
      exact ⟨by rw [← HQ.out]; rfl, hnx⟩

theorem encode_any (L : List Vl) (u : Value) (w : World) (h : VsAt w u L) :
    Calls Tryz.prog 72 #[u] w fun e w' => e = .returned (.tuple #[.string ⟨(encR L).toArray⟩, .int .i64 (chkL L : Nat)]) ∧ Below w.heap.size w w' := by
  unfold encR
  by_cases h0 : chkL L = 0
  · rw [h0, if_pos rfl]; exact encode_yes L u w h h0
  · rw [if_neg h0]; exact encode_no L u w h _ rfl (by simpa using h0)
end

section
open Go.RowKit

theorem own_mono {w : World} {B B' : Nat} {e : TypeId} {size n : Nat} {v : Value} {xs : List Value} (h : w.ownsRow B e size v n xs) (hB : B' ≤ B) : w.ownsRow B' e size v n xs := by
  obtain ⟨h1, h2⟩ := h
  refine ⟨h1, ?_⟩
  rcases h2 with h2 | ⟨g, cap, cur, e1, e2, e3⟩
  · exact .inl h2
  · exact .inr ⟨g, cap, cur, e1, Nat.le_trans hB e2, e3⟩

theorem decP_vals (s : List UInt8) : decP s = match valsOf s with | some (xs, []) => some xs | _ => none := by
  cases s <;> rfl

theorem valP_size (l : List UInt8) (x : Vl) (r : List UInt8) (h : valP l = some (x, r)) : x.s.length ≤ 255 := by
  cases l with
  | nil => cases h
  | cons c t =>
    simp only [valP] at h
    by_cases h0 : c = 0
    · rw [if_pos h0] at h; cases h; simp
    rw [if_neg h0] at h
    by_cases h1 : c = 1
    · rw [if_pos h1] at h
      by_cases h4 : t.length < 4
      · rw [if_pos h4] at h; cases h
      · rw [if_neg h4] at h; cases h; simp
    rw [if_neg h1] at h
    by_cases h2 : c = 2
    · rw [if_pos h2] at h
      cases t with
      | nil => cases h
      | cons m t =>
        simp only at h
        by_cases h4 : t.length < m.toNat
        · rw [if_pos h4] at h; cases h
        · rw [if_neg h4] at h; cases h
          have := m.toNat_lt
          simp only [List.length_take]; omega
    rw [if_neg h2] at h
    by_cases h3 : c = 3
    · rw [if_pos h3] at h
      cases t with
      | nil => cases h
      | cons m t => cases h; simp
    rw [if_neg h3] at h
    cases h

theorem valsP_size (k : Nat) : ∀ (l : List UInt8) (xs : List Vl) (r : List UInt8), valsP k l = some (xs, r) → ∀ x ∈ xs, x.s.length ≤ 255 := by
  induction k with
  | zero => intro l xs r h x hx; simp only [valsP] at h; cases h; cases hx
  | succ k ih =>
    intro l xs r h x hx
    simp only [valsP] at h
    cases hv : valP l with
    | none => rw [hv] at h; cases h
    | some p =>
      obtain ⟨y, t⟩ := p
      rw [hv] at h
      simp only [Option.bind_some] at h
      cases hw : valsP k t with
      | none => rw [hw] at h; cases h
      | some q =>
        obtain ⟨ys, u⟩ := q
        rw [hw] at h
        simp only [Option.map_some] at h
        cases h
        cases hx with
        | head => exact valP_size l x t hv
        | tail _ hx => exact ih t ys _ hw x hx

theorem valsOf_size (l : List UInt8) (xs : List Vl) (r : List UInt8) (h : valsOf l = some (xs, r)) : ∀ x ∈ xs, x.s.length ≤ 255 := by
  cases l with
  | nil => cases h
  | cons c t => exact valsP_size _ _ _ _ h

theorem grown_to_below {w w' : World} {b : Nat} (hg : w.grownBy w' (some b)) {B : Nat} (hB : B ≤ b) (hB2 : B ≤ w.heap.size) : Below B w w' :=
  ⟨hg.os, hg.tape, hg.output, hg.size, fun k hk => hg.block k (by omega) (by simp; omega)⟩

/-- what Decode leaves -/
def DecPost (w : World) (s : List UInt8) (e : Ending) (w' : World) : Prop :=
  ∃ v, e = .returned (.tuple #[v, .int .i64 (decE s : Nat)]) ∧ w'.ownsRow w.heap.size 49 3 v (decR s).length ((decR s).flatMap vlC) ∧ Below w.heap.size w w' ∧ (decR s).length ≤ 255 ∧ ∀ x ∈ decR s, x.s.length ≤ 255

set_option maxRecDepth 100000 in
set_option maxHeartbeats 1600000 in
theorem decode_any (s : List UInt8) (w : World) : Calls Tryz.prog 28 #[.string ⟨s.toArray⟩] w fun e w' => DecPost w s e w' := by
  have r0 : RdAt (w.alloc (.cells #[.string ⟨s.toArray⟩, .bool false] 107)) w.heap.size s false := heap_alloc_new _ _
  have hv := values_any w.heap.size s _ r0
  have b0 := (Below.refl w.heap.size w).alloc (Nat.le_refl _) (.cells #[.string ⟨s.toArray⟩, .bool false] 107)
  clear r0
  go_enter Tryz.func28, Tryz.ntmps28
  go_wp2_with fail
  refine hv.mono ?_
  rintro e w1 ⟨v, xs, L', wr, rfl, hown, r1, g1, hlen, hval⟩
  have b1 : Below w.heap.size w w1 := b0.trans (grown_to_below g1 (Nat.le_refl _) (by simp))
  obtain ⟨⟨c0, c1⟩, -⟩ := two r1
  have hown := own_mono hown (B' := w.heap.size) (by simp)
  have hdp := decP_vals s
  clear hv b0 g1 r1
  cases wr with
  | true =>
    have e1 : decE s = 1 := by
      rw [hval] at hdp
      simp only [if_true] at hdp
      unfold decE; rw [hdp]
    have e2 : decR s = [] := decR_none s (by rw [e1]; decide)
    have E1 := hide e1
    have E2 := hide e2
    obtain ⟨ao, cap, ev⟩ := owns_slice hown
    subst ev
    clear hdp hval e1 e2 hown
    go_wp2
    go_ret2
    exact ⟨.slice none 0 0, by rw [E1.out]; rfl, by rw [E2.out]; exact World.ownsRow_nil _ _ _ _, b1, by rw [E2.out]; decide, by rw [E2.out]; intro x hx; cases hx⟩
  | false =>
    simp only [Bool.false_eq_true, if_false] at hval
    rw [hval] at hdp
    by_cases hL : L' = []
    · subst hL
      have hsz := valsOf_size s xs [] hval
      simp only at hdp
      have e1 : decE s = chkL xs := by unfold decE; rw [hdp]
      have e2 : decR s = if chkL xs = 0 then xs else [] := by unfold decR; rw [e1, hdp]; rfl
      have E1 := hide e1
      have E2 := hide e2
      have hf := fault_any' xs v w1 (vs_of_own hown (by omega) fun x hx => by have := hsz x hx; omega)
      have Hown := hide hown
      have Hsz := hide hsz
      obtain ⟨ao, cap, ev⟩ := owns_slice hown
      subst ev
      clear hdp hval e1 e2 hown hsz
      by_cases h0 : chkL xs = 0
      · have H0 := hide h0
        rw [h0] at hf
        clear h0
        go_wp2_with (go_at_call 79; refine hf.mono ?_; rintro e w2 ⟨rfl, b2⟩)
        go_ret2
        refine ⟨.slice ao xs.length cap, by rw [E1.out, H0.out]; rfl, ?_, b1.trans (b2.mono b1.size), ?_, ?_⟩
        · rw [E2.out, if_pos H0.out]; exact owns_below Hown.out b2
        · rw [E2.out, if_pos H0.out]; exact hlen
        · rw [E2.out, if_pos H0.out]; exact Hsz.out
      · have h0' : (((chkL xs : Nat) : Int) != 0) = true := by simpa using h0
        have H0 := hide h0
        clear h0
        generalize chkL xs = c at hf h0' E1 E2 H0
        go_wp2_with (go_at_call 79; refine hf.mono ?_; rintro e w2 ⟨rfl, b2⟩)
        go_ret2
        refine ⟨.slice none 0 0, by rw [E1.out]; rfl, ?_, b1.trans (b2.mono b1.size), ?_, ?_⟩
        · rw [E2.out, if_neg H0.out]; exact World.ownsRow_nil _ _ _ _
        · rw [E2.out, if_neg H0.out]; decide
        · rw [E2.out, if_neg H0.out]; intro x hx; cases hx
    · have hdp2 : decP s = none := by
        rw [hdp]
        cases L' with
        | nil => exact absurd rfl hL
        | cons a b => rfl
      have e1 : decE s = 1 := by unfold decE; rw [hdp2]
      have e2 : decR s = [] := decR_none s (by rw [e1]; decide)
      have hq : ((⟨L'.toArray⟩ : ByteArray).toList == []) = false := by
        rw [Lib.toList_data]; simpa using hL
      have E1 := hide e1
      have E2 := hide e2
      obtain ⟨ao, cap, ev⟩ := owns_slice hown
      subst ev
      have hL2 : L'.isEmpty = false := by simpa using hL
      clear hdp hdp2 hval e1 e2 hown hL
      go_wp2
      go_ret2
      exact ⟨.slice none 0 0, by rw [E1.out]; rfl, by rw [E2.out]; exact World.ownsRow_nil _ _ _ _, b1, by rw [E2.out]; decide, by rw [E2.out]; intro x hx; cases hx⟩
end

section
open Go.RowKit

theorem Tryz.fields36 : (Tryz.prog.fieldsOf 49).toList.map (fun f => (f.name, f.type, f.offset)) = [("Kind", 3, 0), ("N", 3, 1), ("S", 9, 2)] := by kernel_rfl
theorem Tryz.under36 : Tryz.prog.underlying 49 = some (.struct (Tryz.prog.fieldsOf 49)) := by kernel_rfl
theorem Tryz.stood36 : Tryz.prog.stoodInHeld 49 = false := by kernel_rfl

theorem eql36 (k a k' a' : Int) (t t' : ByteArray) (w : World) :
    (binOp .eql 49 (.agg #[.int .i64 k, .int .i64 a, .string t]) (.agg #[.int .i64 k', .int .i64 a', .string t'])).run Tryz.prog w = .ok (.bool (sameTk k a t k' a' t')) w := by
  rw [run_eql_struct, run_equalIn_struct w 9999 49 _ _ Tryz.under36 Tryz.stood36]
  obtain ⟨f0, f1, f2, hf, n0, t0, o0, n1, t1, o1, n2, t2, o2⟩ := fields_three Tryz.fields36
  rw [hf]
  simp [Op.eqFields, n0, t0, o0, n1, t1, o1, n2, t2, o2, go_sem]
  unfold sameTk
  by_cases h1 : k = k' <;> by_cases h2 : a = a' <;> by_cases h3 : t.toList = t'.toList <;> simp [h1, h2, h3]

/-- the three values -/
def threeL : List Vl := [⟨1, 1, []⟩, ⟨2, 0, [120]⟩, ⟨0, 0, []⟩]
theorem b_chk : chkL threeL = 0 := by decide +kernel
theorem b_enc : encR threeL = [3, 1, 0, 202, 154, 59, 2, 1, 120, 0] := by decide +kernel
theorem b_dec : decE [3, 1, 0, 202, 154, 59, 2, 1, 120, 0] = 0 ∧ decR [3, 1, 0, 202, 154, 59, 2, 1, 120, 0] = threeL := by
  have h := dec_enc threeL b_chk
  have e : encL threeL = [3, 1, 0, 202, 154, 59, 2, 1, 120, 0] := by decide +kernel
  rw [e] at h
  exact h

theorem keepB {w W W' : World} {b : Nat} {x y z : Value} (h : W.cell? ⟨b, 3, none⟩ = some x ∧ W.cell? ⟨b, 4, none⟩ = some y ∧ W.cell? ⟨b, 5, none⟩ = some z ∧ Below w.heap.size w W ∧ b < W.heap.size) (hb : Below W.heap.size W W') :
    W'.cell? ⟨b, 3, none⟩ = some x ∧ W'.cell? ⟨b, 4, none⟩ = some y ∧ W'.cell? ⟨b, 5, none⟩ = some z ∧ Below w.heap.size w W' ∧ b < W'.heap.size :=
  ⟨(hb.cell h.2.2.2.2).trans h.1, (hb.cell h.2.2.2.2).trans h.2.1, (hb.cell h.2.2.2.2).trans h.2.2.1, h.2.2.2.1.trans (hb.mono h.2.2.2.1.size), Nat.lt_of_lt_of_le h.2.2.2.2 hb.size⟩

set_option maxRecDepth 100000 in
set_option maxHeartbeats 1600000 in
theorem rbegun_any (w : World) : Calls Tryz.prog 24 #[] w fun e w' => e = .returned (.bool true) ∧ Below w.heap.size w w' := by
  have hq := eql36
  have hst : sameTk 2 0 ⟨#[120]⟩ 2 0 ⟨#[120]⟩ = true := by decide +kernel
  go_enter Tryz.func24, Tryz.ntmps24
  go_wp2_with fail
  refine (num_any 1 _).mono ?_
  rintro e w1 ⟨rfl, b1⟩
  go_wp2_with fail
  refine (txt_any _ _).mono ?_
  rintro e w2 ⟨rfl, b2⟩
  have q2 : Below w.heap.size w w2 := b1.trans (b2.mono b1.size)
  clear b1 b2
  go_wp2_with fail
  have hv : VsAt (w2.alloc (.cells #[.int .i64 1, .int .i64 1, .string ⟨#[]⟩, .int .i64 2, .int .i64 0, .string ⟨#[120]⟩, .int .i64 0, .int .i64 0, .string ⟨#[]⟩] 49)) (.slice (some ⟨w2.heap.size, 0, none⟩) 3 3) threeL := by
    refine ⟨_, 3, rfl, by decide, by decide, fun _ => ⟨w2.heap.size, 0, rfl, by simp, ?_⟩⟩
    intro i x hx
    match i, hx with
    | 0, hx => cases hx; simp
    | 1, hx => cases hx; simp
    | 2, hx => cases hx; simp
  have he := encode_any threeL _ _ hv
  rw [b_enc, b_chk] at he
  refine he.mono ?_
  rintro e w3 ⟨rfl, b3⟩
  have q3 : Below w.heap.size w w3 := (q2.alloc q2.size _).trans (b3.mono (by have := q2.size; simp; omega))
  clear q2 b3 hv he
  go_wp2_with fail
  have hd := decode_any [3, 1, 0, 202, 154, 59, 2, 1, 120, 0] w3
  refine hd.mono ?_
  rintro e w4 ⟨v, rfl, hown, b4, -, -⟩
  rw [b_dec.2] at hown
  rw [b_dec.1]
  have q4 : Below w.heap.size w w4 := q3.trans (b4.mono q3.size)
  obtain ⟨g, cap, rfl, -, hg⟩ := owns_some hown (by decide)
  have c3 : w4.cell? ⟨g, 3, none⟩ = some (.int .i64 2) := hown.cellAt 3 (by decide)
  have c4 : w4.cell? ⟨g, 4, none⟩ = some (.int .i64 0) := hown.cellAt 4 (by decide)
  have c5 : w4.cell? ⟨g, 5, none⟩ = some (.string ⟨#[120]⟩) := hown.cellAt 5 (by decide)
  have hl : threeL.length = 3 := rfl
  rw [hl]
  clear hd hown b4 q3 hl
  go_wp2_with fail
  go_region_held3 (fun w' => w'.cell? ⟨g, 3, none⟩ = some (.int .i64 2) ∧ w'.cell? ⟨g, 4, none⟩ = some (.int .i64 0) ∧ w'.cell? ⟨g, 5, none⟩ = some (.string ⟨#[120]⟩) ∧ Below w.heap.size w w' ∧ g < w'.heap.size) (first | exact ⟨c3, c4, c5, q4.drew, hg⟩ | exact keepB (by assumption) (by assumption)) (first | (go_at_call 40; refine (txt_any _ _).mono ?_; rintro e w' ⟨rfl, hb⟩))
  rename_i hH
  have q8 := hH.2.2.2.1
  clear hH
  go_wp2
  go_ret
  exact ⟨rfl, q8⟩
end

section
open Go.RowKit

theorem conv_b (n : Int) (w : World) :
    (convert 134 9 (.slice (some ⟨w.heap.size, 0, none⟩) 1 1)).run Tryz.prog (w.alloc (.cells #[.int .u8 (n % 256)] 5)) = .ok (.string ⟨#[b8 n]⟩) (w.alloc (.cells #[.int .u8 (n % 256)] 5)) := by
  have h := run_convert_bytes_back (P := Tryz.prog) (w.alloc (.cells #[.int .u8 (n % 256)] 5)) 134 9 5 ⟨w.heap.size, 0, none⟩ 1 [b8 n] Tryz.underlying134 Tryz.underlying5 Tryz.underlying9 (by
    intro j hj
    have : j = 0 := by simpa using hj
    subst this
    have e := b8_toNat n
    simp [Addr.add, e])
  exact h
theorem conv_g (n : Int) (w : World) (g : Nat) (hg : g = w.heap.size) :
    (convert 134 9 (.slice (some ⟨g, 0, none⟩) 1 1)).run Tryz.prog (w.alloc (.cells #[.int .u8 (n % 256)] 5)) = .ok (.string ⟨#[b8 n]⟩) (w.alloc (.cells #[.int .u8 (n % 256)] 5)) := by
  subst hg; exact conv_b n w
theorem conv_k (n : Int) (hn : 0 ≤ n) (hn' : n < 256) (w : World) (g : Nat) (hg : g = w.heap.size) :
    (convert 134 9 (.slice (some ⟨g, 0, none⟩) 1 1)).run Tryz.prog (w.alloc (.cells #[.int .u8 n] 5)) = .ok (.string ⟨#[b8 n]⟩) (w.alloc (.cells #[.int .u8 n] 5)) := by
  subst hg
  have h := conv_b n w
  rw [show n % 256 = n by omega] at h
  exact h

/-- what is left behind a text that was made -/
def TxPost (w : World) (l : List UInt8) (e : Ending) (w' : World) : Prop := e = .returned (.string ⟨l.toArray⟩) ∧ Below w.heap.size w w'

set_option maxRecDepth 100000 in
set_option maxHeartbeats 3200000 in
theorem encodeOf_any (L : List Vl) (u : Value) (w : World) (h : VsAt w u L) (hE : chkL L = 0) : Calls Tryz.prog 59 #[u] w fun e w' => TxPost w (encL L) e w' := by
  unfold chkL at hE
  have hl5 : ¬ 5 < L.length := by intro h5; rw [if_pos h5] at hE; cases hE
  rw [if_neg hl5] at hE
  have hall := (badL_zero L).1 hE
  obtain ⟨ao, cap, rfl, h1, h2, h3⟩ := h
  obtain ⟨n, hn⟩ : ∃ n, L.length = n := ⟨_, rfl⟩
  have HEnc : Hid (encL L = b8 (n : Int) :: L.flatMap encV) := by show _ = _; rw [encL, hn]
  rw [hn] at hl5 h1 ⊢
  clear hE
  have hc0 := conv_k (n : Int) (by omega) (by omega)
  go_enter Tryz.func59, Tryz.ntmps59
  go_wp2_with fail
  have b0 := (Below.refl w.heap.size w).alloc (Nat.le_refl _) (.cells #[.int .u8 (n : Int)] 5)
  clear hc0
  go_loopw [3, 4] (fun v i wl => ∃ (k : Nat) (acc : List UInt8), k ≤ n ∧ i = .int .i64 k ∧ v = .string ⟨acc.toArray⟩ ∧ Below w.heap.size w wl ∧ Hid (acc = b8 (n : Int) :: (L.take k).flatMap encV)) (fun _ i _ => n - (intOf i).toNat)
  case atStart => exact ⟨0, [b8 (n : Int)], Nat.zero_le _, rfl, rfl, b0, rfl⟩
  case round =>
    obtain ⟨k, acc, hk, rfl, rfl, hnx, HA⟩ := hrel
    clear b0
    have hsz := hnx.size
    have hlen : acc.length ≤ 200 := by
      have := flat_len (L.take k) fun x hx => hall x (List.mem_of_mem_take hx)
      rw [HA.out, List.length_cons]
      rw [List.length_take] at this
      omega
    have hsa := size_mk acc
    by_cases hlt : k < n
    · obtain ⟨x, hx⟩ : ∃ x, L[k]? = some x := ⟨L[k], List.getElem?_eq_getElem (by omega)⟩
      obtain ⟨g, o, rfl, hg, hc⟩ := h3 (by intro e; rw [e] at hx; cases hx)
      obtain ⟨a0, a1, a2⟩ := hc k x hx
      have c0 := (hnx.cell (p := ⟨g, o + k * 3, none⟩) hg).trans a0
      have c1 := (hnx.cell (p := ⟨g, o + k * 3 + 1, none⟩) hg).trans a1
      have c2 := (hnx.cell (p := ⟨g, o + k * 3 + 2, none⟩) hg).trans a2
      have hlt' : (k : Int) < (n : Int) := by omega
      have HT : Hid (b8 (n : Int) :: (L.take (k + 1)).flatMap encV = acc ++ encV x) := by
        show _ = _
        obtain ⟨hkl, rfl⟩ := List.getElem?_eq_some_iff.1 hx
        rw [List.take_succ_eq_append_getElem hkl, List.flatMap_append, HA.out]
        simp
      have hck := hall x (List.mem_of_getElem? hx)
      clear hc a0 a1 a2 hx HA h2 h3 hall HEnc
      obtain ⟨K, M, S⟩ := x
      rcases chkV_zero hck with ⟨q1, q2, q3⟩ | ⟨q1, q2, q3, q4⟩ | ⟨q1, q2, q3⟩ | ⟨q1, q2, q3⟩
      · simp only at q1; subst q1
        have hk0 := conv_k 0 (by decide) (by decide)
        go_wp2
        go_roundw
        case rel => exact ⟨k + 1, acc ++ [b8 0], by omega, by go_num, by rw [← mk_append], (hnx.alloc hsz _).alloc (by simp; omega) _, HT.out.symm⟩
        case measure => simp [intOf]; omega
      · simp only at q1 q2 q3; subst q1
        have hk0 := conv_k 1 (by decide) (by decide)
        go_wp2_with fail
        clear hk0
        go_loopw [3, 6, 7] (fun v m i wl => ∃ (j : Nat) (acc' : List UInt8) (n' : Int), j ≤ 4 ∧ i = .int .i64 j ∧ v = .string ⟨acc'.toArray⟩ ∧ m = .int .i64 n' ∧ 0 ≤ n' ∧ n' ≤ 1999999998 ∧ Below w.heap.size w wl ∧ acc'.length ≤ 201 + j ∧ Hid (acc' ++ leB (4 - j) n' = acc ++ (b8 1 :: leB 4 (M + 999999999)))) (fun _ _ i _ => 4 - (intOf i).toNat)
        case atStart => exact ⟨0, acc ++ [b8 1], M + 999999999, by decide, rfl, by rw [← mk_append], rfl, by omega, by omega, (hnx.alloc hsz _).alloc (by simp; omega) _, by simp; omega, by show _ = _; simp⟩
        case round =>
          obtain ⟨j, acc', n', hj, rfl, rfl, rfl, hn0, hn1, hnx2, hal, HB⟩ := hrel
          have hs2 := hnx2.size
          have hsa2 := size_mk acc'
          by_cases hj4 : j < 4
          · have hj4' : (j : Int) < 4 := by omega
            have hcv := conv_g n'
            have HB2 : Hid ((acc' ++ [b8 n']) ++ leB (4 - (j + 1)) (n' / 256) = acc ++ (b8 1 :: leB 4 (M + 999999999))) := by
              show _ = _
              rw [← HB.out, show 4 - j = (4 - (j + 1)) + 1 by omega, leB]
              simp
            clear HB
            go_wp2
            go_roundw
            case rel => exact ⟨j + 1, acc' ++ [b8 n'], n' / 256, by omega, by go_num, by rw [← mk_append], rfl, by omega, by omega, hnx2.alloc hs2 _, by simp; omega, HB2⟩
            case measure => simp [intOf]; omega
          · obtain rfl : j = 4 := by omega
            have HB2 : Hid (acc' = acc ++ encV ⟨1, M, S⟩) := by
              show _ = _
              have := HB.out
              rw [show 4 - 4 = 0 from rfl, leB, List.append_nil] at this
              exact this
            clear HB
            go_wp2
            go_roundw
            case rel => exact ⟨k + 1, acc', by omega, by go_num, rfl, hnx2, by show _ = _; rw [HT.out, HB2.out]⟩
            case measure => simp [intOf]; omega
      · simp only at q1; subst q1
        have hk0 := conv_k 2 (by decide) (by decide)
        have hk1 := conv_k (S.length : Int) (by omega) (by simp only at q3; omega)
        have hss := size_mk S
        simp only at q3
        go_wp2
        go_roundw
        case rel =>
          refine ⟨k + 1, acc ++ encV ⟨2, M, S⟩, by omega, by go_num, ?_, ((hnx.alloc hsz _).alloc (by simp; omega) _).alloc (by simp; omega) _, HT.out.symm⟩
          have e : encV ⟨2, M, S⟩ = [b8 2] ++ ([b8 (S.length : Nat)] ++ S) := rfl
          rw [e, ← List.append_assoc, ← mk_append, ← mk_append, ← mk_append]
        case measure => simp [intOf]; omega
      · simp only at q1 q2; subst q1
        have hk0 := conv_k 3 (by decide) (by decide)
        have hk1 := conv_k M (by omega) (by omega)
        have hm0 : 0 ≤ M := by omega
        have hm1 : M ≤ 1 := by omega
        go_wp2
        go_roundw
        case rel =>
          refine ⟨k + 1, acc ++ encV ⟨3, M, S⟩, by omega, by go_num, ?_, ((hnx.alloc hsz _).alloc (by simp; omega) _).alloc (by simp; omega) _, HT.out.symm⟩
          have e : encV ⟨3, M, S⟩ = [b8 3] ++ [b8 M] := rfl
          rw [e, ← List.append_assoc, ← mk_append, ← mk_append]
        case measure => simp [intOf]; omega
    · obtain rfl : k = n := by omega
      have HQ : Hid (encL L = acc) := by show _ = _; rw [HEnc.out, HA.out, List.take_of_length_le (by omega)]
      clear h2 h3 hall HEnc HA
      go_wp2
      go_ret
      exact ⟨by rw [HQ.out]; rfl, hnx⟩
end

section
open Go.RowKit

/-- room for n values that lies in the block g -/
def Room (w : World) (g o n : Nat) : Prop := ∃ cs, w.heap[g]? = some (.cells cs 49) ∧ o + n * 3 ≤ cs.size

set_option maxRecDepth 100000 in
set_option maxHeartbeats 800000 in
theorem spoil_some (g o n cap : Nat) (w : World) (hr : Room w g o n) (hn : n ≤ 1000000000000000) :
    Calls Tryz.prog 29 #[.slice (some ⟨g, o, none⟩) n cap] w fun e w' => e = .returned (.tuple #[]) ∧ w.grownBy w' (some g) := by
  have HR := hide hr
  clear hr
  go_enter Tryz.func29, Tryz.ntmps29
  go_wp2
  go_loopw [2] (fun i wl => ∃ k : Nat, k ≤ n ∧ i = .int .i64 k ∧ Hid (Room wl g o n) ∧ w.grownBy wl (some g)) (fun i _ => n - (intOf i).toNat)
  case atStart => exact ⟨0, Nat.zero_le _, rfl, HR, grown_refl _ _⟩
  case round =>
    obtain ⟨k, hk, rfl, hR, hnx⟩ := hrel
    by_cases hlt : k < n
    · obtain ⟨cs, hc, hs⟩ := hR.out
      have hlt' : (k : Int) < (n : Int) := by omega
      have hj : o + k * 3 < cs.size := by omega
      have c0 : wr.cell? ⟨g, o + k * 3, none⟩ = some cs[o + k * 3] := by rw [Lib.cell_of_heap hc]; exact Array.getElem?_eq_getElem hj
      have f0 := Lib.frozen_of_heap hc (o + k * 3)
      have HR2 : Hid (Room (wr.setCell ⟨g, o + k * 3, none⟩ (.int .i64 (-7))) g o n) := by
        refine hide ⟨cs.setIfInBounds (o + k * 3) (.int .i64 (-7)), heap_setCell_same wr g (o + k * 3) cs 49 _ hc, by simpa using hs⟩
      have q2 : w.grownBy (wr.setCell ⟨g, o + k * 3, none⟩ (.int .i64 (-7))) (some g) := grown_trans hnx (grown_set wr g (o + k * 3) _)
      generalize cs[o + k * 3] = x0 at c0
      clear hR hc hs hj HR hnx
      go_wp2
      go_roundw
      case rel => exact ⟨k + 1, by omega, by go_num, HR2, q2⟩
      case measure => simp [intOf]; omega
    · go_wp2
      go_end0
      exact ⟨rfl, hnx⟩

set_option maxRecDepth 100000 in
set_option maxHeartbeats 800000 in
theorem spoil_none (w : World) :
    Calls Tryz.prog 29 #[.slice none 0 0] w fun e w' => e = .returned (.tuple #[]) ∧ w.grownBy w' none := by
  go_enter Tryz.func29, Tryz.ntmps29
  go_wp2
  go_loopw [2] (fun i wl => i = .int .i64 0 ∧ w.grownBy wl none) (fun i _ => 0)
  case atStart => exact ⟨rfl, grown_refl _ _⟩
  case round =>
    obtain ⟨rfl, hnx⟩ := hrel
    go_wp2
    go_end0
    exact ⟨rfl, hnx⟩

/-- what was made is spoilt -/
theorem spoil_own (B : Nat) (v : Value) (n : Nat) (xs : List Value) (w : World) (h : w.ownsRow B 49 3 v n xs) (hn : n ≤ 1000) :
    Calls Tryz.prog 29 #[v] w fun e w' => e = .returned (.tuple #[]) ∧ w.grownBy w' v.ownBlock := by
  rcases h.2 with ⟨rfl, h0⟩ | ⟨g, cap, cur, rfl, hB, hg, h1, h2, h3, h4⟩
  · exact spoil_none w
  · exact spoil_some g 0 n cap w ⟨cur, hg, by rw [h3]; have := Nat.mul_le_mul_right 3 h1; omega⟩ (by omega)

theorem own_lt {w : World} {B : Nat} {v : Value} {n : Nat} {xs : List Value} (h : w.ownsRow B 49 3 v n xs) : ∀ k, v.ownBlock = some k → B ≤ k ∧ k < w.heap.size := by
  intro k hk
  rcases h.2 with ⟨rfl, h0⟩ | ⟨g, cap, cur, rfl, hB, hg, h1, h2, h3, h4⟩
  · cases hk
  · simp [Value.ownBlock] at hk
    subst hk
    exact ⟨hB, (Array.getElem?_eq_some_iff.1 hg).1⟩

/-- what lies behind what was spoilt stays -/
theorem own_kept {w w' : World} {B : Nat} {v : Value} {n : Nat} {xs : List Value} {r : Option Nat} (h : w.ownsRow B 49 3 v n xs) (hg : w.grownBy w' r) (hr : ∀ k, r = some k → k < B) : w'.ownsRow B 49 3 v n xs := by
  refine ⟨h.1, ?_⟩
  rcases h.2 with h' | ⟨g, cap, cur, hv, hB, hc, q⟩
  · exact .inl h'
  · exact .inr ⟨g, cap, cur, hv, hB, (hg.block g (Array.getElem?_eq_some_iff.1 hc).1 (fun e => by have := hr g e.symm; omega)).trans hc, q⟩

theorem own_none {w : World} {B n : Nat} {e : TypeId} {m : Nat} {v : Value} {xs : List Value} (h : w.ownsRow B e m v n xs) : ∀ ao cap, v = .slice ao 0 cap → ao = none → cap = 0 := by
  intro ao cap hv ha
  rcases h.2 with ⟨rfl, h0⟩ | ⟨g, c, cur, rfl, hB, hg, r⟩
  · cases hv; rfl
  · cases hv; cases ha

theorem vs_big {w : World} {B : Nat} {v : Value} {xs : List Vl} (h : w.ownsRow B 49 3 v xs.length (xs.flatMap vlC)) (hn : xs.length * 32 ≤ 140737488355328) (hs : ∀ x ∈ xs, x.s.length ≤ 140737488355328) : VsAt w v xs := by
  obtain ⟨ao, cap, e⟩ := owns_slice h
  refine ⟨ao, cap, e, hn, hs, fun hne => ?_⟩
  obtain ⟨g, cap', e', -, hg⟩ := owns_some h (by intro e0; exact hne (List.eq_nil_of_length_eq_zero e0))
  rw [e] at e'
  cases e'
  refine ⟨g, 0, rfl, hg, fun i x hx => ?_⟩
  rw [e] at h
  have hlen := h.1
  have at' : ∀ q, q < 3 → w.cell? ⟨g, i * 3 + q, none⟩ = (vlC x)[q]? := by
    intro q hq
    have hi := (List.getElem?_eq_some_iff.1 hx).1
    have := h.cellAt (i * 3 + q) (by omega)
    rw [flat_get vlC 3 (fun _ => rfl) xs i x hx q hq] at this
    exact this
  rw [Nat.zero_add]
  exact ⟨at' 0 (by decide), at' 1 (by decide), at' 2 (by decide)⟩

theorem ds_of_own {w : World} {B : Nat} {v : Value} {xs : List Dl} (h : w.ownsRow B 51 6 v xs.length (xs.flatMap dlC)) (hn : xs.length * 56 ≤ 140737488355328) (hs : ∀ x ∈ xs, x.v.s.length ≤ 140737488355328) : DsAt w v xs := by
  rcases h.2 with ⟨e, h0⟩ | ⟨g, cap, cur, e, hB, hg, h1, h2, h3, h4⟩
  · obtain rfl := List.eq_nil_of_length_eq_zero h0
    exact ⟨none, 0, e, by simp, by simp, by simp, by simp, by simp⟩
  · have hm : maxLen = 9223372036854775807 := by rfl
    refine ⟨_, cap, e, h1, by omega, hn, hs, fun hne => ⟨g, 0, rfl, (Array.getElem?_eq_some_iff.1 hg).1, fun i x hx => ?_⟩⟩
    rw [e] at h
    have hlen := h.1
    have at' : ∀ q, q < 6 → w.cell? ⟨g, i * 6 + q, none⟩ = (dlC x)[q]? := by
      intro q hq
      have hi := (List.getElem?_eq_some_iff.1 hx).1
      have := h.cellAt (i * 6 + q) (by omega)
      rw [flat_get dlC 6 (fun _ => rfl) xs i x hx q hq] at this
      exact this
    rw [Nat.zero_add]
    exact ⟨at' 0 (by decide), at' 1 (by decide), at' 2 (by decide), at' 3 (by decide), at' 4 (by decide), at' 5 (by decide)⟩

theorem flatD_len (L : List Dl) : (L.flatMap dlC).length = L.length * 6 := by
  induction L with
  | nil => rfl
  | cons x r ih => rw [List.flatMap_cons, List.length_append, ih]; simp [dlC]; omega

theorem flatD_one (L : List Dl) : ∀ u ∈ L.flatMap dlC, u.oneCell' = true := by
  intro u hu
  obtain ⟨x, -, hx⟩ := List.mem_flatMap.1 hu
  simp only [dlC, List.mem_cons, List.not_mem_nil, or_false] at hx
  rcases hx with rfl | rfl | rfl | rfl | rfl | rfl <;> rfl

theorem Tryz.info_dl : (Tryz.prog.info? 51).map (fun i => (i.zero, i.size, i.bytes)) = some (some (.agg #[.int .i64 0, .int .i64 0, .int .i64 0, .int .i64 0, .int .i64 0, .string ⟨#[]⟩]), 6, 56) := by kernel_rfl

theorem DsAt.cells {w : World} {L : List Dl} {g o : Nat} (hc : ∀ i x, L[i]? = some x → Dc w g (o + i * 6) x) (j : Nat) (u : Value) (hj : (L.flatMap dlC)[j]? = some u) : w.cell? ⟨g, o + j, none⟩ = some u := by
  induction L generalizing o j with
  | nil => simp at hj
  | cons x r ih =>
    rw [List.flatMap_cons] at hj
    have h0 := hc 0 x rfl
    rw [Nat.zero_mul, Nat.add_zero] at h0
    by_cases h6 : j < 6
    · rw [List.getElem?_append_left (by simpa [dlC] using h6)] at hj
      match j, h6, hj with
      | 0, _, hj => simp [dlC] at hj; subst hj; exact h0.c0
      | 1, _, hj => simp [dlC] at hj; subst hj; exact h0.c1
      | 2, _, hj => simp [dlC] at hj; subst hj; exact h0.c2
      | 3, _, hj => simp [dlC] at hj; subst hj; exact h0.c3
      | 4, _, hj => simp [dlC] at hj; subst hj; exact h0.c4
      | 5, _, hj => simp [dlC] at hj; subst hj; exact h0.c5
    · rw [List.getElem?_append_right (by simp [dlC]; omega)] at hj
      have := ih (o := o + 6) (fun i y hy => by
        have := hc (i + 1) y (by simpa using hy)
        rw [show o + 6 + i * 6 = o + (i + 1) * 6 by omega]; exact this) (j - 6) (by simpa [dlC] using hj)
      rw [show o + 6 + (j - 6) = o + j by omega] at this
      exact this
end

section
open Go.RowKit

theorem vs_nil (w : World) : VsAt w (.slice none 0 0) [] := ⟨none, 0, rfl, by simp, by simp, by simp⟩

set_option maxRecDepth 100000 in
set_option maxHeartbeats 6400000 in
theorem rest_0 (r : List Vl) (L : List Dl) (s : List UInt8) (ao bo : Option Addr) (n m ca cb : Nat) (w : World) (X : List Vl) (hX : X.length ≤ 5) (hXs : ∀ x ∈ X, x.s.length ≤ 20)
    (hn : r.length = n) (hm : L.length = m) (hul : n * 32 ≤ 140737488355328) (hus : ∀ x ∈ r, x.s.length ≤ 140737488355328) (hdl : m * 56 ≤ 140737488355328) (hds : ∀ x ∈ L, x.v.s.length ≤ 140737488355328)
    (hno : ao = none → n = 0 ∧ ca = 0) (hnews : ∀ W : World, Below w.heap.size w W → ∀ ad, ao = some ad → ∀ j x, (r.flatMap vlC)[j]? = some x → W.cell? (ad.add j) = some x)
    (hdo : bo = none → m = 0 ∧ cb = 0) (hdews : ∀ W : World, Below w.heap.size w W → ∀ ad, bo = some ad → ∀ j x, (L.flatMap dlC)[j]? = some x → W.cell? (ad.add j) = some x)
    (hr : ∀ W : World, Below w.heap.size w W → VsAt W (.slice ao n ca) r)
    (h24 : ∀ W : World, Calls Tryz.prog 24 #[] W fun e w' => e = .returned (.bool true) ∧ Below W.heap.size W w')
    (h25 : ∀ W : World, Below w.heap.size w W → Calls Tryz.prog 25 #[] W fun e w' => e = .returned (.bool true) ∧ Below W.heap.size W w')
    (h26 : ∀ W : World, Below w.heap.size w W → Calls Tryz.prog 26 #[.slice ao n ca, .slice bo m cb] W fun e w' => e = .returned (.int .i64 0) ∧ Below W.heap.size W w')
    (h23 : ∀ W : World, Below w.heap.size w W → Calls Tryz.prog 23 #[.slice ao n ca, .slice bo m cb] W fun e w' => ∃ x, e = .returned x ∧ Own w' W.heap.size x X ∧ Below W.heap.size W w') (h27 : ∀ (W : World) (x y : Value), Below w.heap.size w W → VsAt W x r → (∀ a c, x = .slice a 0 c → a = none → c = 0) → DsAt W y L → Calls Tryz.prog 27 #[x, y] W fun e w' => ∃ z, e = .returned (.tuple #[z, .int .i64 0]) ∧ Own w' W.heap.size z X ∧ Below W.heap.size W w') :
    Calls Tryz.prog 7 #[.slice ao n ca, .slice bo m cb, .string ⟨s.toArray⟩] w fun e w' => e = .returned (.bool true) ∧ Below w.heap.size w w' := by
  obtain ⟨i0, hi, hz0, hz1, hz2⟩ := info_parts Tryz.info_val
  obtain ⟨i1, gi, gz0, gz1, gz2⟩ := info_parts Tryz.info_dl
  have h1 := flatV_one r
  have g1 := flatD_one L
  have hnl : (r.flatMap vlC).length = n * 3 := by rw [flatV_len, hn]
  have gnl : (L.flatMap dlC).length = m * 6 := by rw [flatD_len, hm]
  have HFR : Hid (∀ B v' w', w'.ownsRow B 49 3 v' (0 + n) ([] ++ r.flatMap vlC) → VsAt w' v' r ∧ (∀ a c, v' = .slice a 0 c → a = none → c = 0) ∧ ∃ a c, v' = .slice a n c) := by
    intro B v' w' h
    have h' : w'.ownsRow B 49 3 v' r.length (r.flatMap vlC) := by rw [hn]; simpa using h
    refine ⟨vs_big h' (by omega) hus, own_none h', ?_⟩
    obtain ⟨a, c, e⟩ := owns_slice h'
    exact ⟨a, c, by rw [e, hn]⟩
  have GFR : Hid (∀ B v' w', w'.ownsRow B 51 6 v' (0 + m) ([] ++ L.flatMap dlC) → DsAt w' v' L ∧ ∃ a c, v' = .slice a m c) := by
    intro B v' w' h
    have h' : w'.ownsRow B 51 6 v' L.length (L.flatMap dlC) := by rw [hm]; simpa using h
    refine ⟨ds_of_own h' (by omega) hds, ?_⟩
    obtain ⟨a, c, e⟩ := owns_slice h'
    exact ⟨a, c, by rw [e, hm]⟩
  generalize r.flatMap vlC = news at hnews hnl h1 HFR
  generalize L.flatMap dlC = dews at hdews gnl g1 GFR
  have h22 := same_vals
  clear hus hds
  go_enter Tryz.func7, Tryz.ntmps7
  go_wp2_with fail
  refine (h24 _).mono ?_
  rintro e w1 ⟨rfl, b1⟩
  clear h24
  go_wp2_with fail
  refine (h25 _ b1).mono ?_
  rintro e w2 ⟨rfl, b2⟩
  have q2 : Below w.heap.size w w2 := b1.trans (b2.mono b1.size)
  clear h25 b1 b2
  have q3 : Below w.heap.size w (w2.alloc (.cells #[] 49)) := q2.alloc q2.size _
  have hnews3 := hnews _ q3
  go_wp2_with (at_builtin; refine append_any rfl _ _ 41 rfl w2.heap.size 49 i0 (.agg #[.int .i64 0, .int .i64 0, .string ⟨#[]⟩]) 3 32 Tryz.underlying41 hi hz0 hz1 hz2 rfl (by decide) _ _ _ rfl (World.ownsRow_made w2 #[] 0 (Nat.le_refl _) (Nat.zero_le _) rfl) ao n ca news rfl hno hnl hnews3 h1 ?c3 ?c4 ?c5 ?_)
  case c3 => unfold maxLen; omega
  case c4 => omega
  case c5 => simp
  intro v1 w4 hown hgrow
  have q4 : Below w.heap.size w w4 := q3.grown hgrow (by have := q2.size; simp; omega) (fun j hj => by cases hj; exact q2.size)
  have O1 := hide (HFR.out w2.heap.size v1 w4 (by simpa using hown))
  obtain ⟨va, vc, hv1⟩ := O1.out.2.2
  subst hv1
  clear hnews hnews3 hnl h1 hown hgrow HFR hno q2 q3
  have q5 : Below w.heap.size w (w4.alloc (.cells #[] 51)) := q4.alloc q4.size _
  have hdews5 := hdews _ q5
  go_wp2_with (at_builtin; refine append_any rfl _ _ 23 rfl w4.heap.size 51 i1 (.agg #[.int .i64 0, .int .i64 0, .int .i64 0, .int .i64 0, .int .i64 0, .string ⟨#[]⟩]) 6 56 Tryz.underlying23 gi gz0 gz1 gz2 rfl (by decide) _ _ _ rfl (World.ownsRow_made w4 #[] 0 (Nat.le_refl _) (Nat.zero_le _) rfl) bo m cb dews rfl hdo gnl hdews5 g1 ?c3 ?c4 ?c5 ?_)
  case c3 => unfold maxLen; omega
  case c4 => omega
  case c5 => simp
  intro v2 w6 hown hgrow
  have q6 : Below w.heap.size w w6 := q5.grown hgrow (by have := q4.size; simp; omega) (fun j hj => by cases hj; exact q4.size)
  have p6 : Below w4.heap.size w4 w6 := ((Below.refl w4.heap.size w4).alloc (Nat.le_refl _) (.cells #[] 51)).grown hgrow (by simp) (fun j hj => by cases hj; exact Nat.le_refl _)
  have O2 := hide (GFR.out w4.heap.size v2 w6 (by simpa using hown))
  have O3 : Hid (VsAt w6 (.slice va n vc) r ∧ ∀ a c, (Value.slice va n vc) = .slice a 0 c → a = none → c = 0) := hide ⟨O1.out.1.below p6, O1.out.2.1⟩
  obtain ⟨da, dc, hv2⟩ := O2.out.2
  subst hv2
  clear hdews hdews5 gnl g1 hown hgrow GFR hdo q4 q5 O1 p6
  go_wp2_with fail
  refine (h26 _ q6).mono ?_
  rintro e w7 ⟨rfl, b7⟩
  have q7 : Below w.heap.size w w7 := q6.trans (b7.mono q6.size)
  have O7 : Hid (VsAt w7 (.slice va n vc) r ∧ (∀ a c, (Value.slice va n vc) = .slice a 0 c → a = none → c = 0) ∧ DsAt w7 (.slice da m dc) L) := hide ⟨O3.out.1.below b7, O3.out.2, O2.out.1.below b7⟩
  clear h26 b7 O2 O3 q6
  go_wp2_with fail
  refine (h23 _ q7).mono ?_
  rintro e w8 ⟨want, rfl, ow, b8⟩
  have q8 : Below w.heap.size w w8 := q7.trans (b8.mono q7.size)
  have O8 : Hid (VsAt w8 (.slice va n vc) r ∧ (∀ a c, (Value.slice va n vc) = .slice a 0 c → a = none → c = 0) ∧ DsAt w8 (.slice da m dc) L ∧ VsAt w8 want X) := hide ⟨O7.out.1.below b8, O7.out.2.1, O7.out.2.2.below b8, vs_of_own ow (by omega) (fun x hx => by have := hXs x hx; omega)⟩
  clear h23 b8 O7 q7 ow
  go_wp2_with fail
  go_loopw [11] (fun i wl => ∃ k : Nat, k ≤ 2 ∧ i = .int .i64 k ∧ Below w8.heap.size w8 wl) (fun i _ => 2 - (intOf i).toNat)
  case atStart => exact ⟨0, by omega, rfl, Below.refl _ _⟩
  case round =>
    obtain ⟨k, hk, rfl, hnx⟩ := hrel
    by_cases hlt : k < 2
    · have hlt' : (k : Int) < 2 := by omega
      have ql : Below w.heap.size w wr := q8.trans (hnx.mono q8.size)
      go_wp2_with fail
      refine (h27 wr _ _ ql (O8.out.1.below hnx) O8.out.2.1 (O8.out.2.2.1.below hnx)).mono ?_
      rintro e wa ⟨z, rfl, oz, ba⟩
      have pa : Below w8.heap.size w8 wa := hnx.trans (ba.mono hnx.size)
      have OZ := hide oz
      have sz := hnx.size
      clear oz ba ql hnx
      go_wp2_with fail
      refine (decode_any s wa).mono ?_
      rintro e wb ⟨y, rfl, oy, bb, ly, -⟩
      have pb : Below w8.heap.size w8 wb := pa.trans (bb.mono pa.size)
      have OZ2 : Hid (Own wb wr.heap.size z X) := hide (Own.kept_below OZ.out bb)
      have zlt : Hid (∀ k, z.ownBlock = some k → wr.heap.size ≤ k ∧ k < wa.heap.size) := hide (own_lt OZ.out)
      have OY := hide oy
      clear bb oy OZ
      go_wp2_with fail
      refine (h22 X _ _ wb (vs_of_own OZ2.out (by omega) (by exact fun x hx => by have := hXs x hx; omega)) (O8.out.2.2.2.below pb)).mono ?_
      rintro e wc ⟨rfl, bc⟩
      have pc : Below w8.heap.size w8 wc := pb.trans (bc.mono pb.size)
      have OZ3 : Hid (Own wc wr.heap.size z X) := hide (Own.kept_below OZ2.out bc)
      have OY3 : Hid (Own wc wa.heap.size y (decR s)) := hide (Own.kept_below OY.out bc)
      clear bc OZ2 OY pb
      go_wp2_with fail
      refine (h22 r _ _ wc (O8.out.1.below pc) (hr _ (q8.trans (pc.mono q8.size)))).mono ?_
      rintro e wd ⟨rfl, bd⟩
      have pd : Below w8.heap.size w8 wd := pc.trans (bd.mono pc.size)
      have OZ4 : Hid (Own wd wr.heap.size z X) := hide (Own.kept_below OZ3.out bd)
      have OY4 : Hid (Own wd wa.heap.size y (decR s)) := hide (Own.kept_below OY3.out bd)
      clear bd OZ3 OY3 pc
      go_wp2_with fail
      refine (spoil_own _ _ _ _ wd OZ4.out (by omega)).mono ?_
      rintro e we ⟨rfl, ge⟩
      have pe : Below w8.heap.size w8 we := pd.grown ge pd.size (fun k hk => by have := zlt.out k hk; omega)
      have OY5 : Hid (Own we wa.heap.size y (decR s)) := hide (own_kept OY4.out ge (fun k hk => (zlt.out k hk).2))
      clear ge OZ4 OY4 pd zlt
      go_wp2_with fail
      refine (spoil_own _ _ _ _ we OY5.out (by omega)).mono ?_
      rintro e wf ⟨rfl, gf⟩
      have sa := pa.size
      have pf : Below w8.heap.size w8 wf := pe.grown gf pe.size (fun k hk => by have := own_lt OY5.out k hk; omega)
      clear gf OY5 pe pa sa
      go_wp2
      go_roundw
      case rel => exact ⟨k + 1, by omega, by go_num, pf⟩
      case measure => simp [intOf]; omega
    · go_wp2
      go_ret
      exact ⟨rfl, q8.trans (hnx.mono q8.size)⟩

set_option maxRecDepth 100000 in
set_option maxHeartbeats 6400000 in
theorem rest_e (r : List Vl) (L : List Dl) (s : List UInt8) (ao bo : Option Addr) (n m ca cb : Nat) (w : World) (F : Nat) (hF : ((F : Int) == 0) = false)
    (hn : r.length = n) (hm : L.length = m) (hul : n * 32 ≤ 140737488355328) (hus : ∀ x ∈ r, x.s.length ≤ 140737488355328) (hdl : m * 56 ≤ 140737488355328) (hds : ∀ x ∈ L, x.v.s.length ≤ 140737488355328)
    (hno : ao = none → n = 0 ∧ ca = 0) (hnews : ∀ W : World, Below w.heap.size w W → ∀ ad, ao = some ad → ∀ j x, (r.flatMap vlC)[j]? = some x → W.cell? (ad.add j) = some x)
    (hdo : bo = none → m = 0 ∧ cb = 0) (hdews : ∀ W : World, Below w.heap.size w W → ∀ ad, bo = some ad → ∀ j x, (L.flatMap dlC)[j]? = some x → W.cell? (ad.add j) = some x)
    (hr : ∀ W : World, Below w.heap.size w W → VsAt W (.slice ao n ca) r)
    (h24 : ∀ W : World, Calls Tryz.prog 24 #[] W fun e w' => e = .returned (.bool true) ∧ Below W.heap.size W w')
    (h25 : ∀ W : World, Below w.heap.size w W → Calls Tryz.prog 25 #[] W fun e w' => e = .returned (.bool true) ∧ Below W.heap.size W w')
    (h26 : ∀ W : World, Below w.heap.size w W → Calls Tryz.prog 26 #[.slice ao n ca, .slice bo m cb] W fun e w' => e = .returned (.int .i64 (F : Nat)) ∧ Below W.heap.size W w')
    (h27 : ∀ (W : World) (x y : Value), Below w.heap.size w W → VsAt W x r → (∀ a c, x = .slice a 0 c → a = none → c = 0) → DsAt W y L → Calls Tryz.prog 27 #[x, y] W fun e w' => ∃ z, e = .returned (.tuple #[z, .int .i64 (F : Nat)]) ∧ Own w' W.heap.size z [] ∧ Below W.heap.size W w') :
    Calls Tryz.prog 7 #[.slice ao n ca, .slice bo m cb, .string ⟨s.toArray⟩] w fun e w' => e = .returned (.bool true) ∧ Below w.heap.size w w' := by
  obtain ⟨i0, hi, hz0, hz1, hz2⟩ := info_parts Tryz.info_val
  obtain ⟨i1, gi, gz0, gz1, gz2⟩ := info_parts Tryz.info_dl
  have h1 := flatV_one r
  have g1 := flatD_one L
  have hnl : (r.flatMap vlC).length = n * 3 := by rw [flatV_len, hn]
  have gnl : (L.flatMap dlC).length = m * 6 := by rw [flatD_len, hm]
  have HFR : Hid (∀ B v' w', w'.ownsRow B 49 3 v' (0 + n) ([] ++ r.flatMap vlC) → VsAt w' v' r ∧ (∀ a c, v' = .slice a 0 c → a = none → c = 0) ∧ ∃ a c, v' = .slice a n c) := by
    intro B v' w' h
    have h' : w'.ownsRow B 49 3 v' r.length (r.flatMap vlC) := by rw [hn]; simpa using h
    refine ⟨vs_big h' (by omega) hus, own_none h', ?_⟩
    obtain ⟨a, c, e⟩ := owns_slice h'
    exact ⟨a, c, by rw [e, hn]⟩
  have GFR : Hid (∀ B v' w', w'.ownsRow B 51 6 v' (0 + m) ([] ++ L.flatMap dlC) → DsAt w' v' L ∧ ∃ a c, v' = .slice a m c) := by
    intro B v' w' h
    have h' : w'.ownsRow B 51 6 v' L.length (L.flatMap dlC) := by rw [hm]; simpa using h
    refine ⟨ds_of_own h' (by omega) hds, ?_⟩
    obtain ⟨a, c, e⟩ := owns_slice h'
    exact ⟨a, c, by rw [e, hm]⟩
  generalize r.flatMap vlC = news at hnews hnl h1 HFR
  generalize L.flatMap dlC = dews at hdews gnl g1 GFR
  have h22 := same_vals
  clear hus hds
  go_enter Tryz.func7, Tryz.ntmps7
  go_wp2_with fail
  refine (h24 _).mono ?_
  rintro e w1 ⟨rfl, b1⟩
  clear h24
  go_wp2_with fail
  refine (h25 _ b1).mono ?_
  rintro e w2 ⟨rfl, b2⟩
  have q2 : Below w.heap.size w w2 := b1.trans (b2.mono b1.size)
  clear h25 b1 b2
  have q3 : Below w.heap.size w (w2.alloc (.cells #[] 49)) := q2.alloc q2.size _
  have hnews3 := hnews _ q3
  go_wp2_with (at_builtin; refine append_any rfl _ _ 41 rfl w2.heap.size 49 i0 (.agg #[.int .i64 0, .int .i64 0, .string ⟨#[]⟩]) 3 32 Tryz.underlying41 hi hz0 hz1 hz2 rfl (by decide) _ _ _ rfl (World.ownsRow_made w2 #[] 0 (Nat.le_refl _) (Nat.zero_le _) rfl) ao n ca news rfl hno hnl hnews3 h1 ?c3 ?c4 ?c5 ?_)
  case c3 => unfold maxLen; omega
  case c4 => omega
  case c5 => simp
  intro v1 w4 hown hgrow
  have q4 : Below w.heap.size w w4 := q3.grown hgrow (by have := q2.size; simp; omega) (fun j hj => by cases hj; exact q2.size)
  have O1 := hide (HFR.out w2.heap.size v1 w4 (by simpa using hown))
  obtain ⟨va, vc, hv1⟩ := O1.out.2.2
  subst hv1
  clear hnews hnews3 hnl h1 hown hgrow HFR hno q2 q3
  have q5 : Below w.heap.size w (w4.alloc (.cells #[] 51)) := q4.alloc q4.size _
  have hdews5 := hdews _ q5
  go_wp2_with (at_builtin; refine append_any rfl _ _ 23 rfl w4.heap.size 51 i1 (.agg #[.int .i64 0, .int .i64 0, .int .i64 0, .int .i64 0, .int .i64 0, .string ⟨#[]⟩]) 6 56 Tryz.underlying23 gi gz0 gz1 gz2 rfl (by decide) _ _ _ rfl (World.ownsRow_made w4 #[] 0 (Nat.le_refl _) (Nat.zero_le _) rfl) bo m cb dews rfl hdo gnl hdews5 g1 ?c3 ?c4 ?c5 ?_)
  case c3 => unfold maxLen; omega
  case c4 => omega
  case c5 => simp
  intro v2 w6 hown hgrow
  have q6 : Below w.heap.size w w6 := q5.grown hgrow (by have := q4.size; simp; omega) (fun j hj => by cases hj; exact q4.size)
  have p6 : Below w4.heap.size w4 w6 := ((Below.refl w4.heap.size w4).alloc (Nat.le_refl _) (.cells #[] 51)).grown hgrow (by simp) (fun j hj => by cases hj; exact Nat.le_refl _)
  have O2 := hide (GFR.out w4.heap.size v2 w6 (by simpa using hown))
  have O3 : Hid (VsAt w6 (.slice va n vc) r ∧ ∀ a c, (Value.slice va n vc) = .slice a 0 c → a = none → c = 0) := hide ⟨O1.out.1.below p6, O1.out.2.1⟩
  obtain ⟨da, dc, hv2⟩ := O2.out.2
  subst hv2
  clear hdews hdews5 gnl g1 hown hgrow GFR hdo q4 q5 O1 p6
  go_wp2_with fail
  refine (h26 _ q6).mono ?_
  rintro e w7 ⟨rfl, b7⟩
  have q7 : Below w.heap.size w w7 := q6.trans (b7.mono q6.size)
  have O7 : Hid (VsAt w7 (.slice va n vc) r ∧ (∀ a c, (Value.slice va n vc) = .slice a 0 c → a = none → c = 0) ∧ DsAt w7 (.slice da m dc) L) := hide ⟨O3.out.1.below b7, O3.out.2, O2.out.1.below b7⟩
  clear h26 b7 O2 O3 q6
  have O8 : Hid (VsAt w7 (.slice va n vc) r ∧ (∀ a c, (Value.slice va n vc) = .slice a 0 c → a = none → c = 0) ∧ DsAt w7 (.slice da m dc) L ∧ VsAt w7 (.slice none 0 0) []) := hide ⟨O7.out.1, O7.out.2.1, O7.out.2.2, vs_nil w7⟩
  have q8 := q7
  clear O7 q7
  go_wp2_with fail
  go_loopw [11] (fun i wl => ∃ k : Nat, k ≤ 2 ∧ i = .int .i64 k ∧ Below w7.heap.size w7 wl) (fun i _ => 2 - (intOf i).toNat)
  case atStart => exact ⟨0, by omega, rfl, Below.refl _ _⟩
  case round =>
    obtain ⟨k, hk, rfl, hnx⟩ := hrel
    by_cases hlt : k < 2
    · have hlt' : (k : Int) < 2 := by omega
      have ql : Below w.heap.size w wr := q8.trans (hnx.mono q8.size)
      go_wp2_with fail
      refine (h27 wr _ _ ql (O8.out.1.below hnx) O8.out.2.1 (O8.out.2.2.1.below hnx)).mono ?_
      rintro e wa ⟨z, rfl, oz, ba⟩
      have pa : Below w7.heap.size w7 wa := hnx.trans (ba.mono hnx.size)
      have OZ := hide oz
      have sz := hnx.size
      clear oz ba ql hnx
      go_wp2_with fail
      refine (decode_any s wa).mono ?_
      rintro e wb ⟨y, rfl, oy, bb, ly, -⟩
      have pb : Below w7.heap.size w7 wb := pa.trans (bb.mono pa.size)
      have OZ2 : Hid (Own wb wr.heap.size z []) := hide (Own.kept_below OZ.out bb)
      have zlt : Hid (∀ k, z.ownBlock = some k → wr.heap.size ≤ k ∧ k < wa.heap.size) := hide (own_lt OZ.out)
      have OY := hide oy
      clear bb oy OZ
      go_wp2_with fail
      refine (h22 [] _ _ wb (vs_of_own OZ2.out (by simp) (by simp)) (O8.out.2.2.2.below pb)).mono ?_
      rintro e wc ⟨rfl, bc⟩
      have pc : Below w7.heap.size w7 wc := pb.trans (bc.mono pb.size)
      have OZ3 : Hid (Own wc wr.heap.size z []) := hide (Own.kept_below OZ2.out bc)
      have OY3 : Hid (Own wc wa.heap.size y (decR s)) := hide (Own.kept_below OY.out bc)
      clear bc OZ2 OY pb
      go_wp2_with fail
      refine (h22 r _ _ wc (O8.out.1.below pc) (hr _ (q8.trans (pc.mono q8.size)))).mono ?_
      rintro e wd ⟨rfl, bd⟩
      have pd : Below w7.heap.size w7 wd := pc.trans (bd.mono pc.size)
      have OZ4 : Hid (Own wd wr.heap.size z []) := hide (Own.kept_below OZ3.out bd)
      have OY4 : Hid (Own wd wa.heap.size y (decR s)) := hide (Own.kept_below OY3.out bd)
      clear bd OZ3 OY3 pc
      go_wp2_with fail
      refine (spoil_own _ _ _ _ wd OZ4.out (by simp)).mono ?_
      rintro e we ⟨rfl, ge⟩
      have pe : Below w7.heap.size w7 we := pd.grown ge pd.size (fun k hk => by have := zlt.out k hk; omega)
      have OY5 : Hid (Own we wa.heap.size y (decR s)) := hide (own_kept OY4.out ge (fun k hk => (zlt.out k hk).2))
      clear ge OZ4 OY4 pd zlt
      go_wp2_with fail
      refine (spoil_own _ _ _ _ we OY5.out (by omega)).mono ?_
      rintro e wf ⟨rfl, gf⟩
      have sa := pa.size
      have pf : Below w7.heap.size w7 wf := pe.grown gf pe.size (fun k hk => by have := own_lt OY5.out k hk; omega)
      clear gf OY5 pe pa sa
      go_wp2
      go_roundw
      case rel => exact ⟨k + 1, by omega, by go_num, pf⟩
      case measure => simp [intOf]; omega
    · go_wp2
      go_ret
      exact ⟨rfl, q8.trans (hnx.mono q8.size)⟩

/-- RestRows answers true, of a row, deltas and a text in memory -/
theorem rest_any (r : List Vl) (L : List Dl) (s : List UInt8) (u v : Value) (w : World) (hu : VsAt w u r) (hz : ∀ a c, u = .slice a 0 c → a = none → c = 0) (hv : DsAt w v L) (hy : ∀ a c, v = .slice a 0 c → a = none → c = 0) (laid : Laid w) :
    Calls Tryz.prog 7 #[u, v, .string ⟨s.toArray⟩] w fun e w' => e = .returned (.bool true) ∧ Below w.heap.size w w' := by
  have hr := fun (W : World) (hW : Below w.heap.size w W) => hu.below hW
  have hd := fun (W : World) (hW : Below w.heap.size w W) => hv.below hW
  have h24 := fun (W : World) => rbegun_any W
  have h25 := fun (W : World) (hW : Below w.heap.size w W) => begun_any W (laid.below hW)
  have h26 := fun (W : World) (hW : Below w.heap.size w W) => rca_any r L u v W (hr W hW) (hd W hW)
  have h27 := fun (W : World) (x y : Value) (hW : Below w.heap.size w W) (hx : VsAt W x r) (hn : ∀ a c, x = .slice a 0 c → a = none → c = 0) (hy : DsAt W y L) => apply_any r L x y W hx hn hy (laid.below hW)
  obtain ⟨ao, ca, rfl, hul, hus, huc⟩ := hu
  obtain ⟨bo, cb, rfl, -, -, hdl, hds, hdc⟩ := hv
  have hno : ao = none → r.length = 0 ∧ ca = 0 := by
    intro h
    have h0 : r = [] := by
      rcases Classical.em (r = []) with h' | h'
      · exact h'
      · obtain ⟨g, o, e, -⟩ := huc h'; rw [h] at e; cases e
    subst h0
    exact ⟨rfl, hz ao ca rfl h⟩
  have hdo : bo = none → L.length = 0 ∧ cb = 0 := by
    intro h
    have h0 : L = [] := by
      rcases Classical.em (L = []) with h' | h'
      · exact h'
      · obtain ⟨g, o, e, -⟩ := hdc h'; rw [h] at e; cases e
    subst h0
    exact ⟨rfl, hy bo cb rfl h⟩
  have hnews : ∀ W : World, Below w.heap.size w W → ∀ ad, ao = some ad → ∀ j x, (r.flatMap vlC)[j]? = some x → W.cell? (ad.add j) = some x := by
    intro W hW ad had j x hj
    rcases Classical.em (r = []) with h | h
    · rw [h] at hj; simp at hj
    · obtain ⟨g, o, e, hg, hcc⟩ := huc h
      rw [had] at e
      cases e
      rw [Go.WideShapes.add_plain]
      exact (hW.cell (p := ⟨g, o + j, none⟩) hg).trans (VsAt.cells hcc j x hj)
  have hdews : ∀ W : World, Below w.heap.size w W → ∀ ad, bo = some ad → ∀ j x, (L.flatMap dlC)[j]? = some x → W.cell? (ad.add j) = some x := by
    intro W hW ad had j x hj
    rcases Classical.em (L = []) with h | h
    · rw [h] at hj; simp at hj
    · obtain ⟨g, o, e, hg, hcc⟩ := hdc h
      rw [had] at e
      cases e
      rw [Go.WideShapes.add_plain]
      exact (hW.cell (p := ⟨g, o + j, none⟩) hg).trans (DsAt.cells hcc j x hj)
  by_cases hE : applyE r L = 0
  · have hA : applyL r L = L.foldl rowB r := by unfold applyL; rw [if_pos hE]
    obtain ⟨h5, hb⟩ := applied_ok hE
    rw [hE] at h26
    have h23 := fun (W : World) (hW : Below w.heap.size w W) => rap_any r L _ _ W (hr W hW) hz (hd W hW) hE
    rw [← hA] at h23
    rw [hE] at h27
    exact rest_0 r L s ao bo _ _ ca cb w (applyL r L) h5 (fun x hx => short_of ((badL_zero _).1 hb x hx)) rfl rfl hul hus hdl hds hno hnews hdo hdews hr h24 h25 h26 h23 h27
  · have hA : applyL r L = [] := by unfold applyL; rw [if_neg hE]
    rw [hA] at h27
    exact rest_e r L s ao bo _ _ ca cb w (applyE r L) (by simpa using hE) rfl rfl hul hus hdl hds hno hnews hdo hdews hr h24 h25 h26 h27
end

end Go.Proofs.YtcnnjladaoaeiaaGreatDoor
