/-
  'ApplyOf' of package overhaulref.
-/
import Derived.Test.YtkpeklealgicpacGreatDoorSxa
import Derived.Test.YtkpeklealgicpacGreatDoorCov
import Derived.Test.YtkpeklealgicpacGreatDoorDlp
import Derived.Deep.AppendLies
import Derived.Laws.AppendOwnNone
import Derived.Deep.RegionLaw
namespace Go.Proofs.YtkpeklealgicpacGreatDoor
open Go.RowKit

/-- what comes of a row's first values -/
def gP (d : Dl) (z : Vl) (l : List Vl) : List Vl := if d.k = 2 then l.eraseIdx d.a.toNat else if d.k = 3 then l.set d.a.toNat z else l

theorem gP_nil (d : Dl) (z : Vl) : gP d z [] = [] := by
  unfold gP; split
  · simp
  · split <;> simp

theorem gP_else (d : Dl) (z : Vl) (l : List Vl) (j : Nat) (x : Vl) (hx : l[j]? = some x) (h : (d.k = 2 ∨ d.k = 3) → j ≠ d.a.toNat) : gP d z (l.take (j + 1)) = gP d z (l.take j) ++ [x] := by
  obtain ⟨hj, rfl⟩ := List.getElem?_eq_some_iff.1 hx
  have hl : (l.take j).length = j := by rw [List.length_take]; omega
  rw [List.take_succ_eq_append_getElem hj]
  unfold gP
  by_cases h2 : d.k = 2
  · rw [if_pos h2, if_pos h2]
    have hne := h (.inl h2)
    rcases Nat.lt_or_ge d.a.toNat j with hlt | hge
    · rw [List.eraseIdx_append_of_lt_length (by omega)]
    · rw [List.eraseIdx_of_length_le (by rw [List.length_append, hl]; simp; omega), List.eraseIdx_of_length_le (by omega)]
  rw [if_neg h2, if_neg h2]
  by_cases h3 : d.k = 3
  · rw [if_pos h3, if_pos h3]
    have hne := h (.inr h3)
    rcases Nat.lt_or_ge d.a.toNat j with hlt | hge
    · rw [List.set_append_left _ _ (by omega)]
    · rw [List.set_eq_of_length_le (by rw [List.length_append, hl]; simp; omega), List.set_eq_of_length_le (by omega)]
  rw [if_neg h3, if_neg h3]

theorem gP_skip (d : Dl) (z : Vl) (l : List Vl) (j : Nat) (hk : d.k = 2) (hj : j < l.length) (h : j = d.a.toNat) : gP d z (l.take (j + 1)) = gP d z (l.take j) := by
  have hl : (l.take j).length = j := by rw [List.length_take]; omega
  rw [List.take_succ_eq_append_getElem hj]
  unfold gP
  rw [if_pos hk, if_pos hk, ← h, List.eraseIdx_of_length_le (l := l.take j) (by omega), List.eraseIdx_append_of_length_le (by omega), hl, Nat.sub_self]
  simp

theorem gP_cast (d : Dl) (z : Vl) (l : List Vl) (j : Nat) (hk : d.k = 3) (hj : j < l.length) (h : j = d.a.toNat) : gP d z (l.take (j + 1)) = gP d z (l.take j) ++ [z] := by
  have hl : (l.take j).length = j := by rw [List.length_take]; omega
  have h2 : ¬ d.k = 2 := by omega
  rw [List.take_succ_eq_append_getElem hj]
  unfold gP
  rw [if_neg h2, if_neg h2, if_pos hk, if_pos hk, ← h, List.set_eq_of_length_le (l := l.take j) (by omega), List.set_append_right _ _ (by omega), hl, Nat.sub_self]
  rfl

theorem gP_len (d : Dl) (z : Vl) (l : List Vl) : (gP d z l).length ≤ l.length := by
  unfold gP; split
  · rw [List.length_eraseIdx]; split <;> omega
  · split
    · rw [List.length_set]; exact Nat.le_refl _
    · exact Nat.le_refl _

theorem gP_all (d : Dl) (l : List Vl) (hk : d.k = 1 ∨ d.k = 2 ∨ d.k = 3) : rowB l d = if d.k = 1 then l ++ [d.v] else gP d (castX (l.getD d.a.toNat vl0) d.ty) l := by
  unfold rowB gP
  by_cases h1 : d.k = 1
  · rw [if_pos h1, if_pos h1]
  rw [if_neg h1, if_neg h1]
  by_cases h2 : d.k = 2
  · rw [if_pos h2, if_pos h2]
  rw [if_neg h2, if_neg h2]
  by_cases h3 : d.k = 3
  · rw [if_pos h3]
  · omega

/-- a value more in a row of one's own: what append leaves -/
theorem own_push {w : World} {B n : Nat} {v : Value} {l l' : List Vl} {x : Vl} (h : w.ownsRow B 51 3 v (n + 1) (l.flatMap vlC ++ [.int .i64 x.k, .int .i64 x.n, .string ⟨x.s.toArray⟩])) (hn : l.length = n) (hl : l' = l ++ [x]) : Own w B v l' := by
  subst hl
  unfold Own
  rw [List.length_append, hn, flatV_append]
  have e : [x].flatMap vlC = [.int .i64 x.k, .int .i64 x.n, .string ⟨x.s.toArray⟩] := by simp [vlC]
  rw [e]; exact h


theorem way_start {r : List Vl} {L : List Dl} (hE : applyE r L = 0) : Way r L 0 r := by
  unfold applyE at hE
  by_cases h5 : 5 < r.length
  · rw [if_pos h5] at hE; cases hE
  rw [if_neg h5] at hE
  by_cases hq : (checkD (r.length : Nat) L).2 ≠ 0
  · rw [if_pos hq] at hE; exact absurd hE hq
  rw [if_neg hq] at hE
  have hq0 : (checkD (r.length : Nat) L).2 = 0 := Classical.not_not.1 hq
  unfold checkD at hq0
  rw [if_neg (by omega)] at hq0
  exact ⟨rfl, by rw [List.drop_zero]; exact hq0, hE, by omega⟩

theorem append_any {P : Program} {w : World} {ops : Array Oper} {rest : List Oper} {o : Oper} {a : Act} {Q : Exit → Act → World → Prop} (hgd : o.guard = none) (s x : Operand) (t : TypeId)
    (ho : o.op = .call { callee := .builtin .append, args := #[s, x], argTypes := #[t, t] })
    (base : Nat) (e : TypeId) (i : TypeInfo) (z : Value) (size bytes : Nat) (ht : P.underlying t = some (.slice e)) (hi : P.info? e = some i) (hz : i.zero = some z)
    (hsize : i.size = size) (hby : i.bytes = bytes) (hzs : z.cells.size = size) (hsz : 0 < size)
    (v : Value) (n : Nat) (xs : List Value) (hs : a.eval s = v) (hown : w.ownsRow base e size v n xs)
    (ao : Option Addr) (m c : Nat) (news : List Value) (hx : a.eval x = .slice ao m c) (hno : ao = none → m = 0 ∧ c = 0) (hl : news.length = m * size) (hnews : ∀ ad, ao = some ad → ∀ j u, news[j]? = some u → w.cell? (ad.add j) = some u) (h1 : ∀ u ∈ news, u.oneCell' = true)
    (h63 : n + m ≤ maxLen) (hbytes : (n + m) * bytes ≤ 140737488355328) (hbase : base ≤ w.heap.size)
    (h : ∀ v' w', w'.ownsRow base e size v' (n + m) (xs ++ news) → w.grownBy w' v.ownBlock → wpList P ops Q rest (a.put o.dst v') w') : wpList P ops Q (o :: rest) a w := by
  cases ao with
  | some ad => exact wpList_append_own _ hgd s x t ho base e i z size bytes ht hi hz hsize hby hzs hsz v n xs hs hown ad m c news hx hl (hnews ad rfl) h1 h63 hbytes hbase fun v' w' h2 h3 _ => h v' w' h2 h3
  | none =>
    obtain ⟨rfl, rfl⟩ := hno rfl
    have hn : news = [] := List.eq_nil_of_length_eq_zero (by rw [hl]; simp)
    subst hn
    exact wpList_append_own_none hgd s x t ho base e i size ht hi v n xs hs hown hx (h v w (by simpa using hown) ⟨rfl, rfl, rfl, Nat.le_refl _, fun _ _ _ => rfl⟩)

theorem owned_below {w w' : World} {B : Nat} {v : Value} {n : Nat} {fl : List Value} (h : w.ownsRow B 51 3 v n fl) (hb : Below w.heap.size w w') : w'.ownsRow B 51 3 v n fl := by
  refine ⟨h.1, ?_⟩
  rcases h.2 with h' | ⟨g, cap, cur, hv, hB, hg, r⟩
  · exact .inl h'
  · exact .inr ⟨g, cap, cur, hv, hB, (hb.block g (Array.getElem?_eq_some_iff.1 hg).1).trans hg, r⟩

theorem Own.owned {w w' : World} {N : Nat} {v : Value} {n : Nat} {fl : List Value} (h : w.ownsRow N 51 3 v n fl) (hb : Below w.drew.heap.size w.drew w') : w'.ownsRow N 51 3 v n fl := by
  refine ⟨h.1, ?_⟩
  rcases h.2 with h' | ⟨g, cap, cur, hv, hB, hg, r⟩
  · exact .inl h'
  · exact .inr ⟨g, cap, cur, hv, hB, (hb.block g (Array.getElem?_eq_some_iff.1 hg).1).trans hg, r⟩

set_option maxRecDepth 100000 in
set_option maxHeartbeats 12800000 in
theorem rap_any (r : List Vl) (L : List Dl) (u v : Value) (w : World) (hu : VsAt w u r) (hz : ∀ ao cap, u = .slice ao 0 cap → ao = none → cap = 0) (hv : DsAt w v L) (hE : applyE r L = 0) :
    Calls Tryz.prog 9 #[u, v] w fun e w' => ∃ x, e = .returned x ∧ Own w' w.heap.size x (L.foldl rowB r) ∧ Below w.heap.size w w' := by
  obtain ⟨i0, hi, hz0, hz1, hz2⟩ := info_parts Tryz.info_val
  obtain ⟨PP, hPP⟩ : ∃ PP : Ending → World → Prop, PP = fun e w' => ∃ x, e = .returned x ∧ Own w' w.heap.size x (L.foldl rowB r) ∧ Below w.heap.size w w' := ⟨_, rfl⟩
  have HP : Hid (∀ (x : Value) (w' : World), Own w' w.heap.size x (L.foldl rowB r) → Below w.heap.size w w' → PP (.returned x) w') := by
    intro x w' h1 h2
    rw [hPP]
    exact ⟨x, rfl, h1, h2⟩
  refine Calls.mono (R := PP) ?_ (by rw [hPP]; exact fun _ _ h => h)
  have HW : Hid (Way r L 0 r) := way_start hE
  have hr5 : r.length ≤ 5 := HW.out.few
  obtain ⟨ao, ca, rfl, hul, hus, huc⟩ := hu
  obtain ⟨bo, cb, rfl, -, -, hlen, -, hcc⟩ := hv
  obtain ⟨m, hm⟩ : ∃ m, L.length = m := ⟨_, rfl⟩
  have HC : Hid (L ≠ [] → ∃ g o, bo = some ⟨g, o, none⟩ ∧ g < w.heap.size ∧ ∀ i x, L[i]? = some x → Dc w g (o + i * 6) x) := hcc
  have hno : ao = none → r.length = 0 ∧ ca = 0 := by
    intro h
    have h0 : r = [] := by
      rcases Classical.em (r = []) with h' | h'
      · exact h'
      · obtain ⟨g, o, e, -⟩ := huc h'; rw [h] at e; cases e
    subst h0
    exact ⟨rfl, hz ao ca rfl h⟩
  have hnews : ∀ ad, ao = some ad → ∀ j x, (r.flatMap vlC)[j]? = some x → (w.alloc (.cells #[] 51)).cell? (ad.add j) = some x := by
    intro ad had j x hj
    rcases Classical.em (r = []) with h | h
    · rw [h] at hj; simp at hj
    · obtain ⟨g, o, e, hg, hcc⟩ := huc h
      rw [had] at e
      cases e
      rw [Go.WideShapes.add_plain]
      exact (((Below.refl w.heap.size w).alloc (Nat.le_refl _) _).cell (p := ⟨g, o + j, none⟩) hg).trans (VsAt.cells hcc j x hj)
  have hnl := flatV_len r
  have h1 := flatV_one r
  have b0 := (Below.refl w.heap.size w).alloc (Nat.le_refl _) (.cells #[] 51)
  rw [hm] at hlen ⊢
  obtain ⟨n, hn⟩ : ∃ n, r.length = n := ⟨_, rfl⟩
  rw [hn] at hul hno hnl hr5 ⊢
  have HFR : Hid (∀ v' w', w'.ownsRow w.heap.size 51 3 v' (0 + n) ([] ++ r.flatMap vlC) → Own w' w.heap.size v' r) := by
    intro v' w' h
    unfold Own
    rw [hn]
    simpa using h
  generalize r.flatMap vlC = news at hnews hnl h1 HFR
  clear huc hus hz hcc hPP hE
  go_enter Tryz.func9, Tryz.ntmps9
  go_wp2_with (at_builtin; refine append_any rfl _ _ 22 rfl w.heap.size 51 i0 (.agg #[.int .i64 0, .int .i64 0, .string ⟨#[]⟩]) 3 32 Tryz.underlying22 hi hz0 hz1 hz2 rfl (by decide) _ _ _ rfl (World.ownsRow_made w #[] 0 (Nat.le_refl _) (Nat.zero_le _) rfl) ao n ca news rfl hno hnl hnews h1 ?c3 ?c4 ?c5 ?_)
  case c3 => unfold maxLen; omega
  case c4 => omega
  case c5 => simp
  intro v1 w1 hown hgrow
  have q1 := b0.grown hgrow (by simp) (fun j hj => by cases hj; exact Nat.le_refl _)
  have O1 := hide (HFR.out v1 w1 (by simpa using hown))
  obtain ⟨va, vc, hv1⟩ := owns_slice O1.out
  rw [hn] at hv1
  subst hv1
  clear hnews hnl h1 b0 hown hgrow HFR hno
  go_wp2_with fail
  go_loopw [5, 6] (fun x i wl => ∃ (k : Nat) (rk : List Vl), k ≤ m ∧ i = .int .i64 k ∧ Hid (Own wl w.heap.size x rk) ∧ Below w.heap.size w wl ∧ Hid (Way r L k rk)) (fun _ i _ => m - (intOf i).toNat)
  case atStart => exact ⟨0, r, Nat.zero_le _, rfl, O1, q1, HW⟩
  case round =>
    obtain ⟨k, rk, hk, rfl, OK, hnx, HK⟩ := hrel
    clear O1 q1 HW
    by_cases hlt : k < m
    · obtain ⟨d, hd⟩ : ∃ d, L[k]? = some d := ⟨L[k], List.getElem?_eq_getElem (by omega)⟩
      obtain ⟨g, o, rfl, hg, hcc⟩ := HC.out (by intro e; rw [e] at hd; cases hd)
      obtain ⟨a0, a1, a2, a3, a4, a5⟩ := (hcc k d hd).keep (hnx.block g hg)
      have hlt' : (k : Int) < (m : Int) := by omega
      obtain ⟨hw, hway⟩ := HK.out.next hd
      have HK2 := hide hway
      have hsz := hnx.size
      have hr5 := HK.out.few
      have hrb := HK.out.right
      obtain ⟨dk, da, dt, dv⟩ := d
      have qw := hnx.alloc hsz (.cells #[.int .i64 dk, .int .i64 da, .int .i64 dt, .int .i64 dv.k, .int .i64 dv.n, .string ⟨dv.s.toArray⟩] 53)
      have KB := hide (heap_alloc_new wr (.cells #[.int .i64 dk, .int .i64 da, .int .i64 dt, .int .i64 dv.k, .int .i64 dv.n, .string ⟨dv.s.toArray⟩] 53))
      have hbN : wr.heap.size < (wr.alloc (.cells #[.int .i64 dk, .int .i64 da, .int .i64 dt, .int .i64 dv.k, .int .i64 dv.n, .string ⟨dv.s.toArray⟩] 53)).heap.size := by simp
      have OW := hide (OK.out.alloc (.cells #[.int .i64 dk, .int .i64 da, .int .i64 dt, .int .i64 dv.k, .int .i64 dv.n, .string ⟨dv.s.toArray⟩] 53))
      obtain ⟨oa, oc, hov⟩ := owns_slice OK.out
      subst hov
      obtain ⟨rn, hrn⟩ : ∃ rn, rk.length = rn := ⟨_, rfl⟩
      rw [hrn] at hr5 OW ⊢
      obtain ⟨z, HZ1⟩ : ∃ z, Hid (castX (rk.getD da.toNat vl0) dt = z) := ⟨_, rfl⟩
      clear hcc hd HC hway OK
      simp only at a0 a1 a2 a3 a4 a5
      rcases widB_ok hw with ⟨e, -⟩ | ⟨e, y0, y1, -⟩ | ⟨e, y0, y1, t0, t1, -⟩
      · simp only at e
        subst e
        clear hw HK HZ1
        go_wp2_with fail
        generalize hW0 : wr.alloc (.cells #[.int .i64 1, .int .i64 da, .int .i64 dt, .int .i64 dv.k, .int .i64 dv.n, .string ⟨dv.s.toArray⟩] 53) = W0 at *
        generalize hbb : wr.heap.size = bb at *
        clear hW0 hbb
        obtain ⟨N, hN⟩ : ∃ N, W0.heap.size = N := ⟨_, rfl⟩
        rw [hN] at hbN
        go_loopw [8, 9] (fun x i wl => ∃ j : Nat, j ≤ rn ∧ i = .int .i64 j ∧ Hid (Own wl N x (gP ⟨1, da, dt, dv⟩ z (rk.take j))) ∧ Below N W0 wl) (fun _ i _ => rn - (intOf i).toNat)
        case atStart => exact ⟨0, Nat.zero_le _, rfl, by rw [List.take_zero, gP_nil]; exact World.ownsRow_nil _ _ _ _, Below.refl _ _⟩
        case round =>
          obtain ⟨j, hj, rfl, OX, hin⟩ := hrel
          obtain ⟨d0, d1, d2, d3, d4, d5⟩ := six_at ((hin.block bb hbN).trans KB.out)
          have hszN : N ≤ wr.heap.size := by have := hin.size; omega
          have hNw : w.heap.size ≤ N := by have := qw.size; omega
          obtain ⟨acc, hacc⟩ : ∃ acc, gP ⟨1, da, dt, dv⟩ z (rk.take j) = acc := ⟨_, rfl⟩
          obtain ⟨cn, hcn⟩ : ∃ cn, acc.length = cn := ⟨_, rfl⟩
          have hcn5 : cn ≤ 5 := by
            have := gP_len ⟨1, da, dt, dv⟩ z (rk.take j)
            rw [hacc, List.length_take] at this
            omega
          by_cases hlj : j < rn
          · obtain ⟨x, hx⟩ : ∃ x, rk[j]? = some x := ⟨rk[j], List.getElem?_eq_getElem (by omega)⟩
            have hOo := owned_below OW.out (by rw [hN]; exact hin)
            obtain ⟨og, oc', hov, -⟩ := owns_some hOo (by omega)
            cases hov
            obtain ⟨f0, f1, f2⟩ := flatV_get rk j x hx
            have e0 := (hOo.cellAt (j * 3) (by omega)).trans f0
            have e1 := (hOo.cellAt (j * 3 + 1) (by omega)).trans f1
            have e2 := (hOo.cellAt (j * 3 + 2) (by omega)).trans f2
            have hlj' : (j : Int) < (rn : Int) := by omega
            clear hOo f0 f1 f2
            have HN : Hid (acc ++ [x] = gP ⟨1, da, dt, dv⟩ z (rk.take (j + 1))) := by rw [Hid, ← hacc]; exact (gP_else _ z rk j x hx (by intro h; rcases h with h | h <;> cases h)).symm
            have ho := OX.out
            rw [hacc] at ho
            obtain ⟨xa, xc, hx0⟩ := owns_slice ho
            subst hx0
            have ox := ho.alloc (.cells #[.int .i64 x.k, .int .i64 x.n, .string ⟨x.s.toArray⟩] 51)
            have hnw := World.news_of_block (cs := #[.int .i64 x.k, .int .i64 x.n, .string ⟨x.s.toArray⟩]) (t := 51) (fr := (0, 0)) (heap_alloc_new wr (.cells #[.int .i64 x.k, .int .i64 x.n, .string ⟨x.s.toArray⟩] 51))
            have hxlt := ox.lt
            unfold Own at ox
            rw [hcn] at ox hxlt ⊢
            generalize hfl : acc.flatMap vlC = fl at ox
            clear hx OX hacc
            go_wp2_with (at_builtin; refine wpList_append_own _ rfl _ _ 22 rfl N 51 i0 (.agg #[.int .i64 0, .int .i64 0, .string ⟨#[]⟩]) 3 32 Tryz.underlying22 hi hz0 hz1 hz2 rfl (by decide) _ _ _ rfl ox ⟨wr.heap.size, 0, none⟩ 1 1 [.int .i64 x.k, .int .i64 x.n, .string ⟨x.s.toArray⟩] rfl rfl hnw (by intro y hy; simp only [List.mem_cons, List.not_mem_nil, or_false] at hy; rcases hy with rfl | rfl | rfl <;> rfl) ?c3 ?c4 ?c5 ?_)
            case c3 => unfold maxLen; omega
            case c4 => omega
            case c5 => first | omega | (simp; omega)
            intro v3 w3 hown hgrow _
            have hb3 : Below N W0 w3 := (hin.alloc hszN _).grown hgrow (by simp; omega) (fun q hq => (hxlt q hq).1)
            have HO3 := hide (own_push (l := acc) (by rw [hfl]; exact hown) hcn HN.out.symm)
            clear hown hgrow ox hxlt hnw ho
            go_wp2
            go_roundw
            case rel => exact ⟨j + 1, by omega, by go_num, HO3, hb3⟩
            case measure => simp [intOf]; omega
          · obtain rfl : j = rn := by omega
            have HR : Hid (acc ++ [dv] = rowB rk ⟨1, da, dt, dv⟩) := by
              rw [Hid, ← hacc, gP_all _ _ (.inl rfl), List.take_of_length_le (by omega)]; rfl
            have ho := OX.out
            rw [hacc] at ho
            obtain ⟨xa, xc, hx0⟩ := owns_slice ho
            subst hx0
            have ox := ho.alloc (.cells #[.int .i64 dv.k, .int .i64 dv.n, .string ⟨dv.s.toArray⟩] 51)
            have hnw := World.news_of_block (cs := #[.int .i64 dv.k, .int .i64 dv.n, .string ⟨dv.s.toArray⟩]) (t := 51) (fr := (0, 0)) (heap_alloc_new wr (.cells #[.int .i64 dv.k, .int .i64 dv.n, .string ⟨dv.s.toArray⟩] 51))
            have hxlt := ox.lt
            unfold Own at ox
            rw [hcn] at ox hxlt ⊢
            generalize hfl : acc.flatMap vlC = fl at ox
            clear OX hacc
            go_wp2_with (at_builtin; refine wpList_append_own _ rfl _ _ 22 rfl N 51 i0 (.agg #[.int .i64 0, .int .i64 0, .string ⟨#[]⟩]) 3 32 Tryz.underlying22 hi hz0 hz1 hz2 rfl (by decide) _ _ _ rfl ox ⟨wr.heap.size, 0, none⟩ 1 1 [.int .i64 dv.k, .int .i64 dv.n, .string ⟨dv.s.toArray⟩] rfl rfl hnw (by intro y hy; simp only [List.mem_cons, List.not_mem_nil, or_false] at hy; rcases hy with rfl | rfl | rfl <;> rfl) ?c3 ?c4 ?c5 ?_)
            case c3 => unfold maxLen; omega
            case c4 => omega
            case c5 => first | omega | (simp; omega)
            intro v3 w3 hown hgrow _
            have hb3 : Below N W0 w3 := (hin.alloc hszN _).grown hgrow (by simp; omega) (fun q hq => (hxlt q hq).1)
            have HO3 := hide (Own.mono (own_push (l := acc) (by rw [hfl]; exact hown) hcn HR.out.symm) hNw)
            have q3 := qw.trans (hb3.mono hNw)
            clear hown hgrow ox hxlt hnw ho
            go_wp2
            go_roundw
            case rel => exact ⟨k + 1, _, by omega, by go_num, HO3, q3, HK2⟩
            case measure => simp [intOf]; omega
      · simp only at e y0 y1
        subst e
        clear hw HK
        go_wp2_with fail
        generalize hW0 : wr.alloc (.cells #[.int .i64 2, .int .i64 da, .int .i64 dt, .int .i64 dv.k, .int .i64 dv.n, .string ⟨dv.s.toArray⟩] 53) = W0 at *
        generalize hbb : wr.heap.size = bb at *
        clear hW0 hbb
        obtain ⟨N, hN⟩ : ∃ N, W0.heap.size = N := ⟨_, rfl⟩
        rw [hN] at hbN
        go_loopw [8, 9] (fun x i wl => ∃ j : Nat, j ≤ rn ∧ i = .int .i64 j ∧ Hid (Own wl N x (gP ⟨2, da, dt, dv⟩ z (rk.take j))) ∧ Below N W0 wl) (fun _ i _ => rn - (intOf i).toNat)
        case atStart => exact ⟨0, Nat.zero_le _, rfl, by rw [List.take_zero, gP_nil]; exact World.ownsRow_nil _ _ _ _, Below.refl _ _⟩
        case round =>
          obtain ⟨j, hj, rfl, OX, hin⟩ := hrel
          obtain ⟨d0, d1, d2, d3, d4, d5⟩ := six_at ((hin.block bb hbN).trans KB.out)
          have hszN : N ≤ wr.heap.size := by have := hin.size; omega
          have hNw : w.heap.size ≤ N := by have := qw.size; omega
          obtain ⟨acc, hacc⟩ : ∃ acc, gP ⟨2, da, dt, dv⟩ z (rk.take j) = acc := ⟨_, rfl⟩
          obtain ⟨cn, hcn⟩ : ∃ cn, acc.length = cn := ⟨_, rfl⟩
          have hcn5 : cn ≤ 5 := by
            have := gP_len ⟨2, da, dt, dv⟩ z (rk.take j)
            rw [hacc, List.length_take] at this
            omega
          by_cases hlj : j < rn
          · obtain ⟨x, hx⟩ : ∃ x, rk[j]? = some x := ⟨rk[j], List.getElem?_eq_getElem (by omega)⟩
            have hOo := owned_below OW.out (by rw [hN]; exact hin)
            obtain ⟨og, oc', hov, -⟩ := owns_some hOo (by omega)
            cases hov
            obtain ⟨f0, f1, f2⟩ := flatV_get rk j x hx
            have e0 := (hOo.cellAt (j * 3) (by omega)).trans f0
            have e1 := (hOo.cellAt (j * 3 + 1) (by omega)).trans f1
            have e2 := (hOo.cellAt (j * 3 + 2) (by omega)).trans f2
            have hlj' : (j : Int) < (rn : Int) := by omega
            clear hOo f0 f1 f2
            by_cases hja : j = da.toNat
            · have hji : (j : Int) = da := by omega
              have HN : Hid (gP ⟨2, da, dt, dv⟩ z (rk.take j) = gP ⟨2, da, dt, dv⟩ z (rk.take (j + 1))) := (gP_skip _ z rk j rfl (by omega) hja).symm
              have ho := OX.out
              rw [HN.out] at ho
              obtain ⟨xa, xc, hx0⟩ := owns_slice ho
              subst hx0
              have HO3 := hide ho
              clear hx OX hacc ho HN hja hcn
              subst hji
              go_wp2
              go_roundw
              case rel => exact ⟨j + 1, by omega, by go_num, HO3, hin⟩
              case measure => simp [intOf]; omega
            · have hne : j ≠ (⟨2, da, dt, dv⟩ : Dl).a.toNat := hja
              have hji : ¬ (j : Int) = da := by omega
              have HN : Hid (acc ++ [x] = gP ⟨2, da, dt, dv⟩ z (rk.take (j + 1))) := by rw [Hid, ← hacc]; exact (gP_else _ z rk j x hx (fun _ => hne)).symm
              have ho := OX.out
              rw [hacc] at ho
              obtain ⟨xa, xc, hx0⟩ := owns_slice ho
              subst hx0
              have ox := ho.alloc (.cells #[.int .i64 x.k, .int .i64 x.n, .string ⟨x.s.toArray⟩] 51)
              have hnw := World.news_of_block (cs := #[.int .i64 x.k, .int .i64 x.n, .string ⟨x.s.toArray⟩]) (t := 51) (fr := (0, 0)) (heap_alloc_new wr (.cells #[.int .i64 x.k, .int .i64 x.n, .string ⟨x.s.toArray⟩] 51))
              have hxlt := ox.lt
              unfold Own at ox
              rw [hcn] at ox hxlt ⊢
              generalize hfl : acc.flatMap vlC = fl at ox
              clear hx OX hacc
              go_wp2_with (at_builtin; refine wpList_append_own _ rfl _ _ 22 rfl N 51 i0 (.agg #[.int .i64 0, .int .i64 0, .string ⟨#[]⟩]) 3 32 Tryz.underlying22 hi hz0 hz1 hz2 rfl (by decide) _ _ _ rfl ox ⟨wr.heap.size, 0, none⟩ 1 1 [.int .i64 x.k, .int .i64 x.n, .string ⟨x.s.toArray⟩] rfl rfl hnw (by intro y hy; simp only [List.mem_cons, List.not_mem_nil, or_false] at hy; rcases hy with rfl | rfl | rfl <;> rfl) ?c3 ?c4 ?c5 ?_)
              case c3 => unfold maxLen; omega
              case c4 => omega
              case c5 => first | omega | (simp; omega)
              intro v3 w3 hown hgrow _
              have hb3 : Below N W0 w3 := (hin.alloc hszN _).grown hgrow (by simp; omega) (fun q hq => (hxlt q hq).1)
              have HO3 := hide (own_push (l := acc) (by rw [hfl]; exact hown) hcn HN.out.symm)
              clear hown hgrow ox hxlt hnw ho
              go_wp2
              go_roundw
              case rel => exact ⟨j + 1, by omega, by go_num, HO3, hb3⟩
              case measure => simp [intOf]; omega
          · obtain rfl : j = rn := by omega
            have ho := OX.out
            have HR : gP ⟨2, da, dt, dv⟩ z (rk.take j) = rowB rk ⟨2, da, dt, dv⟩ := by
              rw [gP_all _ _ (.inr (.inl rfl)), List.take_of_length_le (by omega), HZ1.out]; rfl
            rw [HR] at ho
            obtain ⟨xa, xc, hx0⟩ := owns_slice ho
            subst hx0
            have HO3 := hide (Own.mono ho hNw)
            have q3 := qw.trans (hin.mono hNw)
            clear OX hacc ho HR
            go_wp2
            go_roundw
            case rel => exact ⟨k + 1, _, by omega, by go_num, HO3, q3, HK2⟩
            case measure => simp [intOf]; omega
      · simp only at e y0 y1 t0 t1
        subst e
        have HZ : Hid (∀ x, x = rk.getD da.toNat vl0 → ∀ W, Calls Tryz.prog 27 #[.agg #[.int .i64 x.k, .int .i64 x.n, .string ⟨x.s.toArray⟩], .int .i64 dt] W fun e w' => e = .returned (.agg #[.int .i64 z.k, .int .i64 z.n, .string ⟨z.s.toArray⟩]) ∧ Below W.heap.size W w') := by
          intro x hx W
          have hmem : x ∈ rk := by
            have hl : da.toNat < rk.length := by omega
            rw [hx, List.getD_eq_getElem?_getD, List.getElem?_eq_getElem hl]
            exact List.getElem_mem _
          have hc := (badL_zero rk).1 hrb x hmem
          have hsx := short_of hc
          have := cov_any x.k x.n dt ⟨x.s.toArray⟩ W (by rw [size_mk]; omega) (by simpa using hc) (by omega)
          have e0 : (⟨x.s.toArray⟩ : ByteArray).data.toList = x.s := by simp
          rw [e0] at this
          rw [← HZ1.out, ← hx]
          exact this
        clear hw HK
        go_wp2_with fail
        generalize hW0 : wr.alloc (.cells #[.int .i64 3, .int .i64 da, .int .i64 dt, .int .i64 dv.k, .int .i64 dv.n, .string ⟨dv.s.toArray⟩] 53) = W0 at *
        generalize hbb : wr.heap.size = bb at *
        clear hW0 hbb
        obtain ⟨N, hN⟩ : ∃ N, W0.heap.size = N := ⟨_, rfl⟩
        rw [hN] at hbN
        go_loopw [8, 9] (fun x i wl => ∃ j : Nat, j ≤ rn ∧ i = .int .i64 j ∧ Hid (Own wl N x (gP ⟨3, da, dt, dv⟩ z (rk.take j))) ∧ Below N W0 wl) (fun _ i _ => rn - (intOf i).toNat)
        case atStart => exact ⟨0, Nat.zero_le _, rfl, by rw [List.take_zero, gP_nil]; exact World.ownsRow_nil _ _ _ _, Below.refl _ _⟩
        case round =>
          obtain ⟨j, hj, rfl, OX, hin⟩ := hrel
          obtain ⟨d0, d1, d2, d3, d4, d5⟩ := six_at ((hin.block bb hbN).trans KB.out)
          have hszN : N ≤ wr.heap.size := by have := hin.size; omega
          have hNw : w.heap.size ≤ N := by have := qw.size; omega
          obtain ⟨acc, hacc⟩ : ∃ acc, gP ⟨3, da, dt, dv⟩ z (rk.take j) = acc := ⟨_, rfl⟩
          obtain ⟨cn, hcn⟩ : ∃ cn, acc.length = cn := ⟨_, rfl⟩
          have hcn5 : cn ≤ 5 := by
            have := gP_len ⟨3, da, dt, dv⟩ z (rk.take j)
            rw [hacc, List.length_take] at this
            omega
          by_cases hlj : j < rn
          · obtain ⟨x, hx⟩ : ∃ x, rk[j]? = some x := ⟨rk[j], List.getElem?_eq_getElem (by omega)⟩
            have hOo := owned_below OW.out (by rw [hN]; exact hin)
            obtain ⟨og, oc', hov, -⟩ := owns_some hOo (by omega)
            cases hov
            obtain ⟨f0, f1, f2⟩ := flatV_get rk j x hx
            have e0 := (hOo.cellAt (j * 3) (by omega)).trans f0
            have e1 := (hOo.cellAt (j * 3 + 1) (by omega)).trans f1
            have e2 := (hOo.cellAt (j * 3 + 2) (by omega)).trans f2
            have hlj' : (j : Int) < (rn : Int) := by omega
            clear hOo f0 f1 f2
            by_cases hja : j = da.toNat
            · have hji : (j : Int) = da := by omega
              have hxz : x = rk.getD da.toNat vl0 := by rw [← hja, List.getD_eq_getElem?_getD, hx]; rfl
              have HN : Hid (acc ++ [z] = gP ⟨3, da, dt, dv⟩ z (rk.take (j + 1))) := by rw [Hid, ← hacc]; exact (gP_cast _ z rk j rfl (by omega) hja).symm
              have hcast := HZ.out x hxz
              have ho := OX.out
              rw [hacc] at ho
              obtain ⟨xa, xc, hx0⟩ := owns_slice ho
              subst hx0
              have hxlt := ho.lt
              have ox := ho
              unfold Own at ox
              rw [hcn] at ox hxlt ⊢
              generalize hfl : acc.flatMap vlC = fl at ox
              have OXX := hide ox
              clear hx OX hacc hja hxz ho ox
              subst hji
              go_wp2_with fail
              go_region_law (first | (refine step_append_lies _ (by rfl) _ _ _ (by rfl) N 51 i0 _ 3 32 Tryz.underlying22 hi hz0 hz1 hz2 rfl (by omega) (.slice xa cn xc) cn fl (by rfl) (OC.out.alloc _) ⟨wc.heap.size, 0, none⟩ 1 1 [.int .i64 z.k, .int .i64 z.n, .string ⟨z.s.toArray⟩] (by rfl) (by rfl) (World.news_of_block (cs := #[.int .i64 z.k, .int .i64 z.n, .string ⟨z.s.toArray⟩]) (t := 51) (fr := (0, 0)) (heap_alloc_new wc _)) (by simp [Value.oneCell']) (by omega) (by unfold maxLen; omega) (by omega) (by simp; omega) (wc.heap.size + 1) (by simp) ?_; intro gg cap' w3 hown hgrow _ _) | (go_simp; refine (hcast _ ).mono ?_; rintro e wc ⟨rfl, bc⟩; have OC := hide (Own.owned OXX.out bc); have hinc := hin.drew.trans (bc.mono hszN); have hszc : N ≤ wc.heap.size := Nat.le_trans hszN bc.size; dsimp only))
              all_goals (
                have hb3 : Below N W0 w3 := (hinc.alloc hszc _).grown hgrow (by simp; omega) (fun q hq => (hxlt q hq).1)
                have HO3 := hide (own_push (l := acc) (by rw [hfl]; exact hown) hcn HN.out.symm)
                clear hown hgrow
                go_wp2
                go_roundw
                case rel => exact ⟨j + 1, by omega, by go_num, HO3, hb3⟩
                case measure => simp [intOf]; omega)
            · have hne : j ≠ (⟨3, da, dt, dv⟩ : Dl).a.toNat := hja
              have hji : ¬ (j : Int) = da := by omega
              have HN : Hid (acc ++ [x] = gP ⟨3, da, dt, dv⟩ z (rk.take (j + 1))) := by rw [Hid, ← hacc]; exact (gP_else _ z rk j x hx (fun _ => hne)).symm
              have ho := OX.out
              rw [hacc] at ho
              obtain ⟨xa, xc, hx0⟩ := owns_slice ho
              subst hx0
              have ox := ho.alloc (.cells #[.int .i64 x.k, .int .i64 x.n, .string ⟨x.s.toArray⟩] 51)
              have hnw := World.news_of_block (cs := #[.int .i64 x.k, .int .i64 x.n, .string ⟨x.s.toArray⟩]) (t := 51) (fr := (0, 0)) (heap_alloc_new wr (.cells #[.int .i64 x.k, .int .i64 x.n, .string ⟨x.s.toArray⟩] 51))
              have hxlt := ox.lt
              unfold Own at ox
              rw [hcn] at ox hxlt ⊢
              generalize hfl : acc.flatMap vlC = fl at ox
              clear hx OX hacc
              go_wp2_with (at_builtin; refine wpList_append_own _ rfl _ _ 22 rfl N 51 i0 (.agg #[.int .i64 0, .int .i64 0, .string ⟨#[]⟩]) 3 32 Tryz.underlying22 hi hz0 hz1 hz2 rfl (by decide) _ _ _ rfl ox ⟨wr.heap.size, 0, none⟩ 1 1 [.int .i64 x.k, .int .i64 x.n, .string ⟨x.s.toArray⟩] rfl rfl hnw (by intro y hy; simp only [List.mem_cons, List.not_mem_nil, or_false] at hy; rcases hy with rfl | rfl | rfl <;> rfl) ?c3 ?c4 ?c5 ?_)
              case c3 => unfold maxLen; omega
              case c4 => omega
              case c5 => first | omega | (simp; omega)
              intro v3 w3 hown hgrow _
              have hb3 : Below N W0 w3 := (hin.alloc hszN _).grown hgrow (by simp; omega) (fun q hq => (hxlt q hq).1)
              have HO3 := hide (own_push (l := acc) (by rw [hfl]; exact hown) hcn HN.out.symm)
              clear hown hgrow ox hxlt hnw ho
              go_wp2
              go_roundw
              case rel => exact ⟨j + 1, by omega, by go_num, HO3, hb3⟩
              case measure => simp [intOf]; omega
          · obtain rfl : j = rn := by omega
            have ho := OX.out
            have HR : gP ⟨3, da, dt, dv⟩ z (rk.take j) = rowB rk ⟨3, da, dt, dv⟩ := by
              rw [gP_all _ _ (.inr (.inr rfl)), List.take_of_length_le (by omega), HZ1.out]; rfl
            rw [HR] at ho
            obtain ⟨xa, xc, hx0⟩ := owns_slice ho
            subst hx0
            have HO3 := hide (Own.mono ho hNw)
            have q3 := qw.trans (hin.mono hNw)
            clear OX hacc ho HR
            go_wp2
            go_roundw
            case rel => exact ⟨k + 1, _, by omega, by go_num, HO3, q3, HK2⟩
            case measure => simp [intOf]; omega
    · obtain rfl : k = m := by omega
      have hq := OK.out
      rw [HK.out.is, List.take_of_length_le (by omega)] at hq
      have HF := hide hq
      obtain ⟨ra, rc, hrv⟩ := owns_slice OK.out
      subst hrv
      clear OK HK HC hq
      go_wp2
      exact HP.out _ _ HF.out hnx

end Go.Proofs.YtkpeklealgicpacGreatDoor
