/-
  Package table: without.
  Package table: without, the walk.
  Package table: slices.Delete of one column out of a row of one's own.
  Package table: ofRows.
  Package table: addFault.
  Package table: addFault of any table.
  Package table: alterFault, its region that draws.
  Package table: alterFault.
  Package table: what Update makes, without memory.
  Package table: what Alter makes, without memory.
  Package table: parts of a table of one's own that are other ones.
-/
import Derived.Deep.RegionHeld3
import Derived.Test.YtcnnjladaoaeiaaGreatDoorGa
import Derived.Test.YtcnnjladaoaeiaaGreatDoorGl

set_option maxRecDepth 100000
set_option maxHeartbeats 25600000
namespace Go.Proofs.YtcnnjladaoaeiaaGreatDoor
open Go.RowKit
theorem ixsC_setA : ∀ (L : List Ix) (evs : List Value) (i : Nat) (x : Ix) (k : Int), evs.length = L.length → L[i]? = some x → (ixsC L evs).set (i * 4 + 1) (.int .i64 k) = ixsC (L.set i { x with a := k }) evs
  | [], _, i, x, k, _, h => by simp at h
  | _ :: _, [], i, x, k, h, _ => by simp at h
  | y :: L, e :: evs, 0, x, k, h1, h2 => by simp at h2; subst h2; simp [ixsC, ixC]
  | y :: L, e :: evs, i + 1, x, k, h1, h2 => by
    have ih := ixsC_setA L evs i x k (by simpa using h1) (by simpa using h2)
    unfold ixsC at ih ⊢
    simp only [List.zipWith_cons_cons, List.flatten_cons, List.set_cons_succ]
    rw [← ih, List.set_append, if_neg (by simp [ixC]; omega)]
    congr 2
    simp [ixC]; omega
def offX (z : Int) (X : List Ix) : List Ix := X.filter fun x => !(x.a == z)
theorem kept_fst (z : Int) : ∀ (X : List Ix) (evs : List Value), evs.length = X.length → (keptG (onC z) (X.zip evs)).map (·.1) = offX z X
  | [], _, _ => rfl
  | x :: X, [], h => by simp at h
  | x :: X, e :: evs, h => by
    have ih := kept_fst z X evs (by simpa using h)
    unfold keptG offX at ih ⊢
    rw [List.zip_cons_cons, List.filter_cons, List.filter_cons]
    by_cases hx : x.a = z
    · have h1 : (!onC z (x, e)) = false := by simp [onC, hx]
      have h2 : (!(x.a == z)) = false := by simp [hx]
      rw [h1, h2]; exact ih
    · have h1 : (!onC z (x, e)) = true := by simp [onC, hx]
      have h2 : (!(x.a == z)) = true := by simp [hx]
      rw [h1, h2, if_pos rfl, if_pos rfl, List.map_cons, ih]
theorem ixs_pairs (K : List Ie) : ixsC (K.map (·.1)) (K.map (·.2)) = K.flatMap ixP := by
  rw [ixsC_zip]
  congr 1
  induction K with
  | nil => rfl
  | cons x r ih => rw [List.map_cons, List.map_cons, List.zip_cons_cons, ih]
theorem off_own (B : Nat) (u : Value) (X : List Ix) (z : Int) (w : World) (h : IxOwn w B u X) (hB : B ≤ w.heap.size) (hl : X.length ≤ 1000) (p : Nat) (lp : p < w.heap.size) (hp : w.cell? ⟨p, 0, none⟩ = some (.int .i64 z)) (hpB : ∀ g n cap, u = .slice (some ⟨g, 0, none⟩) n cap → p ≠ g) :
    Calls Tryz.prog 111 #[u, .func (.func 112) #[] #[.pointer (some ⟨p, 0, none⟩)]] w fun e w' => ∃ v, e = .returned v ∧ IxOwn w' B v (offX z X) ∧ Below B w w' ∧ w.grownBy w' u.ownBlock := by
  obtain ⟨evs, e1, oi, oe⟩ := h
  have hz : (X.zip evs).length = X.length := by rw [List.length_zip, e1, Nat.min_self]
  have hev : ∀ x ∈ X.zip evs, ∃ a n c, x.2 = .slice a n c := by
    intro x hx
    obtain ⟨i, hi, rfl⟩ := List.getElem_of_mem hx
    rw [List.length_zip] at hi
    obtain ⟨a, c, e⟩ := owns_slice (oe i evs[i] X[i] (List.getElem?_eq_getElem (by omega)) (List.getElem?_eq_getElem (by omega)))
    exact ⟨a, _, c, by rw [List.getElem_zip]; exact e⟩
  refine (delG_any B u (X.zip evs) z w (by rw [hz, ← ixsC_zip]; exact oi) hB (by omega) hev p lp hp hpB).mono ?_
  rintro e w' ⟨v, rfl, o', hb, hg⟩
  refine ⟨v, rfl, ⟨(keptG (onC z) (X.zip evs)).map (·.2), ?_, ?_, ?_⟩, hb, hg⟩
  · rw [← kept_fst z X evs e1, List.length_map, List.length_map]
  · rw [← kept_fst z X evs e1, List.length_map, ixs_pairs]; exact o'
  · intro i ev x ha hb'
    rw [← kept_fst z X evs e1, List.getElem?_map] at hb'
    rw [List.getElem?_map] at ha
    obtain ⟨q, hq, rfl⟩ := Option.map_eq_some_iff.1 hb'
    obtain ⟨q', hq', rfl⟩ := Option.map_eq_some_iff.1 ha
    rw [hq] at hq'
    cases hq'
    have hm : q ∈ X.zip evs := (List.mem_filter.1 (List.mem_of_getElem? hq)).1
    obtain ⟨j, hj, rfl⟩ := List.getElem_of_mem hm
    rw [List.length_zip] at hj
    rw [List.getElem_zip]
    exact owns_other (oe j evs[j] X[j] (List.getElem?_eq_getElem (by omega)) (List.getElem?_eq_getElem (by omega))) oi (by decide) hg
def downX (z : Int) (x : Ix) : Ix := if z < x.a then { x with a := x.a - 1 } else x
def withoutX (z : Int) (X : List Ix) : List Ix := (offX z X).map (downX z)
theorem without_any (B : Nat) (u : Value) (X : List Ix) (z : Int) (w : World) (h : IxOwn w B u X) (hB : B ≤ w.heap.size) (hl : X.length ≤ 1000) (hxa : ∀ x ∈ X, -1000000 ≤ x.a ∧ x.a ≤ 1000000) :
    Calls Tryz.prog 68 #[u, .int .i64 z] w fun e w' => ∃ v, e = .returned v ∧ IxOwn w' B v (withoutX z X) ∧ Below B w w' ∧ Hid (∀ (B' : Nat) (t : TypeId) (m : Nat) (x : Value) (n : Nat) (xs : List Value), t ≠ 73 → w.ownsRow B' t m x n xs → w'.ownsRow B' t m x n xs) := by
  have b0 := (Below.refl w.heap.size w).alloc (Nat.le_refl _) (.cells #[.int .i64 z] 3)
  have k0 := heap_alloc_new w (.cells #[.int .i64 z] 3)
  have s0 : (w.alloc (.cells #[.int .i64 z] 3)).heap.size = w.heap.size + 1 := by simp
  have h0 : IxOwn (w.alloc (.cells #[.int .i64 z] 3)) B u X := h.below b0
  have hub : ∀ j, u.ownBlock = some j → j < w.heap.size := by
    intro j hj
    obtain ⟨evs, -, oi, -⟩ := h
    exact (oi.lt j hj).2
  have hoff := off_own B u X z _ h0 (by omega) hl w.heap.size (by omega) (by rw [Lib.cell_of_heap k0]; rfl) (fun g n cap e hp => by have := hub g (by rw [e]; rfl); omega)
  obtain ⟨ua, un, uc, rfl⟩ : ∃ a n c, u = .slice a n c := by obtain ⟨evs, -, oi, -⟩ := h; obtain ⟨a, c, e⟩ := owns_slice oi; exact ⟨a, _, c, e⟩
  have HUI := hide h0
  go_enter Tryz.func68, Tryz.ntmps68
  go_wp2_with fail
  generalize (w.alloc (.cells #[.int .i64 z] 3)) = w0 at *
  refine hoff.mono ?_
  rintro e w1 ⟨v, rfl, h1, b1, g1⟩
  have k1 : w1.heap[w.heap.size]? = some (.cells #[.int .i64 z] 3) := (g1.block w.heap.size (by omega) (fun e => by have := hub _ e.symm; omega)).trans k0
  have q1 : Below B w w1 := (b0.mono hB).trans b1
  have hoth : Hid (∀ (B' : Nat) (t : TypeId) (m : Nat) (x : Value) (n : Nat) (xs : List Value), t ≠ 73 → w.ownsRow B' t m x n xs → w1.ownsRow B' t m x n xs) := by
    intro B' t m x n xs ht ho
    obtain ⟨evs, -, oi, -⟩ := HUI.out
    exact owns_other (owns_keep ho b0) oi ht g1
  obtain ⟨Y, hY⟩ : ∃ Y, offX z X = Y := ⟨_, rfl⟩
  have hYl : Y.length ≤ 1000 := by rw [← hY]; exact Nat.le_trans (List.length_filter_le _ _) hl
  have hYa : Hid (∀ x ∈ Y, -1000000 ≤ x.a ∧ x.a ≤ 1000000) := by intro x hx; rw [← hY] at hx; exact hxa x (List.mem_filter.1 hx).1
  have HYY : Hid (withoutX z X = Y.map (downX z)) := by rw [Hid, withoutX, hY]
  rw [hY] at h1
  obtain ⟨evs, e1, oi, oe⟩ := h1
  obtain ⟨n, hn⟩ : ∃ n, Y.length = n := ⟨_, rfl⟩
  rw [hn] at e1 oi hYl
  have HN0 := hide hn
  have HE1 := hide e1
  obtain ⟨ia_, ic_, rfl⟩ := owns_slice oi
  have oi_ := hide oi
  have oe_ : Hid (∀ (i : Nat) ev x, evs[i]? = some ev → Y[i]? = some x → w1.ownsRow B 111 2 ev x.es.length (x.es.flatMap clC)) := hide oe
  have HK1 := hide k1
  have c3 : w1.cell? ⟨w.heap.size, 0, none⟩ = some (.int .i64 z) := by rw [Lib.cell_of_heap k1]; rfl
  have hvp : Hid ((Value.slice ia_ n ic_).ownBlock ≠ some w.heap.size) := by
    intro e
    obtain ⟨-, ⟨ev, -⟩ | ⟨g', cap', cur, ev, -, hg, -⟩⟩ := oi
    · cases ev; cases e
    · cases ev; cases e
      have hcl := k1.symm.trans hg
      cases hcl
  have hl1 : w.heap.size < w1.heap.size := (ltS k1)
  have HQ1 := hide q1
  clear hn e1 oi oe hoff b1 g1 k1 q1 HUI h0 b0 k0 s0 hub hxa h
  go_wp2_with fail
  go_loopw [11] (fun i wl => ∃ (k : Nat) (M : List Ix), k ≤ n ∧ i = .int .i64 k ∧ Hid (M.length = n) ∧ Hid (∀ j : Nat, k ≤ j → M[j]? = Y[j]?) ∧ Hid (∀ j : Nat, j < k → M[j]? = (Y[j]?).map (downX z)) ∧ Hid (wl.ownsRow B 73 4 (.slice ia_ n ic_) n (ixsC M evs)) ∧ w1.grownBy wl (Value.slice ia_ n ic_).ownBlock) (fun i _ => n - (intOf i).toNat)
  case atStart => exact ⟨0, Y, Nat.zero_le _, rfl, HN0, fun _ _ => rfl, fun j hj => absurd hj (Nat.not_lt_zero _), oi_, grown_refl _ _⟩
  case round =>
    obtain ⟨k, M, hk, rfl, HN, HT, HV, HO, hg⟩ := hrel
    by_cases hlt : k < n
    · obtain ⟨x, hx⟩ : ∃ x, Y[k]? = some x := ⟨Y[k]'(by rw [HN0.out]; exact hlt), List.getElem?_eq_getElem _⟩
      have hM : M[k]? = some x := (HT.out k (Nat.le_refl _)).trans hx
      obtain ⟨ev, hev⟩ : ∃ x, evs[k]? = some x := ⟨evs[k]'(by rw [HE1.out]; exact hlt), List.getElem?_eq_getElem _⟩
      obtain ⟨gi, gc, hge, hgB, hgl⟩ := owns_some HO.out (by omega)
      cases hge
      have c1 : wr.cell? ⟨gi, k * 4 + 1, none⟩ = some (.int .i64 x.a) := by
        have := HO.out.cellAt (k * 4 + 1) (by omega)
        rw [ixsC_get M evs k x _ hM hev 1 (by decide)] at this
        exact this
      obtain ⟨-, fz⟩ := own_at HO.out (k * 4 + 1) (by omega)
      have kr := (hg.block w.heap.size hl1 (fun e => hvp.out e.symm)).trans HK1.out
      have cz : wr.cell? ⟨w.heap.size, 0, none⟩ = some (.int .i64 z) := by rw [Lib.cell_of_heap kr]; rfl
      have hlt' : (k : Int) < (n : Int) := by omega
      obtain ⟨ha1, ha2⟩ := hYa.out x (List.mem_of_getElem? hx)
      have HM := hide hM
      have HX := hide hx
      have d1 : wr.drew.cell? ⟨gi, k * 4 + 1, none⟩ = some (.int .i64 x.a) := c1
      have dz : wr.drew.cell? ⟨w.heap.size, 0, none⟩ = some (.int .i64 z) := cz
      have gd : wr.grownBy wr.drew (Value.slice (some ⟨gi, 0, none⟩) n ic_).ownBlock := ⟨rfl, rfl, rfl, Nat.le_refl _, fun _ _ _ => rfl⟩
      clear hx hM hev kr c3
      by_cases hb : z < x.a
      · have HB := hide hb
        have hb1 : x.a > z := hb
        go_wp2_with fail
        go_quiet (fail)
        go_wp2
        go_roundw
        case rel =>
          refine ⟨k + 1, M.set k { x with a := x.a - 1 }, by omega, by go_num, by rw [Hid, List.length_set]; exact HN.out, fun j hj => ?_, fun j hj => ?_, ?_, ?_⟩
          · rw [List.getElem?_set_ne (by omega)]; exact HT.out j (by omega)
          · rcases Nat.lt_or_ge j k with h | h
            · rw [List.getElem?_set_ne (by omega)]; exact HV.out j h
            · obtain rfl : j = k := by omega
              rw [List.getElem?_set_self (by rw [HN.out]; exact hlt), HX.out]
              simp [downX, HB.out]
          · rw [Hid, ← ixsC_setA M evs k x _ (by rw [HE1.out, HN.out]) HM.out]
            exact own_put (owns_keep HO.out (below_drewN (Below.refl wr.heap.size wr) _)) (k * 4 + 1) _
          · exact grown_trans (grown_trans hg (grown_below (below_drewN (Below.refl wr.heap.size wr) _) _)) (grown_set _ gi (k * 4 + 1) _)
        case measure => simp [intOf]; omega
      · have HB := hide hb
        have hb1 : ¬ x.a > z := hb
        go_wp2_with fail
        go_quiet (fail)
        go_wp2
        go_roundw
        case rel =>
          refine ⟨k + 1, M, by omega, by go_num, HN, fun j hj => HT.out j (by omega), fun j hj => ?_, owns_keep HO.out (below_drewN (Below.refl wr.heap.size wr) _), grown_trans hg (grown_below (below_drewN (Below.refl wr.heap.size wr) _) _)⟩
          rcases Nat.lt_or_ge j k with h | h
          · exact HV.out j h
          · obtain rfl : j = k := by omega
            rw [HM.out, HX.out]
            have hnn : ¬ z < x.a := by have := HB.out; omega
            simp only [Option.map_some, downX, if_neg hnn]
        case measure => simp [intOf]; omega
    · obtain rfl : k = n := by omega
      have hM : M = Y.map (downX z) := by
        apply List.ext_getElem?
        intro j
        rw [List.getElem?_map]
        rcases Nat.lt_or_ge j k with h | h
        · exact HV.out j h
        · have h1 := HN.out
          have h2 := HN0.out
          rw [List.getElem?_eq_none (by omega), List.getElem?_eq_none (by omega)]; rfl
      subst hM
      have hfin : IxOwn wr B (.slice ia_ k ic_) (Y.map (downX z)) := by
        refine ⟨evs, by rw [List.length_map, HN0.out, HE1.out], by rw [List.length_map, HN0.out]; exact HO.out, ?_⟩
        intro i ev x' ha hb
        rw [List.getElem?_map] at hb
        obtain ⟨x, hx, rfl⟩ := Option.map_eq_some_iff.1 hb
        have hes : (downX z x).es = x.es := by unfold downX; split <;> rfl
        rw [hes]
        exact owns_other (oe_.out i ev x ha hx) oi_.out (by decide) hg
      have hbel : Below B w wr := HQ1.out.grown hg (Nat.le_trans hB HQ1.out.size) (fun j hj => (oi_.out.lt j hj).1)
      have hot2 : Hid (∀ (B' : Nat) (t : TypeId) (m : Nat) (x : Value) (n : Nat) (xs : List Value), t ≠ 73 → w.ownsRow B' t m x n xs → wr.ownsRow B' t m x n xs) := fun B' t m x n xs ht ho => owns_other (hoth.out B' t m x n xs ht ho) oi_.out ht hg
      have HF := hide (And.intro hfin hbel)
      clear hfin hbel HO HV HT HN hg
      go_wp2
      go_ret
      exact ⟨_, rfl, by rw [HYY.out]; exact HF.out.1, HF.out.2, hot2⟩
abbrev z2 : List Value := [.string ⟨#[]⟩, .int .i64 0]
theorem clear_col (w : World) (ty : TypeId) (b o c : Nat) (hc : ∀ j, j < 2 → (w.cell? ⟨b, o + j, none⟩).isSome = true) (hf : ∀ j, j < 2 → w.frozen? ⟨b, o + j, none⟩ = false) :
    (Builtin.clear_ #[22] ty #[.slice (some ⟨b, o, none⟩) 1 c]).run Tryz.prog w = .ok (.tuple #[]) (w.setCells b o z2) := by
  have hzc : (Builtin.zeroCells (Value.agg #[.string ⟨#[]⟩, .int .i64 0]).cells 1).toList = z2 := by
    simp [Builtin.zeroCells, Value.cells, z2]
    rfl
  have hst := run_storeCells_cells (P := Tryz.prog) b o z2 0 w (by simpa using hc) (by simpa using hf) (by intro v hv; simp only [z2, List.mem_cons, List.not_mem_nil, or_false] at hv; rcases hv with rfl | rfl <;> rfl)
  simp only [Nat.add_zero] at hst
  simp [Builtin.clear_, run_underlying Tryz.underlying22, Tryz.zeroValue65, hzc, hst]
theorem flatC_len (L : List Cl) : (L.flatMap clC).length = L.length * 2 := by
  induction L with
  | nil => rfl
  | cons x r ih => rw [List.flatMap_cons, List.length_append, ih, List.length_cons]; simp only [clC, List.length_cons, List.length_nil]; omega
theorem flatC_one (L : List Cl) : ∀ u ∈ L.flatMap clC, u.oneCell' = true := by
  intro u hu
  obtain ⟨p, _, hup⟩ := List.mem_flatMap.1 hu
  simp only [clC, List.mem_cons, List.not_mem_nil, or_false] at hup
  rcases hup with rfl | rfl <;> rfl
theorem flatC_append (A B : List Cl) : (A ++ B).flatMap clC = A.flatMap clC ++ B.flatMap clC := List.flatMap_append
theorem flatC_take (L : List Cl) (i : Nat) : (L.take i).flatMap clC = (L.flatMap clC).take (i * 2) := by
  induction L generalizing i with
  | nil => simp
  | cons x r ih =>
    cases i with
    | zero => simp
    | succ i =>
      rw [List.take_succ_cons, List.flatMap_cons, List.flatMap_cons, ih]
      have e : (i + 1) * 2 = (clC x).length + i * 2 := by simp [clC]; omega
      rw [e, List.take_length_add_append]
theorem flatC_drop (L : List Cl) (i : Nat) : (L.drop i).flatMap clC = (L.flatMap clC).drop (i * 2) := by
  induction L generalizing i with
  | nil => simp
  | cons x r ih =>
    cases i with
    | zero => simp
    | succ i =>
      rw [List.drop_succ_cons, List.flatMap_cons, ih]
      have e : (i + 1) * 2 = (clC x).length + i * 2 := by simp [clC]; omega
      rw [e, List.drop_length_add_append]
abbrev OwnC (w : World) (B : Nat) (u : Value) (L : List Cl) : Prop := w.ownsRow B 65 2 u L.length (L.flatMap clC)
theorem delcol_any (B : Nat) (u : Value) (L : List Cl) (i j : Nat) (hj : j = i + 1) (hi : i < L.length) (w : World) (h : OwnC w B u L) (hlen : L.length ≤ 1000) :
    Calls Tryz.prog 67 #[u, .int .i64 i, .int .i64 j] w fun e w' => ∃ v, e = .returned v ∧ OwnC w' B v (L.eraseIdx i) ∧ Below B w w' ∧ w.grownBy w' u.ownBlock := by
  obtain ⟨i0, hi0, hz0, hz1, hz2⟩ := info_parts Tryz.info_cl
  obtain ⟨hxl, hh⟩ := h
  rcases hh with ⟨-, h0⟩ | ⟨g, cap, cur, rfl, hBg, hg, hnc, hcm, hcs, htake⟩
  · omega
  obtain ⟨n, hn⟩ : ∃ n, L.length = n := ⟨_, rfl⟩
  obtain ⟨news, hnews⟩ : ∃ news, news = (L.drop j).flatMap clC := ⟨_, rfl⟩
  have hnl : news.length = (n - j) * 2 := by rw [hnews, flatC_len, List.length_drop, hn]
  have hm : maxLen = 9223372036854775807 := by rfl
  rw [hn] at hxl hi hlen hnc htake ⊢
  have hcell : ∀ t, t < cap * 2 → ∃ x, w.cell? ⟨g, t, none⟩ = some x := by
    intro t ht
    have := Lib.cell_of_heap hg t
    rw [this]
    exact ⟨cur[t], Array.getElem?_eq_getElem (by omega)⟩
  obtain ⟨A, hA, hsrc⟩ : ∃ A : Addr, (if cap = j then some (⟨g, 0, none⟩ : Addr) else some ⟨g, j * 2, none⟩) = some A ∧ Hid (∀ t x, news[t]? = some x → w.drew.cell? (A.add t) = some x) := by
    by_cases h : cap = j
    · refine ⟨⟨g, 0, none⟩, by simp [h], fun t x hx => ?_⟩
      have h0 : news.length = 0 := by rw [hnl]; omega
      rw [List.length_eq_zero_iff.1 h0] at hx
      simp at hx
    · refine ⟨⟨g, j * 2, none⟩, by simp [h], fun t x hx => ?_⟩
      have ht := (List.getElem?_eq_some_iff.1 hx).1
      rw [hnl] at ht
      rw [Go.WideShapes.add_plain]
      show w.cell? ⟨g, j * 2 + t, none⟩ = some x
      rw [Lib.cell_of_heap hg]
      rw [hnews, flatC_drop, List.getElem?_drop, ← htake, List.getElem?_take, if_pos (by omega)] at hx
      simpa using hx
  have s1 : Hid (news.length = (n - j) * 2) := hnl
  have s2 : Hid (∀ x ∈ news, x.oneCell' = true) := by rw [hnews]; exact flatC_one _
  have s3 : Hid (∀ t, t < news.length → (w.drew.cell? ⟨g, 0 + i * 2 + t, none⟩).isSome = true ∧ w.drew.frozen? ⟨g, 0 + i * 2 + t, none⟩ = false) := by
    intro t ht
    rw [hnl] at ht
    refine ⟨?_, ?_⟩
    · show (w.cell? ⟨g, 0 + i * 2 + t, none⟩).isSome = true
      obtain ⟨x, hx⟩ := hcell (0 + i * 2 + t) (by omega)
      rw [hx]; rfl
    · exact Lib.frozen_of_heap (w := w.drew) hg _
  obtain ⟨W1, hW1⟩ : ∃ W1, W1 = w.drew.setCells g (0 + i * 2) news := ⟨_, rfl⟩
  obtain ⟨cur1, hg1, hc1⟩ := heap_setCells g 65 news (0 + i * 2) w.drew cur hg (by omega)
  rw [← hW1] at hg1
  have hcl1 : cur1.toList.length = cap * 2 := by
    rw [hc1]; simp; omega
  have hq : n - (i + (n - j)) = 1 := by omega
  have hcl : ∀ ty, (Builtin.clear_ #[22] ty #[.slice (some ⟨g, (i + (n - j)) * 2, none⟩) 1 (cap - (i + (n - j)))]).run Tryz.prog W1 = .ok (.tuple #[]) (W1.setCells g ((i + (n - j)) * 2) z2) := by
    intro ty
    refine clear_col W1 ty g _ _ (fun t ht => ?_) (fun t _ => Lib.frozen_of_heap hg1 _)
    rw [Lib.cell_of_heap hg1]
    rw [Array.getElem?_eq_getElem (by rw [← Array.length_toList]; omega)]; rfl
  obtain ⟨cur2, hg2, hc2⟩ := heap_setCells g 65 z2 ((i + (n - j)) * 2) W1 cur1 hg1 (by rw [← Array.length_toList, hcl1]; simp only [z2, List.length_cons, List.length_nil]; omega)
  have b1 : Below B w W1 := by rw [hW1]; exact below_cells g hBg _ _ _ (Below.refl _ _).drew
  have b2 : Below B w (W1.setCells g ((i + (n - j)) * 2) z2) := below_cells g hBg _ _ _ b1
  have g2 : w.grownBy (W1.setCells g ((i + (n - j)) * 2) z2) (some g) := by
    rw [hW1]
    have gd : w.grownBy w.drew (some g) := ⟨rfl, rfl, rfl, Nat.le_refl _, fun _ _ _ => rfl⟩
    exact grown_trans (grown_trans gd (grown_cells g news (0 + i * 2) w.drew)) (grown_cells g z2 ((i + (n - j)) * 2) _)
  have hfin : OwnC (W1.setCells g ((i + (n - j)) * 2) z2) B (.slice (some ⟨g, 0, none⟩) (i + (n - j)) cap) (L.eraseIdx i) := by
    have hel : (L.eraseIdx i).length = i + (n - j) := by rw [List.length_eraseIdx, if_pos (by omega)]; omega
    have hfl : (L.eraseIdx i).flatMap clC = (L.flatMap clC).take (i * 2) ++ news := by
      rw [List.eraseIdx_eq_take_drop_succ, flatC_append, flatC_take, hnews, hj]
    have hc2l : cur2.toList.length = cap * 2 := by rw [hc2, List.length_append, List.length_append, List.length_take, List.length_drop, hcl1]; simp only [z2, List.length_cons, List.length_nil]; omega
    refine ⟨by rw [flatC_len], .inr ⟨g, cap, cur2, by rw [hel], hBg, hg2, by omega, hcm, by rw [← Array.length_toList]; exact hc2l, ?_⟩⟩
    rw [hel, hfl, hc2, hc1, Nat.zero_add]
    have l1 : (cur.toList.take (i * 2)).length = i * 2 := by rw [List.length_take, Array.length_toList]; omega
    have e1 : cur.toList.take (i * 2) = (L.flatMap clC).take (i * 2) := by
      rw [← htake, List.take_take, Nat.min_eq_left (by omega)]
    have e2 : (cur.toList.take (i * 2) ++ news ++ cur.toList.drop (i * 2 + news.length)).take ((i + (n - j)) * 2) = cur.toList.take (i * 2) ++ news := by
      rw [List.take_append_of_le_length (by rw [List.length_append, l1, hnl]; omega), List.take_of_length_le (by rw [List.length_append, l1, hnl]; omega)]
    rw [e2, List.append_assoc, List.take_append_of_le_length (by rw [List.length_append, l1, hnl]; omega), List.take_of_length_le (by rw [List.length_append, l1, hnl]; omega), e1]
  have hW : Hid (W1 = w.drew.setCells g (0 + i * 2) news) := hW1
  have HF := hide hfin
  have HG2 := hide g2
  have hic : i ≤ cap := by omega
  have hjc : j ≤ cap := by omega
  have hij : i ≤ j := by omega
  have hjn : j ≤ n := by omega
  have hne : ((i : Int) == (j : Int)) = false := by simp; omega
  clear hW1 hfin hg1 hg2 hc1 hc2 hcl1 hcell hg hcs htake hnews hnl b1 hxl hi hj g2
  go_enter Tryz.func67, Tryz.ntmps67
  go_wp2_with fail
  go_region_law (refine step_append_room rfl (.tmp 22) (.tmp 25) 22 rfl 65 i0 2 Tryz.underlying22 hi0 hz1 g 0 i cap (by simp [Act.eval, Act.put]) A (n - j) (cap - j) news (by simp [Act.eval, Act.put]) s1.out hsrc.out s2.out (by omega) s3.out ?_; rw [← hW.out])
  go_wp2
  go_ret
  exact ⟨_, rfl, HF.out, b2, HG2.out⟩
theorem ofRows_raw (k a ty ty' xk xn : Int) (xs : List UInt8) (w : World) (h : ty' = if k = 1 then 0 else ty) :
    Calls Tryz.prog 66 #[.agg #[.int .i64 k, .int .i64 a, .int .i64 ty, .int .i64 xk, .int .i64 xn, .string ⟨xs.toArray⟩]] w fun e w' => e = .returned (.agg #[.int .i64 k, .int .i64 a, .int .i64 ty', .int .i64 xk, .int .i64 xn, .string ⟨xs.toArray⟩]) ∧ Below w.heap.size w w' := by
  by_cases hk : k = 1
  · rw [if_pos hk] at h
    subst hk h
    go_enter Tryz.func66, Tryz.ntmps66
    go_wp2
    refine bodyPost_ret (v := .agg #[.int .i64 1, .int .i64 a, .int .i64 0, .int .i64 xk, .int .i64 xn, .string ⟨xs.toArray⟩]) ?_ rfl ⟨rfl, ?_⟩
    · simp [results, Tryz.results66, go_sem]
    · exact ((Below.refl w.heap.size w).alloc (Nat.le_refl _) _).alloc (by simp) _
  · rw [if_neg hk] at h
    subst h
    go_enter Tryz.func66, Tryz.ntmps66
    go_wp2
    refine bodyPost_ret (v := .agg #[.int .i64 k, .int .i64 a, .int .i64 ty', .int .i64 xk, .int .i64 xn, .string ⟨xs.toArray⟩]) ?_ rfl ⟨rfl, ?_⟩
    · simp [results, Tryz.results66, go_sem]
    · exact ((Below.refl w.heap.size w).alloc (Nat.le_refl _) _).alloc (by simp) _
theorem addF_raw (A H E FK : Bool) (K : Int) (hK : decide (K ≥ 0) = H) (s : ByteArray) (hE : (s.toList == []) = E) (hE' : s.toList.isEmpty = E) (ca da ra ia : Option Addr) (cn cc dn dc rn rc xn ic : Nat) (nm : List UInt8) (nx k a ty xk vn : Int) (xs : List UInt8) (cs : ByteArray) (w : World)
    (h85 : ∀ W : World, Below w.heap.size w W → Calls Tryz.prog 85 #[.string cs] W fun e w' => e = .returned (.bool A) ∧ Below W.heap.size W w')
    (h87 : ∀ W : World, Below w.heap.size w W → Calls Tryz.prog 87 #[.slice ca cn cc, .string cs] W fun e w' => e = .returned (.int .i64 K) ∧ Below W.heap.size W w')
    (h86 : ∀ W : World, Calls Tryz.prog 86 #[.int .i64 ty] W fun e w' => e = .returned (.string s) ∧ Below W.heap.size W w')
    (h107 : ∀ W : World, Calls Tryz.prog 106 #[.int .i64 xk, .int .i64 ty] W fun e w' => e = .returned (.bool FK) ∧ w' = W) :
    Calls Tryz.prog 110 #[.agg #[.string ⟨nm.toArray⟩, .slice ca cn cc, .slice da dn dc, .slice ra rn rc, .int .i64 nx, .slice ia xn ic], .agg #[.int .i64 k, .int .i64 a, .int .i64 ty, .int .i64 xk, .int .i64 vn, .string ⟨xs.toArray⟩], .string cs] w fun e w' => e = .returned (.int .i64 ((if A = false then 1 else if H = true then 6 else if E = true then 7 else if FK = false then 7 else 0 : Nat) : Int)) ∧ Below w.heap.size w w' := by
  have z1 : (w.alloc (.cells #[.string ⟨nm.toArray⟩, .slice ca cn cc, .slice da dn dc, .slice ra rn rc, .int .i64 nx, .slice ia xn ic] 27)).heap.size = w.heap.size + 1 := by simp
  have z0 : w.heap.size + 2 ≤ ((w.alloc (.cells #[.string ⟨nm.toArray⟩, .slice ca cn cc, .slice da dn dc, .slice ra rn rc, .int .i64 nx, .slice ia xn ic] 27)).alloc (.cells #[.int .i64 k, .int .i64 a, .int .i64 ty, .int .i64 xk, .int .i64 vn, .string ⟨xs.toArray⟩] 51)).heap.size := by simp
  have q0 : Below w.heap.size w ((w.alloc (.cells #[.string ⟨nm.toArray⟩, .slice ca cn cc, .slice da dn dc, .slice ra rn rc, .int .i64 nx, .slice ia xn ic] 27)).alloc (.cells #[.int .i64 k, .int .i64 a, .int .i64 ty, .int .i64 xk, .int .i64 vn, .string ⟨xs.toArray⟩] 51)) := ((Below.refl w.heap.size w).alloc (Nat.le_refl _) _).alloc (by omega) _
  have k0 : ((w.alloc (.cells #[.string ⟨nm.toArray⟩, .slice ca cn cc, .slice da dn dc, .slice ra rn rc, .int .i64 nx, .slice ia xn ic] 27)).alloc (.cells #[.int .i64 k, .int .i64 a, .int .i64 ty, .int .i64 xk, .int .i64 vn, .string ⟨xs.toArray⟩] 51)).heap[w.heap.size]? = some (.cells #[.string ⟨nm.toArray⟩, .slice ca cn cc, .slice da dn dc, .slice ra rn rc, .int .i64 nx, .slice ia xn ic] 27) := (Below.heap_alloc (w.alloc (.cells #[.string ⟨nm.toArray⟩, .slice ca cn cc, .slice da dn dc, .slice ra rn rc, .int .i64 nx, .slice ia xn ic] 27)) _ _ (by omega)).trans (heap_alloc_new w _)
  have l0 : ((w.alloc (.cells #[.string ⟨nm.toArray⟩, .slice ca cn cc, .slice da dn dc, .slice ra rn rc, .int .i64 nx, .slice ia xn ic] 27)).alloc (.cells #[.int .i64 k, .int .i64 a, .int .i64 ty, .int .i64 xk, .int .i64 vn, .string ⟨xs.toArray⟩] 51)).heap[w.heap.size + 1]? = some (.cells #[.int .i64 k, .int .i64 a, .int .i64 ty, .int .i64 xk, .int .i64 vn, .string ⟨xs.toArray⟩] 51) := by
    have := heap_alloc_new (w.alloc (.cells #[.string ⟨nm.toArray⟩, .slice ca cn cc, .slice da dn dc, .slice ra rn rc, .int .i64 nx, .slice ia xn ic] 27)) (.cells #[.int .i64 k, .int .i64 a, .int .i64 ty, .int .i64 xk, .int .i64 vn, .string ⟨xs.toArray⟩] 51)
    rw [z1] at this
    exact this
  clear z1
  obtain ⟨RR, hR⟩ : ∃ RR : Nat, (if A = false then 1 else if H = true then 6 else if E = true then 7 else if FK = false then 7 else 0 : Nat) = RR := ⟨_, rfl⟩
  rw [hR]
  have HR := hide hR
  clear hR
  have HK := hide hK
  clear hK
  go_enter Tryz.func110, Tryz.ntmps110
  go_wp2_with fail
  generalize ((w.alloc (.cells #[.string ⟨nm.toArray⟩, .slice ca cn cc, .slice da dn dc, .slice ra rn rc, .int .i64 nx, .slice ia xn ic] 27)).alloc (.cells #[.int .i64 k, .int .i64 a, .int .i64 ty, .int .i64 xk, .int .i64 vn, .string ⟨xs.toArray⟩] 51)) = w0 at *
  refine (h85 _ q0).mono ?_
  rintro e w1 ⟨rfl, b1⟩
  have q1 : Below w.heap.size w w1 := q0.trans (b1.mono q0.size)
  have k1 := (b1.block w.heap.size (by omega)).trans k0
  have l1 := (b1.block (w.heap.size + 1) (by omega)).trans l0
  have z1 := Nat.le_trans z0 b1.size
  clear b1 q0 k0 l0 z0 h85
  obtain ⟨c0, c1, c2, c3, c4, c5⟩ := six_in k1
  obtain ⟨d0, d1, d2, d3, d4, d5⟩ := six_in l1
  cases A with
  | false =>
    go_wp2
    go_ret
    exact ⟨by rw [← HR.out]; simp, q1⟩
  | true =>
    go_wp2_with fail
    clear c0 c1 c2 c3 c4 c5 d0 d1 d2 d3 d4 d5
    refine (h87 _ q1).mono ?_
    rintro e w2 ⟨rfl, b2⟩
    have q2 : Below w.heap.size w w2 := q1.trans (b2.mono q1.size)
    have k2 := (b2.block w.heap.size (by omega)).trans k1
    have l2 := (b2.block (w.heap.size + 1) (by omega)).trans l1
    have z2 := Nat.le_trans z1 b2.size
    clear b2 q1 k1 l1 z1 h87
    obtain ⟨c0, c1, c2, c3, c4, c5⟩ := six_in k2
    obtain ⟨d0, d1, d2, d3, d4, d5⟩ := six_in l2
    cases H with
    | true =>
      have hK0 : K ≥ 0 := of_decide_eq_true HK.out
      go_wp2
      go_ret
      exact ⟨by rw [← HR.out]; simp, q2⟩
    | false =>
      have hK0 : ¬ K ≥ 0 := of_decide_eq_false HK.out
      go_wp2_with fail
      clear c0 c1 c2 c3 c4 c5 d0 d1 d2 d3 d4 d5
      refine (h86 _).mono ?_
      rintro e w3 ⟨rfl, b3⟩
      have q3 : Below w.heap.size w w3 := q2.trans (b3.mono q2.size)
      have k3 := (b3.block w.heap.size (by omega)).trans k2
      have l3 := (b3.block (w.heap.size + 1) (by omega)).trans l2
      have z3 := Nat.le_trans z2 b3.size
      clear b3 q2 k2 l2 z2 h86
      obtain ⟨c0, c1, c2, c3, c4, c5⟩ := six_in k3
      obtain ⟨d0, d1, d2, d3, d4, d5⟩ := six_in l3
      cases E with
      | true =>
        go_wp2
        go_ret
        exact ⟨by rw [← HR.out]; simp, q3⟩
      | false =>
        go_wp2_with fail
        refine (h107 _).mono ?_
        rintro e w4 ⟨rfl, rfl⟩
        cases FK with
        | true =>
          go_wp2
          go_ret
          exact ⟨by rw [← HR.out]; simp, q3⟩
        | false =>
          go_wp2
          go_ret
          exact ⟨by rw [← HR.out]; simp, q3⟩
def addF (t : Tb) (d : Dl) (nm : List UInt8) : Nat :=
  if nameW nm = false then 1 else if (placeC t.cols nm).isSome = true then 6 else if decide (¬ (1 ≤ d.ty ∧ d.ty ≤ 3)) = true then 7 else if (decide (d.v.k = 0) || decide (d.v.k = d.ty)) = false then 7 else 0
theorem addF_any (t : Tb) (d : Dl) (nm : List UInt8) (cu du ru iu : Value) (w : World) (h : TbAt w cu du ru iu t) (hn : nm.length ≤ 140737488355328) (hm : Ml w) :
    Calls Tryz.prog 110 #[tbV t.name cu du ru t.next iu, dlV d, .string ⟨nm.toArray⟩] w fun e w' => e = .returned (.int .i64 (addF t d nm : Nat)) ∧ Below w.heap.size w w' := by
  have hin := fun (W : World) (hW : Below w.heap.size w W) => h.below hW
  obtain ⟨ca, cc, hce, -⟩ := h.cs
  obtain ⟨da, dc, hde, -⟩ := h.ds
  obtain ⟨ra, rc, hre, -⟩ := h.rs
  obtain ⟨ia, ic, hie, -⟩ := h.is
  subst hce hde hre hie
  obtain ⟨s, E, hE, h1, h2, h3⟩ := ofType_E d.ty
  unfold addF
  rw [← hE]
  refine addF_raw (nameW nm) (placeC t.cols nm).isSome E _ (placeI t.cols nm) (placeI_ge _ _) s h1 h2 ca da ra ia _ cc _ dc _ rc _ ic t.name t.next d.k d.a d.ty d.v.k d.v.n d.v.s ⟨nm.toArray⟩ w ?_ ?_ h3 ?_
  · exact fun W hW => isName_any ⟨nm.toArray⟩ W (by show nm.toArray.size ≤ _; simpa using hn) (hm.below hW)
  · exact fun W hW => hasColumn_any t.cols _ nm W (hin W hW).cs
  · exact fun W => fk_any d.v.k d.ty _ rfl W
theorem alterF_head (E2 : Nat) (hE2 : ¬ (E2 : Int) = 0) (wd : Int) (ca da ra ia : Option Addr) (cn cc dn dc rn rc xn ic : Nat) (nm : List UInt8) (nx k a ty ty2 xk vn : Int) (xs : List UInt8) (cs : ByteArray) (w : World) (hd : ¬ dn = 6)
    (h11 : ∀ W : World, Below w.heap.size w W → Calls Tryz.prog 11 #[.agg #[.string ⟨nm.toArray⟩, .slice ca cn cc, .slice da dn dc, .slice ra rn rc, .int .i64 nx, .slice ia xn ic]] W fun e w' => e = .returned (.int .i64 0) ∧ Below W.heap.size W w')
    (h66 : ∀ W : World, Calls Tryz.prog 66 #[.agg #[.int .i64 k, .int .i64 a, .int .i64 ty, .int .i64 xk, .int .i64 vn, .string ⟨xs.toArray⟩]] W fun e w' => e = .returned (.agg #[.int .i64 k, .int .i64 a, .int .i64 ty2, .int .i64 xk, .int .i64 vn, .string ⟨xs.toArray⟩]) ∧ Below W.heap.size W w')
    (h73 : ∀ (W : World) (g : Nat), W.heap[g]? = some (.cells #[.int .i64 k, .int .i64 a, .int .i64 ty2, .int .i64 xk, .int .i64 vn, .string ⟨xs.toArray⟩] 51) → Calls Tryz.prog 73 #[.int .i64 cn, .slice (some ⟨g, 0, none⟩) 1 1] W fun e w' => e = .returned (.tuple #[.int .i64 wd, .int .i64 (E2 : Nat)]) ∧ Below W.heap.size W w') :
    Calls Tryz.prog 65 #[.agg #[.string ⟨nm.toArray⟩, .slice ca cn cc, .slice da dn dc, .slice ra rn rc, .int .i64 nx, .slice ia xn ic], .agg #[.int .i64 k, .int .i64 a, .int .i64 ty, .int .i64 xk, .int .i64 vn, .string ⟨xs.toArray⟩], .string cs] w fun e w' => e = .returned (.int .i64 (E2 : Nat)) ∧ Below w.heap.size w w' := by
  have z1 : (w.alloc (.cells #[.string ⟨nm.toArray⟩, .slice ca cn cc, .slice da dn dc, .slice ra rn rc, .int .i64 nx, .slice ia xn ic] 27)).heap.size = w.heap.size + 1 := by simp
  have z0 : w.heap.size + 2 ≤ ((w.alloc (.cells #[.string ⟨nm.toArray⟩, .slice ca cn cc, .slice da dn dc, .slice ra rn rc, .int .i64 nx, .slice ia xn ic] 27)).alloc (.cells #[.int .i64 k, .int .i64 a, .int .i64 ty, .int .i64 xk, .int .i64 vn, .string ⟨xs.toArray⟩] 51)).heap.size := by simp
  have q0 : Below w.heap.size w ((w.alloc (.cells #[.string ⟨nm.toArray⟩, .slice ca cn cc, .slice da dn dc, .slice ra rn rc, .int .i64 nx, .slice ia xn ic] 27)).alloc (.cells #[.int .i64 k, .int .i64 a, .int .i64 ty, .int .i64 xk, .int .i64 vn, .string ⟨xs.toArray⟩] 51)) := ((Below.refl w.heap.size w).alloc (Nat.le_refl _) _).alloc (by omega) _
  have k0 : ((w.alloc (.cells #[.string ⟨nm.toArray⟩, .slice ca cn cc, .slice da dn dc, .slice ra rn rc, .int .i64 nx, .slice ia xn ic] 27)).alloc (.cells #[.int .i64 k, .int .i64 a, .int .i64 ty, .int .i64 xk, .int .i64 vn, .string ⟨xs.toArray⟩] 51)).heap[w.heap.size]? = some (.cells #[.string ⟨nm.toArray⟩, .slice ca cn cc, .slice da dn dc, .slice ra rn rc, .int .i64 nx, .slice ia xn ic] 27) := (Below.heap_alloc (w.alloc (.cells #[.string ⟨nm.toArray⟩, .slice ca cn cc, .slice da dn dc, .slice ra rn rc, .int .i64 nx, .slice ia xn ic] 27)) _ _ (by omega)).trans (heap_alloc_new w _)
  have l0 : ((w.alloc (.cells #[.string ⟨nm.toArray⟩, .slice ca cn cc, .slice da dn dc, .slice ra rn rc, .int .i64 nx, .slice ia xn ic] 27)).alloc (.cells #[.int .i64 k, .int .i64 a, .int .i64 ty, .int .i64 xk, .int .i64 vn, .string ⟨xs.toArray⟩] 51)).heap[w.heap.size + 1]? = some (.cells #[.int .i64 k, .int .i64 a, .int .i64 ty, .int .i64 xk, .int .i64 vn, .string ⟨xs.toArray⟩] 51) := by
    have := heap_alloc_new (w.alloc (.cells #[.string ⟨nm.toArray⟩, .slice ca cn cc, .slice da dn dc, .slice ra rn rc, .int .i64 nx, .slice ia xn ic] 27)) (.cells #[.int .i64 k, .int .i64 a, .int .i64 ty, .int .i64 xk, .int .i64 vn, .string ⟨xs.toArray⟩] 51)
    rw [z1] at this
    exact this
  clear z1
  go_enter Tryz.func65, Tryz.ntmps65
  go_wp2_with fail
  generalize ((w.alloc (.cells #[.string ⟨nm.toArray⟩, .slice ca cn cc, .slice da dn dc, .slice ra rn rc, .int .i64 nx, .slice ia xn ic] 27)).alloc (.cells #[.int .i64 k, .int .i64 a, .int .i64 ty, .int .i64 xk, .int .i64 vn, .string ⟨xs.toArray⟩] 51)) = w0 at *
  refine (h11 _ q0).mono ?_
  rintro e w1 ⟨rfl, b1⟩
  have q1 : Below w.heap.size w w1 := q0.trans (b1.mono q0.size)
  have k1 := (b1.block w.heap.size (by omega)).trans k0
  have l1 := (b1.block (w.heap.size + 1) (by omega)).trans l0
  have z1 := Nat.le_trans z0 b1.size
  clear b1 q0 k0 l0 z0 h11
  obtain ⟨c0, c1, c2, c3, c4, c5⟩ := six_in k1
  obtain ⟨d0, d1, d2, d3, d4, d5⟩ := six_in l1
  have hd' : ¬ (dn : Int) = 6 := by omega
  have hd2 : ((dn : Int) == 6) = false := by simpa using hd'
  go_wp2_with fail
  go_region_law (first | (go_simp; refine (h66 _).mono ?_; rintro e w2 ⟨rfl, b2⟩; have e1 : w2.cell? ⟨w.heap.size, 1, none⟩ = some (.slice ca cn cc) := (b2.cell (p := ⟨w.heap.size, 1, none⟩) (by show w.heap.size < w1.heap.size; omega)).trans (by exact c1); have zz2 : w.heap.size < w2.heap.size := Nat.lt_of_lt_of_le (show w.heap.size < w1.heap.size by omega) b2.size; have e2 : (w2.alloc (.cells #[.int .i64 k, .int .i64 a, .int .i64 ty2, .int .i64 xk, .int .i64 vn, .string ⟨xs.toArray⟩] 51)).cell? ⟨w.heap.size, 1, none⟩ = some (.slice ca cn cc) := ((((Below.refl w2.heap.size w2).alloc (Nat.le_refl _) (.cells #[.int .i64 k, .int .i64 a, .int .i64 ty2, .int .i64 xk, .int .i64 vn, .string ⟨xs.toArray⟩] 51)).cell (p := ⟨w.heap.size, 1, none⟩) (by exact zz2)).trans e1); have q2 : Below w.heap.size w w2 := (by first | exact q1.drew.trans (b2.mono q1.size) | exact q1.trans (b2.mono q1.size))) | (go_simp; refine (h73 _ w2.heap.size (heap_alloc_new w2 _)).mono ?_; rintro e w3 ⟨rfl, b3⟩; have q3 : Below w.heap.size w w3 := (q2.alloc q2.size _).trans (b3.mono (by have := q2.size; simp; omega))))
  all_goals
    go_wp2
    go_ret
    exact ⟨rfl, q3⟩
theorem alterF_bad (E1 : Nat) (hE1 : ¬ (E1 : Int) = 0) (ca da ra ia : Option Addr) (cn cc dn dc rn rc xn ic : Nat) (nm : List UInt8) (nx k a ty xk vn : Int) (xs : List UInt8) (cs : ByteArray) (w : World)
    (h11 : ∀ W : World, Below w.heap.size w W → Calls Tryz.prog 11 #[.agg #[.string ⟨nm.toArray⟩, .slice ca cn cc, .slice da dn dc, .slice ra rn rc, .int .i64 nx, .slice ia xn ic]] W fun e w' => e = .returned (.int .i64 (E1 : Nat)) ∧ Below W.heap.size W w') :
    Calls Tryz.prog 65 #[.agg #[.string ⟨nm.toArray⟩, .slice ca cn cc, .slice da dn dc, .slice ra rn rc, .int .i64 nx, .slice ia xn ic], .agg #[.int .i64 k, .int .i64 a, .int .i64 ty, .int .i64 xk, .int .i64 vn, .string ⟨xs.toArray⟩], .string cs] w fun e w' => e = .returned (.int .i64 (E1 : Nat)) ∧ Below w.heap.size w w' := by
  have z1 : (w.alloc (.cells #[.string ⟨nm.toArray⟩, .slice ca cn cc, .slice da dn dc, .slice ra rn rc, .int .i64 nx, .slice ia xn ic] 27)).heap.size = w.heap.size + 1 := by simp
  have z0 : w.heap.size + 2 ≤ ((w.alloc (.cells #[.string ⟨nm.toArray⟩, .slice ca cn cc, .slice da dn dc, .slice ra rn rc, .int .i64 nx, .slice ia xn ic] 27)).alloc (.cells #[.int .i64 k, .int .i64 a, .int .i64 ty, .int .i64 xk, .int .i64 vn, .string ⟨xs.toArray⟩] 51)).heap.size := by simp
  have q0 : Below w.heap.size w ((w.alloc (.cells #[.string ⟨nm.toArray⟩, .slice ca cn cc, .slice da dn dc, .slice ra rn rc, .int .i64 nx, .slice ia xn ic] 27)).alloc (.cells #[.int .i64 k, .int .i64 a, .int .i64 ty, .int .i64 xk, .int .i64 vn, .string ⟨xs.toArray⟩] 51)) := ((Below.refl w.heap.size w).alloc (Nat.le_refl _) _).alloc (by omega) _
  have k0 : ((w.alloc (.cells #[.string ⟨nm.toArray⟩, .slice ca cn cc, .slice da dn dc, .slice ra rn rc, .int .i64 nx, .slice ia xn ic] 27)).alloc (.cells #[.int .i64 k, .int .i64 a, .int .i64 ty, .int .i64 xk, .int .i64 vn, .string ⟨xs.toArray⟩] 51)).heap[w.heap.size]? = some (.cells #[.string ⟨nm.toArray⟩, .slice ca cn cc, .slice da dn dc, .slice ra rn rc, .int .i64 nx, .slice ia xn ic] 27) := (Below.heap_alloc (w.alloc (.cells #[.string ⟨nm.toArray⟩, .slice ca cn cc, .slice da dn dc, .slice ra rn rc, .int .i64 nx, .slice ia xn ic] 27)) _ _ (by omega)).trans (heap_alloc_new w _)
  have l0 : ((w.alloc (.cells #[.string ⟨nm.toArray⟩, .slice ca cn cc, .slice da dn dc, .slice ra rn rc, .int .i64 nx, .slice ia xn ic] 27)).alloc (.cells #[.int .i64 k, .int .i64 a, .int .i64 ty, .int .i64 xk, .int .i64 vn, .string ⟨xs.toArray⟩] 51)).heap[w.heap.size + 1]? = some (.cells #[.int .i64 k, .int .i64 a, .int .i64 ty, .int .i64 xk, .int .i64 vn, .string ⟨xs.toArray⟩] 51) := by
    have := heap_alloc_new (w.alloc (.cells #[.string ⟨nm.toArray⟩, .slice ca cn cc, .slice da dn dc, .slice ra rn rc, .int .i64 nx, .slice ia xn ic] 27)) (.cells #[.int .i64 k, .int .i64 a, .int .i64 ty, .int .i64 xk, .int .i64 vn, .string ⟨xs.toArray⟩] 51)
    rw [z1] at this
    exact this
  clear z1
  go_enter Tryz.func65, Tryz.ntmps65
  go_wp2_with fail
  generalize ((w.alloc (.cells #[.string ⟨nm.toArray⟩, .slice ca cn cc, .slice da dn dc, .slice ra rn rc, .int .i64 nx, .slice ia xn ic] 27)).alloc (.cells #[.int .i64 k, .int .i64 a, .int .i64 ty, .int .i64 xk, .int .i64 vn, .string ⟨xs.toArray⟩] 51)) = w0 at *
  refine (h11 _ q0).mono ?_
  rintro e w1 ⟨rfl, b1⟩
  have q1 : Below w.heap.size w w1 := q0.trans (b1.mono q0.size)
  have k1 := (b1.block w.heap.size (by omega)).trans k0
  have l1 := (b1.block (w.heap.size + 1) (by omega)).trans l0
  have z1 := Nat.le_trans z0 b1.size
  clear b1 q0 k0 l0 z0 h11
  obtain ⟨c0, c1, c2, c3, c4, c5⟩ := six_in k1
  obtain ⟨d0, d1, d2, d3, d4, d5⟩ := six_in l1
  go_wp2
  go_ret
  exact ⟨rfl, q1⟩
theorem alterF_many (ca da ra ia : Option Addr) (cn cc dn dc rn rc xn ic : Nat) (nm : List UInt8) (nx k a ty xk vn : Int) (xs : List UInt8) (cs : ByteArray) (w : World) (hd : dn = 6)
    (h11 : ∀ W : World, Below w.heap.size w W → Calls Tryz.prog 11 #[.agg #[.string ⟨nm.toArray⟩, .slice ca cn cc, .slice da dn dc, .slice ra rn rc, .int .i64 nx, .slice ia xn ic]] W fun e w' => e = .returned (.int .i64 0) ∧ Below W.heap.size W w') :
    Calls Tryz.prog 65 #[.agg #[.string ⟨nm.toArray⟩, .slice ca cn cc, .slice da dn dc, .slice ra rn rc, .int .i64 nx, .slice ia xn ic], .agg #[.int .i64 k, .int .i64 a, .int .i64 ty, .int .i64 xk, .int .i64 vn, .string ⟨xs.toArray⟩], .string cs] w fun e w' => e = .returned (.int .i64 (2 : Nat)) ∧ Below w.heap.size w w' := by
  subst hd
  have z1 : (w.alloc (.cells #[.string ⟨nm.toArray⟩, .slice ca cn cc, .slice da 6 dc, .slice ra rn rc, .int .i64 nx, .slice ia xn ic] 27)).heap.size = w.heap.size + 1 := by simp
  have z0 : w.heap.size + 2 ≤ ((w.alloc (.cells #[.string ⟨nm.toArray⟩, .slice ca cn cc, .slice da 6 dc, .slice ra rn rc, .int .i64 nx, .slice ia xn ic] 27)).alloc (.cells #[.int .i64 k, .int .i64 a, .int .i64 ty, .int .i64 xk, .int .i64 vn, .string ⟨xs.toArray⟩] 51)).heap.size := by simp
  have q0 : Below w.heap.size w ((w.alloc (.cells #[.string ⟨nm.toArray⟩, .slice ca cn cc, .slice da 6 dc, .slice ra rn rc, .int .i64 nx, .slice ia xn ic] 27)).alloc (.cells #[.int .i64 k, .int .i64 a, .int .i64 ty, .int .i64 xk, .int .i64 vn, .string ⟨xs.toArray⟩] 51)) := ((Below.refl w.heap.size w).alloc (Nat.le_refl _) _).alloc (by omega) _
  have k0 : ((w.alloc (.cells #[.string ⟨nm.toArray⟩, .slice ca cn cc, .slice da 6 dc, .slice ra rn rc, .int .i64 nx, .slice ia xn ic] 27)).alloc (.cells #[.int .i64 k, .int .i64 a, .int .i64 ty, .int .i64 xk, .int .i64 vn, .string ⟨xs.toArray⟩] 51)).heap[w.heap.size]? = some (.cells #[.string ⟨nm.toArray⟩, .slice ca cn cc, .slice da 6 dc, .slice ra rn rc, .int .i64 nx, .slice ia xn ic] 27) := (Below.heap_alloc (w.alloc (.cells #[.string ⟨nm.toArray⟩, .slice ca cn cc, .slice da 6 dc, .slice ra rn rc, .int .i64 nx, .slice ia xn ic] 27)) _ _ (by omega)).trans (heap_alloc_new w _)
  have l0 : ((w.alloc (.cells #[.string ⟨nm.toArray⟩, .slice ca cn cc, .slice da 6 dc, .slice ra rn rc, .int .i64 nx, .slice ia xn ic] 27)).alloc (.cells #[.int .i64 k, .int .i64 a, .int .i64 ty, .int .i64 xk, .int .i64 vn, .string ⟨xs.toArray⟩] 51)).heap[w.heap.size + 1]? = some (.cells #[.int .i64 k, .int .i64 a, .int .i64 ty, .int .i64 xk, .int .i64 vn, .string ⟨xs.toArray⟩] 51) := by
    have := heap_alloc_new (w.alloc (.cells #[.string ⟨nm.toArray⟩, .slice ca cn cc, .slice da 6 dc, .slice ra rn rc, .int .i64 nx, .slice ia xn ic] 27)) (.cells #[.int .i64 k, .int .i64 a, .int .i64 ty, .int .i64 xk, .int .i64 vn, .string ⟨xs.toArray⟩] 51)
    rw [z1] at this
    exact this
  clear z1
  go_enter Tryz.func65, Tryz.ntmps65
  go_wp2_with fail
  generalize ((w.alloc (.cells #[.string ⟨nm.toArray⟩, .slice ca cn cc, .slice da 6 dc, .slice ra rn rc, .int .i64 nx, .slice ia xn ic] 27)).alloc (.cells #[.int .i64 k, .int .i64 a, .int .i64 ty, .int .i64 xk, .int .i64 vn, .string ⟨xs.toArray⟩] 51)) = w0 at *
  refine (h11 _ q0).mono ?_
  rintro e w1 ⟨rfl, b1⟩
  have q1 : Below w.heap.size w w1 := q0.trans (b1.mono q0.size)
  have k1 := (b1.block w.heap.size (by omega)).trans k0
  have l1 := (b1.block (w.heap.size + 1) (by omega)).trans l0
  have z1 := Nat.le_trans z0 b1.size
  clear b1 q0 k0 l0 z0 h11
  obtain ⟨c0, c1, c2, c3, c4, c5⟩ := six_in k1
  obtain ⟨d0, d1, d2, d3, d4, d5⟩ := six_in l1
  go_wp2
  go_ret
  exact ⟨rfl, q1⟩
theorem alterF_tail (wd ty2 : Int) (FA : Nat) (E : Bool) (ca da ra ia : Option Addr) (cn cc dn dc rn rc xn ic : Nat) (nm : List UInt8) (nx k a ty xk vn : Int) (xs : List UInt8) (cs : ByteArray) (w : World) (hd : ¬ dn = 6) (hE : (cs.toList == []) = E) (hE' : cs.toList.isEmpty = E)
    (h11 : ∀ W : World, Below w.heap.size w W → Calls Tryz.prog 11 #[.agg #[.string ⟨nm.toArray⟩, .slice ca cn cc, .slice da dn dc, .slice ra rn rc, .int .i64 nx, .slice ia xn ic]] W fun e w' => e = .returned (.int .i64 0) ∧ Below W.heap.size W w')
    (h66 : ∀ W : World, Calls Tryz.prog 66 #[.agg #[.int .i64 k, .int .i64 a, .int .i64 ty, .int .i64 xk, .int .i64 vn, .string ⟨xs.toArray⟩]] W fun e w' => e = .returned (.agg #[.int .i64 k, .int .i64 a, .int .i64 ty2, .int .i64 xk, .int .i64 vn, .string ⟨xs.toArray⟩]) ∧ Below W.heap.size W w')
    (h73 : ∀ (W : World) (g : Nat), W.heap[g]? = some (.cells #[.int .i64 k, .int .i64 a, .int .i64 ty2, .int .i64 xk, .int .i64 vn, .string ⟨xs.toArray⟩] 51) → Calls Tryz.prog 73 #[.int .i64 cn, .slice (some ⟨g, 0, none⟩) 1 1] W fun e w' => e = .returned (.tuple #[.int .i64 wd, .int .i64 0]) ∧ Below W.heap.size W w')
    (h110 : ∀ W : World, Below w.heap.size w W → Calls Tryz.prog 110 #[.agg #[.string ⟨nm.toArray⟩, .slice ca cn cc, .slice da dn dc, .slice ra rn rc, .int .i64 nx, .slice ia xn ic], .agg #[.int .i64 k, .int .i64 a, .int .i64 ty, .int .i64 xk, .int .i64 vn, .string ⟨xs.toArray⟩], .string cs] W fun e w' => e = .returned (.int .i64 (FA : Nat)) ∧ Below W.heap.size W w') :
    Calls Tryz.prog 65 #[.agg #[.string ⟨nm.toArray⟩, .slice ca cn cc, .slice da dn dc, .slice ra rn rc, .int .i64 nx, .slice ia xn ic], .agg #[.int .i64 k, .int .i64 a, .int .i64 ty, .int .i64 xk, .int .i64 vn, .string ⟨xs.toArray⟩], .string cs] w fun e w' => e = .returned (.int .i64 ((if k = 1 then FA else if E = false then 1 else if k = 2 ∧ cn = 1 then 4 else 0 : Nat) : Int)) ∧ Below w.heap.size w w' := by
  obtain ⟨RR, hR⟩ : ∃ RR : Nat, (if k = 1 then FA else if E = false then 1 else if k = 2 ∧ cn = 1 then 4 else 0 : Nat) = RR := ⟨_, rfl⟩
  rw [hR]
  have HR := hide hR
  have HE := hide hE
  have HE' := hide hE'
  clear hR hE hE'
  have z1 : (w.alloc (.cells #[.string ⟨nm.toArray⟩, .slice ca cn cc, .slice da dn dc, .slice ra rn rc, .int .i64 nx, .slice ia xn ic] 27)).heap.size = w.heap.size + 1 := by simp
  have z0 : w.heap.size + 2 ≤ ((w.alloc (.cells #[.string ⟨nm.toArray⟩, .slice ca cn cc, .slice da dn dc, .slice ra rn rc, .int .i64 nx, .slice ia xn ic] 27)).alloc (.cells #[.int .i64 k, .int .i64 a, .int .i64 ty, .int .i64 xk, .int .i64 vn, .string ⟨xs.toArray⟩] 51)).heap.size := by simp
  have q0 : Below w.heap.size w ((w.alloc (.cells #[.string ⟨nm.toArray⟩, .slice ca cn cc, .slice da dn dc, .slice ra rn rc, .int .i64 nx, .slice ia xn ic] 27)).alloc (.cells #[.int .i64 k, .int .i64 a, .int .i64 ty, .int .i64 xk, .int .i64 vn, .string ⟨xs.toArray⟩] 51)) := ((Below.refl w.heap.size w).alloc (Nat.le_refl _) _).alloc (by omega) _
  have k0 : ((w.alloc (.cells #[.string ⟨nm.toArray⟩, .slice ca cn cc, .slice da dn dc, .slice ra rn rc, .int .i64 nx, .slice ia xn ic] 27)).alloc (.cells #[.int .i64 k, .int .i64 a, .int .i64 ty, .int .i64 xk, .int .i64 vn, .string ⟨xs.toArray⟩] 51)).heap[w.heap.size]? = some (.cells #[.string ⟨nm.toArray⟩, .slice ca cn cc, .slice da dn dc, .slice ra rn rc, .int .i64 nx, .slice ia xn ic] 27) := (Below.heap_alloc (w.alloc (.cells #[.string ⟨nm.toArray⟩, .slice ca cn cc, .slice da dn dc, .slice ra rn rc, .int .i64 nx, .slice ia xn ic] 27)) _ _ (by omega)).trans (heap_alloc_new w _)
  have l0 : ((w.alloc (.cells #[.string ⟨nm.toArray⟩, .slice ca cn cc, .slice da dn dc, .slice ra rn rc, .int .i64 nx, .slice ia xn ic] 27)).alloc (.cells #[.int .i64 k, .int .i64 a, .int .i64 ty, .int .i64 xk, .int .i64 vn, .string ⟨xs.toArray⟩] 51)).heap[w.heap.size + 1]? = some (.cells #[.int .i64 k, .int .i64 a, .int .i64 ty, .int .i64 xk, .int .i64 vn, .string ⟨xs.toArray⟩] 51) := by
    have := heap_alloc_new (w.alloc (.cells #[.string ⟨nm.toArray⟩, .slice ca cn cc, .slice da dn dc, .slice ra rn rc, .int .i64 nx, .slice ia xn ic] 27)) (.cells #[.int .i64 k, .int .i64 a, .int .i64 ty, .int .i64 xk, .int .i64 vn, .string ⟨xs.toArray⟩] 51)
    rw [z1] at this
    exact this
  clear z1
  go_enter Tryz.func65, Tryz.ntmps65
  go_wp2_with fail
  generalize ((w.alloc (.cells #[.string ⟨nm.toArray⟩, .slice ca cn cc, .slice da dn dc, .slice ra rn rc, .int .i64 nx, .slice ia xn ic] 27)).alloc (.cells #[.int .i64 k, .int .i64 a, .int .i64 ty, .int .i64 xk, .int .i64 vn, .string ⟨xs.toArray⟩] 51)) = w0 at *
  refine (h11 _ q0).mono ?_
  rintro e w1 ⟨rfl, b1⟩
  have q1 : Below w.heap.size w w1 := q0.trans (b1.mono q0.size)
  have k1 := (b1.block w.heap.size (by omega)).trans k0
  have l1 := (b1.block (w.heap.size + 1) (by omega)).trans l0
  have z1 := Nat.le_trans z0 b1.size
  clear b1 q0 k0 l0 z0 h11
  obtain ⟨c0, c1, c2, c3, c4, c5⟩ := six_in k1
  obtain ⟨d0, d1, d2, d3, d4, d5⟩ := six_in l1
  have hd' : ¬ (dn : Int) = 6 := by omega
  have hd2 : ((dn : Int) == 6) = false := by simpa using hd'
  go_wp2_with fail
  go_region_law (first | (go_simp; refine (h66 _).mono ?_; rintro e w2 ⟨rfl, b2⟩; have e1 : w2.cell? ⟨w.heap.size, 1, none⟩ = some (.slice ca cn cc) := (b2.cell (p := ⟨w.heap.size, 1, none⟩) (by show w.heap.size < w1.heap.size; omega)).trans (by exact c1); have zz2 : w.heap.size < w2.heap.size := Nat.lt_of_lt_of_le (show w.heap.size < w1.heap.size by omega) b2.size; have e2 : (w2.alloc (.cells #[.int .i64 k, .int .i64 a, .int .i64 ty2, .int .i64 xk, .int .i64 vn, .string ⟨xs.toArray⟩] 51)).cell? ⟨w.heap.size, 1, none⟩ = some (.slice ca cn cc) := ((((Below.refl w2.heap.size w2).alloc (Nat.le_refl _) (.cells #[.int .i64 k, .int .i64 a, .int .i64 ty2, .int .i64 xk, .int .i64 vn, .string ⟨xs.toArray⟩] 51)).cell (p := ⟨w.heap.size, 1, none⟩) (by exact zz2)).trans e1); have q2 : Below (w.heap.size + 2) w1 w2 := (by first | exact (Below.refl (w.heap.size + 2) w1).drew.trans (b2.mono z1) | exact b2.mono z1)) | (go_simp; refine (h73 _ w2.heap.size (heap_alloc_new w2 _)).mono ?_; rintro e w3 ⟨rfl, b3⟩; have q3 : Below (w.heap.size + 2) w1 w3 := (q2.alloc (Nat.le_trans z1 q2.size) _).trans (b3.mono (by have := q2.size; simp; omega))))
  all_goals
    have q4 : Below w.heap.size w w3 := q1.trans (q3.mono (by omega))
    have k3 := (q3.block w.heap.size (by omega)).trans k1
    have l3 := (q3.block (w.heap.size + 1) (by omega)).trans l1
    clear c0 c1 c2 c3 c4 c5 d0 d1 d2 d3 d4 d5 e1 e2 b2 b3 q2 zz2 h66 h73 q1 k1 l1
    obtain ⟨c0, c1, c2, c3, c4, c5⟩ := six_in k3
    obtain ⟨d0, d1, d2, d3, d4, d5⟩ := six_in l3
    by_cases hk1 : k = 1
    · subst hk1
      have h110x := h110 w3 q4
      clear h110
      go_wp2_with fail
      refine h110x.mono ?_
      rintro e w4 ⟨rfl, b4⟩
      have q5 := q4.trans (b4.mono q4.size)
      clear h110x c0 c1 c2 c3 c4 c5 d0 d1 d2 d3 d4 d5
      go_wp2
      go_ret
      exact ⟨by rw [← HR.out]; simp, q5⟩
    · have hk1b : (k == 1) = false := by simpa using hk1
      have hE := HE.out
      have hE' := HE'.out
      clear h110
      cases E with
      | false =>
        go_wp2
        go_ret
        exact ⟨by rw [← HR.out]; simp [hk1], q4⟩
      | true =>
        by_cases hk2 : k = 2
        · subst hk2
          by_cases hc : cn = 1
          · subst hc
            go_wp2_with fail
            try go_region
            all_goals
              try go_wp2
              go_ret
              exact ⟨by rw [← HR.out]; simp, q4⟩
          · have hc' : ¬ (cn : Int) = 1 := by omega
            have hc2 : ((cn : Int) == 1) = false := by simpa using hc'
            go_wp2_with fail
            try go_region
            all_goals
              try go_wp2
              go_ret
              exact ⟨by rw [← HR.out]; simp [hc], q4⟩
        · have hk2b : (k == 2) = false := by simpa using hk2
          go_wp2_with fail
          try go_region
          all_goals
            try go_wp2
            go_ret
            exact ⟨by rw [← HR.out]; simp [hk1, hk2], q4⟩
def setR (ds : List Dl) (a : Nat) (v : Vl) (r : Vl) : Vl := ⟨r.k, ds.length, encR ((nowL ds r).set a v)⟩
def stepU (ds : List Dl) (a : Nat) (z : Int) (v : Vl) (R : List Vl) : List Vl :=
  match R.findIdx? (fun x => x.k == z) with
  | some j => match R[j]? with
    | some r => R.set j (setR ds a v r)
    | none => R
  | none => R
def updL (ds : List Dl) (a : Nat) : List Int → List Vl → List Vl → List Vl
  | z :: L, v :: V, R => updL ds a L V (stepU ds a z v R)
  | _, _, R => R
theorem placeK_ge {R : List Vl} {z : Int} (h : ¬ placeK R z < 0) : ∃ (j : Nat) (r : Vl), R[j]? = some r ∧ r.k = z ∧ placeK R z = (j : Int) ∧ R.findIdx? (fun x => x.k == z) = some j := by
  unfold placeK at h ⊢
  cases hf : R.findIdx? (fun x => x.k == z) with
  | none => rw [hf] at h; exact absurd (by decide) h
  | some j =>
    obtain ⟨hj, h1, -⟩ := List.findIdx?_eq_some_iff_getElem.1 hf
    exact ⟨j, R[j], List.getElem?_eq_getElem hj, by simpa using h1, rfl, rfl⟩
theorem stepU_at {ds : List Dl} {a : Nat} {z : Int} {v r : Vl} {R : List Vl} {j : Nat} (hf : R.findIdx? (fun x => x.k == z) = some j) (hr : R[j]? = some r) : stepU ds a z v R = R.set j (setR ds a v r) := by
  unfold stepU
  rw [hf]
  simp only [hr]
theorem findK_keys {R Q : List Vl} (z : Int) (h : R.map (·.k) = Q.map (·.k)) : R.findIdx? (fun x => x.k == z) = Q.findIdx? (fun x => x.k == z) := by
  have h1 : (R.map (·.k)).findIdx? (fun y => y == z) = R.findIdx? (fun x => x.k == z) := by rw [List.findIdx?_map]; rfl
  have h2 : (Q.map (·.k)).findIdx? (fun y => y == z) = Q.findIdx? (fun x => x.k == z) := by rw [List.findIdx?_map]; rfl
  rw [← h1, ← h2, h]
structure Upd (t : Tb) (R : List Vl) : Prop where
  keys : R.map (·.k) = t.rows.map (·.k)
  ok : ∀ r ∈ R, RowOk t.cols t.ds t.next r
  sh : ∀ r ∈ R, r.s.length ≤ 140737488355328
theorem Upd.len {t : Tb} {R : List Vl} (h : Upd t R) : R.length = t.rows.length := by
  have := congrArg List.length h.keys
  simpa using this
theorem now_right {ds : List Dl} {r : Vl} (h : nowE ds r = 0) : badL (nowL ds r) = 0 := by
  unfold nowE at h
  by_cases hd : decE r.s = 0
  · rw [if_neg (by simpa using hd)] at h
    have e : nowL ds r = applyL (decR r.s) (ds.drop r.n.toNat) := by rw [nowL, if_neg (by simpa using hd)]
    rw [e]
    unfold applyL
    rw [if_pos h]
    unfold applyE at h
    split at h
    · cases h
    · rename_i h5
      split at h
      · rename_i hc; exact absurd h hc
      · rename_i hc
        refine apply_ok _ _ ?_ h
        have hc' := Classical.not_not.1 hc
        unfold checkD at hc'
        rwa [if_neg (by omega)] at hc'
  · rw [if_pos hd] at h
    exact absurd h hd
theorem badL_set {L : List Vl} {v : Vl} (a : Nat) (h : badL L = 0) (hv : chkV v.k v.n v.s = 0) : badL (L.set a v) = 0 := by
  rw [badL_zero] at h ⊢
  intro x hx
  rcases List.mem_or_eq_of_mem_set hx with hx | rfl
  · exact h x hx
  · exact hv
theorem kindsR_set : ∀ {cs : List Cl} {L : List Vl} {a : Nat} {c : Cl} {v : Vl}, kindsR cs L = true → cs[a]? = some c → (decide (v.k = 0) || decide (v.k = c.ty)) = true → kindsR cs (L.set a v) = true
  | [], L, a, c, v, _, hc, _ => by simp at hc
  | c0 :: cs, [], a, c, v, _, _, _ => by simp [kindsR]
  | c0 :: cs, x :: L, 0, c, v, h, hc, hv => by
    simp only [List.getElem?_cons_zero, Option.some.injEq] at hc
    subst hc
    simp only [kindsR, Bool.and_eq_true, List.set_cons_zero] at h ⊢
    exact ⟨hv, h.2⟩
  | c0 :: cs, x :: L, a + 1, c, v, h, hc, hv => by
    simp only [List.getElem?_cons_succ] at hc
    simp only [kindsR, Bool.and_eq_true, List.set_cons_succ] at h ⊢
    exact ⟨h.1, kindsR_set h.2 hc hv⟩
theorem Upd.row {t : Tb} {R : List Vl} (h : Upd t R) (h5 : t.cols.length ≤ 5) {j a : Nat} {r v : Vl} {c : Cl} (hr : R[j]? = some r) (hv : chkV v.k v.n v.s = 0) (hc : t.cols[a]? = some c) (hk : (decide (v.k = 0) || decide (v.k = c.ty)) = true) :
    RowOk t.cols t.ds t.next (setR t.ds a v r) ∧ (setR t.ds a v r).s.length ≤ 140737488355328 ∧ nowL t.ds (setR t.ds a v r) = (nowL t.ds r).set a v := by
  have ho := h.ok r (List.mem_of_getElem? hr)
  have hb := badL_set a (now_right ho.ok) hv
  have hl : ((nowL t.ds r).set a v).length ≤ 5 := by rw [List.length_set, ho.len]; exact h5
  obtain ⟨n1, n2⟩ := now_new (ds := t.ds) r.k hl hb
  have hs := encR_short hl hb
  refine ⟨⟨ho.lt, by show (0 : Int) ≤ (t.ds.length : Int); omega, Int.le_refl _, n1, ?_, ?_⟩, by show (encR _).length ≤ _; omega, n2⟩
  · show (nowL t.ds ⟨r.k, t.ds.length, encR _⟩).length = _
    rw [n2, List.length_set, ho.len]
  · show kindsR t.cols (nowL t.ds ⟨r.k, t.ds.length, encR _⟩) = true
    rw [n2]
    exact kindsR_set ho.kinds hc hk
theorem Upd.step {t : Tb} {R : List Vl} (h : Upd t R) (h5 : t.cols.length ≤ 5) {j a : Nat} {r v : Vl} {c : Cl} (hr : R[j]? = some r) (hv : chkV v.k v.n v.s = 0) (hc : t.cols[a]? = some c) (hk : (decide (v.k = 0) || decide (v.k = c.ty)) = true) : Upd t (R.set j (setR t.ds a v r)) := by
  obtain ⟨h1, h2, -⟩ := h.row h5 hr hv hc hk
  have hj := (List.getElem?_eq_some_iff.1 hr).1
  refine ⟨?_, ?_, ?_⟩
  · rw [List.map_set, ← h.keys]
    have e : (setR t.ds a v r).k = (R.map (·.k))[j]'(by simpa using hj) := by
      rw [List.getElem_map]
      have : R[j] = r := by rw [List.getElem?_eq_getElem hj] at hr; cases hr; rfl
      rw [this]; rfl
    rw [e, List.set_getElem_self]
  · intro x hx
    rcases List.mem_or_eq_of_mem_set hx with hx | rfl
    · exact h.ok x hx
    · exact h1
  · intro x hx
    rcases List.mem_or_eq_of_mem_set hx with hx | rfl
    · exact h.sh x hx
    · exact h2
structure UpOk (t : Tb) (L : List Int) (a : Int) (V : List Vl) : Prop where
  tb : TbOk t
  a0 : 0 ≤ a
  a1 : a < (t.cols.length : Int)
  len : V.length = L.length
  there : ∀ z ∈ L, ¬ placeK t.rows z < 0
  vals : ∀ v ∈ V, chkV v.k v.n v.s = 0
  fits : ∀ v ∈ V, ∀ c, t.cols[a.toNat]? = some c → (decide (v.k = 0) || decide (v.k = c.ty)) = true
  check : checkT t = 0
  rise : riseN L = true
theorem updateF_zero {t : Tb} {L : List Int} {a : Int} {V : List Vl} (h : updateF t L a V = 0) : UpOk t L a V := by
  unfold updateF at h
  split at h
  · rename_i h0; exact absurd h h0
  rename_i h0
  have h0' := Classical.not_not.1 h0
  split at h
  · cases h
  rename_i h1
  simp only [Bool.not_eq_false, Bool.and_eq_true, decide_eq_true_eq] at h1
  split at h
  · cases h
  rename_i h2
  split at h
  · cases h
  rename_i h3
  split at h
  · cases h
  rename_i h4
  split at h
  · rename_i h5; exact absurd h h5
  rename_i h5
  split at h
  · cases h
  rename_i h6
  simp only [Bool.not_eq_true, List.any_eq_false, decide_eq_true_eq] at h4 h6
  refine ⟨checkT_zero h0', h1.1, h1.2, Classical.not_not.1 h2, h4, (badL_zero V).1 (Classical.not_not.1 h5), fun v hv c hc => ?_, h0', by simpa using h3⟩
  have := h6 v hv
  unfold offC at this
  rw [hc] at this
  simp at this ⊢
  exact Decidable.or_iff_not_imp_left.2 this
def withR (t : Tb) (R : List Vl) : Tb := { t with rows := R }
theorem withR_sm {t : Tb} {R : List Vl} (hs : Sm t) (h : Upd t R) : Sm (withR t R) :=
  ⟨hs.nm, hs.cl, hs.cn, hs.dl, hs.dn, by show R.length ≤ _; rw [h.len]; exact hs.rl, h.sh, hs.il, hs.inm, hs.ie⟩
theorem Upd.start {t : Tb} (hk : TbOk t) (hs : Sm t) : Upd t t.rows :=
  ⟨rfl, fun r hr => (hk.rows r hr).2, hs.rn⟩
def updateT (t : Tb) (L : List Int) (a : Int) (V : List Vl) : Tb := indexedT (withR t (updL t.ds a.toNat L V t.rows))
def ofD (d : Dl) : Dl := { d with ty := if d.k = 1 then 0 else d.ty }
def retyC (a : Nat) (ty : Int) (cs : List Cl) : List Cl :=
  match cs[a]? with
  | some c => cs.set a ⟨c.name, ty⟩
  | none => cs
def alterC (d : Dl) (nm : List UInt8) (cs : List Cl) : List Cl :=
  if d.k = 1 then cs ++ [⟨nm, d.ty⟩] else if d.k = 2 then cs.eraseIdx d.a.toNat else retyC d.a.toNat d.ty cs
def alterX (d : Dl) (X : List Ix) : List Ix :=
  if d.k = 1 then X else if d.k = 2 then withoutX d.a X else X.map (unbX d.a)
def alteredT (t : Tb) (d : Dl) (nm : List UInt8) : Tb := { t with ds := t.ds ++ [ofD d], cols := alterC d nm t.cols, ixs := alterX d t.ixs }
def alterT (t : Tb) (d : Dl) (nm : List UInt8) : Tb := indexedT (alteredT t d nm)
def alterF (t : Tb) (d : Dl) (nm : List UInt8) : Nat :=
  if checkT t ≠ 0 then checkT t else if t.ds.length = 6 then 2 else if (checkD t.cols.length [ofD d]).2 ≠ 0 then (checkD t.cols.length [ofD d]).2
  else if d.k = 1 then addF t d nm else if decide (nm = []) = false then 1 else if d.k = 2 ∧ t.cols.length = 1 then 4 else 0
theorem now_push {ds : List Dl} {r : Vl} {d : Dl} (h : nowE ds r = 0) (h1 : r.n ≤ ds.length) (hw : (widB ((nowL ds r).length : Nat) d).2 = 0) :
    nowE (ds ++ [d]) r = 0 ∧ nowL (ds ++ [d]) r = rowB (nowL ds r) d := by
  have hdrop : (ds ++ [d]).drop r.n.toNat = ds.drop r.n.toNat ++ [d] := List.drop_append_of_le_length (by omega)
  have hd : decE r.s = 0 := by
    unfold nowE at h
    by_cases hd : decE r.s = 0
    · exact hd
    · rw [if_pos hd] at h; exact absurd h hd
  have e1 : nowE ds r = applyE (decR r.s) (ds.drop r.n.toNat) := by rw [nowE, if_neg (by simpa using hd)]
  have e2 : nowL ds r = applyL (decR r.s) (ds.drop r.n.toNat) := by rw [nowL, if_neg (by simpa using hd)]
  have e3 : nowE (ds ++ [d]) r = applyE (decR r.s) (ds.drop r.n.toNat ++ [d]) := by rw [nowE, if_neg (by simpa using hd), hdrop]
  have e4 : nowL (ds ++ [d]) r = applyL (decR r.s) (ds.drop r.n.toNat ++ [d]) := by rw [nowL, if_neg (by simpa using hd), hdrop]
  rw [e1] at h
  rw [e2] at hw ⊢
  rw [e3, e4]
  generalize decR r.s = R at *
  generalize ds.drop r.n.toNat = D at *
  have hh := h
  unfold applyE at h
  by_cases h5 : 5 < R.length
  · rw [if_pos h5] at h; cases h
  rw [if_neg h5] at h
  by_cases hc : (checkD (R.length : Nat) D).2 ≠ 0
  · rw [if_pos hc] at h; exact absurd h hc
  rw [if_neg hc] at h
  have hc : (checkD (R.length : Nat) D).2 = 0 := Classical.not_not.1 hc
  have hwd : ¬ ((R.length : Int) < 0 ∨ 5 < (R.length : Int)) := by omega
  unfold checkD at hc
  rw [if_neg hwd] at hc
  have l1 : applyL R D = D.foldl rowB R := by rw [applyL, if_pos hh]
  rw [l1] at hw ⊢
  have len1 := apply_len _ R hc
  rw [len1] at hw
  have hcc : (ckD (R.length : Nat) (D ++ [d])).2 = 0 := by
    rw [ckD_append, if_pos hc, ckD, if_pos hw]; rfl
  have hE : applyE R (D ++ [d]) = 0 := by
    unfold applyE checkD
    rw [if_neg h5, if_neg hwd, if_neg (by rw [hcc]; exact fun h => h rfl)]; exact h
  refine ⟨hE, ?_⟩
  rw [applyL, if_pos hE, List.foldl_append]; rfl
theorem kindsR_push : ∀ {cs : List Cl} {L : List Vl} {c : Cl} {v : Vl}, L.length = cs.length → kindsR cs L = true → (decide (v.k = 0) || decide (v.k = c.ty)) = true → kindsR (cs ++ [c]) (L ++ [v]) = true
  | [], [], c, v, _, _, hv => by simpa [kindsR] using hv
  | [], _ :: _, _, _, hl, _, _ => by simp at hl
  | _ :: _, [], _, _, hl, _, _ => by simp at hl
  | c0 :: cs, x :: L, c, v, hl, h, hv => by
    simp only [kindsR, Bool.and_eq_true, List.cons_append] at h ⊢
    exact ⟨h.1, kindsR_push (by simpa using hl) h.2 hv⟩
theorem kindsR_erase : ∀ {cs : List Cl} {L : List Vl} (a : Nat), kindsR cs L = true → kindsR (cs.eraseIdx a) (L.eraseIdx a) = true
  | [], L, a, _ => by simp [kindsR]
  | c0 :: cs, [], a, _ => by cases a <;> simp [kindsR] <;> cases cs <;> simp [kindsR]
  | c0 :: cs, x :: L, 0, h => by
    simp only [kindsR, Bool.and_eq_true, List.eraseIdx_cons_zero] at h ⊢
    exact h.2
  | c0 :: cs, x :: L, a + 1, h => by
    simp only [kindsR, Bool.and_eq_true, List.eraseIdx_cons_succ] at h ⊢
    exact ⟨h.1, kindsR_erase a h.2⟩
theorem kindsR_both : ∀ {cs : List Cl} {L : List Vl} {a : Nat} {c : Cl} {v : Vl}, kindsR cs L = true → (decide (v.k = 0) || decide (v.k = c.ty)) = true → kindsR (cs.set a c) (L.set a v) = true
  | [], L, a, c, v, _, _ => by simp [kindsR]
  | c0 :: cs, [], a, c, v, _, _ => by cases a <;> simp [kindsR]
  | c0 :: cs, x :: L, 0, c, v, h, hv => by
    simp only [kindsR, Bool.and_eq_true, List.set_cons_zero] at h ⊢
    exact ⟨hv, h.2⟩
  | c0 :: cs, x :: L, a + 1, c, v, h, hv => by
    simp only [kindsR, Bool.and_eq_true, List.set_cons_succ] at h ⊢
    exact ⟨h.1, kindsR_both h.2 hv⟩
theorem castX_kind (x : Vl) (t : Int) (ht : 1 ≤ t ∧ t ≤ 3) : (decide ((castX x t).k = 0) || decide ((castX x t).k = t)) = true := by
  have ht : t = 1 ∨ t = 2 ∨ t = 3 := by omega
  unfold castX castV
  rcases ht with rfl | rfl | rfl
  · simp only [if_true]
    split
    · simp
    · split
      · split <;> simp
      · split <;> simp
  · rw [if_neg (by decide), if_pos rfl]
    split
    · simp
    · split
      · simp
      · split <;> simp
  · rw [if_neg (by decide), if_neg (by decide)]
    split
    · simp
    · split
      · split
        · simp
        · split <;> simp
      · split <;> simp
theorem retyC_at {cs : List Cl} {a : Nat} {c : Cl} (h : cs[a]? = some c) (ty : Int) : retyC a ty cs = cs.set a ⟨c.name, ty⟩ := by
  unfold retyC; rw [h]
theorem retyC_len (a : Nat) (ty : Int) (cs : List Cl) : (retyC a ty cs).length = cs.length := by
  unfold retyC
  split
  · rw [List.length_set]
  · rfl
structure AlOk (t : Tb) (d : Dl) (nm : List UInt8) : Prop where
  tb : TbOk t
  check : checkT t = 0
  few : t.ds.length ≠ 6
  wid : (widB (t.cols.length : Nat) (ofD d)).2 = 0
  add : d.k = 1 → addF t d nm = 0
  name : d.k ≠ 1 → nm = []
  one : d.k = 2 → t.cols.length ≠ 1
theorem alterF_zero {t : Tb} {d : Dl} {nm : List UInt8} (h : alterF t d nm = 0) : AlOk t d nm := by
  unfold alterF at h
  split at h
  · rename_i h0; exact absurd h h0
  rename_i h0
  have h0' := Classical.not_not.1 h0
  have hk := checkT_zero h0'
  obtain ⟨-, -, c5, -⟩ := frameN_zero hk.frame
  split at h
  · cases h
  rename_i h1
  split at h
  · rename_i h2; exact absurd h h2
  rename_i h2
  have h2' := Classical.not_not.1 h2
  have hw : (widB (t.cols.length : Nat) (ofD d)).2 = 0 := by
    unfold checkD at h2'
    rw [if_neg (by omega)] at h2'
    by_cases hb : (widB (t.cols.length : Nat) (ofD d)).2 = 0
    · exact hb
    · rw [ckD, if_neg hb] at h2'; exact absurd h2' hb
  split at h
  · rename_i h3
    exact ⟨hk, h0', h1, hw, fun _ => h, fun e => absurd h3 e, fun e => by omega⟩
  rename_i h3
  split at h
  · cases h
  rename_i h4
  split at h
  · cases h
  rename_i h5
  exact ⟨hk, h0', h1, hw, fun e => absurd e h3, fun _ => by simpa using h4, fun e h1 => h5 ⟨e, h1⟩⟩
theorem AlOk.kinds {t : Tb} {d : Dl} {nm : List UInt8} (h : AlOk t d nm) : (d.k = 1 ∧ chkV d.v.k d.v.n d.v.s = 0) ∨ (d.k = 2 ∧ 0 ≤ d.a ∧ d.a < t.cols.length) ∨ (d.k = 3 ∧ 0 ≤ d.a ∧ d.a < t.cols.length ∧ 1 ≤ d.ty ∧ d.ty ≤ 3) := by
  rcases widB_ok h.wid with ⟨k, a, b, hv⟩ | ⟨k, a, b, c⟩ | ⟨k, a, b, t0, t1, c⟩
  · exact .inl ⟨k, hv⟩
  · exact .inr (.inl ⟨k, a, b⟩)
  · have e : (ofD d).ty = d.ty := by unfold ofD; rw [if_neg (by have : d.k = 3 := k; omega)]
    rw [e] at t0 t1
    exact .inr (.inr ⟨k, a, b, t0, t1⟩)
theorem addF_zero {t : Tb} {d : Dl} {nm : List UInt8} (h : addF t d nm = 0) : (1 ≤ d.ty ∧ d.ty ≤ 3) ∧ (decide (d.v.k = 0) || decide (d.v.k = d.ty)) = true ∧ nameW nm = true ∧ placeC t.cols nm = none := by
  unfold addF at h
  split at h
  · cases h
  rename_i h1
  split at h
  · cases h
  rename_i h2
  split at h
  · cases h
  rename_i h3
  split at h
  · cases h
  rename_i h4
  refine ⟨by simpa using h3, ?_, by simpa using h1, ?_⟩
  · simp at h4 ⊢
    exact Decidable.or_iff_not_imp_left.2 h4
  cases hp : placeC t.cols nm with
  | none => rfl
  | some k => rw [hp] at h2; simp at h2
theorem AlOk.row {t : Tb} {d : Dl} {nm : List UInt8} (h : AlOk t d nm) {r : Vl} (hr : RowOk t.cols t.ds t.next r) :
    RowOk (alterC d nm t.cols) (t.ds ++ [ofD d]) t.next r ∧ nowL (t.ds ++ [ofD d]) r = rowB (nowL t.ds r) (ofD d) := by
  obtain ⟨n1, n2⟩ := now_push (d := ofD d) hr.ok hr.v1 (by rw [hr.len]; exact h.wid)
  refine ⟨⟨hr.lt, hr.v0, by rw [List.length_append]; have := hr.v1; omega, n1, ?_, ?_⟩, n2⟩
  · rw [n2]
    have hl := hr.len
    rcases h.kinds with ⟨k, hv⟩ | ⟨k, a, b⟩ | ⟨k, a, b, t0, t1⟩
    · rw [rowB, if_pos (show (ofD d).k = 1 from k), alterC, if_pos k]
      simp [hl]
    · rw [rowB, if_neg (show ¬ (ofD d).k = 1 by show ¬ d.k = 1; omega), if_pos (show (ofD d).k = 2 from k), alterC, if_neg (by omega), if_pos k, List.length_eraseIdx, List.length_eraseIdx, hl]
      rfl
    · rw [rowB, if_neg (show ¬ (ofD d).k = 1 by show ¬ d.k = 1; omega), if_neg (show ¬ (ofD d).k = 2 by show ¬ d.k = 2; omega), alterC, if_neg (by omega), if_neg (by omega), List.length_set, retyC_len, hl]
  · rw [n2]
    have hl := hr.len
    have hk := hr.kinds
    rcases h.kinds with ⟨k, hv⟩ | ⟨k, a, b⟩ | ⟨k, a, b, t0, t1⟩
    · rw [rowB, if_pos (show (ofD d).k = 1 from k), alterC, if_pos k]
      exact kindsR_push hl hk (addF_zero (h.add k)).2.1
    · rw [rowB, if_neg (show ¬ (ofD d).k = 1 by show ¬ d.k = 1; omega), if_pos (show (ofD d).k = 2 from k), alterC, if_neg (by omega), if_pos k]
      exact kindsR_erase _ hk
    · rw [rowB, if_neg (show ¬ (ofD d).k = 1 by show ¬ d.k = 1; omega), if_neg (show ¬ (ofD d).k = 2 by show ¬ d.k = 2; omega), alterC, if_neg (by omega), if_neg (by omega)]
      obtain ⟨c, hc⟩ : ∃ c, t.cols[d.a.toNat]? = some c := ⟨t.cols[d.a.toNat]'(by omega), List.getElem?_eq_getElem _⟩
      rw [retyC_at hc]
      have e : (ofD d).ty = d.ty := by unfold ofD; rw [if_neg (by omega)]
      refine kindsR_both hk ?_
      rw [e]
      exact castX_kind _ _ ⟨t0, t1⟩
theorem AlOk.ixs {t : Tb} {d : Dl} {nm : List UInt8} (h : AlOk t d nm) : ∀ x ∈ alterX d t.ixs, (0 ≤ x.a ∧ x.a < (alterC d nm t.cols).length) ∧ ∃ y ∈ t.ixs, x.name = y.name ∧ x.es = y.es := by
  intro x hx
  have hix := fun y hy => h.tb.ixs y hy
  rcases h.kinds with ⟨k, hv⟩ | ⟨k, a, b⟩ | ⟨k, a, b, t0, t1⟩
  · rw [alterX, if_pos k] at hx
    rw [alterC, if_pos k, List.length_append]
    have := hix x hx
    have h1 := this.a1
    exact ⟨⟨this.a0, by omega⟩, x, hx, rfl, rfl⟩
  · rw [alterX, if_neg (by omega), if_pos k] at hx
    rw [alterC, if_neg (by omega), if_pos k, List.length_eraseIdx, if_pos (by omega)]
    obtain ⟨y, hy, rfl⟩ := List.mem_map.1 hx
    obtain ⟨hy1, hy2⟩ := List.mem_filter.1 hy
    have hne : y.a ≠ d.a := by simpa using hy2
    have := hix y hy1
    have h0 := this.a0
    have h1 := this.a1
    refine ⟨?_, y, hy1, ?_, ?_⟩
    · unfold downX
      split
      · show 0 ≤ y.a - 1 ∧ y.a - 1 < _; omega
      · omega
    · unfold downX; split <;> rfl
    · unfold downX; split <;> rfl
  · rw [alterX, if_neg (by omega), if_neg (by omega)] at hx
    rw [alterC, if_neg (by omega), if_neg (by omega), retyC_len]
    obtain ⟨y, hy, rfl⟩ := List.mem_map.1 hx
    have := hix y hy
    refine ⟨?_, y, hy, ?_, ?_⟩
    · unfold unbX; split <;> exact ⟨this.a0, this.a1⟩
    · unfold unbX; split <;> rfl
    · unfold unbX; split <;> rfl
theorem alterX_len (d : Dl) (X : List Ix) : (alterX d X).length ≤ X.length := by
  unfold alterX withoutX offX
  split
  · exact Nat.le_refl _
  · split
    · rw [List.length_map]; exact List.length_filter_le _ _
    · rw [List.length_map]; exact Nat.le_refl _
theorem AlOk.sm {t : Tb} {d : Dl} {nm : List UInt8} (h : AlOk t d nm) (hs : Sm t) (hn : nm.length ≤ 140737488355328) (hv : d.v.s.length ≤ 140737488355328) : Sm (alteredT t d nm) := by
  obtain ⟨-, -, c5, d6, r30, x4⟩ := frameN_zero h.tb.frame
  refine ⟨hs.nm, ?_, ?_, ?_, ?_, hs.rl, hs.rn, ?_, ?_, ?_⟩
  · show (alterC d nm t.cols).length ≤ _
    unfold alterC
    split
    · rw [List.length_append, List.length_singleton]; omega
    · split
      · have := List.length_eraseIdx_le t.cols d.a.toNat; omega
      · rw [retyC_len]; omega
  · show ∀ x ∈ alterC d nm t.cols, _
    unfold alterC
    intro x hx
    split at hx
    · rcases List.mem_append.1 hx with hx | hx
      · exact hs.cn x hx
      · rw [List.mem_singleton] at hx; subst hx; exact hn
    · split at hx
      · exact hs.cn x (List.mem_of_mem_eraseIdx hx)
      · unfold retyC at hx
        split at hx
        · rename_i c hc
          rcases List.mem_or_eq_of_mem_set hx with hx | rfl
          · exact hs.cn x hx
          · exact hs.cn c (List.mem_of_getElem? hc)
        · exact hs.cn x hx
  · show (t.ds ++ [ofD d]).length ≤ _
    rw [List.length_append, List.length_singleton]; omega
  · show ∀ x ∈ t.ds ++ [ofD d], _
    intro x hx
    rcases List.mem_append.1 hx with hx | hx
    · exact hs.dn x hx
    · rw [List.mem_singleton] at hx; subst hx; exact hv
  · show (alterX d t.ixs).length ≤ _
    have := alterX_len d t.ixs; omega
  · intro x hx
    obtain ⟨-, y, hy, e1, -⟩ := h.ixs x hx
    rw [e1]; exact hs.inm y hy
  · intro x hx
    obtain ⟨-, y, hy, -, e2⟩ := h.ixs x hx
    rw [e2]; exact hs.ie y hy
theorem TbOwn.cols {w w' : World} {B n : Nat} {cu du ru iu v : Value} {t : Tb} {xs : List Value} {C : List Cl} (h : TbOwn w B cu du ru iu t) (hc : w.ownsRow B 65 2 cu n xs) (hg : w.grownBy w' cu.ownBlock) (hv : w'.ownsRow B 65 2 v C.length (C.flatMap clC)) : TbOwn w' B v du ru iu { t with cols := C } := by
  obtain ⟨evs, h1, h2, h3⟩ := h.is
  exact ⟨hv, owns_other h.ds hc (by decide) hg, owns_other h.rs hc (by decide) hg, evs, h1, owns_other h2 hc (by decide) hg, fun i ev x a b => owns_other (h3 i ev x a b) hc (by decide) hg⟩
theorem TbOwn.ixs {w w' : World} {B : Nat} {cu du ru iu v : Value} {t : Tb} {X : List Ix} (h : TbOwn w B cu du ru iu t) (hx : IxOwn w' B v X) (K : ∀ (B' : Nat) (ty : TypeId) (m : Nat) (x : Value) (n : Nat) (xs : List Value), ty ≠ 73 → w.ownsRow B' ty m x n xs → w'.ownsRow B' ty m x n xs) : TbOwn w' B cu du ru v { t with ixs := X } :=
  ⟨K _ _ _ _ _ _ (by decide) h.cs, K _ _ _ _ _ _ (by decide) h.ds, K _ _ _ _ _ _ (by decide) h.rs, hx⟩
theorem TbOwn.keep {w w' : World} {B : Nat} {cu du ru iu : Value} {t : Tb} (h : TbOwn w B cu du ru iu t) (hb : Below w.heap.size w w') : TbOwn w' B cu du ru iu t := h.below hb
theorem flatC_ty : ∀ (L : List Cl) (a : Nat) (c : Cl) (ty : Int), L[a]? = some c → (L.flatMap clC).set (a * 2 + 1) (.int .i64 ty) = (L.set a ⟨c.name, ty⟩).flatMap clC
  | [], a, c, ty, h => by simp at h
  | x :: L, 0, c, ty, h => by
    simp only [List.getElem?_cons_zero, Option.some.injEq] at h
    subst h
    simp [clC]
  | x :: L, a + 1, c, ty, h => by
    simp only [List.getElem?_cons_succ] at h
    have ih := flatC_ty L a c ty h
    simp only [List.set_cons_succ, List.flatMap_cons, ← ih]
    have e : (a + 1) * 2 + 1 = (a * 2 + 1) + 2 := by omega
    rw [e]
    rfl
end Go.Proofs.YtcnnjladaoaeiaaGreatDoor
