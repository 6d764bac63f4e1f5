/-
  'Join' of package token.
-/
import Derived.Test.YtcnnjladaoaeiaaGreatDoorAlone
namespace Go.Proofs.YtcnnjladaoaeiaaGreatDoor
open Go.RowKit

/-- texts of tokens, one blank between -/
def joinL : List Tk → List UInt8
  | [] => []
  | [x] => x.t
  | x :: y :: r => x.t ++ 32 :: joinL (y :: r)

theorem joinL_snoc (L : List Tk) (x : Tk) (h : L ≠ []) : joinL (L ++ [x]) = joinL L ++ 32 :: x.t := by
  induction L with
  | nil => exact absurd rfl h
  | cons y r ih =>
    cases r with
    | nil => rfl
    | cons z r =>
      have := ih (by simp)
      simp only [List.cons_append] at this ⊢
      rw [joinL, this, joinL]; simp

def joinS (L : List Tk) : List UInt8 × Nat :=
  if L.all (fun x => aloneB x.k x.t) = true then (if 2000 < (joinL L).length then ([], 2) else (joinL L, 0)) else ([], 1)

theorem size_mk (l : List UInt8) : (⟨l.toArray⟩ : ByteArray).size = l.length := by show l.toArray.size = _; simp

theorem strCells_mk (l : List UInt8) : Lib.strCells ⟨l.toArray⟩ = Lib.byteCells l := rfl
theorem byteCells_append (a b : List UInt8) : Lib.byteCells (a ++ b) = Lib.byteCells a ++ Lib.byteCells b := by simp [Lib.byteCells]

/-- a slice of tokens in memory -/
def TokRow (w : World) (b off n : Nat) (L : List Tk) : Prop :=
  L.length = n ∧ ∀ i x, L[i]? = some x → w.cell? ⟨b, off + i * 3, none⟩ = some (.int .i64 x.k) ∧ w.cell? ⟨b, off + i * 3 + 1, none⟩ = some (.int .i64 x.a) ∧ w.cell? ⟨b, off + i * 3 + 2, none⟩ = some (.string ⟨x.t.toArray⟩)

theorem builder_below {T e : TypeId} {B b : Nat} {bs : List Value} {w w' : World} (h : Lib.IsBuilder T e B b bs w) (hb : Below w.heap.size w w') : Lib.IsBuilder T e B b bs w' := by
  have go : ∀ p, Lib.BuilderAt T e B b p bs w → Lib.BuilderAt T e B b p bs w' := by
    rintro p ⟨hB, v, hbk, hown, hne⟩
    exact ⟨hB, v, (hb.block b (Array.getElem?_eq_some_iff.1 hbk).1).trans hbk, owns_below hown hb, hne⟩
  rcases h with h | h
  · exact .inl (go _ h)
  · exact .inr (go _ h)

theorem take_snocT (L : List Tk) (k : Nat) (x : Tk) (h : L[k]? = some x) : L.take (k + 1) = L.take k ++ [x] := by
  rw [List.take_succ_eq_append_getElem (List.getElem?_eq_some_iff.1 h).1]
  simp [(List.getElem?_eq_some_iff.1 h).2]

theorem scanGo_len (f : Nat) : ∀ (a : Nat) (l : List UInt8) (acc : List Tk), (∀ x ∈ acc, x.t.length ≤ 22) → ∀ x ∈ (scanGo f a l acc).1, x.t.length ≤ 22 := by
  induction f with
  | zero => intro a l acc h; exact h
  | succ f ih =>
    intro a l acc h
    cases l with
    | nil => exact h
    | cons c r =>
      rw [scanGo]
      split
      · exact ih _ _ _ h
      · split
        · rename_i hw
          apply ih
          intro x hx
          rcases List.mem_append.1 hx with hx | hx
          · exact h x hx
          · simp at hx
            subst hx
            have h4 := tokL_kind (c :: r)
            have hz := wrongL_zero hw
            generalize tokL (c :: r) = p at *
            obtain ⟨K, N⟩ := p
            simp only at *
            unfold wrongL at hw
            simp only [hz, if_false] at hw
            have hN : (List.take N (c :: r)).length ≤ N := List.length_take_le _ _
            generalize List.take N (c :: r) = T at *
            split at hw
            · cases hw
            · rename_i hn
              show T.length ≤ 22
              omega
        · intro x hx; cases hx

theorem alone_len {K : Int} {l : List UInt8} (h : aloneB K l = true) : l.length ≤ 22 := by
  unfold aloneB at h
  split at h
  · rename_i x _ hs
    simp at h
    have hx : ∀ y ∈ (scanS l).1, y.t.length ≤ 22 := by
      unfold scanS
      split
      · intro y hy; cases hy
      · exact scanGo_len _ _ _ _ (by intro y hy; cases hy)
    have := hx x (by rw [hs]; simp)
    rw [h.2.2] at this
    exact this
  · cases h

theorem joinL_len (L : List Tk) (k : Nat) (hk : k ≤ L.length) (h : (L.take k).all (fun x => aloneB x.k x.t) = true) : (joinL (L.take k)).length ≤ 23 * k := by
  induction k with
  | zero => simp [joinL]
  | succ k ih =>
    have hx : L[k]? = some L[k] := List.getElem?_eq_getElem (by omega)
    rw [take_snocT L k _ hx] at h ⊢
    rw [List.all_append, Bool.and_eq_true] at h
    have h1 := ih (by omega) h.1
    have h2 := alone_len (show aloneB L[k].k L[k].t = true by simpa using h.2)
    by_cases e : L.take k = []
    · rw [e]; simp [joinL]; omega
    · rw [joinL_snoc _ _ e]; simp; omega

set_option maxRecDepth 100000 in
set_option maxHeartbeats 1000000 in
theorem join_some (b off n cap : Nat) (L : List Tk) (w : World) (hn : 0 < n) (hr : n * 32 ≤ 140737488355328) (hb : b < w.heap.size) (hL : TokRow w b off n L) (ht : ∀ x ∈ L, x.t.length ≤ 9223372036854775000) :
    Calls Tryz.prog 132 #[.slice (some ⟨b, off, none⟩) n cap] w fun e w' => e = .returned (.tuple #[.string ⟨(joinS L).1.toArray⟩, .int .i64 ((joinS L).2 : Nat)]) ∧ Below w.heap.size w w' := by
  obtain ⟨hlen, hcells⟩ := hL
  go_enter Tryz.func132, Tryz.ntmps132
  go_wp2
  go_loopw [9] (fun i wr => ∃ k : Nat, k ≤ n ∧ i = .int .i64 k ∧ Lib.IsBuilder 184 5 w.heap.size w.heap.size (Lib.byteCells (joinL (L.take k))) wr ∧ Below w.heap.size w wr ∧
      Hid ((L.take k).all (fun x => aloneB x.k x.t) = true)) (fun i _ => n - (intOf i).toNat)
  case atStart =>
    exact ⟨0, Nat.zero_le _, rfl, Lib.fresh_isBuilder 184 5 w, (Below.refl _ _).alloc (Nat.le_refl _) _, by simp [Hid]⟩
  case round =>
    obtain ⟨k, hk, rfl, hB, hnx, HA⟩ := hrel
    by_cases hlt : k < n
    · obtain ⟨x, hx⟩ : ∃ x, L[k]? = some x := ⟨L[k], List.getElem?_eq_getElem (by omega)⟩
      obtain ⟨e0, e1, e2⟩ := hcells k x hx
      have a0 := (hnx.cell (p := ⟨b, off + k * 3, none⟩) hb).trans e0
      have a1 := (hnx.cell (p := ⟨b, off + k * 3 + 1, none⟩) hb).trans e1
      have a2 := (hnx.cell (p := ⟨b, off + k * 3 + 2, none⟩) hb).trans e2
      have hal := fun W => alone_any x.k x.a ⟨x.t.toArray⟩ W (by rw [size_mk]; exact ht x (List.mem_of_getElem? hx))
      cases hx1 : aloneB x.k x.t
      · simp only [hx1] at hal
        clear e0 e1 e2 hcells
        go_wp2_with (go_at_call 157; refine (hal _).mono ?_; rintro e w2 ⟨rfl, hb2⟩)
        go_ret2
        have hJ : joinS L = ([], 1) := by
          unfold joinS
          rw [if_neg]
          intro h
          have := List.all_eq_true.1 h x (List.mem_of_getElem? hx)
          rw [hx1] at this; cases this
        rw [hJ]
        exact ⟨rfl, (hnx.alloc hnx.size _).trans (hb2.mono (by have := hnx.size; simp; omega))⟩
      · simp only [hx1] at hal
        clear e0 e1 e2 hcells
        have hsz := hnx.size
        have hsz1 : w.heap.size < wr.heap.size := by rcases hB with h | h <;> exact h.lt
        have HX : Hid (aloneB x.k x.t = true) := hx1
        have HL : Hid (L[k]? = some x) := hx
        have HB := builder_below hB ((Below.refl wr.heap.size wr).alloc (Nat.le_refl _) (.cells #[.int .i64 x.k, .int .i64 x.a, .string ⟨x.t.toArray⟩] 160))
        have hjl := joinL_len L k (by omega) HA.out
        have hxl := alone_len hx1
        have hk1 := take_snocT L k x hx
        clear hx hx1 hB
        have HK : Hid (L.take (k + 1) = L.take k ++ [x]) := hk1
        have HA1 : Hid ((L.take (k + 1)).all (fun x => aloneB x.k x.t) = true) := by
          show (L.take (k + 1)).all (fun x => aloneB x.k x.t) = true
          rw [hk1, List.all_append, HA.out]; simpa using HX.out
        clear hk1 HA
        have hxs := size_mk x.t
        have hjc := Lib.byteCells_length (joinL (L.take k))
        by_cases hk0 : 0 < k
        · go_wp2_with (go_at_call 157; refine (hal _).mono ?_; rintro e w2 ⟨rfl, hb2⟩)
          have hbl : w2.heap[wr.heap.size]? = some (.cells #[.int .i64 x.k, .int .i64 x.a, .string ⟨x.t.toArray⟩] 160 (0, 0)) := (hb2.block _ (by simp)).trans (heap_alloc_new _ _)
          have hs2 : wr.heap.size + 1 ≤ w2.heap.size := by have := hb2.size; simpa using this
          refine (writeByte_any w.heap.size w.heap.size _ 32 _ (builder_below HB hb2) (by rw [hjc]; omega) (by omega)).mono ?_
          rintro e w3 ⟨rfl, h3, hb3, ho3⟩
          have hbl3 := ho3 _ _ hbl (by simp; omega) (by intro c fz; simp)
          have c3 : w3.cell? ⟨wr.heap.size, 2, none⟩ = some (.string ⟨x.t.toArray⟩) := by rw [Lib.cell_of_heap hbl3]; rfl
          have hs3 := hb3.size
          go_wp2_with fail
          refine (writeString_any w.heap.size w.heap.size _ ⟨x.t.toArray⟩ _ (.inr h3) (by simp only [List.length_append, List.length_cons, List.length_nil]; rw [hjc, hxs]; omega) (by omega)).mono ?_
          rintro e w4 ⟨rfl, h4, hb4, ho4⟩
          have R : Lib.IsBuilder 184 5 w.heap.size w.heap.size (Lib.byteCells (joinL (L.take (k + 1)))) w4 := by
            have e : joinL (L.take (k + 1)) = joinL (L.take k) ++ ([32] ++ x.t) := by
              rw [HK.out, joinL_snoc _ _ (by intro h; have := congrArg List.length h; rw [List.length_take, Nat.min_eq_left (by omega)] at this; simp at this; omega)]; rfl
            rw [e, byteCells_append, byteCells_append, ← List.append_assoc]
            exact .inr h4
          have hN4 : Below w.heap.size w w4 := (((hnx.alloc hsz _).trans (hb2.mono (by simp; omega))).trans hb3).trans hb4
          clear h3 h4 hb2 hb3 hb4 ho3 ho4 HB hal hbl hbl3 c3 a0 a1 a2
          go_wp2
          go_roundw
          case rel => exact ⟨k + 1, by omega, by go_num, R, hN4, HA1⟩
          case measure => simp [intOf]; omega
        · go_wp2_with (go_at_call 157; refine (hal _).mono ?_; rintro e w2 ⟨rfl, hb2⟩; have c2 : w2.cell? ⟨wr.heap.size, 2, none⟩ = some (.string ⟨x.t.toArray⟩) := (hb2.cell (by simp)).trans (by simp))
          have hs2 : wr.heap.size + 1 ≤ w2.heap.size := by have := hb2.size; simpa using this
          refine (writeString_any w.heap.size w.heap.size _ ⟨x.t.toArray⟩ _ (builder_below HB hb2) (by rw [hjc, hxs]; omega) (by omega)).mono ?_
          rintro e w4 ⟨rfl, h4, hb4, ho4⟩
          have R : Lib.IsBuilder 184 5 w.heap.size w.heap.size (Lib.byteCells (joinL (L.take (k + 1)))) w4 := by
            have e : joinL (L.take (k + 1)) = x.t := by
              rw [HK.out, show k = 0 by omega]; rfl
            have e0 : joinL (L.take k) = [] := by rw [show k = 0 by omega]; rfl
            rw [e0] at h4
            rw [e]
            exact .inr h4
          have hN4 : Below w.heap.size w w4 := ((hnx.alloc hsz _).trans (hb2.mono (by simp; omega))).trans hb4
          clear h4 hb2 hb4 ho4 HB hal c2 a0 a1 a2
          go_wp2
          go_roundw
          case rel => exact ⟨k + 1, by omega, by go_num, R, hN4, HA1⟩
          case measure => simp [intOf]; omega
    · have hkn : k = n := by omega
      have HJ : Hid (L.take k = L) := List.take_of_length_le (by omega)
      have HJ2 : Hid (joinS L = if 2000 < (joinL L).length then ([], 2) else (joinL L, 0)) := by
        show joinS L = _
        unfold joinS
        rw [if_pos]
        have := HA.out
        rw [HJ.out] at this; exact this
      have hB' := hB
      rw [HJ.out] at hB'
      clear hB HA hcells
      have hjl : (joinL L).length = (joinL L).length := rfl
      by_cases h2 : 2000 < (joinL L).length
      · have hlen2 := Tryz.Builder_Len w.heap.size w.heap.size _ wr hB'
        rw [Lib.byteCells_length] at hlen2
        clear hkn hjl
        go_wp2_with (go_at_call 160; refine hlen2.mono ?_; rintro e w' ⟨rfl, hw'⟩; obtain rfl := hw'.symm; clear hw')
        go_ret2
        rw [HJ2.out, if_pos h2]
        exact ⟨rfl, hnx⟩
      · have hlen2 := Tryz.Builder_Len w.heap.size w.heap.size _ wr hB'
        rw [Lib.byteCells_length] at hlen2
        clear hkn hjl
        go_wp2_with (first | (go_at_call 160; refine hlen2.mono ?_; rintro e w' ⟨rfl, hw'⟩; obtain rfl := hw'.symm; clear hw') | (go_at_call 161; refine (Tryz.Builder_String_any w.heap.size w.heap.size (joinL L) _ hB' (by exact hnx.size)).mono ?_; rintro e w5 ⟨rfl, hb5⟩))
        go_ret2
        rw [HJ2.out, if_neg h2]
        exact ⟨rfl, hnx.trans hb5⟩

end Go.Proofs.YtcnnjladaoaeiaaGreatDoor
