/-
  The reader of package row: 'values'.
-/
import Derived.Test.YtkpeklealgicpacRdv
namespace Go.Proofs.Ytkpeklealgicpac
open Go.RowKit

def vlC (x : Vl) : List Value := [.int .i64 x.k, .int .i64 x.n, .string ⟨x.s.toArray⟩]
def valsOf : List UInt8 → Option (List Vl × List UInt8)
  | [] => none
  | c :: r => valsP c.toNat r
theorem Try.info_val : (Try.prog.info? 36).map (fun i => (i.zero, i.size, i.bytes)) = some (some (.agg #[.int .i64 0, .int .i64 0, .string ⟨#[]⟩]), 3, 32) := by kernel_rfl

theorem RdAt.keep {w w' : World} {b : Nat} {L : List UInt8} {wr : Bool} (h : RdAt w b L wr) (hk : w'.heap[b]? = w.heap[b]?) : RdAt w' b L wr := hk.trans h

theorem vals_step (L : List UInt8) (m : Nat) (acc : List Vl) (x : Vl) (L' L2 : List UInt8) (wr : Bool) (h : valsOf L = (valsP (m + 1) L').map fun q => (acc ++ q.1, q.2)) (hv : valP L' = if wr = true then none else some (x, L2)) :
    valsOf L = if wr = true then none else (valsP m L2).map fun q => ((acc ++ [x]) ++ q.1, q.2) := by
  rw [h, valsP, hv]
  cases wr with
  | true => rfl
  | false =>
    simp only [Bool.false_eq_true, if_false, Option.bind_some]
    cases valsP m L2 <;> simp

theorem own_ne {w : World} {base b : Nat} {e : TypeId} {size n : Nat} {v : Value} {xs : List Value} (h : w.ownsRow base e size v n xs) (hb : b < base) : v.ownBlock = none ∨ v.ownBlock ≠ some b := by
  rcases h.2 with ⟨hv, -⟩ | ⟨g, cap, cur, hv, hg, -⟩
  · rw [hv]; exact .inl rfl
  · rw [hv]; right; simp only [Value.ownBlock, ne_eq, Option.some.injEq]; omega

/-- what 'values' leaves -/
def ValsPost (w : World) (b : Nat) (L : List UInt8) (e : Ending) (w' : World) : Prop :=
  ∃ (v : Value) (xs : List Vl) (L' : List UInt8) (wr : Bool), e = .returned v ∧ w'.ownsRow w.heap.size 36 3 v xs.length (xs.flatMap vlC) ∧ RdAt w' b L' wr ∧ w.grownBy w' (some b) ∧ xs.length ≤ 255 ∧ (valsOf L = if wr = true then none else some (xs, L'))

set_option maxRecDepth 100000 in
set_option maxHeartbeats 1600000 in
theorem values_any (b : Nat) (L : List UInt8) (w : World) (hb : RdAt w b L false) :
    Calls Try.prog 15 #[.pointer (some ⟨b, 0, none⟩)] w fun e w' => ValsPost w b L e w' := by
  obtain ⟨i0, hi, hz0, hz1, hz2⟩ := info_parts Try.info_val
  have n1 := number_any b 1 L false w hb (by decide) (by decide)
  have hlt := hb.lt
  obtain ⟨m0, L0, wr0, e1, e2, e3, hm0, hs⟩ : ∃ (m0 : Nat) (L0 : List UInt8) (wr0 : Bool), numL (tkB (1 : Int).toNat L) = m0 ∧ tkL (1 : Int).toNat L = L0 ∧ (false || decide (L.length < (1 : Int).toNat)) = wr0 ∧ m0 ≤ 255 ∧ valsOf L = if wr0 = true then none else (valsP m0 L0).map fun q => ([] ++ q.1, q.2) := by
    cases L with
    | nil => exact ⟨0, [], true, rfl, rfl, rfl, by omega, rfl⟩
    | cons c r =>
      refine ⟨c.toNat, r, false, by simp [tkB, numL], by simp [tkL], by simp, by have := c.toNat_lt; omega, ?_⟩
      simp [valsOf]
  rw [e1, e2, e3] at n1
  have HS := hide hs
  clear e1 e2 e3 hs hb
  go_enter Try.func15, Try.ntmps15
  go_wp2_with (go_at_call 21; refine n1.mono ?_; rintro e w1 ⟨rfl, r1, g1⟩)
  go_loopw [3, 4] (fun v i wl => ∃ (acc : List Vl) (m : Nat) (L' : List UInt8) (wr : Bool), i = .int .i64 (m : Int) ∧ wl.ownsRow w.heap.size 36 3 v acc.length (acc.flatMap vlC) ∧ RdAt wl b L' wr ∧ w.grownBy wl (some b) ∧ acc.length + m ≤ 255 ∧ Hid (valsOf L = if wr = true then none else (valsP m L').map fun q => (acc ++ q.1, q.2))) (fun _ i _ => (intOf i).toNat)
  case atStart => exact ⟨[], m0, L0, wr0, rfl, World.ownsRow_nil _ _ _ _, r1, g1, by simp; omega, HS⟩
  case round =>
    obtain ⟨acc, m, L', bad, rfl, hown, hr, hg, hacc, HE⟩ := hrel
    clear n1 r1 g1 HS hm0
    obtain ⟨⟨c0, c1⟩, f0, f1⟩ := two hr
    by_cases hm : 0 < m
    · have hm' : (m : Int) > 0 := by omega
      cases bad with
      | true =>
        obtain ⟨ao, cap, hv⟩ := owns_slice hown
        subst hv
        have Hown := hide hown
        clear hown
        go_wp2
        go_ret
        exact ⟨_, acc, L', true, rfl, Hown.out, hr, hg, by omega, HE.out⟩
      | false =>
        have hval := value_any b L' wr hr
        obtain ⟨m, rfl⟩ : ∃ m', m = m' + 1 := ⟨m - 1, by omega⟩
        have HE2 := HE.out
        simp only [Bool.false_eq_true, if_false] at HE2
        replace HE2 := hide HE2
        clear HE
        go_wp2_with fail
        refine hval.mono ?_
        rintro e wc ⟨x, L2, wr2, rfl, rc, gc, hv⟩
        have HE3 := hide (vals_step L m acc x L' L2 wr2 HE2.out hv)
        have hown2 := (hown.kept gc (own_ne hown hlt)).alloc (.cells #[.int .i64 x.k, .int .i64 x.n, .string ⟨x.s.toArray⟩] 36)
        have rc1 := rc.alloc (.cells #[.int .i64 x.k, .int .i64 x.n, .string ⟨x.s.toArray⟩] 36)
        have q := grown_alloc (grown_trans hg gc) (.cells #[.int .i64 x.k, .int .i64 x.n, .string ⟨x.s.toArray⟩] 36)
        have hlt5 := hown2.lt
        have hgs := hg.size
        have hgs2 := gc.size
        clear HE2 hv hval hown hr rc c0 c1 f0 f1
        rw [vlV]
        go_wp2_with (at_builtin; refine wpList_append_own _ rfl _ _ 22 rfl w.heap.size 36 i0 (.agg #[.int .i64 0, .int .i64 0, .string ⟨#[]⟩]) 3 32 Try.underlying22 hi hz0 hz1 hz2 rfl (by decide) _ _ _ rfl hown2 ⟨wc.heap.size, 0, none⟩ 1 1 [.int .i64 x.k, .int .i64 x.n, .string ⟨x.s.toArray⟩] rfl rfl ?c1 ?c2 ?c3 ?c4 ?c5 ?_)
        case c1 =>
          intro j u hj
          match j, hj with
            | 0, hj => simp at hj; subst hj; simp [Addr.add]
            | 1, hj => simp at hj; subst hj; simp [Addr.add]
            | 2, hj => simp at hj; subst hj; simp [Addr.add]
        case c2 => intro u hu; simp at hu; rcases hu with rfl | rfl | rfl <;> rfl
        case c3 => unfold maxLen; omega
        case c4 => omega
        case c5 => simp; omega
        intro v' w3 hown' hgrow _
        have hg3 : w.grownBy w3 (some b) := by
          refine ⟨hgrow.os.trans q.os, hgrow.tape.trans q.tape, hgrow.output.trans q.output, Nat.le_trans q.size hgrow.size, fun k hk hr => (hgrow.block k (Nat.lt_of_lt_of_le hk q.size) ?_).trans (q.block k hk hr)⟩
          intro e
          have := (hlt5 _ e.symm).1
          omega
        have rc3 : RdAt w3 b L2 wr2 := rc1.keep (hgrow.block b rc1.lt (fun e => by have := (hlt5 _ e.symm).1; omega))
        have R3 : w3.ownsRow w.heap.size 36 3 v' (acc ++ [x]).length ((acc ++ [x]).flatMap vlC) := by
          rw [List.length_append, List.flatMap_append]
          have e1 : [x].flatMap vlC = vlC x := by simp
          rw [e1]; exact hown'
        clear hown' hgrow hown2 hlt5 rc1 gc hg q
        go_wp2
        go_roundw
        case rel => exact ⟨acc ++ [x], m, L2, wr2, by go_num, R3, rc3, hg3, by simp; omega, HE3⟩
        case measure => simp [intOf]
    · obtain rfl : m = 0 := by omega
      obtain ⟨ao, cap, hv⟩ := owns_slice hown
      subst hv
      have Hown := hide hown
      clear hown
      go_wp2
      go_ret
      refine ⟨_, acc, L', bad, rfl, Hown.out, hr, hg, by omega, ?_⟩
      rw [HE.out]
      cases bad <;> simp [valsP]

end Go.Proofs.Ytkpeklealgicpac
