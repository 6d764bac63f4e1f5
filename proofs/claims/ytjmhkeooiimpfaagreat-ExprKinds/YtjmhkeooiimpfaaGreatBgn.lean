/-
  The law's exprBegun.
-/
import Derived.Test.YtjmhkeooiimpfaaGreatCol
import Derived.Deep.DeepCutAuto
namespace Go.Proofs.YtjmhkeooiimpfaaGreat

section
open Go.RowKit

theorem eq31c (W : World) (x y : Operand) (n m : Int) : (do eqGuard .eql 31 x y (.int .i64 n) (.int .i64 m); binOp .eql 31 (.int .i64 n) (.int .i64 m) : Sem Value).run Tryz.prog W = .ok (.bool (decide (n = m))) W := by
  by_cases h : n = m
  · subst h; go_simp
  · have h1 : (n == m) = false := by simpa using h
    go_simp
theorem eq25t (W : World) (x y : Operand) : (do eqGuard .eql 25 x y (.agg #[.int .i64 1, .int .i64 4, .string ⟨#[]⟩]) (.agg #[.int .i64 1, .int .i64 4, .string ⟨#[]⟩]); binOp .eql 25 (.agg #[.int .i64 1, .int .i64 4, .string ⟨#[]⟩]) (.agg #[.int .i64 1, .int .i64 4, .string ⟨#[]⟩]) : Sem Value).run Tryz.prog W = .ok (.bool true) W := by
  have h : (binOp .eql 25 (.agg #[.int .i64 1, .int .i64 4, .string ⟨#[]⟩]) (.agg #[.int .i64 1, .int .i64 4, .string ⟨#[]⟩])).run Tryz.prog W = .ok (.bool true) W := by rw [eql25, show sameTk 1 4 ⟨#[]⟩ 1 4 ⟨#[]⟩ = true by simp [sameTk]]
  go_simp
theorem cf14 (args : Array Value) (W : World) : (callFunc 9 args).run Tryz.prog W = .ok (.enter 9 args) W := by go_simp

noncomputable def rb7_R : Array Oper := ((Tryz.f4.body).bind (regionOf 7)).getD #[]
def rb7_V  (j : Nat) : Value := ([.int .i64 0, .bool (decide ((0 : Int) = 0)), .bool (decide ((0 : Int) = 0)), gw ((decide ((0 : Int) = 0)) == true) (.int .i64 0), gw ((decide ((0 : Int) = 0)) == true) (.bool (decide ((0 : Int) = 0))), .bool ((decide ((0 : Int) = 0)) && (decide ((0 : Int) = 0))), .bool ((decide ((0 : Int) = 0)) && (decide ((0 : Int) = 0))), gw (((decide ((0 : Int) = 0)) && (decide ((0 : Int) = 0))) == true) (.int .i64 0), gw (((decide ((0 : Int) = 0)) && (decide ((0 : Int) = 0))) == true) (.bool (decide ((0 : Int) = 0))), .bool (((decide ((0 : Int) = 0)) && (decide ((0 : Int) = 0))) && (decide ((0 : Int) = 0))), .bool (((decide ((0 : Int) = 0)) && (decide ((0 : Int) = 0))) && (decide ((0 : Int) = 0))), gw ((((decide ((0 : Int) = 0)) && (decide ((0 : Int) = 0))) && (decide ((0 : Int) = 0))) == true) (.int .i64 3), gw ((((decide ((0 : Int) = 0)) && (decide ((0 : Int) = 0))) && (decide ((0 : Int) = 0))) == true) (.bool (decide ((3 : Int) = 3))), .bool ((((decide ((0 : Int) = 0)) && (decide ((0 : Int) = 0))) && (decide ((0 : Int) = 0))) && (decide ((3 : Int) = 3))), .bool ((((decide ((0 : Int) = 0)) && (decide ((0 : Int) = 0))) && (decide ((0 : Int) = 0))) && (decide ((3 : Int) = 3))), gw (((((decide ((0 : Int) = 0)) && (decide ((0 : Int) = 0))) && (decide ((0 : Int) = 0))) && (decide ((3 : Int) = 3))) == true) (.agg #[.int .i64 1, .int .i64 4, .string ⟨#[]⟩]), gw (((((decide ((0 : Int) = 0)) && (decide ((0 : Int) = 0))) && (decide ((0 : Int) = 0))) && (decide ((3 : Int) = 3))) == true) (.agg #[.int .i64 1, .int .i64 4, .string ⟨#[]⟩]), gw (((((decide ((0 : Int) = 0)) && (decide ((0 : Int) = 0))) && (decide ((0 : Int) = 0))) && (decide ((3 : Int) = 3))) == true) (.bool true), .bool (((((decide ((0 : Int) = 0)) && (decide ((0 : Int) = 0))) && (decide ((0 : Int) = 0))) && (decide ((3 : Int) = 3))) && true), .bool (((((decide ((0 : Int) = 0)) && (decide ((0 : Int) = 0))) && (decide ((0 : Int) = 0))) && (decide ((3 : Int) = 3))) && true), gw ((((((decide ((0 : Int) = 0)) && (decide ((0 : Int) = 0))) && (decide ((0 : Int) = 0))) && (decide ((3 : Int) = 3))) && true) == true) (.bool true), .bool ((((((decide ((0 : Int) = 0)) && (decide ((0 : Int) = 0))) && (decide ((0 : Int) = 0))) && (decide ((3 : Int) = 3))) && true) && true), .bool ((((((decide ((0 : Int) = 0)) && (decide ((0 : Int) = 0))) && (decide ((0 : Int) = 0))) && (decide ((3 : Int) = 3))) && true) && true)] : List Value).getD j undef
def rb7_d : List (Option Tmp) := [some 39, some 40, some 41, some 42, some 43, some 44, some 45, some 46, some 47, some 48, some 49, some 50, some 51, some 52, some 53, some 54, some 55, some 56, some 57, some 58, some 59, some 60, some 0]
set_option maxRecDepth 100000 in
theorem rb7_nodup : rb7_d.Nodup := by unfold rb7_d; decide

set_option maxRecDepth 100000 in
theorem rb7_wp {vb : Nat} {S : World → Prop} {a0 : Act} {Q : Exit → Act → World → Prop} {w : World} (h5 : a0.tmps[5]? = some (.int .i64 0)) (h7 : a0.tmps[7]? = some (.int .i64 0)) (h9 : a0.tmps[9]? = some (.int .i64 0)) (h4 : a0.tmps[4]? = some (.int .i64 3)) (h8 : a0.tmps[8]? = some (.bool true)) (h6 : a0.tmps[6]? = some (.pointer (some ⟨vb, 0, none⟩))) (hcv : ∀ W, S W → W.cell? ⟨vb, 0, none⟩ = some (.int .i64 1) ∧ W.cell? ⟨vb, 1, none⟩ = some (.int .i64 4) ∧ W.cell? ⟨vb, 2, none⟩ = some (.string ⟨#[]⟩)) (q55 : ∀ W, S W → Calls Tryz.prog 9 #[.int .i64 4] W fun e w' => e = .returned (.agg #[.int .i64 1, .int .i64 4, .string ⟨#[]⟩]) ∧ S w') (ha : a0.tmps.size = 61) (hS : S w.drew)
    (hq : ∀ w', S w' → Q .normal { tmps := (putL a0.tmps.toList (rb7_d.zip ((List.range 23).map (rb7_V )))).toArray, defers := a0.defers } w') : (Code.region 7 rb7_R true).wp Tryz.prog Q a0 w := by
  have hz : rb7_R.size = 23 := by kernel_rfl
  refine wp_run (m := 61) (by kernel_rfl) hz (by kernel_rfl) (by kernel_rfl) rb7_nodup ha ?_ hS hq
  refine us ?_ (obRU hz (by decide) (by kernel_rfl) fun _ _ s _ => ex_assign (x := .tmp 60) (by kernel_rfl) (s.u 21 60 (by kernel_rfl)))
  refine us ?_ (obRU hz (by decide) (by kernel_rfl) fun _ _ s _ => ex_pickA (G := true) (by kernel_rfl) (s.u 19 58 (by kernel_rfl)) (s.u 20 59 (by kernel_rfl)) rfl rfl)
  refine us ?_ (obRG true 19 58 true hz (by decide) (by kernel_rfl) rfl rfl fun _ _ _ s _ => ex_move (x := .tmp 8) (by kernel_rfl) (s.b 8 (by kernel_rfl) h8))
  refine us ?_ (obRU hz (by decide) (by kernel_rfl) fun _ _ s _ => ex_move (x := .tmp 57) (by kernel_rfl) (s.u 18 57 (by kernel_rfl)))
  refine us ?_ (obRU hz (by decide) (by kernel_rfl) fun _ _ s _ => ex_pickA (G := true) (by kernel_rfl) (s.u 14 53 (by kernel_rfl)) (s.u 17 56 (by kernel_rfl)) rfl rfl)
  refine us ?_ (obRG true 14 53 true hz (by decide) (by kernel_rfl) rfl rfl fun hG _ W s _ => ex_bin (u := 25) (x := .tmp 54) (y := .tmp 55) (by kernel_rfl) (s.g 15 54 (by kernel_rfl) hG rfl) (s.g 16 55 (by kernel_rfl) hG rfl) (eq25t W _ _))
  refine us ?_ (obRH true 14 53 true hz (by decide) (by kernel_rfl) rfl rfl (fun _ _ _ _ => ex_call1 (ts := #[3]) (x := .const (.int .i64 4)) (f := 9) cf14 (by kernel_rfl) rfl (rfl)) q55)
  refine us ?_ (obRG true 14 53 true hz (by decide) (by kernel_rfl) rfl rfl fun _ _ W s hS => ex_load (x := .tmp 6) (t := 25) (by kernel_rfl) (s.b 6 (by kernel_rfl) h6) (ld25 W _ 0 _ _ _ ((hcv W hS).1) ((hcv W hS).2.1) ((hcv W hS).2.2)))
  refine us ?_ (obRU hz (by decide) (by kernel_rfl) fun _ _ s _ => ex_move (x := .tmp 52) (by kernel_rfl) (s.u 13 52 (by kernel_rfl)))
  refine us ?_ (obRU hz (by decide) (by kernel_rfl) fun _ _ s _ => ex_pickA (G := true) (by kernel_rfl) (s.u 10 49 (by kernel_rfl)) (s.u 12 51 (by kernel_rfl)) rfl rfl)
  refine us ?_ (obRG true 10 49 true hz (by decide) (by kernel_rfl) rfl rfl fun hG _ W s _ => ex_bin (u := 3) (x := .tmp 50) (y := .const (.int .i64 3)) (by kernel_rfl) (s.g 11 50 (by kernel_rfl) hG rfl) (rfl) (eq3c W _ _ _ _))
  refine us ?_ (obRG true 10 49 true hz (by decide) (by kernel_rfl) rfl rfl fun _ _ _ s _ => ex_move (x := .tmp 4) (by kernel_rfl) (s.b 4 (by kernel_rfl) h4))
  refine us ?_ (obRU hz (by decide) (by kernel_rfl) fun _ _ s _ => ex_move (x := .tmp 48) (by kernel_rfl) (s.u 9 48 (by kernel_rfl)))
  refine us ?_ (obRU hz (by decide) (by kernel_rfl) fun _ _ s _ => ex_pickA (G := true) (by kernel_rfl) (s.u 6 45 (by kernel_rfl)) (s.u 8 47 (by kernel_rfl)) rfl rfl)
  refine us ?_ (obRG true 6 45 true hz (by decide) (by kernel_rfl) rfl rfl fun hG _ W s _ => ex_bin (u := 31) (x := .tmp 46) (y := .const (.int .i64 0)) (by kernel_rfl) (s.g 7 46 (by kernel_rfl) hG rfl) (rfl) (eq31c W _ _ _ _))
  refine us ?_ (obRG true 6 45 true hz (by decide) (by kernel_rfl) rfl rfl fun _ _ _ s _ => ex_move (x := .tmp 9) (by kernel_rfl) (s.b 9 (by kernel_rfl) h9))
  refine us ?_ (obRU hz (by decide) (by kernel_rfl) fun _ _ s _ => ex_move (x := .tmp 44) (by kernel_rfl) (s.u 5 44 (by kernel_rfl)))
  refine us ?_ (obRU hz (by decide) (by kernel_rfl) fun _ _ s _ => ex_pickA (G := true) (by kernel_rfl) (s.u 2 41 (by kernel_rfl)) (s.u 4 43 (by kernel_rfl)) rfl rfl)
  refine us ?_ (obRG true 2 41 true hz (by decide) (by kernel_rfl) rfl rfl fun hG _ W s _ => ex_bin (u := 31) (x := .tmp 42) (y := .const (.int .i64 0)) (by kernel_rfl) (s.g 3 42 (by kernel_rfl) hG rfl) (rfl) (eq31c W _ _ _ _))
  refine us ?_ (obRG true 2 41 true hz (by decide) (by kernel_rfl) rfl rfl fun _ _ _ s _ => ex_move (x := .tmp 7) (by kernel_rfl) (s.b 7 (by kernel_rfl) h7))
  refine us ?_ (obRU hz (by decide) (by kernel_rfl) fun _ _ s _ => ex_move (x := .tmp 40) (by kernel_rfl) (s.u 1 40 (by kernel_rfl)))
  refine us ?_ (obRU hz (by decide) (by kernel_rfl) fun _ W s _ => ex_bin (u := 31) (x := .tmp 39) (y := .const (.int .i64 0)) (by kernel_rfl) (s.u 0 39 (by kernel_rfl)) (rfl) (eq31c W _ _ _ _))
  refine us ?_ (obRU hz (by decide) (by kernel_rfl) fun _ _ s _ => ex_move (x := .tmp 5) (by kernel_rfl) (s.b 5 (by kernel_rfl) h5))
  exact fun j hj => absurd hj (Nat.not_lt_zero j)
end

section
open Go.RowKit

def xA : Ex := .mk 2 vl0 [97] []
def zA : Ex := .mk 1 ⟨1, 5, []⟩ [] []
def yA : Ex := .mk 10 vl0 [] [xA, zA]
def rA : List Vl := [⟨1, 4, []⟩, vl0]
theorem kind_yA : kindX twoC yA = (3, 0) := by kernel_rfl
theorem eval_xA : evalX twoC rA xA = (⟨1, 4, []⟩, 0) := by kernel_rfl
theorem holds_yA : holdsX twoC rA yA = (true, 0) := by kernel_rfl
theorem fit_xA : Fit xA := .mk _ _ _ _ (by decide) (by decide) (by decide) (fun y hy => by cases hy)
theorem fit_zA : Fit zA := .mk _ _ _ _ (by decide) (by decide) (by decide) (fun y hy => by cases hy)
theorem fit_yA : Fit yA := .mk _ _ _ _ (by decide) (by decide) (by decide) (fun y hy => by
  simp only [List.mem_cons, List.not_mem_nil, or_false] at hy
  rcases hy with rfl | rfl
  · exact fit_xA
  · exact fit_zA)

theorem ex_yA (w3 : World) (s : Nat) (hk : w3.heap[s]? = some (.cells #[.int .i64 2, .int .i64 0, .int .i64 0, .string ⟨#[]⟩, .string ⟨#[97]⟩, .slice none 0 0, .int .i64 1, .int .i64 1, .int .i64 5, .string ⟨#[]⟩, .string ⟨#[]⟩, .slice none 0 0] 28)) : ExAt 0 w3 (exV 10 vl0 [] (.slice (some ⟨s, 0, none⟩) 2 2)) yA := by
  have hc : ∀ q, w3.cell? ⟨s, q, none⟩ = (#[.int .i64 2, .int .i64 0, .int .i64 0, .string ⟨#[]⟩, .string ⟨#[97]⟩, .slice none 0 0, .int .i64 1, .int .i64 1, .int .i64 5, .string ⟨#[]⟩, .string ⟨#[]⟩, .slice none 0 0] : Array Value)[q]? := fun q => Lib.cell_of_heap hk q
  refine ExAt.args 10 vl0 [] s 0 2 [xA, zA] (fun i => if i = 0 then exV 2 vl0 [97] (.slice none 0 0) else exV 1 ⟨1, 5, []⟩ [] (.slice none 0 0)) (by simp) (Nat.zero_le _) (Array.getElem?_eq_some_iff.1 hk).1 (fun i hi => ?_) (fun i y hy => ?_)
  · match i, hi with
    | 0, _ => exact ⟨2, vl0, [97], .slice none 0 0, rfl, hc _, hc _, hc _, hc _, hc _, hc _⟩
    | 1, _ => exact ⟨1, ⟨1, 5, []⟩, [], .slice none 0 0, rfl, hc _, hc _, hc _, hc _, hc _, hc _⟩
    | i + 2, hi => simp at hi; omega
  · match i, hy with
    | 0, hy => cases hy; exact ExAt.nil 2 vl0 [97] none 0 (fun _ => rfl)
    | 1, hy => cases hy; exact ExAt.nil 1 ⟨1, 5, []⟩ [] none 0 (fun _ => rfl)
    | i + 2, hy => cases hy

theorem vs_rA (w4 : World) : VsAt (w4.alloc (.cells #[.int .i64 1, .int .i64 4, .string ⟨#[]⟩, .int .i64 0, .int .i64 0, .string ⟨#[]⟩] 25)) (.slice (some ⟨w4.heap.size, 0, none⟩) 2 2) rA := by
  have hc : ∀ q, (w4.alloc (.cells #[.int .i64 1, .int .i64 4, .string ⟨#[]⟩, .int .i64 0, .int .i64 0, .string ⟨#[]⟩] 25)).cell? ⟨w4.heap.size, q, none⟩ = (#[.int .i64 1, .int .i64 4, .string ⟨#[]⟩, .int .i64 0, .int .i64 0, .string ⟨#[]⟩] : Array Value)[q]? := fun q => Lib.cell_of_heap (heap_alloc_new _ _) q
  refine ⟨some ⟨w4.heap.size, 0, none⟩, 2, rfl, by decide, (fun x hx => ?_), fun _ => ⟨w4.heap.size, 0, rfl, by simp, fun i x hx => ?_⟩⟩
  · simp only [rA, List.mem_cons, List.not_mem_nil, or_false] at hx
    rcases hx with rfl | rfl <;> decide
  · match i, hx with
    | 0, hx => cases hx; exact ⟨hc _, hc _, hc _⟩
    | 1, hx => cases hx; exact ⟨hc _, hc _, hc _⟩
    | i + 2, hx => cases hx

theorem six_of {W : World} {b : Nat} {c0 c1 c2 c3 c4 c5 : Value} {t : TypeId} (h : W.heap[b]? = some (.cells #[c0, c1, c2, c3, c4, c5] t)) :
    (W.cell? ⟨b, 0, none⟩ = some c0 ∧ W.cell? ⟨b, 1, none⟩ = some c1 ∧ W.cell? ⟨b, 2, none⟩ = some c2 ∧ W.cell? ⟨b, 3, none⟩ = some c3 ∧ W.cell? ⟨b, 4, none⟩ = some c4 ∧ W.cell? ⟨b, 5, none⟩ = some c5) ∧ (W.frozen? ⟨b, 0, none⟩ = false ∧ W.frozen? ⟨b, 1, none⟩ = false ∧ W.frozen? ⟨b, 2, none⟩ = false ∧ W.frozen? ⟨b, 3, none⟩ = false ∧ W.frozen? ⟨b, 4, none⟩ = false ∧ W.frozen? ⟨b, 5, none⟩ = false) := by
  refine ⟨⟨?_, ?_, ?_, ?_, ?_, ?_⟩, Lib.frozen_of_heap h 0, Lib.frozen_of_heap h 1, Lib.frozen_of_heap h 2, Lib.frozen_of_heap h 3, Lib.frozen_of_heap h 4, Lib.frozen_of_heap h 5⟩
  all_goals rw [Lib.cell_of_heap h]; rfl

theorem bgn_A (V w2 : World) (hB : Below V.heap.size V w2) : Below V.heap.size V ((w2.alloc (.cells #[.int .i64 2, .int .i64 0, .int .i64 0, .string ⟨#[]⟩, .string ⟨#[97]⟩, .slice none 0 0, .int .i64 1, .int .i64 1, .int .i64 5, .string ⟨#[]⟩, .string ⟨#[]⟩, .slice none 0 0] 28)).alloc (.cells #[.int .i64 10, .int .i64 0, .int .i64 0, .string ⟨#[]⟩, .string ⟨#[]⟩, .slice (some ⟨w2.heap.size, 0, none⟩) 2 2] 28)) ∧ ((w2.alloc (.cells #[.int .i64 2, .int .i64 0, .int .i64 0, .string ⟨#[]⟩, .string ⟨#[97]⟩, .slice none 0 0, .int .i64 1, .int .i64 1, .int .i64 5, .string ⟨#[]⟩, .string ⟨#[]⟩, .slice none 0 0] 28)).alloc (.cells #[.int .i64 10, .int .i64 0, .int .i64 0, .string ⟨#[]⟩, .string ⟨#[]⟩, .slice (some ⟨w2.heap.size, 0, none⟩) 2 2] 28)).heap[w2.heap.size]? = some (.cells #[.int .i64 2, .int .i64 0, .int .i64 0, .string ⟨#[]⟩, .string ⟨#[97]⟩, .slice none 0 0, .int .i64 1, .int .i64 1, .int .i64 5, .string ⟨#[]⟩, .string ⟨#[]⟩, .slice none 0 0] 28) ∧ ((w2.alloc (.cells #[.int .i64 2, .int .i64 0, .int .i64 0, .string ⟨#[]⟩, .string ⟨#[97]⟩, .slice none 0 0, .int .i64 1, .int .i64 1, .int .i64 5, .string ⟨#[]⟩, .string ⟨#[]⟩, .slice none 0 0] 28)).alloc (.cells #[.int .i64 10, .int .i64 0, .int .i64 0, .string ⟨#[]⟩, .string ⟨#[]⟩, .slice (some ⟨w2.heap.size, 0, none⟩) 2 2] 28)).heap[w2.heap.size + 1]? = some (.cells #[.int .i64 10, .int .i64 0, .int .i64 0, .string ⟨#[]⟩, .string ⟨#[]⟩, .slice (some ⟨w2.heap.size, 0, none⟩) 2 2] 28) := by
  have hz : (w2.alloc (.cells #[.int .i64 2, .int .i64 0, .int .i64 0, .string ⟨#[]⟩, .string ⟨#[97]⟩, .slice none 0 0, .int .i64 1, .int .i64 1, .int .i64 5, .string ⟨#[]⟩, .string ⟨#[]⟩, .slice none 0 0] 28)).heap.size = w2.heap.size + 1 := by simp
  have zB := hB.size
  refine ⟨(hB.alloc zB _).alloc (by rw [hz]; omega) _, ?_, ?_⟩
  · exact (((Below.refl _ _).alloc (Nat.le_refl (w2.alloc (.cells #[.int .i64 2, .int .i64 0, .int .i64 0, .string ⟨#[]⟩, .string ⟨#[97]⟩, .slice none 0 0, .int .i64 1, .int .i64 1, .int .i64 5, .string ⟨#[]⟩, .string ⟨#[]⟩, .slice none 0 0] 28)).heap.size) _).block w2.heap.size (by rw [hz]; omega)).trans (heap_alloc_new _ _)
  · rw [← hz]; exact heap_alloc_new _ _

theorem bgn_C (V w2 : World) (hB : Below V.heap.size V w2) : Below V.heap.size V ((w2.alloc (.cells #[.int .i64 10, .int .i64 0, .int .i64 0, .string ⟨#[]⟩, .string ⟨#[]⟩, .slice (some ⟨(w2.heap.size + 1), 0, none⟩) 2 2] 28)).alloc (.cells #[.int .i64 2, .int .i64 0, .int .i64 0, .string ⟨#[]⟩, .string ⟨#[97]⟩, .slice none 0 0, .int .i64 1, .int .i64 1, .int .i64 5, .string ⟨#[]⟩, .string ⟨#[]⟩, .slice none 0 0] 28)) ∧ ((w2.alloc (.cells #[.int .i64 10, .int .i64 0, .int .i64 0, .string ⟨#[]⟩, .string ⟨#[]⟩, .slice (some ⟨(w2.heap.size + 1), 0, none⟩) 2 2] 28)).alloc (.cells #[.int .i64 2, .int .i64 0, .int .i64 0, .string ⟨#[]⟩, .string ⟨#[97]⟩, .slice none 0 0, .int .i64 1, .int .i64 1, .int .i64 5, .string ⟨#[]⟩, .string ⟨#[]⟩, .slice none 0 0] 28)).heap[w2.heap.size + 1]? = some (.cells #[.int .i64 2, .int .i64 0, .int .i64 0, .string ⟨#[]⟩, .string ⟨#[97]⟩, .slice none 0 0, .int .i64 1, .int .i64 1, .int .i64 5, .string ⟨#[]⟩, .string ⟨#[]⟩, .slice none 0 0] 28) ∧ ((w2.alloc (.cells #[.int .i64 10, .int .i64 0, .int .i64 0, .string ⟨#[]⟩, .string ⟨#[]⟩, .slice (some ⟨(w2.heap.size + 1), 0, none⟩) 2 2] 28)).alloc (.cells #[.int .i64 2, .int .i64 0, .int .i64 0, .string ⟨#[]⟩, .string ⟨#[97]⟩, .slice none 0 0, .int .i64 1, .int .i64 1, .int .i64 5, .string ⟨#[]⟩, .string ⟨#[]⟩, .slice none 0 0] 28)).heap[w2.heap.size]? = some (.cells #[.int .i64 10, .int .i64 0, .int .i64 0, .string ⟨#[]⟩, .string ⟨#[]⟩, .slice (some ⟨(w2.heap.size + 1), 0, none⟩) 2 2] 28) := by
  have hz : (w2.alloc (.cells #[.int .i64 10, .int .i64 0, .int .i64 0, .string ⟨#[]⟩, .string ⟨#[]⟩, .slice (some ⟨(w2.heap.size + 1), 0, none⟩) 2 2] 28)).heap.size = w2.heap.size + 1 := by simp
  have zB := hB.size
  refine ⟨(hB.alloc zB _).alloc (by rw [hz]; omega) _, ?_, ?_⟩
  · have h := heap_alloc_new (w2.alloc (.cells #[.int .i64 10, .int .i64 0, .int .i64 0, .string ⟨#[]⟩, .string ⟨#[]⟩, .slice (some ⟨(w2.heap.size + 1), 0, none⟩) 2 2] 28)) (.cells #[.int .i64 2, .int .i64 0, .int .i64 0, .string ⟨#[]⟩, .string ⟨#[97]⟩, .slice none 0 0, .int .i64 1, .int .i64 1, .int .i64 5, .string ⟨#[]⟩, .string ⟨#[]⟩, .slice none 0 0] 28)
    rw [hz] at h; exact h
  · exact (((Below.refl _ _).alloc (Nat.le_refl (w2.alloc (.cells #[.int .i64 10, .int .i64 0, .int .i64 0, .string ⟨#[]⟩, .string ⟨#[]⟩, .slice (some ⟨(w2.heap.size + 1), 0, none⟩) 2 2] 28)).heap.size) _).block w2.heap.size (by rw [hz]; omega)).trans (heap_alloc_new _ _)

theorem six_set {W : World} {b : Nat} {c0 c1 c2 c3 c4 c5 : Value} {t : TypeId} (h : W.heap[b]? = some (.cells #[c0, c1, c2, c3, c4, c5] t)) (d0 d1 d2 d3 d4 d5 : Value) :
    ((((((W.setCell ⟨b, 0, none⟩ d0).setCell ⟨b, 1, none⟩ d1).setCell ⟨b, 2, none⟩ d2).setCell ⟨b, 3, none⟩ d3).setCell ⟨b, 4, none⟩ d4).setCell ⟨b, 5, none⟩ d5).heap[b]? = some (.cells #[d0, d1, d2, d3, d4, d5] t) :=
  heap_setCell_same _ b 5 _ t d5 (heap_setCell_same _ b 4 _ t d4 (heap_setCell_same _ b 3 _ t d3 (heap_setCell_same _ b 2 _ t d2 (heap_setCell_same _ b 1 _ t d1 (heap_setCell_same W b 0 _ t d0 h)))))

theorem bgn_B (V w2 : World) (b : Nat) (hb : V.heap.size ≤ b) (zz : b < w2.heap.size) (hB : Below V.heap.size V w2) (kz : w2.heap[b]? = some (.cells #[.int .i64 0, .int .i64 0, .int .i64 0, .string ⟨#[]⟩, .string ⟨#[]⟩, .slice none 0 0] 28)) :
    Below V.heap.size V (((((((w2.setCell ⟨b, 0, none⟩ (.int .i64 10)).setCell ⟨b, 1, none⟩ (.int .i64 0)).setCell ⟨b, 2, none⟩ (.int .i64 0)).setCell ⟨b, 3, none⟩ (.string ⟨#[]⟩)).setCell ⟨b, 4, none⟩ (.string ⟨#[]⟩)).setCell ⟨b, 5, none⟩ (.slice (some ⟨w2.heap.size, 0, none⟩) 2 2)).alloc (.cells #[.int .i64 2, .int .i64 0, .int .i64 0, .string ⟨#[]⟩, .string ⟨#[97]⟩, .slice none 0 0, .int .i64 1, .int .i64 1, .int .i64 5, .string ⟨#[]⟩, .string ⟨#[]⟩, .slice none 0 0] 28)) ∧ (((((((w2.setCell ⟨b, 0, none⟩ (.int .i64 10)).setCell ⟨b, 1, none⟩ (.int .i64 0)).setCell ⟨b, 2, none⟩ (.int .i64 0)).setCell ⟨b, 3, none⟩ (.string ⟨#[]⟩)).setCell ⟨b, 4, none⟩ (.string ⟨#[]⟩)).setCell ⟨b, 5, none⟩ (.slice (some ⟨w2.heap.size, 0, none⟩) 2 2)).alloc (.cells #[.int .i64 2, .int .i64 0, .int .i64 0, .string ⟨#[]⟩, .string ⟨#[97]⟩, .slice none 0 0, .int .i64 1, .int .i64 1, .int .i64 5, .string ⟨#[]⟩, .string ⟨#[]⟩, .slice none 0 0] 28)).heap[w2.heap.size]? = some (.cells #[.int .i64 2, .int .i64 0, .int .i64 0, .string ⟨#[]⟩, .string ⟨#[97]⟩, .slice none 0 0, .int .i64 1, .int .i64 1, .int .i64 5, .string ⟨#[]⟩, .string ⟨#[]⟩, .slice none 0 0] 28) ∧ (((((((w2.setCell ⟨b, 0, none⟩ (.int .i64 10)).setCell ⟨b, 1, none⟩ (.int .i64 0)).setCell ⟨b, 2, none⟩ (.int .i64 0)).setCell ⟨b, 3, none⟩ (.string ⟨#[]⟩)).setCell ⟨b, 4, none⟩ (.string ⟨#[]⟩)).setCell ⟨b, 5, none⟩ (.slice (some ⟨w2.heap.size, 0, none⟩) 2 2)).alloc (.cells #[.int .i64 2, .int .i64 0, .int .i64 0, .string ⟨#[]⟩, .string ⟨#[97]⟩, .slice none 0 0, .int .i64 1, .int .i64 1, .int .i64 5, .string ⟨#[]⟩, .string ⟨#[]⟩, .slice none 0 0] 28)).heap[b]? = some (.cells #[.int .i64 10, .int .i64 0, .int .i64 0, .string ⟨#[]⟩, .string ⟨#[]⟩, .slice (some ⟨w2.heap.size, 0, none⟩) 2 2] 28) := by
  have hz6' : ((((((w2.setCell ⟨b, 0, none⟩ (.int .i64 10)).setCell ⟨b, 1, none⟩ (.int .i64 0)).setCell ⟨b, 2, none⟩ (.int .i64 0)).setCell ⟨b, 3, none⟩ (.string ⟨#[]⟩)).setCell ⟨b, 4, none⟩ (.string ⟨#[]⟩)).setCell ⟨b, 5, none⟩ (.slice (some ⟨w2.heap.size, 0, none⟩) 2 2)).heap.size = w2.heap.size := by simp
  have hb6 : Below V.heap.size V ((((((w2.setCell ⟨b, 0, none⟩ (.int .i64 10)).setCell ⟨b, 1, none⟩ (.int .i64 0)).setCell ⟨b, 2, none⟩ (.int .i64 0)).setCell ⟨b, 3, none⟩ (.string ⟨#[]⟩)).setCell ⟨b, 4, none⟩ (.string ⟨#[]⟩)).setCell ⟨b, 5, none⟩ (.slice (some ⟨w2.heap.size, 0, none⟩) 2 2)) := (((((hB.setCell (p := ⟨b, 0, none⟩) hb _).setCell (p := ⟨b, 1, none⟩) hb _).setCell (p := ⟨b, 2, none⟩) hb _).setCell (p := ⟨b, 3, none⟩) hb _).setCell (p := ⟨b, 4, none⟩) hb _).setCell (p := ⟨b, 5, none⟩) hb _
  have k6 := six_set kz (.int .i64 10) (.int .i64 0) (.int .i64 0) (.string ⟨#[]⟩) (.string ⟨#[]⟩) (.slice (some ⟨w2.heap.size, 0, none⟩) 2 2)
  generalize ((((((w2.setCell ⟨b, 0, none⟩ (.int .i64 10)).setCell ⟨b, 1, none⟩ (.int .i64 0)).setCell ⟨b, 2, none⟩ (.int .i64 0)).setCell ⟨b, 3, none⟩ (.string ⟨#[]⟩)).setCell ⟨b, 4, none⟩ (.string ⟨#[]⟩)).setCell ⟨b, 5, none⟩ (.slice (some ⟨w2.heap.size, 0, none⟩) 2 2)) = V6 at *
  refine ⟨hb6.alloc hb6.size _, ?_, ?_⟩
  · rw [← hz6']; exact heap_alloc_new _ _
  · exact (((Below.refl _ _).alloc (Nat.le_refl V6.heap.size) _).block b (by rw [hz6']; exact zz)).trans k6

set_option maxRecDepth 100000 in
set_option maxHeartbeats 3200000 in
theorem begun_any (w : World) : Calls Tryz.prog 4 #[] w fun e w' => e = .returned (.bool true) ∧ Below w.heap.size w w' := by
  have bx := (Below.refl w.heap.size w).alloc (Nat.le_refl _) (.cells #[.int .i64 2, .int .i64 0, .int .i64 0, .string ⟨#[]⟩, .string ⟨#[97]⟩, .slice none 0 0] 28)
  have hx : ∀ W' : World, Below (w.alloc (.cells #[.int .i64 2, .int .i64 0, .int .i64 0, .string ⟨#[]⟩, .string ⟨#[97]⟩, .slice none 0 0] 28)).heap.size (w.alloc (.cells #[.int .i64 2, .int .i64 0, .int .i64 0, .string ⟨#[]⟩, .string ⟨#[97]⟩, .slice none 0 0] 28)) W' → W'.cell? ⟨w.heap.size, 0, none⟩ = some (.int .i64 2) ∧ W'.cell? ⟨w.heap.size, 1, none⟩ = some (.int .i64 0) ∧ W'.cell? ⟨w.heap.size, 2, none⟩ = some (.int .i64 0) ∧ W'.cell? ⟨w.heap.size, 3, none⟩ = some (.string ⟨#[]⟩) ∧ W'.cell? ⟨w.heap.size, 4, none⟩ = some (.string ⟨#[97]⟩) ∧ W'.cell? ⟨w.heap.size, 5, none⟩ = some (.slice none 0 0) := fun W' hW => ⟨(hW.cell (p := ⟨w.heap.size, 0, none⟩) (by simp)).trans (by simp), (hW.cell (p := ⟨w.heap.size, 1, none⟩) (by simp)).trans (by simp), (hW.cell (p := ⟨w.heap.size, 2, none⟩) (by simp)).trans (by simp), (hW.cell (p := ⟨w.heap.size, 3, none⟩) (by simp)).trans (by simp), (hW.cell (p := ⟨w.heap.size, 4, none⟩) (by simp)).trans (by simp), (hW.cell (p := ⟨w.heap.size, 5, none⟩) (by simp)).trans (by simp)⟩
  have HX := hide hx
  have hz6 : (World.drew (World.alloc (w.alloc (.cells #[.int .i64 2, .int .i64 0, .int .i64 0, .string ⟨#[]⟩, .string ⟨#[97]⟩, .slice none 0 0] 28)) (.cells #[.int .i64 0, .int .i64 0, .int .i64 0, .string ⟨#[]⟩, .string ⟨#[]⟩, .slice none 0 0] 28))).heap[w.heap.size + 1]? = some (.cells #[.int .i64 0, .int .i64 0, .int .i64 0, .string ⟨#[]⟩, .string ⟨#[]⟩, .slice none 0 0] 28) := by
    have hz : (w.alloc (.cells #[.int .i64 2, .int .i64 0, .int .i64 0, .string ⟨#[]⟩, .string ⟨#[97]⟩, .slice none 0 0] 28)).heap.size = w.heap.size + 1 := by simp
    rw [← hz]; exact heap_alloc_new _ _
  clear hx
  go_enter Tryz.func4, Tryz.ntmps4
  go_wp2_with fail
  go_cut [2] (fun s2 wx => ∃ s yb : Nat, s2 = .pointer (some ⟨yb, 0, none⟩) ∧ Below (w.alloc (.cells #[.int .i64 2, .int .i64 0, .int .i64 0, .string ⟨#[]⟩, .string ⟨#[97]⟩, .slice none 0 0] 28)).heap.size (w.alloc (.cells #[.int .i64 2, .int .i64 0, .int .i64 0, .string ⟨#[]⟩, .string ⟨#[97]⟩, .slice none 0 0] 28)) wx ∧ wx.heap[s]? = some (.cells #[.int .i64 2, .int .i64 0, .int .i64 0, .string ⟨#[]⟩, .string ⟨#[97]⟩, .slice none 0 0, .int .i64 1, .int .i64 1, .int .i64 5, .string ⟨#[]⟩, .string ⟨#[]⟩, .slice none 0 0] 28) ∧ wx.heap[yb]? = some (.cells #[.int .i64 10, .int .i64 0, .int .i64 0, .string ⟨#[]⟩, .string ⟨#[]⟩, .slice (some ⟨s, 0, none⟩) 2 2] 28))
  case first =>
    go_region_law (first
      | (go_simp; with_reducible refine (num_any 5 (World.drew (w.alloc (.cells #[.int .i64 2, .int .i64 0, .int .i64 0, .string ⟨#[]⟩, .string ⟨#[97]⟩, .slice none 0 0] 28)))).mono ?_; rintro e w2 ⟨rfl, b2⟩; have B2 := hide ((Below.refl (w.alloc (.cells #[.int .i64 2, .int .i64 0, .int .i64 0, .string ⟨#[]⟩, .string ⟨#[97]⟩, .slice none 0 0] 28)).heap.size (w.alloc (.cells #[.int .i64 2, .int .i64 0, .int .i64 0, .string ⟨#[]⟩, .string ⟨#[97]⟩, .slice none 0 0] 28))).drew.trans (b2.mono (by simp))); obtain ⟨x0, x1, x2, x3, x4, x5⟩ := HX.out w2 B2.out; have zw : w.heap.size < w2.heap.size := (by have := b2.size; simp at this; omega); clear b2; dsimp only)
      | (go_simp; with_reducible refine (num_any 5 (World.drew (World.alloc (w.alloc (.cells #[.int .i64 2, .int .i64 0, .int .i64 0, .string ⟨#[]⟩, .string ⟨#[97]⟩, .slice none 0 0] 28)) (.cells #[.int .i64 0, .int .i64 0, .int .i64 0, .string ⟨#[]⟩, .string ⟨#[]⟩, .slice none 0 0] 28)))).mono ?_; rintro e w2 ⟨rfl, b2⟩; have B2 := hide (((Below.refl (w.alloc (.cells #[.int .i64 2, .int .i64 0, .int .i64 0, .string ⟨#[]⟩, .string ⟨#[97]⟩, .slice none 0 0] 28)).heap.size (w.alloc (.cells #[.int .i64 2, .int .i64 0, .int .i64 0, .string ⟨#[]⟩, .string ⟨#[97]⟩, .slice none 0 0] 28))).alloc (Nat.le_refl _) (.cells #[.int .i64 0, .int .i64 0, .int .i64 0, .string ⟨#[]⟩, .string ⟨#[]⟩, .slice none 0 0] 28)).drew.trans (b2.mono (by simp))); obtain ⟨x0, x1, x2, x3, x4, x5⟩ := HX.out w2 B2.out; have KZ := hide ((b2.block (w.heap.size + 1) (by simp)).trans hz6); obtain ⟨⟨g0, g1, g2, g3, g4, g5⟩, f0, f1, f2, f3, f4, f5⟩ := six_of KZ.out; have zw : w.heap.size < w2.heap.size := (by have := b2.size; simp at this; omega); have zz : w.heap.size + 1 < w2.heap.size := (by have := b2.size; simp at this; omega); clear b2; dsimp only))
    all_goals (
      go_wp2_with fail
      go_meet
      first
        | (refine ⟨w2.heap.size, w2.heap.size + 1, ?_, ?_⟩
           · with_reducible rfl
           · exact bgn_A _ _ B2.out)
        | (refine ⟨w2.heap.size + 1, w2.heap.size, ?_, ?_⟩
           · with_reducible rfl
           · exact bgn_C _ _ B2.out)
        | (refine ⟨w2.heap.size, w.heap.size + 1, ?_, ?_⟩
           · with_reducible rfl
           · exact bgn_B _ _ _ (by simp) zz B2.out KZ.out))
  case rest =>
  obtain ⟨s, yb, rfl, p3, ks, ky⟩ := hcut
  generalize wc = w3 at *
  have hex := ex_yA w3 s ks
  have q3 : Below w.heap.size w w3 := bx.trans (p3.mono bx.size)
  have KY := hide ky
  have HEx := hide hex
  have hszx : w.heap.size + 1 ≤ w3.heap.size := by have := p3.size; simp at this; omega
  clear ks ky hex hz6
  go_wp2_with fail
  refine (num_any 4 _).mono ?_
  rintro e w4 ⟨rfl, b4⟩
  have p5 : Below w3.heap.size w3 (w4.alloc (.cells #[.int .i64 1, .int .i64 4, .string ⟨#[]⟩, .int .i64 0, .int .i64 0, .string ⟨#[]⟩] 25)) := b4.alloc b4.size _
  have hvs := vs_rA w4
  obtain ⟨t, ht⟩ : ∃ t, w4.heap.size = t := ⟨_, rfl⟩
  rw [ht] at hvs
  have HV := hide hvs
  have HTT := hide ht
  clear hvs b4 ht
  go_wp2_with fail
  rw [HTT.out]
  generalize (w4.alloc (.cells #[.int .i64 1, .int .i64 4, .string ⟨#[]⟩, .int .i64 0, .int .i64 0, .string ⟨#[]⟩] 25)) = w5 at *
  have hsz5 : w3.heap.size ≤ w5.heap.size := p5.size
  have hw5 : w.heap.size < w5.heap.size := by omega
  have hE : ∀ W' : World, Below w5.heap.size w5 W' → ExAt 0 W' (exV 10 vl0 [] (.slice (some ⟨s, 0, none⟩) 2 2)) yA ∧ (W'.cell? ⟨yb, 0, none⟩ = some (.int .i64 10) ∧ W'.cell? ⟨yb, 1, none⟩ = some (.int .i64 0) ∧ W'.cell? ⟨yb, 2, none⟩ = some (.int .i64 0) ∧ W'.cell? ⟨yb, 3, none⟩ = some (.string ⟨#[]⟩) ∧ W'.cell? ⟨yb, 4, none⟩ = some (.string ⟨#[]⟩) ∧ W'.cell? ⟨yb, 5, none⟩ = some (.slice (some ⟨s, 0, none⟩) 2 2)) ∧ (W'.cell? ⟨w.heap.size, 0, none⟩ = some (.int .i64 2) ∧ W'.cell? ⟨w.heap.size, 1, none⟩ = some (.int .i64 0) ∧ W'.cell? ⟨w.heap.size, 2, none⟩ = some (.int .i64 0) ∧ W'.cell? ⟨w.heap.size, 3, none⟩ = some (.string ⟨#[]⟩) ∧ W'.cell? ⟨w.heap.size, 4, none⟩ = some (.string ⟨#[97]⟩) ∧ W'.cell? ⟨w.heap.size, 5, none⟩ = some (.slice none 0 0)) ∧ VsAt W' (.slice (some ⟨t, 0, none⟩) 2 2) rA := fun W' hW => by
    have hW3 : Below w3.heap.size w3 W' := p5.trans (hW.mono hsz5)
    refine ⟨HEx.out.under hW3, ?_, HX.out W' (p3.trans (hW3.mono p3.size)), HV.out.below hW⟩
    have := six_of ((hW3.block yb (Array.getElem?_eq_some_iff.1 KY.out).1).trans KY.out)
    exact this.1
  have HE := hide hE
  have q5 : Below w.heap.size w w5 := q3.trans (p5.mono (by omega))
  clear hE p3 p5 q3 HEx KY HV HX HTT hszx
  obtain ⟨-, ⟨y0, y1, y2, y3, y4, y5⟩, ⟨x0, x1, x2, x3, x4, x5⟩, -⟩ := HE.out w5 (Below.refl _ _)
  go_cut [4, 5] (fun s4 s5 wx => s4 = .int .i64 3 ∧ s5 = .int .i64 0 ∧ Below w5.heap.size w5 wx)
  case first =>
    have hk := fun (W' : World) (hW : Below w5.heap.size w5 W') (u : Value) (cu : CsAt W' u twoC) => Kind_any twoC u (HE.out W' hW).1 fit_yA cu
    rw [kind_yA] at hk
    go_region_law (first
      | (have _ := CU4.out; go_simp; refine (hk t4 B4.out u4 CU4.out).mono ?_; rintro e r4 ⟨rfl, br4⟩; have R4 := hide (B4.out.trans (br4.mono B4.out.size)); obtain ⟨-, ⟨y0, y1, y2, y3, y4, y5⟩, ⟨x0, x1, x2, x3, x4, x5⟩, -⟩ := HE.out r4 R4.out; clear br4; dsimp only)
      | (go_simp; with_reducible refine (two_any (World.drew w5)).mono ?_; rintro e t4 ⟨u4, rfl, cu, b4⟩; have CU4 := hide cu; have B4 := hide ((Below.refl w5.heap.size w5).drew.trans (b4.mono (by simp; try omega))); obtain ⟨-, ⟨y0, y1, y2, y3, y4, y5⟩, ⟨x0, x1, x2, x3, x4, x5⟩, -⟩ := HE.out t4 B4.out; clear b4 cu; dsimp only))
    all_goals (go_wp2_with fail; go_meet; exact ⟨rfl, rfl, R4.out⟩)
  case rest =>
  obtain ⟨rfl, rfl, p7⟩ := hcut
  generalize wc = w7 at *
  have hs7 := p7.size
  have hw7 : w.heap.size < w7.heap.size := by omega
  clear y0 y1 y2 y3 y4 y5 x0 x1 x2 x3 x4 x5
  obtain ⟨-, ⟨y0, y1, y2, y3, y4, y5⟩, ⟨x0, x1, x2, x3, x4, x5⟩, -⟩ := HE.out w7 p7
  have hz25 : (World.drew (World.alloc w7 (.cells #[.int .i64 0, .int .i64 0, .string ⟨#[]⟩] 25))).heap[w7.heap.size]? = some (.cells #[.int .i64 0, .int .i64 0, .string ⟨#[]⟩] 25) := heap_alloc_new w7 _
  go_wp2_with fail
  go_cut [6, 7] (fun s6 s7 wx => s7 = .int .i64 0 ∧ Below w5.heap.size w5 wx ∧ ∃ vb : Nat, s6 = .pointer (some ⟨vb, 0, none⟩) ∧ wx.heap[vb]? = some (.cells #[.int .i64 1, .int .i64 4, .string ⟨#[]⟩] 25))
  case first =>
    have hk : ∀ (W' : World), Below w5.heap.size w5 W' → ∀ (u : Value), CsAt W' u twoC → Calls Tryz.prog 7 #[u, .slice (some ⟨t, 0, none⟩) 2 2, (.agg #[.int .i64 2, .int .i64 0, .int .i64 0, .string ⟨#[]⟩, .string ⟨#[97]⟩, .slice none 0 0])] W' fun e w' => e = .returned (.tuple #[.agg #[.int .i64 1, .int .i64 4, .string ⟨#[]⟩], .int .i64 0]) ∧ Below W'.heap.size W' w' := fun W' hW u cu => by
      have h := Eval_any twoC u rA _ (ExAt.nil (B := 0) (w := W') 2 vl0 [97] none 0 (fun _ => rfl)) fit_xA cu (HE.out W' hW).2.2.2
      rw [show evalX twoC rA (.mk 2 vl0 [97] []) = (⟨1, 4, []⟩, 0) from eval_xA] at h
      exact h
    go_region_law (first
      | (have _ := KZT.out; have _ := CU5.out; go_simp; with_reducible refine (hk t5 B5.out u5 CU5.out).mono ?_; rintro e r5 ⟨rfl, br5⟩; have R5 := hide (B5.out.trans (br5.mono B5.out.size)); have KZB := hide ((br5.block w7.heap.size zw7).trans KZT.out); obtain ⟨⟨g0, g1, g2⟩, f0, f1, f2⟩ := three KZB.out; clear br5; dsimp only)
      | (have _ := CU5.out; go_simp; with_reducible refine (hk t5 B5.out u5 CU5.out).mono ?_; rintro e r5 ⟨rfl, br5⟩; have R5 := hide (B5.out.trans (br5.mono B5.out.size)); clear br5; dsimp only)
      | (have _ := CU5.out; go_simp; with_reducible refine (hk (World.alloc t5 (.cells #[.int .i64 0, .int .i64 0, .string ⟨#[]⟩] 25)) (B5.out.alloc B5.out.size _) u5 (CU5.out.below ((Below.refl _ _).alloc (Nat.le_refl _) _))).mono ?_; rintro e r5 ⟨rfl, br5⟩; have R5 := hide ((B5.out.alloc B5.out.size (.cells #[.int .i64 0, .int .i64 0, .string ⟨#[]⟩] 25)).trans (br5.mono (by have := B5.out.size; simp; omega))); have KZC := hide ((br5.block t5.heap.size (by simp)).trans (heap_alloc_new t5 (.cells #[.int .i64 0, .int .i64 0, .string ⟨#[]⟩] 25))); obtain ⟨⟨g0, g1, g2⟩, f0, f1, f2⟩ := three KZC.out; clear br5; dsimp only)
      | (go_simp; with_reducible refine (two_any (World.drew (World.alloc w7 (.cells #[.int .i64 0, .int .i64 0, .string ⟨#[]⟩] 25)))).mono ?_; rintro e t5 ⟨u5, rfl, cu, b5⟩; have CU5 := hide cu; have KZT := hide ((b5.block w7.heap.size (by simp)).trans hz25); have B5 := hide ((p7.alloc hs7 (.cells #[.int .i64 0, .int .i64 0, .string ⟨#[]⟩] 25)).drew.trans (b5.mono (by simp; try omega))); obtain ⟨-, ⟨y0, y1, y2, y3, y4, y5⟩, ⟨x0, x1, x2, x3, x4, x5⟩, -⟩ := HE.out t5 B5.out; have zt5 : w.heap.size < t5.heap.size := (by have := B5.out.size; omega); have zw7 : w7.heap.size < t5.heap.size := (by have := b5.size; simp at this; omega); clear b5 cu; dsimp only)
      | (go_simp; with_reducible refine (two_any (World.drew w7)).mono ?_; rintro e t5 ⟨u5, rfl, cu, b5⟩; have CU5 := hide cu; have B5 := hide (p7.drew.trans (b5.mono (by simp; try omega))); obtain ⟨-, ⟨y0, y1, y2, y3, y4, y5⟩, ⟨x0, x1, x2, x3, x4, x5⟩, -⟩ := HE.out t5 B5.out; have zt5 : w.heap.size < t5.heap.size := (by have := B5.out.size; omega); clear b5 cu; dsimp only))
    all_goals (
      go_wp2_with fail
      go_meet
      first
        | (refine ⟨rfl, ?_, r5.heap.size, (by with_reducible rfl), ?_⟩
           · exact R5.out.alloc R5.out.size _
           · exact heap_alloc_new _ _)
        | (have _ := KZB.out
           refine ⟨rfl, ?_, w7.heap.size, (by with_reducible rfl), ?_⟩
           · exact ((((R5.out.setCell (p := ⟨w7.heap.size, 0, none⟩) (by show _ ≤ w7.heap.size; omega) _).setCell (p := ⟨w7.heap.size, 1, none⟩) (by show _ ≤ w7.heap.size; omega) _).setCell (p := ⟨w7.heap.size, 2, none⟩) (by show _ ≤ w7.heap.size; omega) _))
           · exact three_set KZB.out _ _ _)
        | (have _ := KZC.out
           have zt := B5.out.size
           refine ⟨rfl, ?_, t5.heap.size, (by with_reducible rfl), ?_⟩
           · exact ((((R5.out.setCell (p := ⟨t5.heap.size, 0, none⟩) (by show _ ≤ t5.heap.size; omega) _).setCell (p := ⟨t5.heap.size, 1, none⟩) (by show _ ≤ t5.heap.size; omega) _).setCell (p := ⟨t5.heap.size, 2, none⟩) (by show _ ≤ t5.heap.size; omega) _))
           · exact three_set KZC.out _ _ _))
  case rest =>
  obtain ⟨rfl, p8, vb, rfl, kv⟩ := hcut
  generalize wc = w8 at *
  have hs8 := p8.size
  have zvb : vb < w8.heap.size := (Array.getElem?_eq_some_iff.1 kv).1
  clear y0 y1 y2 y3 y4 y5 x0 x1 x2 x3 x4 x5
  obtain ⟨-, ⟨y0, y1, y2, y3, y4, y5⟩, ⟨x0, x1, x2, x3, x4, x5⟩, -⟩ := HE.out w8 p8
  have kvd : (World.drew w8).heap[vb]? = some (.cells #[.int .i64 1, .int .i64 4, .string ⟨#[]⟩] 25) := kv
  clear hz25 p7 hs7
  go_wp2_with fail
  go_cut [8, 9] (fun s8 s9 wx => s8 = .bool true ∧ s9 = .int .i64 0 ∧ Below w5.heap.size w5 wx ∧ wx.heap[vb]? = some (.cells #[.int .i64 1, .int .i64 4, .string ⟨#[]⟩] 25))
  case first =>
    have hk : ∀ (W' : World), Below w5.heap.size w5 W' → ∀ (u : Value), CsAt W' u twoC → Calls Tryz.prog 11 #[u, .slice (some ⟨t, 0, none⟩) 2 2, (.agg #[.int .i64 10, .int .i64 0, .int .i64 0, .string ⟨#[]⟩, .string ⟨#[]⟩, .slice (some ⟨s, 0, none⟩) 2 2])] W' fun e w' => e = .returned (.tuple #[.bool true, .int .i64 0]) ∧ Below W'.heap.size W' w' := fun W' hW u cu => by
      have h := Holds_any twoC u rA _ (HE.out W' hW).1 fit_yA cu (HE.out W' hW).2.2.2
      rw [holds_yA] at h
      exact h
    go_region_law (first
      | (have _ := CU6.out; go_simp; with_reducible refine (hk t6 B6.out u6 CU6.out).mono ?_; rintro e r6 ⟨rfl, br6⟩; have R6 := hide (B6.out.trans (br6.mono B6.out.size)); have KV6' := hide ((br6.block vb (Array.getElem?_eq_some_iff.1 KV6.out).1).trans KV6.out); clear br6; dsimp only)
      | (go_simp; with_reducible refine (two_any (World.drew w8)).mono ?_; rintro e t6 ⟨u6, rfl, cu, b6⟩; have CU6 := hide cu; have B6 := hide (p8.drew.trans (b6.mono (by simp; try omega))); obtain ⟨-, ⟨y0, y1, y2, y3, y4, y5⟩, ⟨x0, x1, x2, x3, x4, x5⟩, -⟩ := HE.out t6 B6.out; have KV6 := hide ((b6.block vb (by simp; exact zvb)).trans kvd); clear b6 cu; dsimp only))
    all_goals (go_wp2_with fail; go_meet; exact ⟨rfl, rfl, R6.out, KV6'.out⟩)
  case rest =>
  obtain ⟨rfl, rfl, p9, kv9⟩ := hcut
  generalize wc = w9 at *
  have q9 : Below w.heap.size w w9 := q5.trans (p9.mono (by omega))
  have zv9 : vb < w9.heap.size := (Array.getElem?_eq_some_iff.1 kv9).1
  have HK9 := hide kv9
  obtain ⟨⟨v0, v1, v2⟩, -⟩ := three kv9
  clear kv9 kv kvd p8 hs8 zvb p9 HE y0 y1 y2 y3 y4 y5 x0 x1 x2 x3 x4 x5 hsz5
  have hcv : ∀ W' : World, Below w9.heap.size w9 W' → W'.cell? ⟨vb, 0, none⟩ = some (.int .i64 1) ∧ W'.cell? ⟨vb, 1, none⟩ = some (.int .i64 4) ∧ W'.cell? ⟨vb, 2, none⟩ = some (.string ⟨#[]⟩) := fun W' hW => (three ((hW.block vb zv9).trans HK9.out)).1
  have HCV := hide hcv
  clear hcv v0 v1 v2
  go_wp2_with fail
  refine wp_region_as rb7_R (by kernel_rfl) ?_
  refine rb7_wp (vb := vb) (S := fun W' => Below w9.heap.size w9 W') rfl rfl rfl rfl rfl rfl HCV.out (fun W' h => (num_any 4 W').mono fun e w' q => ⟨q.1, h.trans (q.2.mono h.size)⟩) rfl (Below.refl _ _).drew ?_
  intro w' hS
  refine ‹∀ (a : Act) (w : World), Code.wp _ _ _ a w → _› _ _ ?_
  refine wp_ret ?_
  exact post_frame 22 rfl rb7_nodup rfl rfl (by simp) ⟨rfl, q9.trans (hS.mono q9.size)⟩
end

end Go.Proofs.YtjmhkeooiimpfaaGreat
