/-
  isRight, of a kind that is one.
  Check, whole: 2 where a count is past its limit, 0 where the command is right, else 1.
  What is true of every token that is scanned.
  The document's reader, without memory.
  The document's reader, without memory, on.
  The program's parser is the document's reader, on whatever is scanned.
  What is parsed is never long.
  Parse: where the scan fails.
  Parse: where a command is read; Check decides.
-/
import Derived.Test.YtkpeklealgicpabGreatDoorGe

namespace Go.Proofs.YtkpeklealgicpabGreatDoor
open Go.RowKit

theorem below_succ {p : Nat → Prop} {n : Nat} (h : ∀ j, j < n → p j) (hn : p n) : ∀ j, j < n + 1 → p j := fun j hj => by
  by_cases e : j = n
  · exact e ▸ hn
  · exact h j (by omega)

set_option maxRecDepth 100000 in
theorem ob_all {w : World} {c : Cm} {cv vv fv ea wa : Value} {m : Int} {a0 : Act} {Q : Exit → Act → World → Prop} (h1 : a0.tmps[1]? = some (.pointer (some ⟨w.heap.size, 0, none⟩))) (h4 : a0.tmps[4]? = some (.bool true)) (h5 : a0.tmps[5]? = some (.func (.func 71) #[] #[.pointer (some ⟨w.heap.size + 1, 0, none⟩)])) (hc : Cals w c cv vv fv ea wa m) : ∀ j, j < 143 → Ob w c cv vv fv ea wa m a0 Q j := by
  refine below_succ ?_ (ob_142)
  refine below_succ ?_ (ob_141)
  refine below_succ ?_ (ob_140)
  refine below_succ ?_ (ob_139)
  refine below_succ ?_ (ob_138)
  refine below_succ ?_ (ob_137 h1)
  refine below_succ ?_ (ob_136)
  refine below_succ ?_ (ob_135)
  refine below_succ ?_ (ob_134)
  refine below_succ ?_ (ob_133 h1)
  refine below_succ ?_ (ob_132)
  refine below_succ ?_ (ob_131)
  refine below_succ ?_ (ob_130)
  refine below_succ ?_ (ob_129 h1)
  refine below_succ ?_ (ob_128 h5)
  refine below_succ ?_ (ob_127)
  refine below_succ ?_ (ob_126)
  refine below_succ ?_ (ob_125)
  refine below_succ ?_ (ob_124)
  refine below_succ ?_ (ob_123)
  refine below_succ ?_ (ob_122 h1)
  refine below_succ ?_ (ob_121)
  refine below_succ ?_ (ob_120 hc)
  refine below_succ ?_ (ob_119)
  refine below_succ ?_ (ob_118 h1)
  refine below_succ ?_ (ob_117)
  refine below_succ ?_ (ob_116)
  refine below_succ ?_ (ob_115)
  refine below_succ ?_ (ob_114 h1)
  refine below_succ ?_ (ob_113 h5)
  refine below_succ ?_ (ob_112)
  refine below_succ ?_ (ob_111)
  refine below_succ ?_ (ob_110)
  refine below_succ ?_ (ob_109)
  refine below_succ ?_ (ob_108 hc)
  refine below_succ ?_ (ob_107)
  refine below_succ ?_ (ob_106 h1)
  refine below_succ ?_ (ob_105)
  refine below_succ ?_ (ob_104)
  refine below_succ ?_ (ob_103)
  refine below_succ ?_ (ob_102 h1)
  refine below_succ ?_ (ob_101 hc)
  refine below_succ ?_ (ob_100)
  refine below_succ ?_ (ob_99 h1)
  refine below_succ ?_ (ob_98)
  refine below_succ ?_ (ob_97 h1)
  refine below_succ ?_ (ob_96 h5)
  refine below_succ ?_ (ob_95)
  refine below_succ ?_ (ob_94)
  refine below_succ ?_ (ob_93)
  refine below_succ ?_ (ob_92 hc)
  refine below_succ ?_ (ob_91)
  refine below_succ ?_ (ob_90 h1)
  refine below_succ ?_ (ob_89 hc)
  refine below_succ ?_ (ob_88)
  refine below_succ ?_ (ob_87 h1)
  refine below_succ ?_ (ob_86 h5)
  refine below_succ ?_ (ob_85)
  refine below_succ ?_ (ob_84)
  refine below_succ ?_ (ob_83)
  refine below_succ ?_ (ob_82)
  refine below_succ ?_ (ob_81 hc)
  refine below_succ ?_ (ob_80)
  refine below_succ ?_ (ob_79 h1)
  refine below_succ ?_ (ob_78 hc)
  refine below_succ ?_ (ob_77)
  refine below_succ ?_ (ob_76 h1)
  refine below_succ ?_ (ob_75 h5)
  refine below_succ ?_ (ob_74)
  refine below_succ ?_ (ob_73)
  refine below_succ ?_ (ob_72)
  refine below_succ ?_ (ob_71)
  refine below_succ ?_ (ob_70 hc)
  refine below_succ ?_ (ob_69)
  refine below_succ ?_ (ob_68 h1)
  refine below_succ ?_ (ob_67 hc)
  refine below_succ ?_ (ob_66)
  refine below_succ ?_ (ob_65 h1)
  refine below_succ ?_ (ob_64 h5)
  refine below_succ ?_ (ob_63)
  refine below_succ ?_ (ob_62)
  refine below_succ ?_ (ob_61)
  refine below_succ ?_ (ob_60)
  refine below_succ ?_ (ob_59)
  refine below_succ ?_ (ob_58)
  refine below_succ ?_ (ob_57 h1)
  refine below_succ ?_ (ob_56 hc)
  refine below_succ ?_ (ob_55)
  refine below_succ ?_ (ob_54 h1)
  refine below_succ ?_ (ob_53 h5)
  refine below_succ ?_ (ob_52)
  refine below_succ ?_ (ob_51)
  refine below_succ ?_ (ob_50)
  refine below_succ ?_ (ob_49)
  refine below_succ ?_ (ob_48)
  refine below_succ ?_ (ob_47 h1)
  refine below_succ ?_ (ob_46 hc)
  refine below_succ ?_ (ob_45)
  refine below_succ ?_ (ob_44 h1)
  refine below_succ ?_ (ob_43 h5)
  refine below_succ ?_ (ob_42)
  refine below_succ ?_ (ob_41)
  refine below_succ ?_ (ob_40)
  refine below_succ ?_ (ob_39)
  refine below_succ ?_ (ob_38 hc)
  refine below_succ ?_ (ob_37)
  refine below_succ ?_ (ob_36 h1)
  refine below_succ ?_ (ob_35 hc)
  refine below_succ ?_ (ob_34)
  refine below_succ ?_ (ob_33 h1)
  refine below_succ ?_ (ob_32 h5)
  refine below_succ ?_ (ob_31)
  refine below_succ ?_ (ob_30)
  refine below_succ ?_ (ob_29)
  refine below_succ ?_ (ob_28)
  refine below_succ ?_ (ob_27)
  refine below_succ ?_ (ob_26 h1)
  refine below_succ ?_ (ob_25 hc)
  refine below_succ ?_ (ob_24)
  refine below_succ ?_ (ob_23 h1)
  refine below_succ ?_ (ob_22 h5)
  refine below_succ ?_ (ob_21)
  refine below_succ ?_ (ob_20)
  refine below_succ ?_ (ob_19)
  refine below_succ ?_ (ob_18)
  refine below_succ ?_ (ob_17)
  refine below_succ ?_ (ob_16 h1)
  refine below_succ ?_ (ob_15 hc)
  refine below_succ ?_ (ob_14)
  refine below_succ ?_ (ob_13 h1)
  refine below_succ ?_ (ob_12 h5)
  refine below_succ ?_ (ob_11)
  refine below_succ ?_ (ob_10)
  refine below_succ ?_ (ob_9)
  refine below_succ ?_ (ob_8)
  refine below_succ ?_ (ob_7)
  refine below_succ ?_ (ob_6 h1)
  refine below_succ ?_ (ob_5 hc)
  refine below_succ ?_ (ob_4)
  refine below_succ ?_ (ob_3 h1)
  refine below_succ ?_ (ob_2 h5)
  refine below_succ ?_ (ob_1)
  refine below_succ ?_ (ob_0 h4)
  exact fun j hj => absurd hj (Nat.not_lt_zero j)

def backB (ops : Array Oper) (n : Nat) : Bool := (List.range ops.size).all fun j => match ops[j]? with
  | some o => o.after.all (fun e => decide (e.on < j)) && (match o.dst with | some d => decide (d < n) | none => false)
  | none => true

def dls : List (Option Tmp) := [some 13, some 14, some 15, some 16, some 17, some 18, some 19, some 20, some 21, some 22, some 23, some 24, some 25, some 26, some 27, some 28, some 29, some 30, some 31, some 32, some 33, some 34, some 35, some 36, some 37, some 38, some 39, some 40, some 41, some 42, some 43, some 44, some 45, some 46, some 47, some 48, some 49, some 50, some 51, some 52, some 53, some 54, some 55, some 56, some 57, some 58, some 59, some 60, some 61, some 62, some 63, some 64, some 65, some 66, some 67, some 68, some 69, some 70, some 71, some 72, some 73, some 74, some 75, some 76, some 77, some 78, some 79, some 80, some 81, some 82, some 83, some 84, some 85, some 86, some 87, some 88, some 89, some 90, some 91, some 92, some 93, some 94, some 95, some 96, some 97, some 98, some 99, some 100, some 101, some 102, some 103, some 104, some 105, some 106, some 107, some 108, some 109, some 110, some 111, some 112, some 113, some 114, some 115, some 116, some 117, some 118, some 119, some 120, some 121, some 122, some 123, some 124, some 125, some 126, some 127, some 128, some 129, some 130, some 131, some 132, some 133, some 134, some 135, some 136, some 137, some 138, some 139, some 140, some 141, some 142, some 143, some 144, some 145, some 146, some 147, some 148, some 149, some 150, some 151, some 152, some 153, some 154, some 2]

set_option maxRecDepth 100000 in
theorem dls_nodup : dls.Nodup := by unfold dls; decide

set_option maxRecDepth 100000 in
theorem run_ok {w : World} {c : Cm} {cv vv fv ea wa : Value} {m : Int} {a0 : Act} {Q : Exit → Act → World → Prop} (h1 : a0.tmps[1]? = some (.pointer (some ⟨w.heap.size, 0, none⟩))) (h4 : a0.tmps[4]? = some (.bool true)) (h5 : a0.tmps[5]? = some (.func (.func 71) #[] #[.pointer (some ⟨w.heap.size + 1, 0, none⟩)])) (hc : Cals w c cv vv fv ea wa m) (ha : a0.tmps.size = 155) :
    RunOk rops (Array.replicate 143 false) a0 (VV w c cv vv fv ea wa m) Tryz.prog .any Q (Held w c cv vv fv ea wa m) := by
  have hb : backB rops 155 = true := by kernel_rfl
  have hdl : rops.toList.map (·.dst) = dls := by kernel_rfl
  have hnd := dls_nodup
  have each : ∀ (j : Nat) (o : Oper), rops[j]? = some o → o.after.all (fun e => decide (e.on < j)) = true ∧ (match o.dst with | some d => decide (d < 155) | none => false) = true := by
    intro j o hj
    have hlt := (Array.getElem?_eq_some_iff.1 hj).1
    have := List.all_eq_true.1 hb j (List.mem_range.2 hlt)
    rw [hj] at this
    simpa only [Bool.and_eq_true] using this
  refine ⟨by rw [rops_size]; simp, ?_, ?_, ?_, ?_⟩
  · intro j o hj _ e he
    have := Array.all_eq_true_iff_forall_mem.1 (each j o hj).1 e he
    simpa using this
  · intro j o hj _
    have := (each j o hj).2
    cases hd : o.dst with
    | none => rw [hd] at this; cases this
    | some d => rw [hd] at this; exact ⟨d, rfl, by rw [ha]; simpa using this⟩
  · intro j k o p d hj hk _ _ hod hpd
    have at' : ∀ (i : Nat) (q : Oper), rops[i]? = some q → dls[i]? = some q.dst := by
      intro i q hq
      rw [← hdl, List.getElem?_map, Array.getElem?_toList, hq]; rfl
    have e1 := at' j o hj
    have e2 := at' k p hk
    rw [hod] at e1
    rw [hpd] at e2
    exact (List.getElem?_inj (List.getElem?_eq_some_iff.1 e1).1 hnd).1 (e1.trans e2.symm)
  · intro j o listed a W hj _ hd hl hS K hK
    have hlt := (Array.getElem?_eq_some_iff.1 hj).1
    rw [rops_size] at hlt
    exact ob_all h1 h4 h5 hc j hlt o listed a W hj hd hl hS K hK

theorem Held.drew {w : World} {c : Cm} {cv vv fv ea wa : Value} {m : Int} {W : World} (h : Held w c cv vv fv ea wa m W) : Held w c cv vv fv ea wa m W.drew := ⟨h.1, h.2.1, h.2.2.1.drew, h.2.2.2⟩

theorem row_len {B : Nat} {w : World} {u : Value} {n : Nat} {xs : List Value} (h : RowAt B w u n xs) : ∃ ao ca, u = .slice ao n ca := by
  rcases h with ⟨rfl, ao, ca, h⟩ | ⟨b, off, cap, h, -⟩
  · exact ⟨ao, ca, h⟩
  · exact ⟨_, _, h⟩

theorem cals_of {w : World} {c : Cm} {cv vv fv ea wa : Value} (m : Int) (hi : CmIn 0 w c cv vv fv ea wa) (hf : CmFit c) (hl : Laid w) : Cals w c cv vv fv ea wa m := by
  have up : ∀ W, Held w c cv vv fv ea wa m W → CmIn 0 W c cv vv fv ea wa ∧ Laid W := fun W h => ⟨hi.keep h.2.2.1.size fun b _ hb => h.2.2.1.block b hb, hl.below h.2.2.1⟩
  have nn : ∀ (x : Ex) (a : Value) (W : World), ExAt 0 W (exV x.k x.v x.nm a) x → Calls Tryz.prog 79 #[exV x.k x.v x.nm a] W fun e w' => e = .returned (.bool (noneE x)) ∧ Below W.heap.size W w' := by
    intro x a W h
    obtain ⟨ao, ca, e⟩ := h.len
    rw [e]
    exact isNone_any x ao ca W
  exact {
    q1 := fun W h => cname_any _ hf.name (up W h).2
    q2 := fun W h => cname_any _ hf.other (up W h).2
    q3 := fun W h => cname_any _ hf.column (up W h).2
    q4 := fun W h => cols_any _ W (up W h).1.cols hf.cols hf.colsN (up W h).2
    q5 := fun W _ => isType_any _ W
    q6 := fun W _ => isValue_any _ W hf.val
    q7 := fun W h => vals_any _ W (up W h).1.vals hf.vals hf.valsN
    q8 := fun W h => fields_any c fv (up W h).1.fields hf.fields hf.fieldsN (up W h).2
    q9 := fun W h => isExpr_any (up W h).1.expr hf.expr W (Below.refl _ _) (up W h).2
    n9 := fun W h => nn _ _ W (up W h).1.expr
    q10 := fun W h => isWhere_any c.all (up W h).1.wh hf.wh (up W h).2
    n10 := fun W h => nn _ _ W (up W h).1.wh
    q11 := fun W h => cname_any _ hf.order (up W h).2
    l4 := row_len hi.cols
    l7 := row_len hi.vals
    l8 := row_len hi.fields }

theorem rightC_eq (c : Cm) : rightC c = (kindB c.kind && Pr (Xc (maskN c.kind : Nat) c) 12) := by
  have d4 : decide ((c.cols.length : Int) = 0) = decide (c.cols.length = 0) := by rw [decide_eq_decide]; omega
  have d7 : decide ((c.vals.length : Int) = 0) = decide (c.vals.length = 0) := by rw [decide_eq_decide]; omega
  have d8 : decide ((c.fields.length : Int) = 0) = decide (c.fields.length = 0) := by rw [decide_eq_decide]; omega
  have d12 : (decide (-1 ≤ c.limit) && decide (c.limit ≤ 999999999)) = decide (-1 ≤ c.limit ∧ c.limit ≤ 999999999) := by rw [Bool.decide_and]
  simp only [rightC, Pr, Xc, bitC, rC, eC, d4, d7, d8, d12, selB, Bool.true_and, Bool.and_assoc]

set_option maxRecDepth 100000 in
set_option maxHeartbeats 1600000 in
theorem isRight_in {w : World} (c : Cm) (cv vv fv ea wa : Value) (hk : 1 ≤ c.kind ∧ c.kind ≤ 16) (hi : CmIn 0 w c cv vv fv ea wa) (hf : CmFit c) (hl : Laid w) :
    Calls Tryz.prog 29 #[.agg (cmL c cv vv fv ea wa).toArray] w fun e w' => e = .returned (.bool (rightC c)) ∧ Below w.heap.size w w' := by
  have H0 := Held.start w c cv vv fv ea wa (maskN c.kind : Nat)
  have hnb : ∀ W, Calls Tryz.prog 70 #[.int .i64 c.kind] W fun e w' => e = .returned (.tuple #[.int .i64 (maskN c.kind : Nat), .bool true]) ∧ w' = W := by
    intro W
    have e : ((c.kind.toNat : Nat) : Int) = c.kind := by omega
    have := namedBy_in W c.kind.toNat (by omega) (by omega)
    rwa [e] at this
  have hR : rightC c = Pr (Xc (maskN c.kind : Nat) c) 12 := by rw [rightC_eq, kindB, decide_eq_true hk, Bool.true_and]
  have hc := cals_of (maskN c.kind : Nat) hi hf hl
  rw [hR]
  have d0 : (w.alloc (.cells (cmL c cv vv fv ea wa).toArray 31)).cell? ⟨w.heap.size, 0, none⟩ = some (.int .i64 c.kind) := by
    rw [Lib.cell_of_heap (heap_alloc_new w (.cells (cmL c cv vv fv ea wa).toArray 31))]; rfl
  clear hk hR hi hf hl
  generalize hm : (maskN c.kind : Int) = m at *
  clear hm
  go_enter Tryz.func29, Tryz.ntmps29
  go_wp2_with fail
  refine (hnb _).mono ?_
  rintro e w' ⟨rfl, hw'⟩
  obtain rfl := hw'.symm
  clear hw' hnb d0
  go_wp2_with fail
  refine wp_region_as rops (by kernel_rfl) ?_
  refine wp_region_held_drew (S := Held w c cv vv fv ea wa m) (by kernel_rfl) H0.drew (fun hHeld => ?_)
  rw [rops_size]
  refine run_region (V := VV w c cv vv fv ea wa m) (run_ok rfl rfl rfl hc rfl) ?_ _ _ _ _ ⟨by rw [rops_size]; simp, rfl, fun _ h => h, fun j o d _ h1 h2 _ => (by rw [h1] at h2; cases h2), fun _ _ => rfl, rfl⟩ hHeld (of_decide_eq_true (by kernel_rfl))
  intro a' w' hS hd ha
  have h2 : a'.tmps[2]? = some (.bool (Pr (Xc m c) 12)) := ha 142 (opAt 142) 2 (by kernel_rfl) (by kernel_rfl) (by kernel_rfl)
  have hr := results_tmp Tryz.results29 a'.tmps Tryz.prog w'
  simp only [Array.getD_eq_getD_getElem?, h2, Option.getD_some] at hr
  refine ‹∀ (a : Act) (w : World), Code.wp _ _ _ a w → _› _ _ ?_
  refine wp_ret ?_
  exact bodyPost_ret hr hd ⟨rfl, hS.2.2.1⟩

theorem isRight_any {w : World} (c : Cm) (cv vv fv ea wa : Value) (hi : CmIn 0 w c cv vv fv ea wa) (hf : CmFit c) (hl : Laid w) :
    Calls Tryz.prog 29 #[.agg (cmL c cv vv fv ea wa).toArray] w fun e w' => e = .returned (.bool (rightC c)) ∧ Below w.heap.size w w' := by
  by_cases hk : 1 ≤ c.kind ∧ c.kind ≤ 16
  · exact isRight_in c cv vv fv ea wa hk hi hf hl
  · have e : rightC c = false := by rw [rightC_eq, kindB, decide_eq_false hk, Bool.false_and]
    rw [e]
    exact isRight_out c cv vv fv ea wa hk

end Go.Proofs.YtkpeklealgicpabGreatDoor

namespace Go.Proofs.YtkpeklealgicpabGreatDoor
open Go.RowKit

theorem args_of {w : World} {x : Ex} {a : Value} (h : ExAt 0 w (exV x.k x.v x.nm a) x) : ∃ ao ca, a = .slice ao x.args.length ca := by
  obtain ⟨ao, ca, ps, e, -⟩ := h.pairs
  exact ⟨ao, ca, e⟩

theorem many_any {w : World} (c : Cm) (cv vv fv ea wa : Value) (hi : CmIn 0 w c cv vv fv ea wa) (hf : CmFit c) :
    Calls Tryz.prog 28 #[.agg (cmL c cv vv fv ea wa).toArray] w fun e w' => e = .returned (.bool (manyC c)) ∧ Below w.heap.size w w' := by
  obtain ⟨a1, c1, rfl⟩ := row_len hi.cols
  obtain ⟨a2, c2, rfl⟩ := row_len hi.vals
  obtain ⟨a3, c3, rfl⟩ := row_len hi.fields
  obtain ⟨a4, c4, rfl⟩ := args_of hi.expr
  obtain ⟨a5, c5, rfl⟩ := args_of hi.wh
  exact hasMany_any c a1 a2 a3 a4 a5 c1 c2 c3 c4 c5 hi.expr hi.wh hf.expr hf.wh

/-- what Check answers of any command in memory -/
theorem check_cmd {w : World} (c : Cm) (cv vv fv ea wa : Value) (hi : CmIn 0 w c cv vv fv ea wa) (hf : CmFit c) (hl : Laid w) :
    Calls Tryz.prog 12 #[.agg (cmL c cv vv fv ea wa).toArray] w fun e w' => e = .returned (.int .i64 (chkC (manyC c) (rightC c))) ∧ Below w.heap.size w w' := by
  have up : ∀ W, Below w.heap.size w W → CmIn 0 W c cv vv fv ea wa ∧ Laid W := fun W h => ⟨hi.keep h.size fun b _ hb => h.block b hb, hl.below h⟩
  exact checkC_any c cv vv fv ea wa (manyC c) (rightC c) (fun W h => many_any c cv vv fv ea wa (up W h).1 hf) (fun W h => isRight_any c cv vv fv ea wa (up W h).1 hf (up W h).2)

/-- the same, with the document's own test of a command -/
theorem check_ref {w : World} (c : Cm) (cv vv fv ea wa : Value) (hi : CmIn 0 w c cv vv fv ea wa) (hf : CmFit c) (hl : Laid w) :
    Calls Tryz.prog 12 #[.agg (cmL c cv vv fv ea wa).toArray] w fun e w' => e = .returned (.int .i64 (chkC (manyC c) (refC c))) ∧ Below w.heap.size w w' := by
  rw [← rightC_iff]
  exact check_cmd c cv vv fv ea wa hi hf hl

end Go.Proofs.YtkpeklealgicpabGreatDoor

namespace Go.Proofs.YtkpeklealgicpabGreatDoor
open Go.RowKit

theorem scanGo_each {p : Tk → Prop} (hp : ∀ (a : Nat) (c : UInt8) (r : List UInt8), wrongL (tokL (c :: r)).1 ((c :: r).take (tokL (c :: r)).2) = 0 → p ⟨((tokL (c :: r)).1 : Nat), (a : Nat), (c :: r).take (tokL (c :: r)).2⟩) (f : Nat) :
    ∀ (a : Nat) (l : List UInt8) (acc : List Tk), (∀ x ∈ acc, p x) → ∀ x ∈ (scanGo f a l acc).1, p x := by
  induction f with
  | zero => intro a l acc h; exact h
  | succ f ih =>
    intro a l acc h
    cases l with
    | nil => exact h
    | cons c r =>
      rw [scanGo]
      split
      · exact ih _ _ _ h
      · split
        · rename_i hw
          apply ih
          intro x hx
          rcases List.mem_append.1 hx with hx | hx
          · exact h x hx
          · rw [List.mem_singleton] at hx
            rw [hx]
            exact hp a c r hw
        · intro x hx; cases hx

theorem scanS_each {p : Tk → Prop} (hp : ∀ (a : Nat) (c : UInt8) (r : List UInt8), wrongL (tokL (c :: r)).1 ((c :: r).take (tokL (c :: r)).2) = 0 → p ⟨((tokL (c :: r)).1 : Nat), (a : Nat), (c :: r).take (tokL (c :: r)).2⟩) (s : List UInt8) : ∀ x ∈ (scanS s).1, p x := by
  unfold scanS
  split
  · intro x hx; cases hx
  · exact scanGo_each hp _ _ _ _ (by intro x hx; cases hx)

theorem scanGo_few (f : Nat) : ∀ (a : Nat) (l : List UInt8) (acc : List Tk), (scanGo f a l acc).1.length ≤ acc.length + l.length := by
  induction f with
  | zero => intro a l acc; simp [scanGo]
  | succ f ih =>
    intro a l acc
    cases l with
    | nil => simp [scanGo]
    | cons c r =>
      rw [scanGo]
      split
      · have := ih (a + 1) r acc
        simp only [List.length_cons]; omega
      · split
        · rename_i hw
          have hz := tokL_pos c r (wrongL_zero hw)
          have := ih (a + (tokL (c :: r)).2) ((c :: r).drop (tokL (c :: r)).2) (acc ++ [⟨((tokL (c :: r)).1 : Nat), (a : Nat), (c :: r).take (tokL (c :: r)).2⟩])
          simp only [List.length_append, List.length_drop, List.length_cons, List.length_nil] at this ⊢
          omega
        · simp

theorem scanS_few (s : List UInt8) : (scanS s).1.length ≤ 2000 := by
  unfold scanS
  split
  · simp
  · have := scanGo_few (s.length + 1) 0 s []
    simp only [List.length_nil] at this
    unfold scanL
    omega

theorem runL_each (p : UInt8 → Bool) (l : List UInt8) : ∀ c ∈ l.take (runL p l), p c = true := by
  induction l with
  | nil => intro c hc; simp [runL] at hc
  | cons d r ih =>
    intro c hc
    rw [runL_cons] at hc
    split at hc
    · rename_i hd
      rw [List.take_succ_cons] at hc
      rcases List.mem_cons.1 hc with e | e
      · rw [e]; exact hd
      · exact ih c e
    · simp at hc

theorem tokL_two (c : UInt8) (r : List UInt8) (h : (tokL (c :: r)).1 = 2) : isD c = true ∧ tokL (c :: r) = (2, runL isD r + 1) := by
  revert h
  rw [tokL]
  repeat' split
  all_goals simp_all

theorem tokL_three (c : UInt8) (r : List UInt8) (h : (tokL (c :: r)).1 = 3) : c = 39 ∧ tokL (c :: r) = (3, runL isQ r + 2) ∧ r[runL isQ r]? = some 39 := by
  revert h
  rw [tokL]
  repeat' split
  all_goals simp_all

theorem scanned_ok (s : List UInt8) : ∀ x ∈ (scanS s).1, TokOk x := by
  have hs : ∀ x ∈ (scanS s).1, x.t.length ≤ 22 := by
    unfold scanS
    split
    · intro y hy; cases hy
    · exact scanGo_len _ _ _ _ (by intro y hy; cases hy)
  have hr : ∀ x ∈ (scanS s).1, (x.k = 2 → x.t ≠ [] ∧ x.t.length ≤ 9 ∧ ∀ c ∈ x.t, isD c = true) ∧ (x.k = 3 → 2 ≤ x.t.length) := by
    refine scanS_each (fun a c r hw => ⟨fun h2 => ?_, fun h3 => ?_⟩) s
    · have h2' : (tokL (c :: r)).1 = 2 := by simp only at h2; omega
      obtain ⟨hd, ht⟩ := tokL_two c r h2'
      rw [ht] at hw ⊢
      simp only [List.take_succ_cons] at hw ⊢
      refine ⟨by simp, ?_, ?_⟩
      · apply Classical.byContradiction
        intro hn
        rw [wrongL, if_neg (by decide), if_pos (by right; left; exact ⟨rfl, by omega⟩)] at hw
        cases hw
      · intro d hdm
        rcases List.mem_cons.1 hdm with e | e
        · rw [e]; exact hd
        · exact runL_each isD r d e
    · have h3' : (tokL (c :: r)).1 = 3 := by simp only at h3; omega
      obtain ⟨-, ht, hq⟩ := tokL_three c r h3'
      rw [ht]
      have := (List.getElem?_eq_some_iff.1 hq).1
      simp only [List.length_take, List.length_cons]
      omega
  exact fun x hx => ⟨hs x hx, (hr x hx).1, (hr x hx).2⟩

theorem tks_scanned {w : World} {base : Nat} {v : Value} {s : List UInt8} (h : w.ownsRow base 63 3 v (scanS s).1.length (cellsT (scanS s).1)) : Tks w base v (scanS s).1 := ⟨h, scanS_few s, scanned_ok s⟩

end Go.Proofs.YtkpeklealgicpabGreatDoor

namespace Go.Proofs.YtkpeklealgicpabGreatDoor
open Go.RowKit

/-- is it, at the first byte? -/
def headB (p : UInt8 → Bool) (s : List UInt8) : Bool := match s with | [] => false | c :: _ => p c

/-- what a token's kind says of its text -/
structure TokIs (x : Tk) : Prop where
  num : x.k = 2 ↔ headB isD x.t = true
  txt : x.k = 3 ↔ headB (fun c => decide (c = 39)) x.t = true

def takeR (T : List Tk) (s : List UInt8) (i : Nat) : Bool := decide (tx T i = s)
def numberR (T : List Tk) (i : Nat) : Rs Nat := if headB isD (tx T i) = true then .ok (decN (tx T i)) (i + 1) else .bad i
def isVR (s : List UInt8) : Bool := decide (s = w_true) || decide (s = w_false) || decide (s = w_null) || decide (s = [45]) || headB (fun c => isD c || decide (c = 39)) s
def valueR (T : List Tk) (i : Nat) : Rs Vl :=
  if isVR (tx T i) = false then .bad i
  else if tx T i = w_true ∨ tx T i = w_false then .ok ⟨3, if tx T i = w_true then 1 else 0, []⟩ (i + 1)
  else if tx T i = w_null then .ok vl0 (i + 1)
  else if tx T i = [45] then (if tx T (i + 1) = [48] then .bad (i + 1) else (numberR T (i + 1)).then fun n j => .ok ⟨1, -(n : Nat), []⟩ j)
  else if headB (fun c => decide (c = 39)) (tx T i) = true then .ok ⟨2, 0, ((tx T i).drop 1).take ((tx T i).length - 2)⟩ (i + 1)
  else (numberR T i).then fun n j => .ok ⟨1, (n : Nat), []⟩ j
def typeR (T : List Tk) (i : Nat) : Rs Nat :=
  if tx T i = w_int then .ok 1 (i + 1) else if tx T i = w_text then .ok 2 (i + 1) else if tx T i = w_bool then .ok 3 (i + 1) else .bad i
def operR (T : List Tk) (i : Nat) : Rs Nat :=
  if tx T i = w_and then .ok 5 (i + 1) else if tx T i = w_or then .ok 6 (i + 1) else if tx T i = [43] then .ok 7 (i + 1) else if tx T i = [45] then .ok 8 (i + 1) else if tx T i = [124, 124] then .ok 9 (i + 1) else if tx T i = [60] then .ok 10 (i + 1) else if tx T i = [61] then .ok 11 (i + 1) else .bad i
def brackR (T : List Tk) (ex : Nat → Rs Ex) (i : Nat) : Rs Ex :=
  (ex i).then fun a j =>
    if tx T j = w_is then (must T [w_null] (j + 1)).then fun _ j => (must T [[41]] j).then fun _ j => .ok (.mk 4 vl0 [] [a]) j
    else (operR T j).then fun k j => (ex j).then fun b j => (must T [[41]] j).then fun _ j => .ok (.mk (k : Nat) vl0 [] [a, b]) j
def leafR (T : List Tk) (i : Nat) : Rs Ex :=
  if isVR (tx T i) = true then (valueR T i).then fun v j => .ok (.mk 1 v [] []) j
  else (nameP T i).then fun n j => .ok (.mk 2 vl0 n []) j
/-- the document's reader of expressions, with so many steps down that are left -/
def exprR (T : List Tk) : Nat → Nat → Rs Ex
  | 0, i => if tx T i = [40] ∨ tx T i = w_not then .bad i else leafR T i
  | f + 1, i =>
    if tx T i = w_not then (exprR T f (i + 1)).then fun a j => .ok (.mk 3 vl0 [] [a]) j
    else if tx T i = [40] then brackR T (exprR T f) (i + 1)
    else leafR T i

theorem tx_ne {T : List Tk} {i : Nat} (h : tx T i ≠ []) : ∃ x, T[i]? = some x ∧ tx T i = x.t ∧ kd T i = x.k := by
  unfold tx at h
  cases e : T[i]? with
  | none => rw [e] at h; exact absurd rfl h
  | some x => exact ⟨x, rfl, by simp [tx, e], by simp [kd, e]⟩

theorem kd_two {T : List Tk} (hT : ∀ x ∈ T, TokIs x) (i : Nat) : kd T i = 2 ↔ headB isD (tx T i) = true := by
  cases e : T[i]? with
  | none => simp [kd, tx, e, headB]
  | some x =>
    have h1 : kd T i = x.k := by simp [kd, e]
    have h2 : tx T i = x.t := by simp [tx, e]
    rw [h1, h2]; exact (hT x (List.mem_of_getElem? e)).num
theorem kd_three {T : List Tk} (hT : ∀ x ∈ T, TokIs x) (i : Nat) : kd T i = 3 ↔ headB (fun c => decide (c = 39)) (tx T i) = true := by
  cases e : T[i]? with
  | none => simp [kd, tx, e, headB]
  | some x =>
    have h1 : kd T i = x.k := by simp [kd, e]
    have h2 : tx T i = x.t := by simp [tx, e]
    rw [h1, h2]; exact (hT x (List.mem_of_getElem? e)).txt

theorem number_iff {T : List Tk} (hT : ∀ x ∈ T, TokIs x) (i : Nat) : numberP T 0 i = numberR T i := by
  unfold numberP numberR
  have h := kd_two hT i
  by_cases hk : kd T i = 2
  · rw [if_pos ⟨hk, Nat.zero_le _⟩, if_pos (h.1 hk)]
  · rw [if_neg (fun hh => hk hh.1), if_neg (fun hh => hk (h.2 hh))]

theorem value_iff {T : List Tk} (hT : ∀ x ∈ T, TokIs x) (hz : ∀ i, kd T i = 2 → (decN (tx T i) = 0 ↔ tx T i = [48])) (i : Nat) : valueP T i = valueR T i := by
  unfold valueP valueR
  have h2 := kd_two hT i
  have h3 := kd_three hT i
  have d39 : isD 39 = false := by decide
  by_cases k2 : kd T i = 2
  · have hd := h2.1 k2
    have hv : isVR (tx T i) = true := by
      unfold isVR
      have : headB (fun c => isD c || decide (c = 39)) (tx T i) = true := by
        cases e : tx T i with
        | nil => rw [e] at hd; cases hd
        | cons c r => rw [e] at hd; simp only [headB] at hd ⊢; rw [hd]; rfl
      rw [this]; simp
    have hne : ∀ s, headB isD s = false → tx T i ≠ s := by intro s hs e; rw [e, hs] at hd; cases hd
    have hq : headB (fun c => decide (c = 39)) (tx T i) = false := by
      cases e : tx T i with
      | nil => rfl
      | cons c r =>
        rw [e] at hd
        simp only [headB] at hd ⊢
        by_cases hc : c = 39
        · rw [hc, d39] at hd; cases hd
        · simp [hc]
    rw [if_pos k2, number_iff hT, hv, hq]
    rw [if_neg (by simp), if_neg (by rintro (h | h); exact hne _ (by decide) h; exact hne _ (by decide) h), if_neg (hne _ (by decide)), if_neg (hne _ (by decide)), if_neg (by simp)]
  · rw [if_neg k2]
    have hd : headB isD (tx T i) = false := by
      cases h : headB isD (tx T i)
      · rfl
      · exact absurd (h2.2 h) k2
    by_cases k3 : kd T i = 3
    · have hq := h3.1 k3
      have hv : isVR (tx T i) = true := by
        unfold isVR
        have : headB (fun c => isD c || decide (c = 39)) (tx T i) = true := by
          cases e : tx T i with
          | nil => rw [e] at hq; cases hq
          | cons c r => rw [e] at hq; simp only [headB] at hq ⊢; rw [hq]; simp
        rw [this]; simp
      have hne : ∀ s, headB (fun c => decide (c = 39)) s = false → tx T i ≠ s := by intro s hs e; rw [e, hs] at hq; cases hq
      rw [if_pos k3, hv, if_neg (by simp), if_neg (by rintro (h | h); exact hne _ (by decide) h; exact hne _ (by decide) h), if_neg (hne _ (by decide)), if_neg (hne _ (by decide)), if_pos hq]
    · rw [if_neg k3]
      have hq : headB (fun c => decide (c = 39)) (tx T i) = false := by
        cases h : headB (fun c => decide (c = 39)) (tx T i)
        · rfl
        · exact absurd (h3.2 h) k3
      have hb : headB (fun c => isD c || decide (c = 39)) (tx T i) = false := by
        cases e : tx T i with
        | nil => rfl
        | cons c r => rw [e] at hq hd; simp only [headB] at hq hd ⊢; rw [hq, hd]; rfl
      by_cases s1 : tx T i = [45]
      · have hv : isVR [45] = true := by decide
        simp only [oneOf, s1, if_true, Rs.then_ok]
        rw [hv, if_neg (by simp), if_neg (by simp), if_neg (by simp)]
        unfold numberP
        have h2' := kd_two hT (i + 1)
        have hz' := hz (i + 1)
        unfold numberR
        by_cases kk : kd T (i + 1) = 2
        · rw [if_pos (h2'.1 kk)]
          by_cases h0 : tx T (i + 1) = [48]
          · have := (hz' kk).2 h0
            rw [if_pos h0, if_neg (by rw [this]; simp)]; rfl
          · have : decN (tx T (i + 1)) ≠ 0 := fun e => h0 ((hz' kk).1 e)
            rw [if_neg h0, if_pos ⟨kk, by omega⟩]
        · rw [if_neg (fun hh => kk hh.1), if_neg (fun hh => kk (h2'.2 hh))]
          by_cases h0 : tx T (i + 1) = [48]
          · rw [if_pos h0]
            rfl
          · rw [if_neg h0]
      · by_cases s2 : tx T i = w_true
        · have hv : isVR w_true = true := by decide
          simp only [oneOf, s2, hv]
          simp
        · by_cases s3 : tx T i = w_false
          · have hv : isVR w_false = true := by decide
            simp only [oneOf, s3, hv]
            simp
          · by_cases s4 : tx T i = w_null
            · have hv : isVR w_null = true := by decide
              simp only [oneOf, s4, hv]
              simp
            · have hv : isVR (tx T i) = false := by unfold isVR; rw [hb]; simp [s1, s2, s3, s4]
              rw [if_pos hv]
              simp only [oneOf, s1, s2, s3, s4, if_false, Rs.then_bad]

theorem type_iff (T : List Tk) (i : Nat) : kindOf T (placeL typesL) i = typeR T i := by
  unfold kindOf typeR
  by_cases h1 : tx T i = w_int
  · rw [h1]; rfl
  by_cases h2 : tx T i = w_text
  · rw [h2]; rfl
  by_cases h3 : tx T i = w_bool
  · rw [h3]; rfl
  rw [if_neg h1, if_neg h2, if_neg h3]
  have : placeL typesL (tx T i) = 0 := by
    generalize tx T i = s at *
    unfold placeL typesL
    by_cases h0 : s = []
    · subst h0; rfl
    · have : List.idxOf? s [[], w_int, w_text, w_bool] = none := by
        rw [List.idxOf?_eq_none_iff]; simp [h0, h1, h2, h3]
      rw [this]; rfl
  rw [if_pos this]

theorem oper_iff (T : List Tk) (i : Nat) : kindOf T (placeL opersL) i = operR T i := by
  unfold kindOf operR
  by_cases h1 : tx T i = w_and
  · rw [h1]; rfl
  by_cases h2 : tx T i = w_or
  · rw [h2]; rfl
  by_cases h3 : tx T i = [43]
  · rw [h3]; rfl
  by_cases h4 : tx T i = [45]
  · rw [h4]; rfl
  by_cases h5 : tx T i = [124, 124]
  · rw [h5]; rfl
  by_cases h6 : tx T i = [60]
  · rw [h6]; rfl
  by_cases h7 : tx T i = [61]
  · rw [h7]; rfl
  rw [if_neg h1, if_neg h2, if_neg h3, if_neg h4, if_neg h5, if_neg h6, if_neg h7]
  have : placeL opersL (tx T i) = 0 := by
    generalize tx T i = s at *
    unfold placeL opersL
    by_cases h0 : s = []
    · subst h0; rfl
    · have : List.idxOf? s [[], [], [], [], [], w_and, w_or, [43], [45], [124, 124], [60], [61]] = none := by
        rw [List.idxOf?_eq_none_iff]; simp [h0, h1, h2, h3, h4, h5, h6, h7]
      rw [this]; rfl
  rw [if_pos this]

theorem may_iff (T : List Tk) (s : List UInt8) (ws : List (List UInt8)) (i : Nat) {α : Type} (f : Bool → Nat → Rs α) : (may T s ws i).then f = if tx T i = s then (must T ws (i + 1)).then fun _ j => f true j else f false i := by
  unfold may
  by_cases h : tx T i = s
  · rw [if_pos h, if_pos h]; cases must T ws (i + 1) <;> rfl
  · rw [if_neg h, if_neg h]; rfl
theorem may_nilR (T : List Tk) (s : List UInt8) (i : Nat) {α : Type} (f : Bool → Nat → Rs α) : (may T s [] i).then f = if tx T i = s then f true (i + 1) else f false i := by
  rw [may_iff]; rfl
theorem must_two (T : List Tk) (a b : List UInt8) (i : Nat) {α : Type} (f : Unit → Nat → Rs α) : (must T [a, b] i).then f = (must T [a] i).then fun _ j => (must T [b] j).then f := by
  unfold must
  by_cases h : tx T i = a
  · simp [h, must]
  · simp [h]

theorem brack_iff (T : List Tk) (ex ex' : Nat → Rs Ex) (h : ∀ i, ex i = ex' i) (i : Nat) : brackP T ex i = brackR T ex' i := by
  unfold brackP brackR
  rw [h]
  cases ex' i with
  | bad j => rfl
  | ok a j =>
    simp only [Rs.then_ok]
    rw [may_iff, must_two, oper_iff]
    by_cases hs : tx T j = w_is
    · rw [if_pos hs, if_pos hs]; rfl
    · rw [if_neg hs, if_neg hs]
      simp only [Bool.false_eq_true, if_false]
      cases operR T j with
      | bad _ => rfl
      | ok k j => simp only [Rs.then_ok]; rw [h]

/-- what a name is not -/
structure NameNot : Prop where
  v : ∀ s, nameW s = true → isVR s = false
  not : nameW w_not = false
  br : nameW [40] = false

theorem leaf_iff {T : List Tk} (hT : ∀ x ∈ T, TokIs x) (hz : ∀ i, kd T i = 2 → (decN (tx T i) = 0 ↔ tx T i = [48])) (hN : NameNot) (i : Nat) : leafP T i = leafR T i := by
  unfold leafP leafR
  by_cases hn : nameW (tx T i) = true
  · rw [if_pos hn, if_neg (by rw [hN.v _ hn]; simp)]
    unfold nameP; rw [if_pos hn]; rfl
  · rw [if_neg hn, value_iff hT hz]
    by_cases hv : isVR (tx T i) = true
    · rw [if_pos hv]
    · rw [if_neg hv]
      unfold nameP valueR
      rw [if_pos (by simpa using hv), if_neg hn]; rfl

theorem expr_iff {T : List Tk} (hT : ∀ x ∈ T, TokIs x) (hz : ∀ i, kd T i = 2 → (decN (tx T i) = 0 ↔ tx T i = [48])) (hN : NameNot) (f : Nat) : ∀ i, exprP T f i = exprR T f i := by
  induction f with
  | zero =>
    intro i
    rw [exprP, exprR]
    by_cases h : tx T i = [40] ∨ tx T i = w_not
    · rw [if_pos h, leaf_iff hT hz hN]
      unfold leafR nameP
      rcases h with h | h
      · rw [h, if_neg (by decide), hN.br]; rfl
      · rw [h, if_neg (by decide), hN.not]; rfl
    · rw [if_neg h]; exact leaf_iff hT hz hN i
  | succ f ih =>
    intro i
    rw [exprP, exprR]
    by_cases h1 : tx T i = w_not
    · rw [if_pos h1, if_pos h1, ih]
    · rw [if_neg h1, if_neg h1]
      by_cases h2 : tx T i = [40]
      · rw [if_pos h2, if_pos h2]; exact brack_iff T _ _ ih _
      · rw [if_neg h2, if_neg h2]; exact leaf_iff hT hz hN i


end Go.Proofs.YtkpeklealgicpabGreatDoor

namespace Go.Proofs.YtkpeklealgicpabGreatDoor
open Go.RowKit

def columnR (T : List Tk) (i : Nat) : Rs Cl := (nameP T i).then fun s j => (typeR T j).then fun k j => .ok ⟨s, (k : Nat)⟩ j
def inBrR {α : Type} (T : List Tk) (one : Nat → Rs α) (i : Nat) : Rs (List α) :=
  (must T [[40]] i).then fun _ j => (listP T one j).then fun l j => (must T [[41]] j).then fun _ j => .ok l j
def whereR (T : List Tk) (c : Cm) (i : Nat) : Rs Cm :=
  if tx T i = w_where then (exprR T 60 (i + 1)).then fun e j => .ok { c with all := false, wh := e } j else .ok { c with all := true } i
def alterR (T : List Tk) (i : Nat) : Rs Cm :=
  (must T [w_table] i).then fun _ j => (nameP T j).then fun n j =>
    if tx T j = w_add then (nameP T (j + 1)).then fun l j => (typeR T j).then fun t j => (must T [w_default] j).then fun _ j => (valueR T j).then fun v j => .ok { cm0 with kind := 3, name := n, column := l, ty := (t : Nat), val := v } j
    else if tx T j = w_drop then (nameP T (j + 1)).then fun l j => .ok { cm0 with kind := 4, name := n, column := l } j
    else if tx T j = w_rename then
      (if tx T (j + 1) = w_to then (nameP T (j + 1 + 1)).then fun o j => .ok { cm0 with kind := 7, name := n, other := o } j
      else (nameP T (j + 1)).then fun l j => (must T [w_to] j).then fun _ j => (nameP T j).then fun o j => .ok { cm0 with kind := 5, name := n, column := l, other := o } j)
    else (must T [w_retype] j).then fun _ j => (nameP T j).then fun l j => (typeR T j).then fun t j => .ok { cm0 with kind := 6, name := n, column := l, ty := (t : Nat) } j
def createR (T : List Tk) (i : Nat) : Rs Cm :=
  if tx T i = w_index then (nameP T (i + 1)).then fun n j => (must T [w_on] j).then fun _ j => (nameP T j).then fun o j => (must T [[40]] j).then fun _ j => (nameP T j).then fun c j => (must T [[41]] j).then fun _ j =>
      .ok { cm0 with kind := 8, name := n, other := o, column := c } j
  else (must T [w_table] i).then fun _ j => (nameP T j).then fun n j => (must T [[40]] j).then fun _ j => (listP T (columnR T) j).then fun l j => (must T [[41]] j).then fun _ j => .ok { cm0 with kind := 1, name := n, cols := l } j
def dropR (T : List Tk) (i : Nat) : Rs Cm :=
  if tx T i = w_index then (nameP T (i + 1)).then fun n j => .ok { cm0 with kind := 9, name := n } j
  else (must T [w_table] i).then fun _ j => (nameP T j).then fun n j => .ok { cm0 with kind := 2, name := n } j
def insertR (T : List Tk) (i : Nat) : Rs Cm :=
  (must T [w_into] i).then fun _ j => (nameP T j).then fun n j => (must T [w_values] j).then fun _ j => (must T [[40]] j).then fun _ j => (listP T (valueR T) j).then fun l j => (must T [[41]] j).then fun _ j => .ok { cm0 with kind := 10, name := n, vals := l } j
def deleteR (T : List Tk) (i : Nat) : Rs Cm :=
  (must T [w_from] i).then fun _ j => (nameP T j).then fun n j => whereR T { cm0 with kind := 11, name := n } j
def updateR (T : List Tk) (i : Nat) : Rs Cm :=
  (nameP T i).then fun n j => (must T [w_set] j).then fun _ j => (nameP T j).then fun c j => (must T [[61]] j).then fun _ j => (exprR T 60 j).then fun e j =>
    whereR T { cm0 with kind := 12, name := n, column := c, expr := e } j
def orderR (T : List Tk) (c : Cm) (i : Nat) : Rs Cm :=
  if tx T i = w_order then (must T [w_by] (i + 1)).then fun _ j => (nameP T j).then fun o j => .ok { c with order := o } j else .ok c i
def limitR (T : List Tk) (c : Cm) (i : Nat) : Rs Cm :=
  if tx T i = w_limit then (numberR T (i + 1)).then fun n j => .ok { c with limit := (n : Nat) } j else .ok c i
def fieldsR (T : List Tk) (i : Nat) : Rs (List (List UInt8)) := if tx T i = [42] then .ok [] (i + 1) else listP T (nameP T) i
def selectR (T : List Tk) (i : Nat) : Rs Cm :=
  (fieldsR T i).then fun l j => (must T [w_from] j).then fun _ j => (nameP T j).then fun n j =>
    (whereR T { cm0 with kind := 13, limit := -1, fields := l, name := n } j).then fun c j => (orderR T c j).then fun c j => limitR T c j
def commandR (T : List Tk) (i : Nat) : Rs Cm :=
  if tx T i = w_create then createR T (i + 1) else if tx T i = w_drop then dropR T (i + 1) else if tx T i = w_alter then alterR T (i + 1) else if tx T i = w_insert then insertR T (i + 1)
  else if tx T i = w_delete then deleteR T (i + 1) else if tx T i = w_update then updateR T (i + 1) else if tx T i = w_select then selectR T (i + 1)
  else if tx T i = w_begin then .ok { cm0 with kind := 14 } (i + 1) else if tx T i = w_commit then .ok { cm0 with kind := 15 } (i + 1)
  else (must T [w_rollback] i).then fun _ j => .ok { cm0 with kind := 16 } j

theorem rs_congr {α β : Type} (r : Rs α) {f g : α → Nat → Rs β} (h : ∀ a j, f a j = g a j) : r.then f = r.then g := by
  cases r with
  | ok a j => exact h a j
  | bad j => rfl
theorem rs_assoc {α β γ : Type} (r : Rs α) (f : α → Nat → Rs β) (g : β → Nat → Rs γ) : (r.then f).then g = r.then fun a j => (f a j).then g := by
  cases r <;> rfl
theorem must_one (T : List Tk) (w : List UInt8) (i : Nat) {α : Type} (f : Unit → Nat → Rs α) : (must T [w] i).then f = if tx T i = w then f () (i + 1) else .bad i := by
  unfold must
  by_cases h : tx T i = w
  · rw [if_pos h, if_pos h]; rfl
  · rw [if_neg h, if_neg h]; rfl

theorem column_iff (T : List Tk) (i : Nat) : columnP T i = columnR T i := by
  unfold columnP columnR
  exact rs_congr _ fun s j => by rw [type_iff]

theorem list_congr {α : Type} (T : List Tk) (f g : Nat → Rs α) (h : ∀ i, f i = g i) (i : Nat) : listP T f i = listP T g i := by
  have : f = g := funext h
  rw [this]

theorem where_iff {T : List Tk} (hT : ∀ x ∈ T, TokIs x) (hz : ∀ i, kd T i = 2 → (decN (tx T i) = 0 ↔ tx T i = [48])) (hN : NameNot) (c : Cm) (i : Nat) : whereP T c i = whereR T c i := by
  unfold whereP whereR
  rw [may_nilR]
  by_cases h : tx T i = w_where
  · rw [if_pos h, if_pos h, if_pos rfl, expr_iff hT hz hN]
  · rw [if_neg h, if_neg h, if_neg (by simp)]

theorem alter_iff {T : List Tk} (hT : ∀ x ∈ T, TokIs x) (hz : ∀ i, kd T i = 2 → (decN (tx T i) = 0 ↔ tx T i = [48])) (i : Nat) : alterP T i = alterR T i := by
  unfold alterP alterR
  refine rs_congr _ fun _ j => rs_congr _ fun n j => ?_
  by_cases h1 : tx T j = w_add
  · simp only [oneOf, h1, if_true, Rs.then_ok]
    unfold columnP
    rw [rs_assoc]
    refine rs_congr _ fun l j => ?_
    rw [rs_assoc, type_iff]
    refine rs_congr _ fun t j => ?_
    simp only [Rs.then_ok]
    exact rs_congr _ fun _ j => by rw [value_iff hT hz]
  by_cases h2 : tx T j = w_drop
  · simp only [oneOf, h2, if_true]; rfl
  by_cases h3 : tx T j = w_rename
  · have e : oneOf T [w_add, w_drop, w_rename, w_retype] j = .ok w_rename (j + 1) := by simp [oneOf, h3]
    rw [e, if_neg h1, if_neg h2, if_pos h3]
    simp only [Rs.then_ok]
    rw [if_neg (by decide), if_neg (by decide), if_pos trivial]
    unfold renameP
    rw [may_nilR]
    by_cases h : tx T (j + 1) = w_to
    · rw [if_pos h, if_pos h, if_pos rfl]
    · rw [if_neg h, if_neg h, if_neg (by simp)]
  rw [if_neg h1, if_neg h2, if_neg h3, must_one]
  by_cases h4 : tx T j = w_retype
  · have e : oneOf T [w_add, w_drop, w_rename, w_retype] j = .ok w_retype (j + 1) := by simp [oneOf, h4]
    rw [e, if_pos h4]
    simp only [Rs.then_ok]
    rw [if_neg (by decide), if_neg (by decide), if_neg (by decide)]
    unfold columnP
    rw [rs_assoc]
    refine rs_congr _ fun l j => ?_
    rw [rs_assoc, type_iff]; rfl
  · simp only [oneOf, h1, h2, h3, h4, if_false, Rs.then_bad]

theorem create_iff (T : List Tk) (i : Nat) : createP T i = createR T i := by
  unfold createP createR
  by_cases h1 : tx T i = w_index
  · simp only [oneOf, h1, if_true]
    rw [if_neg (by decide)]
    simp only [Rs.then_ok]
    rw [if_neg (by decide)]
  · rw [if_neg h1, must_one]
    by_cases h2 : tx T i = w_table
    · simp only [oneOf, h2, if_true, Rs.then_ok]
      refine rs_congr _ fun n j => ?_
      unfold inBrP
      rw [rs_assoc]
      refine rs_congr _ fun _ j => ?_
      rw [rs_assoc, list_congr T _ _ (column_iff T)]
      refine rs_congr _ fun l j => ?_
      rw [rs_assoc]; rfl
    · simp only [oneOf, h1, h2, if_false, Rs.then_bad]

theorem drop_iff (T : List Tk) (i : Nat) : dropP T i = dropR T i := by
  unfold dropP dropR
  by_cases h1 : tx T i = w_index
  · simp only [oneOf, h1, if_true]
    rw [if_neg (by decide)]
    simp only [Rs.then_ok, if_true]
  · rw [if_neg h1, must_one]
    by_cases h2 : tx T i = w_table
    · simp only [oneOf, h2, if_true, Rs.then_ok]
      refine rs_congr _ fun n j => ?_
      rw [if_neg (by decide)]
    · simp only [oneOf, h1, h2, if_false, Rs.then_bad]

theorem insert_iff {T : List Tk} (hT : ∀ x ∈ T, TokIs x) (hz : ∀ i, kd T i = 2 → (decN (tx T i) = 0 ↔ tx T i = [48])) (i : Nat) : insertP T i = insertR T i := by
  unfold insertP insertR
  refine rs_congr _ fun _ j => rs_congr _ fun n j => rs_congr _ fun _ j => ?_
  unfold inBrP
  rw [rs_assoc]
  refine rs_congr _ fun _ j => ?_
  rw [rs_assoc, list_congr T _ _ (value_iff hT hz)]
  refine rs_congr _ fun l j => ?_
  rw [rs_assoc]; rfl

theorem delete_iff {T : List Tk} (hT : ∀ x ∈ T, TokIs x) (hz : ∀ i, kd T i = 2 → (decN (tx T i) = 0 ↔ tx T i = [48])) (hN : NameNot) (i : Nat) : deleteP T i = deleteR T i := by
  unfold deleteP deleteR
  exact rs_congr _ fun _ j => rs_congr _ fun n j => where_iff hT hz hN _ _

theorem update_iff {T : List Tk} (hT : ∀ x ∈ T, TokIs x) (hz : ∀ i, kd T i = 2 → (decN (tx T i) = 0 ↔ tx T i = [48])) (hN : NameNot) (i : Nat) : updateP T i = updateR T i := by
  unfold updateP updateR
  refine rs_congr _ fun _ j => rs_congr _ fun n j => rs_congr _ fun _ j => rs_congr _ fun _ j => ?_
  rw [expr_iff hT hz hN]
  exact rs_congr _ fun e j => where_iff hT hz hN _ _

theorem order_iff (T : List Tk) (c : Cm) (i : Nat) : orderP T c i = orderR T c i := by
  unfold orderP orderR
  rw [may_iff]
  by_cases h : tx T i = w_order
  · rw [if_pos h, if_pos h]
    exact rs_congr _ fun _ j => by rw [if_pos rfl]
  · rw [if_neg h, if_neg h, if_neg (by simp)]

theorem limit_iff {T : List Tk} (hT : ∀ x ∈ T, TokIs x) (c : Cm) (i : Nat) : limitP T c i = limitR T c i := by
  unfold limitP limitR
  rw [may_nilR]
  by_cases h : tx T i = w_limit
  · rw [if_pos h, if_pos h, if_pos rfl, number_iff hT]
  · rw [if_neg h, if_neg h, if_neg (by simp)]

theorem fields_iff (T : List Tk) (i : Nat) : fieldsP T i = fieldsR T i := by
  unfold fieldsP fieldsR
  rw [may_nilR]
  by_cases h : tx T i = [42]
  · rw [if_pos h, if_pos h, if_pos rfl]
  · rw [if_neg h, if_neg h, if_neg (by simp)]

theorem select_iff {T : List Tk} (hT : ∀ x ∈ T, TokIs x) (hz : ∀ i, kd T i = 2 → (decN (tx T i) = 0 ↔ tx T i = [48])) (hN : NameNot) (i : Nat) : chooseP T i = selectR T i := by
  unfold chooseP selectR
  rw [fields_iff T]
  refine rs_congr _ fun l j => rs_congr _ fun _ j => rs_congr _ fun n j => ?_
  rw [where_iff hT hz hN]
  refine rs_congr _ fun c j => ?_
  rw [order_iff T]
  exact rs_congr _ fun c j => limit_iff hT _ _

theorem command_iff {T : List Tk} (hT : ∀ x ∈ T, TokIs x) (hz : ∀ i, kd T i = 2 → (decN (tx T i) = 0 ↔ tx T i = [48])) (hN : NameNot) (i : Nat) : commandP T i = commandR T i := by
  unfold commandP commandR firstW
  have n1 := create_iff T (i + 1)
  have n2 := drop_iff T (i + 1)
  have n3 := alter_iff hT hz (i + 1)
  have n4 := insert_iff hT hz (i + 1)
  have n5 := delete_iff hT hz hN (i + 1)
  have n6 := update_iff hT hz hN (i + 1)
  have n7 := select_iff hT hz hN (i + 1)
  by_cases h1 : tx T i = w_create
  · simp only [oneOf, h1, if_true, Rs.then_ok, n1]
  by_cases h2 : tx T i = w_drop
  · simp [oneOf, h2, n2]
  by_cases h3 : tx T i = w_alter
  · simp [oneOf, h3, n3]
  by_cases h4 : tx T i = w_insert
  · simp [oneOf, h4, n4]
  by_cases h5 : tx T i = w_delete
  · simp [oneOf, h5, n5]
  by_cases h6 : tx T i = w_update
  · simp [oneOf, h6, n6]
  by_cases h7 : tx T i = w_select
  · simp [oneOf, h7, n7]
  by_cases h8 : tx T i = w_begin
  · simp [oneOf, h8]
  by_cases h9 : tx T i = w_commit
  · simp [oneOf, h9]
  rw [if_neg h1, if_neg h2, if_neg h3, if_neg h4, if_neg h5, if_neg h6, if_neg h7, if_neg h8, if_neg h9, must_one]
  by_cases h10 : tx T i = w_rollback
  · simp [oneOf, h10]
  · simp [oneOf, h1, h2, h3, h4, h5, h6, h7, h8, h9, h10]

end Go.Proofs.YtkpeklealgicpabGreatDoor

namespace Go.Proofs.YtkpeklealgicpabGreatDoor
open Go.RowKit

theorem isL_not {c : UInt8} (h : isL c = true) : isD c = false ∧ c ≠ 39 := by
  simp only [isL, isD, Bool.and_eq_true, decide_eq_true_eq] at *
  refine ⟨?_, ?_⟩
  · rw [Bool.and_eq_false_iff, decide_eq_false_iff_not, decide_eq_false_iff_not]; omega
  · intro e; subst e; simp at h

theorem tokL_is (c : UInt8) (r : List UInt8) (hz : (tokL (c :: r)).1 ≠ 0) : ((tokL (c :: r)).1 = 2 ↔ isD c = true) ∧ ((tokL (c :: r)).1 = 3 ↔ c = 39) := by
  revert hz
  rw [tokL]
  by_cases h1 : isL c = true
  · have := isL_not h1
    simp [h1, this.1, this.2]
  · by_cases h2 : isD c = true
    · have : c ≠ 39 := by intro e; subst e; simp [isD] at h2
      simp [h1, h2, this]
    · by_cases h3 : c = 39
      · subst h3
        have : isD 39 = false := by decide
        rw [if_neg h1, if_neg h2, if_pos rfl]
        split <;> simp [this]
      · rw [if_neg h1, if_neg h2, if_neg h3]
        split
        · simp [h2, h3]
        · split <;> simp [h2, h3]

theorem scanned_is (s : List UInt8) : ∀ x ∈ (scanS s).1, TokIs x := by
  refine scanS_each (fun a c r hw => ?_) s
  have hz := wrongL_zero hw
  have hp := tokL_pos c r hz
  obtain ⟨h2, h3⟩ := tokL_is c r hz
  obtain ⟨n, hn⟩ : ∃ n, (tokL (c :: r)).2 = n + 1 := ⟨(tokL (c :: r)).2 - 1, by omega⟩
  rw [hn, List.take_succ_cons]
  refine ⟨?_, ?_⟩
  · show (((tokL (c :: r)).1 : Nat) : Int) = 2 ↔ isD c = true
    rw [← h2]; omega
  · show (((tokL (c :: r)).1 : Nat) : Int) = 3 ↔ decide (c = 39) = true
    rw [decide_eq_true_eq, ← h3]; omega

theorem foldl_ge (l : List UInt8) : ∀ n : Nat, n ≤ l.foldl (fun n c => 10 * n + (c.toNat - 48)) n := by
  induction l with
  | nil => intro n; exact Nat.le_refl _
  | cons d r ih =>
    intro n
    have := ih (10 * n + (d.toNat - 48))
    rw [List.foldl_cons]
    omega

theorem scanned_zero (s : List UInt8) : ∀ x ∈ (scanS s).1, x.k = 2 → (decN x.t = 0 ↔ x.t = [48]) := by
  refine scanS_each (fun a c r hw h2 => ?_) s
  have h2' : (tokL (c :: r)).1 = 2 := by simp only at h2; omega
  obtain ⟨hd, ht⟩ := tokL_two c r h2'
  rw [ht] at hw ⊢
  simp only [List.take_succ_cons] at hw ⊢
  generalize List.take (runL isD r) r = q at *
  constructor
  · intro h0
    have hc : c = 48 := by
      have h1 := foldl_ge q (10 * 0 + (c.toNat - 48))
      rw [decN, List.foldl_cons] at h0
      simp only [isD, Bool.and_eq_true, decide_eq_true_eq] at hd
      have : c.toNat = 48 := by omega
      exact UInt8.toNat_inj.1 (by rw [this]; rfl)
    subst hc
    cases q with
    | nil => rfl
    | cons d q =>
      exfalso
      unfold wrongL at hw
      rw [if_neg (by decide)] at hw
      split at hw
      · cases hw
      · rw [if_pos ⟨rfl, by simp, rfl⟩] at hw
        cases hw
  · intro e
    rw [e]; rfl

theorem nameNot : NameNot := by
  refine ⟨fun s h => ?_, by kernel_rfl, by kernel_rfl⟩
  have hne : ∀ t, nameW t = false → s ≠ t := by intro t ht e; rw [e, ht] at h; cases h
  have h1 : headB (fun c => isD c || decide (c = 39)) s = false := by
    have ha : aloneB 1 s = true := by
      unfold nameW at h
      rw [Bool.and_eq_true] at h
      exact h.1
    unfold aloneB at ha
    split at ha
    · rename_i x _ hs
      simp only [decide_eq_true_eq] at ha
      have hx := scanned_is s x (by rw [hs]; simp)
      have h2 : ¬ headB isD x.t = true := fun e => by have := hx.num.2 e; omega
      have h3 : ¬ headB (fun c => decide (c = 39)) x.t = true := fun e => by have := hx.txt.2 e; omega
      rw [ha.2.2] at h2 h3
      cases s with
      | nil => rfl
      | cons c r =>
        simp only [headB, Bool.not_eq_true] at h2 h3 ⊢
        rw [h2, h3]; rfl
    · cases ha
  unfold isVR
  rw [h1, decide_eq_false (hne w_true (by kernel_rfl)), decide_eq_false (hne w_false (by kernel_rfl)), decide_eq_false (hne w_null (by kernel_rfl)), decide_eq_false (hne [45] (by kernel_rfl))]
  rfl

/-- the program's parser is the document's reader -/
theorem command_scanned (s : List UInt8) (i : Nat) : commandP (scanS s).1 i = commandR (scanS s).1 i := by
  refine command_iff (scanned_is s) (fun i h => ?_) nameNot i
  cases e : (scanS s).1[i]? with
  | none => simp [kd, e] at h
  | some x =>
    have h1 : kd (scanS s).1 i = x.k := by simp [kd, e]
    have h2 : tx (scanS s).1 i = x.t := by simp [tx, e]
    rw [h1] at h
    rw [h2]
    exact scanned_zero s x (List.mem_of_getElem? e) h

end Go.Proofs.YtkpeklealgicpabGreatDoor

namespace Go.Proofs.YtkpeklealgicpabGreatDoor
open Go.RowKit

def Rs.all {α : Type} (p : α → Prop) : Rs α → Prop
  | .ok a _ => p a
  | .bad _ => True

theorem Rs.all_then {α β : Type} {p : α → Prop} {q : β → Prop} {r : Rs α} {f : α → Nat → Rs β} (h : r.all p) (hf : ∀ a j, p a → (f a j).all q) : (r.then f).all q := by
  cases r with
  | ok a j => exact hf a j h
  | bad j => trivial
theorem Rs.all_any {α β : Type} {q : β → Prop} {r : Rs α} {f : α → Nat → Rs β} (hf : ∀ a j, (f a j).all q) : (r.then f).all q := by
  cases r with
  | ok a j => exact hf a j
  | bad j => trivial

def Sh (s : List UInt8) : Prop := s.length ≤ 22
theorem Sh.up {s : List UInt8} (h : Sh s) : s.length ≤ 140737488355328 := by unfold Sh at h; omega

section
variable {T : List Tk} (hT : ∀ x ∈ T, TokOk x)
include hT

theorem tx_sh (i : Nat) : Sh (tx T i) := by
  unfold tx
  split
  · rename_i t h; exact (hT t (List.mem_of_getElem? h)).short
  · simp [Sh]

theorem name_sh (i : Nat) : (nameP T i).all Sh := by
  unfold nameP
  split
  · exact tx_sh hT i
  · trivial

theorem column_sh (i : Nat) : (columnP T i).all fun x => Sh x.name :=
  Rs.all_then (name_sh hT i) fun _ _ h => Rs.all_any fun _ _ => h

theorem value_sh (i : Nat) : (valueP T i).all fun x => Sh x.s := by
  unfold valueP
  split
  · exact Rs.all_any fun _ _ => by simp [Rs.all, Sh]
  · split
    · have := tx_sh hT i
      simp only [Rs.all, Sh, List.length_take, List.length_drop] at this ⊢
      omega
    · refine Rs.all_any fun s j => ?_
      split
      · exact Rs.all_any fun _ _ => by simp [Rs.all, Sh]
      · split
        · simp [Rs.all, Sh]
        · split <;> simp [Rs.all, Sh, vl0]

theorem leaf_fit (i : Nat) : (leafP T i).all Fit := by
  unfold leafP
  split
  · exact .mk _ _ _ _ (by simp [vl0]) (tx_sh hT i).up (by simp) (by intro y hy; cases hy)
  · exact Rs.all_then (value_sh hT i) fun v _ h => .mk _ _ _ _ h.up (by simp) (by simp) (by intro y hy; cases hy)

theorem expr_fit (f : Nat) : ∀ i, (exprP T f i).all Fit := by
  induction f with
  | zero => exact leaf_fit hT
  | succ f ih =>
    intro i
    rw [exprP]
    split
    · exact Rs.all_then (ih _) fun a _ h => .mk _ _ _ _ (by simp [vl0]) (by simp) (by simp) (by intro y hy; rw [List.mem_singleton] at hy; rw [hy]; exact h)
    · split
      · unfold brackP
        refine Rs.all_then (ih _) fun a _ h => Rs.all_any fun b _ => ?_
        split
        · exact .mk _ _ _ _ (by simp [vl0]) (by simp) (by simp) (by intro y hy; rw [List.mem_singleton] at hy; rw [hy]; exact h)
        · exact Rs.all_any fun k _ => Rs.all_then (ih _) fun b _ h2 => Rs.all_any fun _ _ => .mk _ _ _ _ (by simp [vl0]) (by simp) (by simp) (by
            intro y hy
            rcases List.mem_cons.1 hy with e | e
            · rw [e]; exact h
            · rw [List.mem_singleton] at e; rw [e]; exact h2)
      · exact leaf_fit hT i
end

theorem listGo_all {α : Type} {p : α → Prop} {T : List Tk} {one : Nat → Rs α} (h1 : ∀ i, (one i).all p) (f : Nat) : ∀ (l : List α) (i : Nat), (∀ x ∈ l, p x) → (listGo T one f l i).all fun r => r.length ≤ l.length + f ∧ ∀ x ∈ r, p x := by
  induction f with
  | zero => intro l i h; exact ⟨Nat.le_refl _, h⟩
  | succ f ih =>
    intro l i h
    rw [listGo]
    split
    · refine Rs.all_then (h1 _) fun x j hx => ?_
      have := ih (l ++ [x]) j (fun y hy => by
        rcases List.mem_append.1 hy with e | e
        · exact h y e
        · rw [List.mem_singleton] at e; rw [e]; exact hx)
      generalize listGo T one f (l ++ [x]) j = r at *
      cases r with
      | bad => trivial
      | ok r k =>
        have h2 := this.1
        simp only [List.length_append, List.length_cons, List.length_nil] at h2
        exact ⟨by omega, this.2⟩
    · exact ⟨by omega, h⟩

theorem listP_all {α : Type} {p : α → Prop} {T : List Tk} {one : Nat → Rs α} (hn : T.length ≤ 2000) (h1 : ∀ i, (one i).all p) (i : Nat) : (listP T one i).all fun r => r.length ≤ 1000000000000000 ∧ ∀ x ∈ r, p x := by
  refine Rs.all_then (h1 i) fun x j hx => ?_
  have := listGo_all (T := T) h1 (T.length + 1) [x] j (fun y hy => by rw [List.mem_singleton] at hy; rw [hy]; exact hx)
  generalize listGo T one (T.length + 1) [x] j = r at *
  cases r with
  | bad => trivial
  | ok r k =>
    have h2 := this.1
    simp only [List.length_cons, List.length_nil] at h2
    exact ⟨by omega, this.2⟩

theorem inBr_all {α : Type} {p : α → Prop} {T : List Tk} {one : Nat → Rs α} (hn : T.length ≤ 2000) (h1 : ∀ i, (one i).all p) (i : Nat) : (inBrP T one i).all fun r => r.length ≤ 1000000000000000 ∧ ∀ x ∈ r, p x :=
  Rs.all_any fun _ _ => Rs.all_then (listP_all hn h1 _) fun _ _ h => Rs.all_any fun _ _ => h

theorem fit0 : CmFit cm0 := by
  have he : Fit (.mk 0 vl0 [] []) := .mk _ _ _ _ (by simp [vl0]) (by simp) (by simp) (by intro y hy; cases hy)
  refine ⟨?_, ?_, ?_, ?_, ?_, ?_, ?_, ?_, ?_, ?_, ?_, he, he⟩ <;> simp [cm0, vl0]

section
variable {T : List Tk} (hT : ∀ x ∈ T, TokOk x) (hn : T.length ≤ 2000)
include hT

theorem where_fit {c : Cm} (h : CmFit c) (i : Nat) : (whereP T c i).all CmFit := by
  refine Rs.all_any fun b j => ?_
  split
  · exact Rs.all_then (expr_fit hT 60 j) fun e _ he => { h with wh := he }
  · exact { h with }

theorem rename_fit {c : Cm} (h : CmFit c) (i : Nat) : (renameP T c i).all CmFit := by
  refine Rs.all_any fun b j => ?_
  split
  · exact Rs.all_then (name_sh hT j) fun o _ ho => { h with other := ho.up }
  · exact Rs.all_then (name_sh hT j) fun l _ hl => Rs.all_any fun _ _ => Rs.all_then (name_sh hT _) fun o _ ho => { h with column := hl.up, other := ho.up }

theorem drop_fit (i : Nat) : (dropP T i).all CmFit := Rs.all_any fun _ j => Rs.all_then (name_sh hT j) fun _ _ h => { fit0 with name := h.up }

theorem alter_fit (i : Nat) : (alterP T i).all CmFit := by
  refine Rs.all_any fun _ j => Rs.all_then (name_sh hT j) fun n _ h => Rs.all_any fun s j => ?_
  split
  · exact Rs.all_then (column_sh hT j) fun c _ hc => Rs.all_any fun _ j => Rs.all_then (value_sh hT j) fun v _ hv => { fit0 with name := h.up, column := hc.up, val := hv.up }
  · split
    · exact Rs.all_then (name_sh hT j) fun c _ hc => { fit0 with name := h.up, column := hc.up }
    · split
      · exact rename_fit hT (c := { cm0 with name := n }) { fit0 with name := h.up } j
      · exact Rs.all_then (column_sh hT j) fun c _ hc => { fit0 with name := h.up, column := hc.up }

theorem delete_fit (i : Nat) : (deleteP T i).all CmFit := Rs.all_any fun _ j => Rs.all_then (name_sh hT j) fun n j h => where_fit hT (c := { cm0 with kind := 11, name := n }) { fit0 with name := h.up } j

theorem update_fit (i : Nat) : (updateP T i).all CmFit :=
  Rs.all_then (name_sh hT i) fun n _ h => Rs.all_any fun _ j => Rs.all_then (name_sh hT j) fun l _ hc => Rs.all_any fun _ j => Rs.all_then (expr_fit hT 60 j) fun e j he => where_fit hT (c := { cm0 with kind := 12, name := n, column := l, expr := e }) { fit0 with name := h.up, column := hc.up, expr := he } j

theorem order_fit {c : Cm} (h : CmFit c) (i : Nat) : (orderP T c i).all CmFit := by
  refine Rs.all_any fun b j => ?_
  split
  · exact Rs.all_then (name_sh hT j) fun o _ ho => { h with order := ho.up }
  · exact h

omit hT in
theorem limit_fit {c : Cm} (h : CmFit c) (i : Nat) : (limitP T c i).all CmFit := by
  refine Rs.all_any fun b j => ?_
  split
  · exact Rs.all_any fun n _ => { h with }
  · exact h

include hn

theorem create_fit (i : Nat) : (createP T i).all CmFit := by
  refine Rs.all_any fun s j => ?_
  split
  · exact Rs.all_then (name_sh hT j) fun n j h => Rs.all_then (inBr_all hn (column_sh hT) j) fun l _ hl => { fit0 with name := h.up, cols := hl.1, colsN := fun x hx => (hl.2 x hx).up }
  · exact Rs.all_then (name_sh hT j) fun n j h => Rs.all_any fun _ j => Rs.all_then (name_sh hT j) fun o j ho => Rs.all_any fun _ j => Rs.all_then (name_sh hT j) fun c j hc => Rs.all_any fun _ j => { fit0 with name := h.up, other := ho.up, column := hc.up }

theorem insert_fit (i : Nat) : (insertP T i).all CmFit :=
  Rs.all_any fun _ j => Rs.all_then (name_sh hT j) fun _ _ h => Rs.all_any fun _ j => Rs.all_then (inBr_all hn (value_sh hT) j) fun _ _ hl => { fit0 with name := h.up, vals := hl.1, valsN := fun x hx => (hl.2 x hx).up }

theorem choose_fit (i : Nat) : (chooseP T i).all CmFit := by
  have hf : ∀ i, (fieldsP T i).all fun r => r.length ≤ 1000000000000000 ∧ ∀ x ∈ r, Sh x := by
    intro i
    refine Rs.all_any fun b j => ?_
    split
    · exact ⟨by simp, by intro x hx; cases hx⟩
    · exact listP_all hn (name_sh hT) j
  exact Rs.all_then (hf i) fun l _ hl => Rs.all_any fun _ j => Rs.all_then (name_sh hT j) fun n j h =>
    Rs.all_then (where_fit hT (c := { cm0 with kind := 13, limit := -1, fields := l, name := n }) { fit0 with name := h.up, fields := hl.1, fieldsN := fun x hx => (hl.2 x hx).up } j) fun c j hc => Rs.all_then (order_fit hT hc j) fun c j hc => limit_fit hc j

theorem command_fit (i : Nat) : (commandP T i).all CmFit := by
  refine Rs.all_any fun s j => ?_
  repeat' split
  · exact create_fit hT hn j
  · exact drop_fit hT j
  · exact alter_fit hT j
  · exact insert_fit hT hn j
  · exact delete_fit hT j
  · exact update_fit hT j
  · exact choose_fit hT hn j
  · exact { fit0 with }
  · exact { fit0 with }
  · exact { fit0 with }

theorem whole_fit {c : Cm} {j : Nat} (h : wholeP T = .ok c j) : CmFit c := by
  have : (wholeP T).all CmFit := Rs.all_then (command_fit hT hn 0) fun c j hc => by
    split
    · trivial
    · exact hc
  rw [h] at this
  exact this
end

theorem scanned_fit {s : List UInt8} {c : Cm} {j : Nat} (h : wholeP (scanS s).1 = .ok c j) : CmFit c := whole_fit (scanned_ok s) (scanS_few s) h

end Go.Proofs.YtkpeklealgicpabGreatDoor

namespace Go.Proofs.YtkpeklealgicpabGreatDoor
open Go.RowKit

theorem results_whole3 (tmps : Array Value) (w : World) (rb : Nat) (cs : List Value) (x y : Value) (h2 : tmps.getD 2 undef = .pointer (some ⟨rb, 0, none⟩)) (h3 : tmps.getD 3 undef = x) (h4 : tmps.getD 4 undef = y)
    (hl : cs.length = 26) (hr : w.heap[rb]? = some (.cells cs.toArray 31)) : (results Tryz.f8 tmps).run Tryz.prog w = .ok (.tuple #[.agg cs.toArray, x, y]) w := by
  have h := run_loadVar_mid (P := Tryz.prog) w rb 0 31 cs _ (fun j v hv => by rw [Nat.zero_add, Lib.cell_of_heap hr]; simpa using hv) Tryz.underlying31 rfl (by rw [hl]; exact Tryz.size31)
  have h2' : tmps[2]?.getD undef = .pointer (some ⟨rb, 0, none⟩) := by simpa using h2
  have h3' : tmps[3]?.getD undef = x := by simpa using h3
  have h4' : tmps[4]?.getD undef = y := by simpa using h4
  simp [results, Tryz.results8, h2', h3', h4', asAddr, h]

set_option maxRecDepth 100000 in
set_option maxHeartbeats 2000000 in
theorem Parse_scan {w : World} (s : List UInt8) (A E : Nat) (hs : s.length ≤ 9223372036854775000) (hA : (scanS s).2.1 = A) (hE : (scanS s).2.2 = E) (hz : E ≠ 0) :
    Calls Tryz.prog 8 #[.string ⟨s.toArray⟩] w fun e w' => e = .returned (.tuple #[.agg cmZ.toArray, .int .i64 (A : Nat), .int .i64 (E : Nat)]) ∧ Below w.heap.size w w' := by
  have hsc : ∀ W : World, Calls Tryz.prog 15 #[.string ⟨s.toArray⟩] W fun e w' => ∃ v, e = .returned (.tuple #[v, .int .i64 (A : Nat), .int .i64 (E : Nat)]) ∧ Below W.heap.size W w' := by
    intro W
    refine (scan_any ⟨s.toArray⟩ W (by rw [size_mk]; exact hs)).mono ?_
    rintro e w' ⟨v, rfl, -, hb⟩
    refine ⟨v, ?_, hb⟩
    show Ending.returned (.tuple #[v, .int .i64 ((scanS s).2.1 : Nat), .int .i64 ((scanS s).2.2 : Nat)]) = _
    rw [hA, hE]
  have hd : ¬ ((E : Int) = 0) := by omega
  clear hA hE hs
  go_enter Tryz.func8, Tryz.ntmps8
  go_wp2_with (first | (refine wpList_alloc_blk 2 31 cmZ rfl rfl rfl Tryz.alloc31 ?_; intro W0 rb hrb k0 b0) | (refine (hsc _).mono ?_; rintro e w1 ⟨v, rfl, b1⟩; have k1 := (b1.block rb (Array.getElem?_eq_some_iff.1 k0).1).trans k0) | (refine wpList_store_whole 31 _ _ rfl rfl _ cmZ cmZ 31 rfl rfl (by exact k1) rfl Tryz.size31 (by exact (cmIn0 0 w1 cm0 rfl rfl rfl rfl rfl).one) ?_; intro w3 k3 p3))
  have hr := hrb.out
  have B3 : Below w.heap.size w w3 := by
    rw [p3.out]
    exact (b0.trans (b1.mono b0.size)).trans ⟨(putAll_misc rb _ w1 0).1, (putAll_misc rb _ w1 0).2.1, (putAll_misc rb _ w1 0).2.2, Nat.le_of_eq (putAll_size rb _ w1 0).symm, fun k hk => putAll_other rb _ w1 0 k (by have := b0.size; omega)⟩
  exact bodyPost_ret (results_whole3 _ _ rb cmZ _ _ rfl rfl rfl rfl k3) rfl ⟨rfl, B3⟩

set_option maxRecDepth 100000 in
set_option maxHeartbeats 2000000 in
theorem Parse_bad {w : World} (s : List UInt8) (j : Nat) (hs : s.length ≤ 9223372036854775000) (hl : Laid w) (hE : (scanS s).2.2 = 0) (hw : wholeP (scanS s).1 = .bad j) :
    Calls Tryz.prog 8 #[.string ⟨s.toArray⟩] w fun e w' => e = .returned (.tuple #[.agg cmZ.toArray, .int .i64 (pl (scanS s).1 (s.length : Nat) j), .int .i64 1]) ∧ Below w.heap.size w w' := by
  have hsc : ∀ W : World, Calls Tryz.prog 15 #[.string ⟨s.toArray⟩] W fun e w' => ∃ v A, e = .returned (.tuple #[v, .int .i64 A, .int .i64 0]) ∧ Hid (Tks w' W.heap.size v (scanS s).1) ∧ Below W.heap.size W w' := by
    intro W
    refine (scan_any ⟨s.toArray⟩ W (by rw [size_mk]; exact hs)).mono ?_
    rintro e w' ⟨v, rfl, ho, hb⟩
    refine ⟨v, ((scanS s).2.1 : Nat), ?_, tks_scanned ho, hb⟩
    show Ending.returned (.tuple #[v, .int .i64 ((scanS s).2.1 : Nat), .int .i64 ((scanS s).2.2 : Nat)]) = _
    rw [hE]; rfl
  have hpa : ∀ (W : World) (base : Nat) (v : Value), Tks W base v (scanS s).1 → Laid W → Calls Tryz.prog 21 #[v, .int .i64 ((s.length : Nat) : Int)] W fun e w' => e = .returned (.tuple #[.agg cmZ.toArray, .int .i64 (pl (scanS s).1 (s.length : Nat) j), .int .i64 1]) ∧ Below W.heap.size W w' := by
    intro W base v ht hL
    exact (parse_any ht hL _).mono fun e w' h => ⟨h.bad j hw, h.below⟩
  have hz : (⟨s.toArray⟩ : ByteArray).size = s.length := size_mk s
  generalize pl (scanS s).1 (s.length : Nat) j = P at *
  clear hw hE hs
  go_enter Tryz.func8, Tryz.ntmps8
  go_wp2_with (first | (refine wpList_alloc_blk 2 31 cmZ rfl rfl rfl Tryz.alloc31 ?_; intro W0 rb hrb k0 b0) | (refine (hsc _).mono ?_; rintro e w1 ⟨v, A, rfl, ht, b1⟩; have k1 := (b1.block rb (Array.getElem?_eq_some_iff.1 k0).1).trans k0) | (refine (hpa _ _ _ ht.out ((hl.below b0).below b1)).mono ?_; rintro e w2 ⟨rfl, b2⟩; have k2 := (b2.block rb (Array.getElem?_eq_some_iff.1 k1).1).trans k1) | (refine wpList_alloc_blk 8 31 cmZ rfl rfl rfl Tryz.alloc31 ?_; intro w4 cb hcb k4 b4; have k5 := (b4.block rb (Array.getElem?_eq_some_iff.1 k2).1).trans k2) | (refine wpList_store_whole 31 _ _ rfl rfl cb cmZ cmZ 31 rfl rfl (by exact k4) rfl Tryz.size31 (by exact (cmIn0 0 w4 cm0 rfl rfl rfl rfl rfl).one) ?_; intro w6 k6 p6; have k7 : w6.heap[rb]? = some (.cells cmZ.toArray 31) := (by rw [p6.out]; exact (putAll_other cb _ w4 0 rb (by have := hcb.out; have := (Array.getElem?_eq_some_iff.1 k2).1; omega)).trans k5)) | (refine wpList_store_whole 31 _ _ rfl rfl rb cmZ cmZ 31 rfl rfl (by exact k7) rfl Tryz.size31 (by exact (cmIn0 0 w6 cm0 rfl rfl rfl rfl rfl).one) ?_; intro w3 k3 p3))
  have hr := hrb.out
  have hc := hcb.out
  have B4 : Below w.heap.size w w4 := ((b0.trans (b1.mono b0.size)).trans (b2.mono (Nat.le_trans b0.size b1.size))).trans (b4.mono (Nat.le_trans (Nat.le_trans b0.size b1.size) b2.size))
  have B6 : Below w.heap.size w w6 := by
    rw [p6.out]
    exact B4.trans ⟨(putAll_misc cb _ w4 0).1, (putAll_misc cb _ w4 0).2.1, (putAll_misc cb _ w4 0).2.2, Nat.le_of_eq (putAll_size cb _ w4 0).symm, fun k hk => putAll_other cb _ w4 0 k (by have := b0.size; have := b1.size; have := b2.size; omega)⟩
  have B3 : Below w.heap.size w w3 := by
    rw [p3.out]
    exact B6.trans ⟨(putAll_misc rb _ w6 0).1, (putAll_misc rb _ w6 0).2.1, (putAll_misc rb _ w6 0).2.2, Nat.le_of_eq (putAll_size rb _ w6 0).symm, fun k hk => putAll_other rb _ w6 0 k (by omega)⟩
  exact bodyPost_ret (results_whole3 _ _ rb cmZ _ _ rfl rfl rfl rfl k3) rfl ⟨rfl, B3⟩

end Go.Proofs.YtkpeklealgicpabGreatDoor

namespace Go.Proofs.YtkpeklealgicpabGreatDoor
open Go.RowKit

theorem scan_ok {s : List UInt8} (hs : s.length ≤ 9223372036854775000) (hE : (scanS s).2.2 = 0) (W : World) : Calls Tryz.prog 15 #[.string ⟨s.toArray⟩] W fun e w' => ∃ v A, e = .returned (.tuple #[v, .int .i64 A, .int .i64 0]) ∧ Hid (Tks w' W.heap.size v (scanS s).1) ∧ Below W.heap.size W w' := by
  refine (scan_any ⟨s.toArray⟩ W (by rw [size_mk]; exact hs)).mono ?_
  rintro e w' ⟨v, rfl, ho, hb⟩
  refine ⟨v, ((scanS s).2.1 : Nat), ?_, tks_scanned ho, hb⟩
  show Ending.returned (.tuple #[v, .int .i64 ((scanS s).2.1 : Nat), .int .i64 ((scanS s).2.2 : Nat)]) = _
  rw [hE]; rfl

theorem g6_of {w2 w4 w6 : World} {cb : Nat} {xs : List Value} (hc : cb = w2.heap.size) (hp : w6 = putAll w4 cb 0 xs) (b4 : Below w2.heap.size w2 w4) : w4.heap.size = w6.heap.size ∧ (∀ b, b < w2.heap.size → w6.heap[b]? = w2.heap[b]?) := by
  subst hp
  exact ⟨(putAll_size cb _ w4 0).symm, fun b hb => (putAll_other cb _ w4 0 b (by omega)).trans (b4.block b hb)⟩

set_option maxRecDepth 100000 in
set_option maxHeartbeats 2000000 in
theorem Parse_wrong {w : World} (s : List UInt8) (c : Cm) (j : Nat) (E : Int) (hs : s.length ≤ 9223372036854775000) (hl : Laid w) (hE : (scanS s).2.2 = 0) (hw : wholeP (scanS s).1 = .ok c j) (hq : chkC (manyC c) (rightC c) = E) (hd : ¬ E = 0) :
    Calls Tryz.prog 8 #[.string ⟨s.toArray⟩] w fun e w' => e = .returned (.tuple #[.agg cmZ.toArray, .int .i64 0, .int .i64 E]) ∧ Below w.heap.size w w' := by
  have hsc := scan_ok hs hE
  have hpa : ∀ (W : World) (base : Nat) (v : Value), Tks W base v (scanS s).1 → Laid W → Calls Tryz.prog 21 #[v, .int .i64 ((s.length : Nat) : Int)] W fun e w' => (∃ cv vv fv ea wa, e = .returned (.tuple #[.agg (cmL c cv vv fv ea wa).toArray, .int .i64 0, .int .i64 0]) ∧ Hid (CmIn W.heap.size w' c cv vv fv ea wa)) ∧ Below W.heap.size W w' := by
    intro W base v ht hL
    refine (parse_any ht hL _).mono fun e w' h => ⟨?_, h.below⟩
    obtain ⟨u, rfl, cv, vv, fv, ea, wa, rfl, hi⟩ := h.ok c j hw
    exact ⟨cv, vv, fv, ea, wa, rfl, hi⟩
  have hf : Hid (CmFit c) := scanned_fit hw
  have hz : (⟨s.toArray⟩ : ByteArray).size = s.length := size_mk s
  have hck : ∀ (W : World) (cv vv fv ea wa : Value), CmIn 0 W c cv vv fv ea wa → Laid W → Calls Tryz.prog 12 #[.agg (cmL c cv vv fv ea wa).toArray] W fun e w' => e = .returned (.int .i64 E) ∧ Below W.heap.size W w' := by
    intro W cv vv fv ea wa hi hL
    rw [← hq]
    exact check_cmd c cv vv fv ea wa hi hf.out hL
  clear hw hE hs hq
  go_enter Tryz.func8, Tryz.ntmps8
  go_wp2_with (first | (refine wpList_alloc_blk 2 31 cmZ rfl rfl rfl Tryz.alloc31 ?_; intro W0 rb hrb k0 b0) | (refine (hsc _).mono ?_; rintro e w1 ⟨v, A, rfl, ht, b1⟩; have k1 := (b1.block rb (Array.getElem?_eq_some_iff.1 k0).1).trans k0; have L1 : Hid (Laid w1) := (hl.below b0).below b1) | (refine (hpa _ _ _ ht.out L1.out).mono ?_; rintro e w2 ⟨⟨cv, vv, fv, ea, wa, rfl, hi⟩, b2⟩; have k2 := (b2.block rb (Array.getElem?_eq_some_iff.1 k1).1).trans k1; have L2 : Hid (Laid w2) := L1.out.below b2) | (refine wpList_alloc_blk 8 31 cmZ rfl rfl rfl Tryz.alloc31 ?_; intro w4 cb hcb k4 b4; have k5 := (b4.block rb (Array.getElem?_eq_some_iff.1 k2).1).trans k2) | (refine wpList_store_whole 31 _ _ rfl rfl cb cmZ (cmL c cv vv fv ea wa) 31 rfl rfl (by exact k4) rfl Tryz.size31 (by exact hi.out.one) ?_; intro w6 k6 p6; have g6 : Hid (w4.heap.size = w6.heap.size ∧ (∀ b, b < w2.heap.size → w6.heap[b]? = w2.heap[b]?)) := g6_of hcb.out p6.out b4; have k7 : w6.heap[rb]? = some (.cells cmZ.toArray 31) := (g6.out.2 rb (Array.getElem?_eq_some_iff.1 k2).1).trans k2; have i6 : Hid (CmIn w1.heap.size w6 c cv vv fv ea wa) := hi.out.keep (by have := b4.size; have := g6.out.1; omega) (fun b _ hb => g6.out.2 b hb); have L6 : Hid (Laid w6) := L2.out.keep (by have := b4.size; have := g6.out.1; omega) (fun k hk => g6.out.2 k (Nat.lt_of_lt_of_le hk L2.out.sz))) | (refine wpList_load_whole 31 _ rfl rfl _ (cmL c cv vv fv ea wa) 31 _ rfl (by assumption) Tryz.underlying31 rfl Tryz.size31 ?_) | (refine (hck _ _ _ _ _ _ (i6.out.weak (Nat.zero_le _)) L6.out).mono ?_; rintro e w7 ⟨rfl, b7⟩; have k8 := (b7.block cb (Array.getElem?_eq_some_iff.1 k6).1).trans k6; have k9 := (b7.block rb (Array.getElem?_eq_some_iff.1 k7).1).trans k7; have i7 : Hid (CmIn w1.heap.size w7 c cv vv fv ea wa) := i6.out.keep b7.size (fun b _ hb => b7.block b hb)) | (refine wpList_store_whole 31 _ _ rfl rfl rb cmZ cmZ 31 rfl rfl (by exact k9) rfl Tryz.size31 (by exact (cmIn0 0 w7 cm0 rfl rfl rfl rfl rfl).one) ?_; intro w3 k3 p3))
  have hr := hrb.out
  have hc := hcb.out
  have B4 : Below w.heap.size w w4 := ((b0.trans (b1.mono b0.size)).trans (b2.mono (Nat.le_trans b0.size b1.size))).trans (b4.mono (Nat.le_trans (Nat.le_trans b0.size b1.size) b2.size))
  have B6 : Below w.heap.size w w6 := by
    rw [p6.out]
    exact B4.trans ⟨(putAll_misc cb _ w4 0).1, (putAll_misc cb _ w4 0).2.1, (putAll_misc cb _ w4 0).2.2, Nat.le_of_eq (putAll_size cb _ w4 0).symm, fun k hk => putAll_other cb _ w4 0 k (by have := b0.size; have := b1.size; have := b2.size; omega)⟩
  have B7 := B6.trans (b7.mono B6.size)
  have B3 : Below w.heap.size w w3 := by
    rw [p3.out]
    exact B7.trans ⟨(putAll_misc rb _ w7 0).1, (putAll_misc rb _ w7 0).2.1, (putAll_misc rb _ w7 0).2.2, Nat.le_of_eq (putAll_size rb _ w7 0).symm, fun k hk => putAll_other rb _ w7 0 k (by omega)⟩
  exact bodyPost_ret (results_whole3 _ _ rb cmZ _ _ rfl rfl rfl rfl k3) rfl ⟨rfl, B3⟩

set_option maxRecDepth 100000 in
set_option maxHeartbeats 2000000 in
theorem Parse_right {w : World} (s : List UInt8) (c : Cm) (j : Nat) (hs : s.length ≤ 9223372036854775000) (hl : Laid w) (hE : (scanS s).2.2 = 0) (hw : wholeP (scanS s).1 = .ok c j) (hq : chkC (manyC c) (rightC c) = 0) :
    Calls Tryz.prog 8 #[.string ⟨s.toArray⟩] w fun e w' => (∃ u, e = .returned (.tuple #[u, .int .i64 0, .int .i64 0]) ∧ CmAt w.heap.size w' u c) ∧ Below w.heap.size w w' := by
  have hsc := scan_ok hs hE
  have hpa : ∀ (W : World) (base : Nat) (v : Value), Tks W base v (scanS s).1 → Laid W → Calls Tryz.prog 21 #[v, .int .i64 ((s.length : Nat) : Int)] W fun e w' => (∃ cv vv fv ea wa, e = .returned (.tuple #[.agg (cmL c cv vv fv ea wa).toArray, .int .i64 0, .int .i64 0]) ∧ Hid (CmIn W.heap.size w' c cv vv fv ea wa)) ∧ Below W.heap.size W w' := by
    intro W base v ht hL
    refine (parse_any ht hL _).mono fun e w' h => ⟨?_, h.below⟩
    obtain ⟨u, rfl, cv, vv, fv, ea, wa, rfl, hi⟩ := h.ok c j hw
    exact ⟨cv, vv, fv, ea, wa, rfl, hi⟩
  have hf : Hid (CmFit c) := scanned_fit hw
  have hz : (⟨s.toArray⟩ : ByteArray).size = s.length := size_mk s
  have hck : ∀ (W : World) (cv vv fv ea wa : Value), CmIn 0 W c cv vv fv ea wa → Laid W → Calls Tryz.prog 12 #[.agg (cmL c cv vv fv ea wa).toArray] W fun e w' => e = .returned (.int .i64 0) ∧ Below W.heap.size W w' := by
    intro W cv vv fv ea wa hi hL
    rw [← hq]
    exact check_cmd c cv vv fv ea wa hi hf.out hL
  clear hw hE hs hq
  go_enter Tryz.func8, Tryz.ntmps8
  go_wp2_with (first | (refine wpList_alloc_blk 2 31 cmZ rfl rfl rfl Tryz.alloc31 ?_; intro W0 rb hrb k0 b0) | (refine (hsc _).mono ?_; rintro e w1 ⟨v, A, rfl, ht, b1⟩; have k1 := (b1.block rb (Array.getElem?_eq_some_iff.1 k0).1).trans k0; have L1 : Hid (Laid w1) := (hl.below b0).below b1) | (refine (hpa _ _ _ ht.out L1.out).mono ?_; rintro e w2 ⟨⟨cv, vv, fv, ea, wa, rfl, hi⟩, b2⟩; have k2 := (b2.block rb (Array.getElem?_eq_some_iff.1 k1).1).trans k1; have L2 : Hid (Laid w2) := L1.out.below b2) | (refine wpList_alloc_blk 8 31 cmZ rfl rfl rfl Tryz.alloc31 ?_; intro w4 cb hcb k4 b4; have k5 := (b4.block rb (Array.getElem?_eq_some_iff.1 k2).1).trans k2) | (refine wpList_store_whole 31 _ _ rfl rfl cb cmZ (cmL c cv vv fv ea wa) 31 rfl rfl (by exact k4) rfl Tryz.size31 (by exact hi.out.one) ?_; intro w6 k6 p6; have g6 : Hid (w4.heap.size = w6.heap.size ∧ (∀ b, b < w2.heap.size → w6.heap[b]? = w2.heap[b]?)) := g6_of hcb.out p6.out b4; have k7 : w6.heap[rb]? = some (.cells cmZ.toArray 31) := (g6.out.2 rb (Array.getElem?_eq_some_iff.1 k2).1).trans k2; have i6 : Hid (CmIn w1.heap.size w6 c cv vv fv ea wa) := hi.out.keep (by have := b4.size; have := g6.out.1; omega) (fun b _ hb => g6.out.2 b hb); have L6 : Hid (Laid w6) := L2.out.keep (by have := b4.size; have := g6.out.1; omega) (fun k hk => g6.out.2 k (Nat.lt_of_lt_of_le hk L2.out.sz))) | (refine wpList_load_whole 31 _ rfl rfl _ (cmL c cv vv fv ea wa) 31 _ rfl (by assumption) Tryz.underlying31 rfl Tryz.size31 ?_) | (refine (hck _ _ _ _ _ _ (i6.out.weak (Nat.zero_le _)) L6.out).mono ?_; rintro e w7 ⟨rfl, b7⟩; have k8 := (b7.block cb (Array.getElem?_eq_some_iff.1 k6).1).trans k6; have k9 := (b7.block rb (Array.getElem?_eq_some_iff.1 k7).1).trans k7; have i7 : Hid (CmIn w1.heap.size w7 c cv vv fv ea wa) := i6.out.keep b7.size (fun b _ hb => b7.block b hb)) | (refine wpList_store_whole 31 _ _ rfl rfl rb cmZ (cmL c cv vv fv ea wa) 31 rfl rfl (by exact k9) rfl Tryz.size31 (by exact i7.out.one) ?_; intro w3 k3 p3))
  have hr := hrb.out
  have hc := hcb.out
  have B4 : Below w.heap.size w w4 := ((b0.trans (b1.mono b0.size)).trans (b2.mono (Nat.le_trans b0.size b1.size))).trans (b4.mono (Nat.le_trans (Nat.le_trans b0.size b1.size) b2.size))
  have B6 : Below w.heap.size w w6 := by
    rw [p6.out]
    exact B4.trans ⟨(putAll_misc cb _ w4 0).1, (putAll_misc cb _ w4 0).2.1, (putAll_misc cb _ w4 0).2.2, Nat.le_of_eq (putAll_size cb _ w4 0).symm, fun k hk => putAll_other cb _ w4 0 k (by have := b0.size; have := b1.size; have := b2.size; omega)⟩
  have B7 := B6.trans (b7.mono B6.size)
  have B3 : Below w.heap.size w w3 := by
    rw [p3.out]
    exact B7.trans ⟨(putAll_misc rb _ w7 0).1, (putAll_misc rb _ w7 0).2.1, (putAll_misc rb _ w7 0).2.2, Nat.le_of_eq (putAll_size rb _ w7 0).symm, fun k hk => putAll_other rb _ w7 0 k (by omega)⟩
  have m3 : CmIn w1.heap.size w3 c cv vv fv ea wa := by
    rw [p3.out]
    exact i7.out.putAll (by have := (Array.getElem?_eq_some_iff.1 k1).1; omega) 0 _
  exact bodyPost_ret (results_whole3 _ _ rb (cmL c cv vv fv ea wa) _ _ rfl rfl rfl rfl k3) rfl ⟨⟨_, rfl, cv, vv, fv, ea, wa, rfl, m3.weak (Nat.le_trans b0.size b1.size)⟩, B3⟩

end Go.Proofs.YtkpeklealgicpabGreatDoor
