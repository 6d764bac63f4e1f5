/-
  TableLater is proved for every table, delta and name: what is read behind a delta is what was read, behind it; its card is tied to the program's text. The copy of the project that the card speaks of is the pruned one of this seat.
-/
import Derived.Test.YtcnnjladaoaeiaaGreatDoorRows
import Derived.Test.YtcnnjladaoaeiaaGreatDoorCards
import Derived.Test.YtcnnjladaoaeiaaGreatDoorTie
import Derived.WalkKit
import Derived.ProofKit
import Derived.OpenShut
import Derived.ShutString
import Derived.ChangeOld
import Derived.Below
import Derived.SizedLaws
import Derived.SevenTiedAt
import Derived.MakeChecks
import Derived.Shelf.Vars
import Derived.Deep.DeepHandedRow
import Derived.Deep.DeepWitnessRowRef
import Derived.Test.YtcnnjladaoaeiaaGreatDoorGa
import Derived.Test.YtcnnjladaoaeiaaGreatDoorGq

namespace Go.Proofs.YtcnnjladaoaeiaaGreatDoor
open Go.ChangeShapes Go.WideShapes Go.ChangeAt Go.RowKit
open Go.ChangeMaps (open_string shut_string)

theorem Tryz.glob : Tryz.prog.globals.size = 6 := by kernel_rfl

/-- the variable that is named, and of which nothing is known, is a number -/
theorem ml_of {W : World} (h : W.ShapedOpen Tryz.prog) : Ml W := by
  refine ⟨Go.Proofs.cell_of_shapedOpen_int (t := 3) (zero := #[.int .i64 0]) h (by rw [Tryz.glob]; decide) (by kernel_rfl) rfl (by kernel_rfl) (by kernel_rfl) Tryz.underlying3, ?_⟩
  have hz : (((begin Tryz.prog (fun _ _ => 0) default).world.heap[0]?).bind Obj.row?).isSome = true := by kernel_rfl
  obtain ⟨⟨z, t⟩, hz⟩ := Option.isSome_iff_exists.1 hz
  obtain ⟨cs, hh, -⟩ := h.1 0 z t (by rw [Tryz.glob]; decide) hz
  have := (Array.getElem?_eq_some_iff.1 hh).1
  omega

abbrev zeroTb : Value := .agg #[.string ⟨#[]⟩, .slice none 0 0, .slice none 0 0, .slice none 0 0, .int .i64 0, .slice none 0 0]
abbrev zeroDl : Value := .agg #[.int .i64 0, .int .i64 0, .int .i64 0, .int .i64 0, .int .i64 0, .string ⟨#[]⟩]
abbrev zeroTbD {H : Type} : DataW H := .agg [.lit (.string []), .nil, .nil, .nil, .lit (.int .i64 0), .nil]
abbrev zeroDlD {H : Type} : DataW H := .agg [.lit (.int .i64 0), .lit (.int .i64 0), .lit (.int .i64 0), .agg [.lit (.int .i64 0), .lit (.int .i64 0), .lit (.string [])]]

theorem later_row (os : Os) {H : Type} (enc : TypeId × Value → H) :
    (OpenSpec.ofChange Rows.tableLaterSpec).preRow enc Tryz.prog Tryz.f6 Rows.tableLaterRow.domain false Rows.tableLaterRow.laid ((World.doorLaid Tryz.prog 200 os).forCall (fun _ _ => 0) ⟨#[], #[zeroTb, zeroDl, .string ⟨#[]⟩], []⟩).memory #[zeroTb, zeroDl, .string ⟨#[]⟩] := by
  have hw : (DataW.whole enc Tryz.prog ((World.doorLaid Tryz.prog 200 os).forCall (fun _ _ => 0) ⟨#[], #[zeroTb, zeroDl, .string ⟨#[]⟩], []⟩).memory Tryz.f6.params.toList (OpenSpec.ofChange Rows.tableLaterSpec).vars false #[zeroTb, zeroDl, .string ⟨#[]⟩].toList 8).map (fun x => (x.1, x.2.1)) =
      some ([zeroTbD, zeroDlD, .lit (.string [])], []) := by kernel_rfl
  obtain ⟨⟨x1, x2, x3⟩, hx, hx1⟩ := Option.map_eq_some_iff.1 hw
  simp only [Prod.mk.injEq] at hx1
  obtain ⟨rfl, rfl⟩ := hx1
  exact OpenSpec.preRow_of_cond 8 hx (by kernel_rfl) (fun k hk => by cases hk) (by kernel_rfl) (door_met os _)

/-- TableLater answers true of any table, delta and name in memory -/
theorem later_any (t : Tb) (d : Dl) (nm : List UInt8) (cu du ru iu : Value) (w : World) (h : TbIn w cu du ru iu t) (hn : nm.length ≤ 140737488355328) (hd : d.v.s.length ≤ 140737488355328) (laid : Laid w) (hm : Ml w) :
    Calls Tryz.prog 6 #[tbV t.name cu du ru t.next iu, dlV d, .string ⟨nm.toArray⟩] w fun e w' => e = .returned (.bool true) ∧ Below w.heap.size w w' := by
  by_cases hF : alterF t d nm = 0
  · exact later_yes t d nm cu du ru iu w h hn hd laid hm hF
  · exact later_no t d nm cu du ru iu w h hn hd laid hm hF

set_option maxRecDepth 100000 in
set_option maxHeartbeats 2000000 in
theorem tableLater_lifted (os : Os) (started : os.Started) (H : Type) (enc : TypeId × Value → H) (F : Stop.Interp) :
    ReturnsInHanded {} Tryz.checked os 6 .any ((OpenSpec.ofChange Rows.tableLaterSpec).preRow enc Tryz.prog Tryz.f6 Rows.tableLaterRow.domain false Rows.tableLaterRow.laid) (((OpenSpec.ofChange Rows.tableLaterSpec).at F).post enc Tryz.prog Tryz.f6 false true false false) := by
  refine returnsInHanded_of_row (C := Tryz.checked) (s := OpenSpec.ofChange Rows.tableLaterSpec) Tryz.own started (by kernel_rfl) Tryz.func6
    (witness_row_atRef (enc := enc) (C := Tryz.checked) false (World.doorLaid Tryz.prog 200 os) #[zeroTb, zeroDl, .string ⟨#[]⟩] rfl (by kernel_rfl) (by kernel_rfl) (by kernel_rfl) (later_row os enc)) ?_
  intro W base args ds gs before hval0 hW _ _ hsz0 hL hsh _
  have hsz : (DataW.weightsEach Tryz.prog (Tryz.f6.params.toList ++ (OpenSpec.ofChange Rows.tableLaterSpec).bare.plain.varTypes Tryz.prog) (ds ++ gs)).all (· ≤ reachBytes) = true := hsz0
  have hval : ∀ (j : Nat) t v, Tryz.f6.params[j]? = some t → args[j]? = some v → Value.okWide Tryz.prog W .any base t v := hval0
  have hW' := hW
  obtain ⟨p, q, hA0, hV0, rfl, _, _⟩ := hW
  have hA : DataW.TrodAll enc Tryz.prog W 0 (fun _ => true) true Tryz.f6.params.toList args.toList ds p := hA0
  rw [Tryz.params6] at hA hval hsz
  obtain ⟨v0, v1, v2, d0, d1, d2, p0, p1, p2, rfl, rfl, rfl, h0, h1, h2⟩ := trodAll_three hA
  obtain ⟨rfl, rfl⟩ := trodVars_none hV0
  have k0 := h0
  have k1 := h1
  have k2 := h2
  have lt0 : ∀ x ∈ p0, x.block < W.heap.size := by obtain ⟨m, hm⟩ := k0; exact DataW.trod_lt m _ _ _ hm
  have lt1 : ∀ x ∈ p1, x.block < W.heap.size := by obtain ⟨m, hm⟩ := k1; exact DataW.trod_lt m _ _ _ hm
  have lt2 : ∀ x ∈ p2, x.block < W.heap.size := by obtain ⟨m, hm⟩ := k2; exact DataW.trod_lt m _ _ _ hm
  obtain ⟨t, cu, du, ru, iu, rfl, hin⟩ := open_tb (hval 0 27 v0 rfl rfl) h0 (fun n hn => by
    have := List.all_eq_true.1 hsz n (DataW.weights_mem_each (j := 0) (t := 27) rfl rfl n hn)
    simpa using this)
  obtain ⟨d, rfl, hdl⟩ : ∃ d : Dl, v1 = dlV d ∧ d.v.s.length ≤ 140737488355328 := by
    obtain ⟨cs, rfl, -⟩ := WideShapes.okWide_struct Tryz.underlying51 (hval 1 51 v1 rfl rfl)
    obtain ⟨fuel, hf⟩ := h1
    obtain ⟨y, -, hy, hl⟩ := open_dl51 (by simpa [Value.cells] using hf) (fun n hn => by
      have := List.all_eq_true.1 hsz n (DataW.weights_mem_each (j := 1) (t := 51) rfl rfl n hn)
      simpa using this)
    refine ⟨y, ?_, hl⟩
    obtain rfl : cs = (dlC y).toArray := by rw [← hy]
    rfl
  obtain ⟨s, rfl, rfl, rfl, ws⟩ := open_string Tryz.underlying9 (hval 2 9 v2 rfl rfl) h2
  have hlen : s.data.toList.length ≤ 140737488355328 := by
    have := sized_string hsz (j := 2) (t := 9) rfl rfl
    have hr := reachBytes_lt
    have e1 : s.size = s.data.toList.length := by simp
    simp at this
    omega
  clear hA0 hV0 hval0 hsz0
  have hT := later_any t d s.data.toList cu du ru iu W hin hlen hdl (laid_of hL) (ml_of hsh)
  have es : (⟨s.data.toList.toArray⟩ : ByteArray) = s := by simp
  rw [es] at hT
  refine hT.mono ?_
  rintro e W' ⟨rfl, bel⟩
  exact ⟨_, rfl, _, _, _, [], _, [], hW', trodAll_mk1 (shut_bool Tryz.underlying4 _), trodAll_mk3 (Below.trod Tryz.laidOut (by kernel_rfl) (of_decide_eq_true (by kernel_rfl)) k0 bel lt0) (Below.trod Tryz.laidOut (by kernel_rfl) (of_decide_eq_true (by kernel_rfl)) k1 bel lt1) (Below.trod Tryz.laidOut (by kernel_rfl) (of_decide_eq_true (by kernel_rfl)) k2 bel lt2), rfl, bel.frame _, fun h => by cases h⟩

theorem tableLater_said : Rows.TableLaterSaid :=
  OpenClaim.holds_of_cond 6 Tryz.f6 rfl rfl rfl rfl rfl rfl rfl ⟨rfl, rfl, rfl, rfl, rfl⟩ rfl rfl rfl rfl rfl (by kernel_rfl) Tryz.func6 (by kernel_rfl)
    (of_decide_eq_true (by kernel_rfl)) (by unfold Func.isWrapper; first | (rw [if_pos (by decide +kernel)]; kernel_rfl) | (rw [if_neg (by decide +kernel)]; exact ⟨rfl, rfl⟩))
    (fun os started H enc _ F0 => by rw [OpenClaim.pre_eq_preRow]; exact tableLater_lifted os started H enc F0)

theorem tableLater_plain (f : FuncId) (fn : Func) (hf : Tryz.pinned.checked.prog.funcNamed "overhaul/overhaullaw.TableLater" = some f) (hfn : Tryz.pinned.checked.prog.funcs[f]? = some fn) :
    true = Tryz.pinned.checked.prog.looks [] ∧ ∀ (j : Nat) t, fn.params[j]? = some t → Tryz.pinned.checked.prog.wantsStandIn t = false := by
  obtain rfl : f = 6 := Option.some.inj ((show Tryz.prog.funcNamed "overhaul/overhaullaw.TableLater" = some 6 by kernel_rfl).symm.trans hf) |>.symm
  obtain rfl : fn = Tryz.f6 := (Option.some.inj (Tryz.func6.symm.trans hfn)).symm
  refine ⟨by kernel_rfl, fun j t ht => ?_⟩
  rw [Tryz.params6] at ht
  have hm : t ∈ [27, 51, 9] := by simpa using Array.mem_of_getElem? ht
  have hall : ([27, 51, 9].all fun u => !Tryz.prog.wantsStandIn u) = true := by kernel_rfl
  exact (show Tryz.prog.wantsStandIn t = false by simpa using List.all_eq_true.1 hall t hm)

theorem tableLater_holds : Rows.TableLaterCardSaid :=
  Claim7.holds_tied_plain_at .later [] _ _ _ _ tableLater_said (fun _ h => by cases h) (by kernel_rfl) (fun _ h => by cases h) tableLater_row_tie rfl ⟨rfl, rfl⟩ (by kernel_rfl) rfl tableLater_plain (by kernel_rfl)

end Go.Proofs.YtcnnjladaoaeiaaGreatDoor
