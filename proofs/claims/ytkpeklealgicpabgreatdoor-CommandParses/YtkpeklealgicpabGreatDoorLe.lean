/-
  The document's reader in memory: Command, all but insert.
  The document's reader in memory: Command's insert.
  The document's reader in memory: Command, whole.
  CheckCmd of the document: what is set.
  CheckCmd of the document: its first regions.
  CheckCmd of the document: Type and Value.
  CheckCmd of the document: how many of each.
  CheckCmd of the document: columns.
  CheckCmd of the document: values.
  CheckCmd of the document: fields.
  CheckCmd of the document: Limit, Order, Expr.
  CheckCmd of the document: Where.
  CheckCmd of the document: the region that draws.
  CheckCmd of the document, statement by statement, on any frame.
  PlainExpr of the document: its region.
  The document's own small functions (package overhaulref), as ValueTells calls them.
  'CheckValue' of package overhaulref.
  The document's small functions of commands: ArgsOf, nameIs, NoExpr, PlainExpr.
  The document's PlainExpr, and PartsOf.
  The document's isExpr, of any expression in memory.
  CheckCmd of the document, of any command in memory.
  ParseOf of the document: all cases.
  The laws' first look at commands, commandBegun: it answers true.
  The law CommandParses: its call.
  What the listed variables give, and a world that holds them.
-/
import Derived.Deep.Cut
import Derived.Test.YtkpeklealgicpabGreatDoorRows
import Derived.LaidMore
import Derived.Stop.LaidErr
import Derived.Lib.LaidTab
import Derived.ProofKit
import Derived.OpenShut
import Derived.SizedLaws
import Derived.MakeChecks
import Derived.Shelf.Vars
import Derived.Deep.DeepHandedRow
import Derived.Deep.DeepWitnessRowRef
import Derived.Test.YtkpeklealgicpabGreatDoorLd

set_option maxRecDepth 100000
set_option maxHeartbeats 8000000
namespace Go.Proofs.YtkpeklealgicpabGreatDoor
open Go.RowKit
theorem commandC_create {w : World} {base rb : Nat} {v : Value} {T : List Tk} {en : Int} {s s1 s2 : Sx} {c2 : Cm} (h : RdC w base rb v T en (nilS, nilS, nilS) s cm0) (e1 : takeS T w_create s = (true, s1)) (e2 : createS T s1 = (c2, s2)) :
    Calls Tryz.prog 23 #[.pointer (some ⟨rb, 0, none⟩)] w fun e w' => e = .returned (.tuple #[]) ∧ (∃ L', RdC w' base rb v T en L' s2 c2) ∧ w.grownBy w' (some rb) := by
  have R0 := hide h
  clear h
  have E1 := hide e1
  have E2 := hide e2
  clear e1 e2
  go_enter Tryz.func23, Tryz.ntmps23
  go_wp2_with fail
  refine (takeC R0.out w_create (by decide) E1.out).mono ?_
  rintro e w1 ⟨rfl, r1, g1⟩
  have R1 := hide r1
  clear r1
  go_wp2_with fail
  refine (createC R1.out E2.out).mono ?_
  rintro e w2 ⟨rfl, ⟨L2, r2⟩, g2⟩
  have R2 := hide r2
  clear r2
  go_wp2
  first | go_end0 | ((try simp only [Exit.inBlock, Exit.then]); refine bodyPost_ret (results_none rfl _ _ _) rfl ?_)
  exact ⟨rfl, ⟨_, R2.out⟩, grown_trans g1 (g2)⟩
theorem commandC_dropi {w : World} {base rb : Nat} {v : Value} {T : List Tk} {en : Int} {s s1 s2 s3 s4 : Sx} {n4 : List UInt8} (h : RdC w base rb v T en (nilS, nilS, nilS) s cm0) (e1 : takeS T w_create s = (false, s1)) (e2 : takeS T w_drop s1 = (true, s2)) (e3 : takeS T w_index s2 = (true, s3)) (e4 : nameS T s3 = (n4, s4)) :
    Calls Tryz.prog 23 #[.pointer (some ⟨rb, 0, none⟩)] w fun e w' => e = .returned (.tuple #[]) ∧ (∃ L', RdC w' base rb v T en L' s4 { cm0 with kind := 9, name := n4 }) ∧ w.grownBy w' (some rb) := by
  have R0 := hide h
  clear h
  have E1 := hide e1
  have E2 := hide e2
  have E3 := hide e3
  have E4 := hide e4
  clear e1 e2 e3 e4
  go_enter Tryz.func23, Tryz.ntmps23
  go_wp2_with fail
  refine (takeC R0.out w_create (by decide) E1.out).mono ?_
  rintro e w1 ⟨rfl, r1, g1⟩
  have R1 := hide r1
  clear r1
  go_wp2_with fail
  refine (takeC R1.out w_drop (by decide) E2.out).mono ?_
  rintro e w2 ⟨rfl, r2, g2⟩
  obtain ⟨⟨xkind2, ckind2⟩, zkind2⟩ := fld_kind r2
  have R2 := hide (set_kind r2 9)
  clear r2
  go_wp2_with fail
  refine (takeC R2.out w_index (by decide) E3.out).mono ?_
  rintro e w3 ⟨rfl, r3, g3⟩
  have R3 := hide r3
  clear r3
  go_wp2_with fail
  refine (nameC R3.out E4.out).mono ?_
  rintro e w4 ⟨rfl, r4, g4⟩
  obtain ⟨⟨xname4, cname4⟩, zname4⟩ := fld_name r4
  have R4 := hide (set_name r4 n4)
  clear r4
  go_wp2
  first | go_end0 | ((try simp only [Exit.inBlock, Exit.then]); refine bodyPost_ret (results_none rfl _ _ _) rfl ?_)
  exact ⟨rfl, ⟨_, R4.out⟩, grown_trans g1 (grown_trans g2 (grown_trans (grown_set _ rb _ _) (grown_trans g3 (grown_trans g4 ((grown_set _ rb _ _))))))⟩
theorem commandC_dropt {w : World} {base rb : Nat} {v : Value} {T : List Tk} {en : Int} {s s1 s2 s3 s4 s5 : Sx} {n5 : List UInt8} (h : RdC w base rb v T en (nilS, nilS, nilS) s cm0) (e1 : takeS T w_create s = (false, s1)) (e2 : takeS T w_drop s1 = (true, s2)) (e3 : takeS T w_index s2 = (false, s3)) (e4 : needS T w_table s3 = ((), s4)) (e5 : nameS T s4 = (n5, s5)) :
    Calls Tryz.prog 23 #[.pointer (some ⟨rb, 0, none⟩)] w fun e w' => e = .returned (.tuple #[]) ∧ (∃ L', RdC w' base rb v T en L' s5 { cm0 with kind := 2, name := n5 }) ∧ w.grownBy w' (some rb) := by
  have R0 := hide h
  clear h
  have E1 := hide e1
  have E2 := hide e2
  have E3 := hide e3
  have E4 := hide e4
  have E5 := hide e5
  clear e1 e2 e3 e4 e5
  go_enter Tryz.func23, Tryz.ntmps23
  go_wp2_with fail
  refine (takeC R0.out w_create (by decide) E1.out).mono ?_
  rintro e w1 ⟨rfl, r1, g1⟩
  have R1 := hide r1
  clear r1
  go_wp2_with fail
  refine (takeC R1.out w_drop (by decide) E2.out).mono ?_
  rintro e w2 ⟨rfl, r2, g2⟩
  obtain ⟨⟨xkind2, ckind2⟩, zkind2⟩ := fld_kind r2
  have R2 := hide (set_kind r2 9)
  clear r2
  go_wp2_with fail
  refine (takeC R2.out w_index (by decide) E3.out).mono ?_
  rintro e w3 ⟨rfl, r3, g3⟩
  have R3 := hide r3
  clear r3
  go_wp2_with fail
  refine (needC R3.out w_table (by decide) E4.out).mono ?_
  rintro e w4 ⟨rfl, r4, g4⟩
  obtain ⟨⟨xkind4, ckind4⟩, zkind4⟩ := fld_kind r4
  have R4 := hide (set_kind r4 2)
  clear r4
  go_wp2_with fail
  refine (nameC R4.out E5.out).mono ?_
  rintro e w5 ⟨rfl, r5, g5⟩
  obtain ⟨⟨xname5, cname5⟩, zname5⟩ := fld_name r5
  have R5 := hide (set_name r5 n5)
  clear r5
  go_wp2
  first | go_end0 | ((try simp only [Exit.inBlock, Exit.then]); refine bodyPost_ret (results_none rfl _ _ _) rfl ?_)
  exact ⟨rfl, ⟨_, R5.out⟩, grown_trans g1 (grown_trans g2 (grown_trans (grown_set _ rb _ _) (grown_trans g3 (grown_trans g4 (grown_trans (grown_set _ rb _ _) (grown_trans g5 ((grown_set _ rb _ _))))))))⟩
theorem commandC_alter {w : World} {base rb : Nat} {v : Value} {T : List Tk} {en : Int} {s s1 s2 s3 s4 : Sx} {c4 : Cm} (h : RdC w base rb v T en (nilS, nilS, nilS) s cm0) (e1 : takeS T w_create s = (false, s1)) (e2 : takeS T w_drop s1 = (false, s2)) (e3 : takeS T w_alter s2 = (true, s3)) (e4 : alterS T s3 = (c4, s4)) :
    Calls Tryz.prog 23 #[.pointer (some ⟨rb, 0, none⟩)] w fun e w' => e = .returned (.tuple #[]) ∧ (∃ L', RdC w' base rb v T en L' s4 c4) ∧ w.grownBy w' (some rb) := by
  have R0 := hide h
  clear h
  have E1 := hide e1
  have E2 := hide e2
  have E3 := hide e3
  have E4 := hide e4
  clear e1 e2 e3 e4
  go_enter Tryz.func23, Tryz.ntmps23
  go_wp2_with fail
  refine (takeC R0.out w_create (by decide) E1.out).mono ?_
  rintro e w1 ⟨rfl, r1, g1⟩
  have R1 := hide r1
  clear r1
  go_wp2_with fail
  refine (takeC R1.out w_drop (by decide) E2.out).mono ?_
  rintro e w2 ⟨rfl, r2, g2⟩
  have R2 := hide r2
  clear r2
  go_wp2_with fail
  refine (takeC R2.out w_alter (by decide) E3.out).mono ?_
  rintro e w3 ⟨rfl, r3, g3⟩
  have R3 := hide r3
  clear r3
  go_wp2_with fail
  refine (alterC R3.out E4.out).mono ?_
  rintro e w4 ⟨rfl, r4, g4⟩
  have R4 := hide r4
  clear r4
  go_wp2
  first | go_end0 | ((try simp only [Exit.inBlock, Exit.then]); refine bodyPost_ret (results_none rfl _ _ _) rfl ?_)
  exact ⟨rfl, ⟨_, R4.out⟩, grown_trans g1 (grown_trans g2 (grown_trans g3 (g4)))⟩
theorem commandC_delete {w : World} {base rb : Nat} {v : Value} {T : List Tk} {en : Int} {s s1 s2 s3 s4 s5 s6 s7 s8 : Sx} {n7 : List UInt8} {c8 : Cm} (h : RdC w base rb v T en (nilS, nilS, nilS) s cm0) (e1 : takeS T w_create s = (false, s1)) (e2 : takeS T w_drop s1 = (false, s2)) (e3 : takeS T w_alter s2 = (false, s3)) (e4 : takeS T w_insert s3 = (false, s4)) (e5 : takeS T w_delete s4 = (true, s5)) (e6 : needS T w_from s5 = ((), s6)) (e7 : nameS T s6 = (n7, s7)) (e8 : whereS T { cm0 with kind := 11, name := n7 } s7 = (c8, s8)) :
    Calls Tryz.prog 23 #[.pointer (some ⟨rb, 0, none⟩)] w fun e w' => e = .returned (.tuple #[]) ∧ (∃ L', RdC w' base rb v T en L' s8 c8) ∧ w.grownBy w' (some rb) := by
  have R0 := hide h
  clear h
  have E1 := hide e1
  have E2 := hide e2
  have E3 := hide e3
  have E4 := hide e4
  have E5 := hide e5
  have E6 := hide e6
  have E7 := hide e7
  have E8 := hide e8
  clear e1 e2 e3 e4 e5 e6 e7 e8
  go_enter Tryz.func23, Tryz.ntmps23
  go_wp2_with fail
  refine (takeC R0.out w_create (by decide) E1.out).mono ?_
  rintro e w1 ⟨rfl, r1, g1⟩
  have R1 := hide r1
  clear r1
  go_wp2_with fail
  refine (takeC R1.out w_drop (by decide) E2.out).mono ?_
  rintro e w2 ⟨rfl, r2, g2⟩
  have R2 := hide r2
  clear r2
  go_wp2_with fail
  refine (takeC R2.out w_alter (by decide) E3.out).mono ?_
  rintro e w3 ⟨rfl, r3, g3⟩
  have R3 := hide r3
  clear r3
  go_wp2_with fail
  refine (takeC R3.out w_insert (by decide) E4.out).mono ?_
  rintro e w4 ⟨rfl, r4, g4⟩
  have R4 := hide r4
  clear r4
  go_wp2_with fail
  refine (takeC R4.out w_delete (by decide) E5.out).mono ?_
  rintro e w5 ⟨rfl, r5, g5⟩
  obtain ⟨⟨xkind5, ckind5⟩, zkind5⟩ := fld_kind r5
  have R5 := hide (set_kind r5 11)
  clear r5
  go_wp2_with fail
  refine (needC R5.out w_from (by decide) E6.out).mono ?_
  rintro e w6 ⟨rfl, r6, g6⟩
  have R6 := hide r6
  clear r6
  go_wp2_with fail
  refine (nameC R6.out E7.out).mono ?_
  rintro e w7 ⟨rfl, r7, g7⟩
  obtain ⟨⟨xname7, cname7⟩, zname7⟩ := fld_name r7
  have R7 := hide (set_name r7 n7)
  clear r7
  go_wp2_with fail
  refine (whereC R7.out E8.out).mono ?_
  rintro e w8 ⟨rfl, r8, g8⟩
  have R8 := hide r8
  clear r8
  go_wp2
  first | go_end0 | ((try simp only [Exit.inBlock, Exit.then]); refine bodyPost_ret (results_none rfl _ _ _) rfl ?_)
  exact ⟨rfl, ⟨_, R8.out⟩, grown_trans g1 (grown_trans g2 (grown_trans g3 (grown_trans g4 (grown_trans g5 (grown_trans (grown_set _ rb _ _) (grown_trans g6 (grown_trans g7 (grown_trans (grown_set _ rb _ _) (g8)))))))))⟩
theorem commandC_update {w : World} {base rb : Nat} {v : Value} {T : List Tk} {en : Int} {s s1 s2 s3 s4 s5 s6 s7 s8 s9 s10 s11 s12 : Sx} {n7 : List UInt8} {n9 : List UInt8} {x11 : Ex} {c12 : Cm} (h : RdC w base rb v T en (nilS, nilS, nilS) s cm0) (e1 : takeS T w_create s = (false, s1)) (e2 : takeS T w_drop s1 = (false, s2)) (e3 : takeS T w_alter s2 = (false, s3)) (e4 : takeS T w_insert s3 = (false, s4)) (e5 : takeS T w_delete s4 = (false, s5)) (e6 : takeS T w_update s5 = (true, s6)) (e7 : nameS T s6 = (n7, s7)) (e8 : needS T w_set s7 = ((), s8)) (e9 : nameS T s8 = (n9, s9)) (e10 : needS T [61] s9 = ((), s10)) (e11 : exprS T 60 s10 = (x11, s11)) (e12 : whereS T { cm0 with kind := 12, name := n7, column := n9, expr := x11 } s11 = (c12, s12)) :
    Calls Tryz.prog 23 #[.pointer (some ⟨rb, 0, none⟩)] w fun e w' => e = .returned (.tuple #[]) ∧ (∃ L', RdC w' base rb v T en L' s12 c12) ∧ w.grownBy w' (some rb) := by
  have R0 := hide h
  clear h
  have E1 := hide e1
  have E2 := hide e2
  have E3 := hide e3
  have E4 := hide e4
  have E5 := hide e5
  have E6 := hide e6
  have E7 := hide e7
  have E8 := hide e8
  have E9 := hide e9
  have E10 := hide e10
  have E11 := hide e11
  have E12 := hide e12
  clear e1 e2 e3 e4 e5 e6 e7 e8 e9 e10 e11 e12
  go_enter Tryz.func23, Tryz.ntmps23
  go_wp2_with fail
  refine (takeC R0.out w_create (by decide) E1.out).mono ?_
  rintro e w1 ⟨rfl, r1, g1⟩
  have R1 := hide r1
  clear r1
  go_wp2_with fail
  refine (takeC R1.out w_drop (by decide) E2.out).mono ?_
  rintro e w2 ⟨rfl, r2, g2⟩
  have R2 := hide r2
  clear r2
  go_wp2_with fail
  refine (takeC R2.out w_alter (by decide) E3.out).mono ?_
  rintro e w3 ⟨rfl, r3, g3⟩
  have R3 := hide r3
  clear r3
  go_wp2_with fail
  refine (takeC R3.out w_insert (by decide) E4.out).mono ?_
  rintro e w4 ⟨rfl, r4, g4⟩
  have R4 := hide r4
  clear r4
  go_wp2_with fail
  refine (takeC R4.out w_delete (by decide) E5.out).mono ?_
  rintro e w5 ⟨rfl, r5, g5⟩
  have R5 := hide r5
  clear r5
  go_wp2_with fail
  refine (takeC R5.out w_update (by decide) E6.out).mono ?_
  rintro e w6 ⟨rfl, r6, g6⟩
  obtain ⟨⟨xkind6, ckind6⟩, zkind6⟩ := fld_kind r6
  have R6 := hide (set_kind r6 12)
  clear r6
  go_wp2_with fail
  refine (nameC R6.out E7.out).mono ?_
  rintro e w7 ⟨rfl, r7, g7⟩
  obtain ⟨⟨xname7, cname7⟩, zname7⟩ := fld_name r7
  have R7 := hide (set_name r7 n7)
  clear r7
  go_wp2_with fail
  refine (needC R7.out w_set (by decide) E8.out).mono ?_
  rintro e w8 ⟨rfl, r8, g8⟩
  have R8 := hide r8
  clear r8
  go_wp2_with fail
  refine (nameC R8.out E9.out).mono ?_
  rintro e w9 ⟨rfl, r9, g9⟩
  obtain ⟨⟨xcolumn9, ccolumn9⟩, zcolumn9⟩ := fld_column r9
  have R9 := hide (set_column r9 n9)
  clear r9
  go_wp2_with fail
  refine (needC R9.out [61] (by decide) E10.out).mono ?_
  rintro e w10 ⟨rfl, r10, g10⟩
  have R10 := hide r10
  clear r10
  go_wp2_with fail
  refine (expC R10.out E11.out).mono ?_
  rintro e w11 ⟨⟨ea11, rfl, hu11⟩, r11, g11⟩
  have R11 := hide r11
  clear r11
  have HU11 := hide (hu11.weak (B' := rb + 1) (R10.out.rb_lt))
  clear hu11
  go_wp2_with (refine wpList_rd_expr R11.out x11 ea11 HU11.out _ _ Tryz.size29 rfl rfl rfl rfl ?_; intro v11 rv11 gv11; have RV11 := hide rv11; clear rv11)
  refine (whereC RV11.out E12.out).mono ?_
  rintro e w12 ⟨rfl, r12, g12⟩
  have R12 := hide r12
  clear r12
  go_wp2
  first | go_end0 | ((try simp only [Exit.inBlock, Exit.then]); refine bodyPost_ret (results_none rfl _ _ _) rfl ?_)
  exact ⟨rfl, ⟨_, R12.out⟩, grown_trans g1 (grown_trans g2 (grown_trans g3 (grown_trans g4 (grown_trans g5 (grown_trans g6 (grown_trans (grown_set _ rb _ _) (grown_trans g7 (grown_trans (grown_set _ rb _ _) (grown_trans g8 (grown_trans g9 (grown_trans (grown_set _ rb _ _) (grown_trans g10 (grown_trans g11 (grown_trans gv11 (g12)))))))))))))))⟩
theorem commandC_select {w : World} {base rb : Nat} {v : Value} {T : List Tk} {en : Int} {s s1 s2 s3 s4 s5 s6 s7 s8 : Sx} {c8 : Cm} (h : RdC w base rb v T en (nilS, nilS, nilS) s cm0) (e1 : takeS T w_create s = (false, s1)) (e2 : takeS T w_drop s1 = (false, s2)) (e3 : takeS T w_alter s2 = (false, s3)) (e4 : takeS T w_insert s3 = (false, s4)) (e5 : takeS T w_delete s4 = (false, s5)) (e6 : takeS T w_update s5 = (false, s6)) (e7 : takeS T w_select s6 = (true, s7)) (e8 : selectS T s7 = (c8, s8)) :
    Calls Tryz.prog 23 #[.pointer (some ⟨rb, 0, none⟩)] w fun e w' => e = .returned (.tuple #[]) ∧ (∃ L', RdC w' base rb v T en L' s8 c8) ∧ w.grownBy w' (some rb) := by
  have R0 := hide h
  clear h
  have E1 := hide e1
  have E2 := hide e2
  have E3 := hide e3
  have E4 := hide e4
  have E5 := hide e5
  have E6 := hide e6
  have E7 := hide e7
  have E8 := hide e8
  clear e1 e2 e3 e4 e5 e6 e7 e8
  go_enter Tryz.func23, Tryz.ntmps23
  go_wp2_with fail
  refine (takeC R0.out w_create (by decide) E1.out).mono ?_
  rintro e w1 ⟨rfl, r1, g1⟩
  have R1 := hide r1
  clear r1
  go_wp2_with fail
  refine (takeC R1.out w_drop (by decide) E2.out).mono ?_
  rintro e w2 ⟨rfl, r2, g2⟩
  have R2 := hide r2
  clear r2
  go_wp2_with fail
  refine (takeC R2.out w_alter (by decide) E3.out).mono ?_
  rintro e w3 ⟨rfl, r3, g3⟩
  have R3 := hide r3
  clear r3
  go_wp2_with fail
  refine (takeC R3.out w_insert (by decide) E4.out).mono ?_
  rintro e w4 ⟨rfl, r4, g4⟩
  have R4 := hide r4
  clear r4
  go_wp2_with fail
  refine (takeC R4.out w_delete (by decide) E5.out).mono ?_
  rintro e w5 ⟨rfl, r5, g5⟩
  have R5 := hide r5
  clear r5
  go_wp2_with fail
  refine (takeC R5.out w_update (by decide) E6.out).mono ?_
  rintro e w6 ⟨rfl, r6, g6⟩
  have R6 := hide r6
  clear r6
  go_wp2_with fail
  refine (takeC R6.out w_select (by decide) E7.out).mono ?_
  rintro e w7 ⟨rfl, r7, g7⟩
  have R7 := hide r7
  clear r7
  go_wp2_with fail
  refine (selectC R7.out E8.out).mono ?_
  rintro e w8 ⟨rfl, ⟨L8, r8⟩, g8⟩
  have R8 := hide r8
  clear r8
  go_wp2
  first | go_end0 | ((try simp only [Exit.inBlock, Exit.then]); refine bodyPost_ret (results_none rfl _ _ _) rfl ?_)
  exact ⟨rfl, ⟨_, R8.out⟩, grown_trans g1 (grown_trans g2 (grown_trans g3 (grown_trans g4 (grown_trans g5 (grown_trans g6 (grown_trans g7 (g8)))))))⟩
theorem commandC_begin {w : World} {base rb : Nat} {v : Value} {T : List Tk} {en : Int} {s s1 s2 s3 s4 s5 s6 s7 s8 : Sx}  (h : RdC w base rb v T en (nilS, nilS, nilS) s cm0) (e1 : takeS T w_create s = (false, s1)) (e2 : takeS T w_drop s1 = (false, s2)) (e3 : takeS T w_alter s2 = (false, s3)) (e4 : takeS T w_insert s3 = (false, s4)) (e5 : takeS T w_delete s4 = (false, s5)) (e6 : takeS T w_update s5 = (false, s6)) (e7 : takeS T w_select s6 = (false, s7)) (e8 : takeS T w_begin s7 = (true, s8)) :
    Calls Tryz.prog 23 #[.pointer (some ⟨rb, 0, none⟩)] w fun e w' => e = .returned (.tuple #[]) ∧ (∃ L', RdC w' base rb v T en L' s8 { cm0 with kind := 14 }) ∧ w.grownBy w' (some rb) := by
  have R0 := hide h
  clear h
  have E1 := hide e1
  have E2 := hide e2
  have E3 := hide e3
  have E4 := hide e4
  have E5 := hide e5
  have E6 := hide e6
  have E7 := hide e7
  have E8 := hide e8
  clear e1 e2 e3 e4 e5 e6 e7 e8
  go_enter Tryz.func23, Tryz.ntmps23
  go_wp2_with fail
  refine (takeC R0.out w_create (by decide) E1.out).mono ?_
  rintro e w1 ⟨rfl, r1, g1⟩
  have R1 := hide r1
  clear r1
  go_wp2_with fail
  refine (takeC R1.out w_drop (by decide) E2.out).mono ?_
  rintro e w2 ⟨rfl, r2, g2⟩
  have R2 := hide r2
  clear r2
  go_wp2_with fail
  refine (takeC R2.out w_alter (by decide) E3.out).mono ?_
  rintro e w3 ⟨rfl, r3, g3⟩
  have R3 := hide r3
  clear r3
  go_wp2_with fail
  refine (takeC R3.out w_insert (by decide) E4.out).mono ?_
  rintro e w4 ⟨rfl, r4, g4⟩
  have R4 := hide r4
  clear r4
  go_wp2_with fail
  refine (takeC R4.out w_delete (by decide) E5.out).mono ?_
  rintro e w5 ⟨rfl, r5, g5⟩
  have R5 := hide r5
  clear r5
  go_wp2_with fail
  refine (takeC R5.out w_update (by decide) E6.out).mono ?_
  rintro e w6 ⟨rfl, r6, g6⟩
  have R6 := hide r6
  clear r6
  go_wp2_with fail
  refine (takeC R6.out w_select (by decide) E7.out).mono ?_
  rintro e w7 ⟨rfl, r7, g7⟩
  have R7 := hide r7
  clear r7
  go_wp2_with fail
  refine (takeC R7.out w_begin (by decide) E8.out).mono ?_
  rintro e w8 ⟨rfl, r8, g8⟩
  obtain ⟨⟨xkind8, ckind8⟩, zkind8⟩ := fld_kind r8
  have R8 := hide (set_kind r8 14)
  clear r8
  go_wp2
  first | go_end0 | ((try simp only [Exit.inBlock, Exit.then]); refine bodyPost_ret (results_none rfl _ _ _) rfl ?_)
  exact ⟨rfl, ⟨_, R8.out⟩, grown_trans g1 (grown_trans g2 (grown_trans g3 (grown_trans g4 (grown_trans g5 (grown_trans g6 (grown_trans g7 (grown_trans g8 ((grown_set _ rb _ _)))))))))⟩
theorem commandC_commit {w : World} {base rb : Nat} {v : Value} {T : List Tk} {en : Int} {s s1 s2 s3 s4 s5 s6 s7 s8 s9 : Sx}  (h : RdC w base rb v T en (nilS, nilS, nilS) s cm0) (e1 : takeS T w_create s = (false, s1)) (e2 : takeS T w_drop s1 = (false, s2)) (e3 : takeS T w_alter s2 = (false, s3)) (e4 : takeS T w_insert s3 = (false, s4)) (e5 : takeS T w_delete s4 = (false, s5)) (e6 : takeS T w_update s5 = (false, s6)) (e7 : takeS T w_select s6 = (false, s7)) (e8 : takeS T w_begin s7 = (false, s8)) (e9 : takeS T w_commit s8 = (true, s9)) :
    Calls Tryz.prog 23 #[.pointer (some ⟨rb, 0, none⟩)] w fun e w' => e = .returned (.tuple #[]) ∧ (∃ L', RdC w' base rb v T en L' s9 { cm0 with kind := 15 }) ∧ w.grownBy w' (some rb) := by
  have R0 := hide h
  clear h
  have E1 := hide e1
  have E2 := hide e2
  have E3 := hide e3
  have E4 := hide e4
  have E5 := hide e5
  have E6 := hide e6
  have E7 := hide e7
  have E8 := hide e8
  have E9 := hide e9
  clear e1 e2 e3 e4 e5 e6 e7 e8 e9
  go_enter Tryz.func23, Tryz.ntmps23
  go_wp2_with fail
  refine (takeC R0.out w_create (by decide) E1.out).mono ?_
  rintro e w1 ⟨rfl, r1, g1⟩
  have R1 := hide r1
  clear r1
  go_wp2_with fail
  refine (takeC R1.out w_drop (by decide) E2.out).mono ?_
  rintro e w2 ⟨rfl, r2, g2⟩
  have R2 := hide r2
  clear r2
  go_wp2_with fail
  refine (takeC R2.out w_alter (by decide) E3.out).mono ?_
  rintro e w3 ⟨rfl, r3, g3⟩
  have R3 := hide r3
  clear r3
  go_wp2_with fail
  refine (takeC R3.out w_insert (by decide) E4.out).mono ?_
  rintro e w4 ⟨rfl, r4, g4⟩
  have R4 := hide r4
  clear r4
  go_wp2_with fail
  refine (takeC R4.out w_delete (by decide) E5.out).mono ?_
  rintro e w5 ⟨rfl, r5, g5⟩
  have R5 := hide r5
  clear r5
  go_wp2_with fail
  refine (takeC R5.out w_update (by decide) E6.out).mono ?_
  rintro e w6 ⟨rfl, r6, g6⟩
  have R6 := hide r6
  clear r6
  go_wp2_with fail
  refine (takeC R6.out w_select (by decide) E7.out).mono ?_
  rintro e w7 ⟨rfl, r7, g7⟩
  have R7 := hide r7
  clear r7
  go_wp2_with fail
  refine (takeC R7.out w_begin (by decide) E8.out).mono ?_
  rintro e w8 ⟨rfl, r8, g8⟩
  have R8 := hide r8
  clear r8
  go_wp2_with fail
  refine (takeC R8.out w_commit (by decide) E9.out).mono ?_
  rintro e w9 ⟨rfl, r9, g9⟩
  obtain ⟨⟨xkind9, ckind9⟩, zkind9⟩ := fld_kind r9
  have R9 := hide (set_kind r9 15)
  clear r9
  go_wp2
  first | go_end0 | ((try simp only [Exit.inBlock, Exit.then]); refine bodyPost_ret (results_none rfl _ _ _) rfl ?_)
  exact ⟨rfl, ⟨_, R9.out⟩, grown_trans g1 (grown_trans g2 (grown_trans g3 (grown_trans g4 (grown_trans g5 (grown_trans g6 (grown_trans g7 (grown_trans g8 (grown_trans g9 ((grown_set _ rb _ _))))))))))⟩
theorem commandC_rollback {w : World} {base rb : Nat} {v : Value} {T : List Tk} {en : Int} {s s1 s2 s3 s4 s5 s6 s7 s8 s9 s10 : Sx}  (h : RdC w base rb v T en (nilS, nilS, nilS) s cm0) (e1 : takeS T w_create s = (false, s1)) (e2 : takeS T w_drop s1 = (false, s2)) (e3 : takeS T w_alter s2 = (false, s3)) (e4 : takeS T w_insert s3 = (false, s4)) (e5 : takeS T w_delete s4 = (false, s5)) (e6 : takeS T w_update s5 = (false, s6)) (e7 : takeS T w_select s6 = (false, s7)) (e8 : takeS T w_begin s7 = (false, s8)) (e9 : takeS T w_commit s8 = (false, s9)) (e10 : needS T w_rollback s9 = ((), s10)) :
    Calls Tryz.prog 23 #[.pointer (some ⟨rb, 0, none⟩)] w fun e w' => e = .returned (.tuple #[]) ∧ (∃ L', RdC w' base rb v T en L' s10 { cm0 with kind := 16 }) ∧ w.grownBy w' (some rb) := by
  have R0 := hide h
  clear h
  have E1 := hide e1
  have E2 := hide e2
  have E3 := hide e3
  have E4 := hide e4
  have E5 := hide e5
  have E6 := hide e6
  have E7 := hide e7
  have E8 := hide e8
  have E9 := hide e9
  have E10 := hide e10
  clear e1 e2 e3 e4 e5 e6 e7 e8 e9 e10
  go_enter Tryz.func23, Tryz.ntmps23
  go_wp2_with fail
  refine (takeC R0.out w_create (by decide) E1.out).mono ?_
  rintro e w1 ⟨rfl, r1, g1⟩
  have R1 := hide r1
  clear r1
  go_wp2_with fail
  refine (takeC R1.out w_drop (by decide) E2.out).mono ?_
  rintro e w2 ⟨rfl, r2, g2⟩
  have R2 := hide r2
  clear r2
  go_wp2_with fail
  refine (takeC R2.out w_alter (by decide) E3.out).mono ?_
  rintro e w3 ⟨rfl, r3, g3⟩
  have R3 := hide r3
  clear r3
  go_wp2_with fail
  refine (takeC R3.out w_insert (by decide) E4.out).mono ?_
  rintro e w4 ⟨rfl, r4, g4⟩
  have R4 := hide r4
  clear r4
  go_wp2_with fail
  refine (takeC R4.out w_delete (by decide) E5.out).mono ?_
  rintro e w5 ⟨rfl, r5, g5⟩
  have R5 := hide r5
  clear r5
  go_wp2_with fail
  refine (takeC R5.out w_update (by decide) E6.out).mono ?_
  rintro e w6 ⟨rfl, r6, g6⟩
  have R6 := hide r6
  clear r6
  go_wp2_with fail
  refine (takeC R6.out w_select (by decide) E7.out).mono ?_
  rintro e w7 ⟨rfl, r7, g7⟩
  have R7 := hide r7
  clear r7
  go_wp2_with fail
  refine (takeC R7.out w_begin (by decide) E8.out).mono ?_
  rintro e w8 ⟨rfl, r8, g8⟩
  have R8 := hide r8
  clear r8
  go_wp2_with fail
  refine (takeC R8.out w_commit (by decide) E9.out).mono ?_
  rintro e w9 ⟨rfl, r9, g9⟩
  have R9 := hide r9
  clear r9
  go_wp2_with fail
  refine (needC R9.out w_rollback (by decide) E10.out).mono ?_
  rintro e w10 ⟨rfl, r10, g10⟩
  obtain ⟨⟨xkind10, ckind10⟩, zkind10⟩ := fld_kind r10
  have R10 := hide (set_kind r10 16)
  clear r10
  go_wp2
  first | go_end0 | ((try simp only [Exit.inBlock, Exit.then]); refine bodyPost_ret (results_none rfl _ _ _) rfl ?_)
  exact ⟨rfl, ⟨_, R10.out⟩, grown_trans g1 (grown_trans g2 (grown_trans g3 (grown_trans g4 (grown_trans g5 (grown_trans g6 (grown_trans g7 (grown_trans g8 (grown_trans g9 (grown_trans g10 ((grown_set _ rb _ _)))))))))))⟩
theorem commandC_insert {w : World} {base rb : Nat} {v : Value} {T : List Tk} {en : Int} {s s1 s2 s3 s4 s5 s6 s7 s8 s9 s10 : Sx} {n6 : List UInt8} {fl : List Vl} (h : RdC w base rb v T en (nilS, nilS, nilS) s cm0) (e1 : takeS T w_create s = (false, s1)) (e2 : takeS T w_drop s1 = (false, s2)) (e3 : takeS T w_alter s2 = (false, s3)) (e4 : takeS T w_insert s3 = (true, s4)) (e5 : needS T w_into s4 = ((), s5)) (e6 : nameS T s5 = (n6, s6)) (e7 : needS T w_values s6 = ((), s7)) (e8 : needS T [40] s7 = ((), s8)) (el : listS T (valueS T) s8 = (fl, s9)) (e10 : needS T [41] s9 = ((), s10)) :
    Calls Tryz.prog 23 #[.pointer (some ⟨rb, 0, none⟩)] w fun e w' => e = .returned (.tuple #[]) ∧ (∃ L', RdC w' base rb v T en L' s10 { cm0 with kind := 10, name := n6, vals := fl }) ∧ w.grownBy w' (some rb) := by
  obtain ⟨i0, hi, hz0, hz1, hz2⟩ := info_parts Tryz.info_val
  have R0 := hide h
  clear h
  have E1 := hide e1
  have E2 := hide e2
  have E3 := hide e3
  have E4 := hide e4
  have E5 := hide e5
  have E6 := hide e6
  have E7 := hide e7
  have E8 := hide e8
  have E10 := hide e10
  have EL := hide el
  clear el e1 e2 e3 e4 e5 e6 e7 e8 e10
  go_enter Tryz.func23, Tryz.ntmps23
  go_wp2_with fail
  refine (takeC R0.out w_create (by decide) E1.out).mono ?_
  rintro e w1 ⟨rfl, r1, g1⟩
  have R1 := hide r1
  clear r1
  go_wp2_with fail
  refine (takeC R1.out w_drop (by decide) E2.out).mono ?_
  rintro e w2 ⟨rfl, r2, g2⟩
  have R2 := hide r2
  clear r2
  go_wp2_with fail
  refine (takeC R2.out w_alter (by decide) E3.out).mono ?_
  rintro e w3 ⟨rfl, r3, g3⟩
  have R3 := hide r3
  clear r3
  go_wp2_with fail
  refine (takeC R3.out w_insert (by decide) E4.out).mono ?_
  rintro e w4 ⟨rfl, r4, g4⟩
  obtain ⟨⟨xkind4, ckind4⟩, zkind4⟩ := fld_kind r4
  have R4 := hide (set_kind r4 10)
  clear r4
  go_wp2_with fail
  refine (needC R4.out w_into (by decide) E5.out).mono ?_
  rintro e w5 ⟨rfl, r5, g5⟩
  have R5 := hide r5
  clear r5
  go_wp2_with fail
  refine (nameC R5.out E6.out).mono ?_
  rintro e w6 ⟨rfl, r6, g6⟩
  obtain ⟨⟨xname6, cname6⟩, zname6⟩ := fld_name r6
  have R6 := hide (set_name r6 n6)
  clear r6
  go_wp2_with fail
  refine (needC R6.out w_values (by decide) E7.out).mono ?_
  rintro e w7 ⟨rfl, r7, g7⟩
  have R7 := hide r7
  clear r7
  go_wp2_with fail
  refine (needC R7.out [40] (by decide) E8.out).mono ?_
  rintro e w8 ⟨rfl, r8, g8⟩
  have G4 : w.grownBy w8 (some rb) := grown_trans g1 (grown_trans g2 (grown_trans g3 (grown_trans g4 (grown_trans (grown_set _ rb _ _) (grown_trans g5 (grown_trans g6 (grown_trans (grown_set _ rb _ _) (grown_trans g7 (g8)))))))))
  clear g1 g2 g3 g4 g5 g6 g7 g8 E1 E2 E3 E4 E5 E6 E7 E8
  obtain ⟨ea, wa, r4, i4⟩ := r8
  have HE := hide i4.expr
  have HW := hide i4.wh
  have r4 : Rd w8 base rb v T en s8 (cmL { cm0 with kind := 10, name := n6, vals := [] } nilS nilS nilS ea wa) := r4
  have R4 := hide r4
  have hfew := r4.few
  have o4 : w8.ownsRow w8.heap.size 24 3 nilS 0 [] := ⟨rfl, .inl ⟨rfl, rfl⟩⟩
  have rb4 := r4.rb_lt
  clear r4 i4
  go_wp2
  go_loopw [2] (fun more wl => ∃ (b : Bool) (acc : List (Vl)) (j : Sx) (cv : Value) (f : Nat), more = .bool b ∧ Hid (InvL T (valueS T) (fl, s9) b acc j f) ∧ Hid (Rd wl base rb v T en j (cmL { cm0 with kind := 10, name := n6, vals := acc } nilS cv nilS ea wa)) ∧ Hid (wl.ownsRow w8.heap.size 24 3 cv acc.length (acc.flatMap vlC)) ∧ w8.grownBy wl (some rb) ∧ (b = true → acc.length ≤ j.1)) (fun more wl => match more with | .bool true => T.length + 2 - atP wl rb | _ => 0)
  case atStart => exact ⟨true, [], s8, nilS, _, rfl, InvL.start EL.out, R4, o4, grown_refl _ _, fun _ => Nat.zero_le _⟩
  case round =>
    obtain ⟨b, acc, j, cv, f, rfl, HI, HR, HO, hg, hacc⟩ := hrel
    have hat := HR.out.at
    obtain ⟨⟨c0, c1, c2, c3⟩, z1, z3⟩ := rd4 HR.out.blk
    have hjl := HR.out.le
    have hrbr := HR.out.rb_lt
    by_cases hgo : b = true ∧ j.2 = false
    · obtain ⟨rfl, hF⟩ := hgo
      rw [hF] at c3
      have hacc := hacc rfl
      have hgs := hg.size
      obtain ⟨x, j2, hn1⟩ : ∃ x j2, valueS T j = (x, j2) := ⟨_, _, rfl⟩
      obtain ⟨b', j3, hn3⟩ : ∃ b' j3, takeS T [44] j2 = (b', j3) := ⟨_, _, rfl⟩
      have hmono : j.1 ≤ j2.1 := by have := value_mono T j; rw [hn1] at this; exact this
      have m1 : ∀ W, Rd W base rb v T en j (cmL { cm0 with kind := 10, name := n6, vals := acc } nilS cv nilS ea wa) → Calls Tryz.prog 65 #[.pointer (some ⟨rb, 0, none⟩)] W fun e w' => e = .returned (.agg #[.int .i64 x.k, .int .i64 x.n, .string ⟨x.s.toArray⟩]) ∧ Rd w' base rb v T en j2 (cmL { cm0 with kind := 10, name := n6, vals := acc } nilS cv nilS ea wa) ∧ W.grownBy w' (some rb) := fun W hh => by have := rval_any hh; rw [hn1] at this; exact this
      have HC := hide hn1
      have HT := hide hn3
      clear hn1 hn3
      obtain ⟨sr, yr⟩ := cell_at13 rb v _ en _ _ nilS cv nilS ea wa HR.out.blk
      have hne8 : cv.ownBlock ≠ some rb := fun e => by have := own_ge HO.out rb e; omega
      go_wp2_with fail
      go_region_law (first | (refine step_append_lies _ (by rfl) _ _ _ (by rfl) w8.heap.size 24 i0 _ 3 32 Tryz.underlying25 hi hz0 hz1 hz2 rfl (by omega) cv acc.length (acc.flatMap vlC) (by rfl) (OC.out.alloc _) ⟨wc.heap.size, 0, none⟩ 1 1 [.int .i64 x.k, .int .i64 x.n, .string ⟨x.s.toArray⟩] (by rfl) (by rfl) (World.news_of_block (cs := #[.int .i64 x.k, .int .i64 x.n, .string ⟨x.s.toArray⟩]) (t := 24) (fr := (0, 0)) (heap_alloc_new wc _)) (by simp [Value.oneCell']) (by omega) (by unfold maxLen; omega) (by omega) (by simp; omega) (wc.heap.size + 1) (by simp) ?_; intro gg cap wq hown1 hgrow hat1 hlt1; have hs8 : wq.cell? ⟨rb, 13, none⟩ = some cv := (hgrow.cell_far ⟨rb, 13, none⟩ (by simp; omega) (Ne.symm hne8)).trans (keep1 hrbC s8 y8 _).1; have hy8 : wq.frozen? ⟨rb, 13, none⟩ = false := (hgrow.frozen_far ⟨rb, 13, none⟩ (by simp; omega) (Ne.symm hne8)).trans (keep1 hrbC s8 y8 _).2) | (go_simp; refine (m1 _ (HR.out.below (Below.refl _ _).drew)).mono ?_; rintro e wc ⟨rfl, rc, gc⟩; have RC := hide rc; have gC := hide gc; have OC := hide (HO.out.kept (grown_trans (grown_below (Below.refl _ _).drew _) gc) (.inr hne8)); have hrbC := rc.rb_lt; have hj2 := rc.le; have hsC : wr.heap.size ≤ wc.heap.size := gc.size; obtain ⟨s8, y8⟩ := cell_at13 rb v _ en _ _ nilS cv nilS ea wa rc.blk; clear rc gc; dsimp only))
      all_goals (
        obtain ⟨rz, oz, gz⟩ := pushed rb4 hg (grown_trans (grown_below (Below.refl _ _).drew _) gC.out) RC.out OC.out ((Below.refl _ _).alloc (Nat.le_refl _) _) hgrow hown1 9
        have Rz : Hid (Rd _ base rb v T en j2 (cmL { cm0 with kind := 10, name := n6, vals := (acc ++ [x]) } nilS (.slice (some ⟨gg, 0, none⟩) (acc.length + 1) cap) nilS ea wa)) := rz
        have Oz : Hid (World.ownsRow _ w8.heap.size 24 3 (.slice (some ⟨gg, 0, none⟩) (acc.length + 1) cap) (acc.length + 1) (acc.flatMap vlC ++ [.int .i64 x.k, .int .i64 x.n, .string ⟨x.s.toArray⟩])) := oz
        have Gz := hide gz
        clear rz oz gz hown1 hgrow hat1 hlt1 hs8 hy8
        generalize wq.setCell ⟨rb, 13, none⟩ (.slice (some ⟨gg, 0, none⟩) (acc.length + 1) cap) = wz at *
        go_wp2_with fail
        refine (take_eq Rz.out [44] (by decide) HT.out).mono ?_
        rintro e wy ⟨rfl, ry, gy⟩
        have Ry := hide ry
        have haty := ry.at
        have oy := Oz.out.kept gy (.inr (fun e => by have := own_ge Oz.out rb e; omega))
        obtain ⟨f', HI'⟩ := InvL.step HI.out hF HC.out hmono hj2 HT.out
        have HJ := hide HI'
        have Oy : Hid (wy.ownsRow w8.heap.size 24 3 (.slice (some ⟨gg, 0, none⟩) (acc.length + 1) cap) (acc ++ [x]).length ((acc ++ [x]).flatMap vlC)) := by
          show World.ownsRow _ _ _ _ _ _ _
          rw [List.length_append, List.flatMap_append]
          exact oy
        have gY := grown_trans Gz.out gy
        clear ry oy HI'
        go_wp2
        go_roundw
        case rel => exact ⟨b', _, j3, _, f', rfl, HJ, Ry, Oy, gY, fun hb => by have := take_true (hb ▸ HT.out); simp; omega⟩
        case measure =>
          cases b' with
          | false => simp; omega
          | true => have := take_true HT.out; simp only; omega)
    · have HD : Hid ((fl, s9) = (acc, j)) := HI.out.done hgo
      have RL : Hid (RdC wr base rb v T en (nilS, cv, nilS) s9 { cm0 with kind := 10, name := n6, vals := fl }) := by
        show RdC _ _ _ _ _ _ _ _ _
        rw [(Prod.mk.inj HD.out).1, (Prod.mk.inj HD.out).2]
        exact ⟨ea, wa, HR.out, ⟨RowAt.nil _ _ _, (row_of HO.out).weak (by omega), RowAt.nil _ _ _, HE.out.anywhere _ _, HW.out.anywhere _ _⟩⟩
      clear HD HI HE HW HO EL R4 o4
      cases b with
      | false =>
        clear HR c0 c1 c2 c3 z1 z3
        go_wp2_with fail
        refine (needC RL.out [41] (by decide) E10.out).mono ?_
        rintro e w10 ⟨rfl, r10, g10⟩
        have R10 := hide r10
        clear r10
        go_wp2
        first | go_end0 | ((try simp only [Exit.inBlock, Exit.then]); refine bodyPost_ret (results_none rfl _ _ _) rfl ?_)
        exact ⟨rfl, ⟨_, R10.out⟩, grown_trans G4 (grown_trans hg (g10))⟩
      | true =>
        have hF : j.2 = true := by cases hh : j.2 <;> simp_all
        rw [hF] at c3
        clear HR
        go_wp2_with fail
        refine (needC RL.out [41] (by decide) E10.out).mono ?_
        rintro e w10 ⟨rfl, r10, g10⟩
        have R10 := hide r10
        clear r10
        go_wp2
        first | go_end0 | ((try simp only [Exit.inBlock, Exit.then]); refine bodyPost_ret (results_none rfl _ _ _) rfl ?_)
        exact ⟨rfl, ⟨_, R10.out⟩, grown_trans G4 (grown_trans hg (g10))⟩
theorem commandC {w : World} {base rb : Nat} {v : Value} {T : List Tk} {en : Int} {s s' : Sx} {c' : Cm} (h : RdC w base rb v T en (nilS, nilS, nilS) s cm0) (e : commandS T s = (c', s')) :
    Calls Tryz.prog 23 #[.pointer (some ⟨rb, 0, none⟩)] w fun e w' => e = .returned (.tuple #[]) ∧ (∃ L', RdC w' base rb v T en L' s' c') ∧ w.grownBy w' (some rb) := by
  unfold commandS at e
  rw [elseS] at e
  obtain ⟨b0, s0, h0⟩ : ∃ b z, takeS T w_create s = (b, z) := ⟨_, _, rfl⟩
  cases b0 with
  | true =>
    rw [h0] at e
    simp only [if_true] at e
    have q := commandC_create h h0 e
    exact q
  | false =>
    have j0 := take_false h0
    rw [h0] at e
    simp only [Bool.false_eq_true, if_false] at e
    subst j0
    rw [elseS] at e
    obtain ⟨b1, s1, h1⟩ : ∃ b z, takeS T w_drop s0 = (b, z) := ⟨_, _, rfl⟩
    cases b1 with
    | true =>
      rw [h1] at e
      simp only [if_true] at e
      unfold dropS elseS at e
      obtain ⟨bi, si, hi⟩ : ∃ b z, takeS T w_index s1 = (b, z) := ⟨_, _, rfl⟩
      cases bi with
      | true =>
        obtain ⟨n, sn, hn⟩ : ∃ n s2, nameS T si = (n, s2) := ⟨_, _, rfl⟩
        simp only [hi, if_true, thenS, hn, retS, Prod.mk.injEq] at e
        obtain ⟨rfl, rfl⟩ := e
        have q := commandC_dropi h h0 h1 hi hn
        exact q
      | false =>
        obtain ⟨st, ht⟩ : ∃ s2, needS T w_table si = ((), s2) := ⟨_, rfl⟩
        obtain ⟨n, sn, hn⟩ : ∃ n s2, nameS T st = (n, s2) := ⟨_, _, rfl⟩
        have ki := take_false hi
        subst ki
        simp only [hi, Bool.false_eq_true, if_false, thenS, ht, hn, retS, Prod.mk.injEq] at e
        obtain ⟨rfl, rfl⟩ := e
        have q := commandC_dropt h h0 h1 hi ht hn
        exact q
    | false =>
      have j1 := take_false h1
      rw [h1] at e
      simp only [Bool.false_eq_true, if_false] at e
      subst j1
      rw [elseS] at e
      obtain ⟨b2, s2, h2⟩ : ∃ b z, takeS T w_alter s1 = (b, z) := ⟨_, _, rfl⟩
      cases b2 with
      | true =>
        rw [h2] at e
        simp only [if_true] at e
        have q := commandC_alter h h0 h1 h2 e
        exact q
      | false =>
        have j2 := take_false h2
        rw [h2] at e
        simp only [Bool.false_eq_true, if_false] at e
        subst j2
        rw [elseS] at e
        obtain ⟨b3, s3, h3⟩ : ∃ b z, takeS T w_insert s2 = (b, z) := ⟨_, _, rfl⟩
        cases b3 with
        | true =>
          rw [h3] at e
          simp only [if_true] at e
          unfold insertS at e
          obtain ⟨a1, k1⟩ : ∃ z, needS T w_into s3 = ((), z) := ⟨_, rfl⟩
          obtain ⟨n, a2, k2⟩ : ∃ n s2, nameS T a1 = (n, s2) := ⟨_, _, rfl⟩
          obtain ⟨a3, k3⟩ : ∃ s2, needS T w_values a2 = ((), s2) := ⟨_, rfl⟩
          obtain ⟨a4, k4⟩ : ∃ s2, needS T [40] a3 = ((), s2) := ⟨_, rfl⟩
          obtain ⟨l, a5, k5⟩ : ∃ l s2, listS T (valueS T) a4 = (l, s2) := ⟨_, _, rfl⟩
          obtain ⟨a6, k6⟩ : ∃ s2, needS T [41] a5 = ((), s2) := ⟨_, rfl⟩
          simp only [thenS, k1, k2, k3, k4, k5, k6, retS, Prod.mk.injEq] at e
          obtain ⟨rfl, rfl⟩ := e
          have q := commandC_insert h h0 h1 h2 h3 k1 k2 k3 k4 k5 k6
          exact q
        | false =>
          have j3 := take_false h3
          rw [h3] at e
          simp only [Bool.false_eq_true, if_false] at e
          subst j3
          rw [elseS] at e
          obtain ⟨b4, s4, h4⟩ : ∃ b z, takeS T w_delete s3 = (b, z) := ⟨_, _, rfl⟩
          cases b4 with
          | true =>
            rw [h4] at e
            simp only [if_true] at e
            unfold deleteS at e
            obtain ⟨a1, k1⟩ : ∃ z, needS T w_from s4 = ((), z) := ⟨_, rfl⟩
            obtain ⟨n, a2, k2⟩ : ∃ n s2, nameS T a1 = (n, s2) := ⟨_, _, rfl⟩
            simp only [thenS, k1, k2] at e
            have q := commandC_delete h h0 h1 h2 h3 h4 k1 k2 e
            exact q
          | false =>
            have j4 := take_false h4
            rw [h4] at e
            simp only [Bool.false_eq_true, if_false] at e
            subst j4
            rw [elseS] at e
            obtain ⟨b5, s5, h5⟩ : ∃ b z, takeS T w_update s4 = (b, z) := ⟨_, _, rfl⟩
            cases b5 with
            | true =>
              rw [h5] at e
              simp only [if_true] at e
              unfold updateS at e
              obtain ⟨n, a1, k1⟩ : ∃ n z, nameS T s5 = (n, z) := ⟨_, _, rfl⟩
              obtain ⟨a2, k2⟩ : ∃ s2, needS T w_set a1 = ((), s2) := ⟨_, rfl⟩
              obtain ⟨m, a3, k3⟩ : ∃ n s2, nameS T a2 = (n, s2) := ⟨_, _, rfl⟩
              obtain ⟨a4, k4⟩ : ∃ s2, needS T [61] a3 = ((), s2) := ⟨_, rfl⟩
              obtain ⟨x, a5, k5⟩ : ∃ x s2, exprS T 60 a4 = (x, s2) := ⟨_, _, rfl⟩
              simp only [thenS, k1, k2, k3, k4, k5] at e
              have q := commandC_update h h0 h1 h2 h3 h4 h5 k1 k2 k3 k4 k5 e
              exact q
            | false =>
              have j5 := take_false h5
              rw [h5] at e
              simp only [Bool.false_eq_true, if_false] at e
              subst j5
              rw [elseS] at e
              obtain ⟨b6, s6, h6⟩ : ∃ b z, takeS T w_select s5 = (b, z) := ⟨_, _, rfl⟩
              cases b6 with
              | true =>
                rw [h6] at e
                simp only [if_true] at e
                have q := commandC_select h h0 h1 h2 h3 h4 h5 h6 e
                exact q
              | false =>
                have j6 := take_false h6
                rw [h6] at e
                simp only [Bool.false_eq_true, if_false] at e
                subst j6
                rw [elseS] at e
                obtain ⟨b7, s7, h7⟩ : ∃ b z, takeS T w_begin s6 = (b, z) := ⟨_, _, rfl⟩
                cases b7 with
                | true =>
                  rw [h7] at e
                  simp only [if_true] at e
                  cases e
                  have q := commandC_begin h h0 h1 h2 h3 h4 h5 h6 h7
                  exact q
                | false =>
                  have j7 := take_false h7
                  rw [h7] at e
                  simp only [Bool.false_eq_true, if_false] at e
                  subst j7
                  rw [elseS] at e
                  obtain ⟨b8, s8, h8⟩ : ∃ b z, takeS T w_commit s7 = (b, z) := ⟨_, _, rfl⟩
                  cases b8 with
                  | true =>
                    rw [h8] at e
                    simp only [if_true] at e
                    cases e
                    have q := commandC_commit h h0 h1 h2 h3 h4 h5 h6 h7 h8
                    exact q
                  | false =>
                    have j8 := take_false h8
                    rw [h8] at e
                    simp only [Bool.false_eq_true, if_false] at e
                    subst j8
                    obtain ⟨a1, k1⟩ : ∃ z, needS T w_rollback s8 = ((), z) := ⟨_, rfl⟩
                    simp only [thenS, k1, retS, Prod.mk.injEq] at e
                    obtain ⟨rfl, rfl⟩ := e
                    have q := commandC_rollback h h0 h1 h2 h3 h4 h5 h6 h7 h8 k1
                    exact q
noncomputable def k2_R : Array Oper := ((Tryz.f13.body).bind (regionOf 2)).getD #[]
def k2_V  (j : Nat) : Value := ([.int .i64 2] : List Value).getD j undef
def k2_d : List (Option Tmp) := [some 2]
theorem k2_nodup : k2_d.Nodup := by unfold k2_d; decide
theorem k2_wp  {S : World → Prop} {a0 : Act} {Q : Exit → Act → World → Prop} {w : World}  (ha : a0.tmps.size = 272) (hS : S w)
    (hq : ∀ a' w', S w' → a'.defers = a0.defers → a'.tmps.size = 272 → (∀ j d, k2_d[j]? = some (some d) → a'.tmps[d]? = some (k2_V  j)) → (∀ d, some d ∉ k2_d → a'.tmps[d]? = a0.tmps[d]?) → Q .normal a' w') : (Code.region 2 k2_R false).wp Tryz.prog Q a0 w := by
  have hz : k2_R.size = 1 := by kernel_rfl
  refine wp_plain (m := 272) hz (by kernel_rfl) k2_nodup (by kernel_rfl) ha ?_ hS hq
  refine us ?_ (obPU hz (by decide) (by kernel_rfl) fun _ _ _ _ => ex_assign (x := .const (.int .i64 2)) (by kernel_rfl) (rfl))
  exact fun j hj => absurd hj (Nat.not_lt_zero j)
noncomputable def k10_R : Array Oper := ((Tryz.f13.body).bind (regionOf 10)).getD #[]
def k10_V  (j : Nat) : Value := ([.int .i64 0] : List Value).getD j undef
def k10_d : List (Option Tmp) := [some 5]
theorem k10_nodup : k10_d.Nodup := by unfold k10_d; decide
theorem k10_wp  {S : World → Prop} {a0 : Act} {Q : Exit → Act → World → Prop} {w : World}  (ha : a0.tmps.size = 272) (hS : S w)
    (hq : ∀ a' w', S w' → a'.defers = a0.defers → a'.tmps.size = 272 → (∀ j d, k10_d[j]? = some (some d) → a'.tmps[d]? = some (k10_V  j)) → (∀ d, some d ∉ k10_d → a'.tmps[d]? = a0.tmps[d]?) → Q .normal a' w') : (Code.region 10 k10_R false).wp Tryz.prog Q a0 w := by
  have hz : k10_R.size = 1 := by kernel_rfl
  refine wp_plain (m := 272) hz (by kernel_rfl) k10_nodup (by kernel_rfl) ha ?_ hS hq
  refine us ?_ (obPU hz (by decide) (by kernel_rfl) fun _ _ _ _ => ex_assign (x := .const (.int .i64 0)) (by kernel_rfl) (rfl))
  exact fun j hj => absurd hj (Nat.not_lt_zero j)
noncomputable def k14_R : Array Oper := ((Tryz.f13.body).bind (regionOf 14)).getD #[]
def k14_V  (j : Nat) : Value := ([.int .i64 0] : List Value).getD j undef
def k14_d : List (Option Tmp) := [some 6]
theorem k14_nodup : k14_d.Nodup := by unfold k14_d; decide
theorem k14_wp  {S : World → Prop} {a0 : Act} {Q : Exit → Act → World → Prop} {w : World}  (ha : a0.tmps.size = 272) (hS : S w)
    (hq : ∀ a' w', S w' → a'.defers = a0.defers → a'.tmps.size = 272 → (∀ j d, k14_d[j]? = some (some d) → a'.tmps[d]? = some (k14_V  j)) → (∀ d, some d ∉ k14_d → a'.tmps[d]? = a0.tmps[d]?) → Q .normal a' w') : (Code.region 14 k14_R false).wp Tryz.prog Q a0 w := by
  have hz : k14_R.size = 1 := by kernel_rfl
  refine wp_plain (m := 272) hz (by kernel_rfl) k14_nodup (by kernel_rfl) ha ?_ hS hq
  refine us ?_ (obPU hz (by decide) (by kernel_rfl) fun _ _ _ _ => ex_assign (x := .const (.int .i64 0)) (by kernel_rfl) (rfl))
  exact fun j hj => absurd hj (Nat.not_lt_zero j)
noncomputable def k18_R : Array Oper := ((Tryz.f13.body).bind (regionOf 18)).getD #[]
def k18_V  (j : Nat) : Value := ([.int .i64 0] : List Value).getD j undef
def k18_d : List (Option Tmp) := [some 7]
theorem k18_nodup : k18_d.Nodup := by unfold k18_d; decide
theorem k18_wp  {S : World → Prop} {a0 : Act} {Q : Exit → Act → World → Prop} {w : World}  (ha : a0.tmps.size = 272) (hS : S w)
    (hq : ∀ a' w', S w' → a'.defers = a0.defers → a'.tmps.size = 272 → (∀ j d, k18_d[j]? = some (some d) → a'.tmps[d]? = some (k18_V  j)) → (∀ d, some d ∉ k18_d → a'.tmps[d]? = a0.tmps[d]?) → Q .normal a' w') : (Code.region 18 k18_R false).wp Tryz.prog Q a0 w := by
  have hz : k18_R.size = 1 := by kernel_rfl
  refine wp_plain (m := 272) hz (by kernel_rfl) k18_nodup (by kernel_rfl) ha ?_ hS hq
  refine us ?_ (obPU hz (by decide) (by kernel_rfl) fun _ _ _ _ => ex_assign (x := .const (.int .i64 0)) (by kernel_rfl) (rfl))
  exact fun j hj => absurd hj (Nat.not_lt_zero j)
noncomputable def k31_R : Array Oper := ((Tryz.f13.body).bind (regionOf 31)).getD #[]
def k31_V  (j : Nat) : Value := ([.int .i64 1] : List Value).getD j undef
def k31_d : List (Option Tmp) := [some 2]
theorem k31_nodup : k31_d.Nodup := by unfold k31_d; decide
theorem k31_wp  {S : World → Prop} {a0 : Act} {Q : Exit → Act → World → Prop} {w : World}  (ha : a0.tmps.size = 272) (hS : S w)
    (hq : ∀ a' w', S w' → a'.defers = a0.defers → a'.tmps.size = 272 → (∀ j d, k31_d[j]? = some (some d) → a'.tmps[d]? = some (k31_V  j)) → (∀ d, some d ∉ k31_d → a'.tmps[d]? = a0.tmps[d]?) → Q .normal a' w') : (Code.region 31 k31_R false).wp Tryz.prog Q a0 w := by
  have hz : k31_R.size = 1 := by kernel_rfl
  refine wp_plain (m := 272) hz (by kernel_rfl) k31_nodup (by kernel_rfl) ha ?_ hS hq
  refine us ?_ (obPU hz (by decide) (by kernel_rfl) fun _ _ _ _ => ex_assign (x := .const (.int .i64 1)) (by kernel_rfl) (rfl))
  exact fun j hj => absurd hj (Nat.not_lt_zero j)
noncomputable def k32_R : Array Oper := ((Tryz.f13.body).bind (regionOf 32)).getD #[]
def k32_V  (j : Nat) : Value := ([.int .i64 0] : List Value).getD j undef
def k32_d : List (Option Tmp) := [some 2]
theorem k32_nodup : k32_d.Nodup := by unfold k32_d; decide
theorem k32_wp  {S : World → Prop} {a0 : Act} {Q : Exit → Act → World → Prop} {w : World}  (ha : a0.tmps.size = 272) (hS : S w)
    (hq : ∀ a' w', S w' → a'.defers = a0.defers → a'.tmps.size = 272 → (∀ j d, k32_d[j]? = some (some d) → a'.tmps[d]? = some (k32_V  j)) → (∀ d, some d ∉ k32_d → a'.tmps[d]? = a0.tmps[d]?) → Q .normal a' w') : (Code.region 32 k32_R false).wp Tryz.prog Q a0 w := by
  have hz : k32_R.size = 1 := by kernel_rfl
  refine wp_plain (m := 272) hz (by kernel_rfl) k32_nodup (by kernel_rfl) ha ?_ hS hq
  refine us ?_ (obPU hz (by decide) (by kernel_rfl) fun _ _ _ _ => ex_assign (x := .const (.int .i64 0)) (by kernel_rfl) (rfl))
  exact fun j hj => absurd hj (Nat.not_lt_zero j)
noncomputable def k1_R : Array Oper := ((Tryz.f13.body).bind (regionOf 1)).getD #[]
def k1_V (c : Cm) (a1 a2 a3 a4 a5 : Option Addr) (c1 c2 c3 c4 c5 : Nat) (b : Nat) (j : Nat) : Value := ([.pointer (some ⟨b, 4, none⟩), .slice a1 c.cols.length c1, .int .i64 ((c.cols.length : Nat) : Int), .bool (decide (5 < ((c.cols.length : Nat) : Int))), .bool (decide (5 < ((c.cols.length : Nat) : Int))), gw ((decide (5 < ((c.cols.length : Nat) : Int))) == false) (.pointer (some ⟨b, 9, none⟩)), gw ((decide (5 < ((c.cols.length : Nat) : Int))) == false) (.slice a2 c.vals.length c2), gw ((decide (5 < ((c.cols.length : Nat) : Int))) == false) (.int .i64 ((c.vals.length : Nat) : Int)), gw ((decide (5 < ((c.cols.length : Nat) : Int))) == false) (.bool (decide (5 < ((c.vals.length : Nat) : Int)))), .bool ((decide (5 < ((c.cols.length : Nat) : Int))) || (decide (5 < ((c.vals.length : Nat) : Int)))), .bool ((decide (5 < ((c.cols.length : Nat) : Int))) || (decide (5 < ((c.vals.length : Nat) : Int)))), gw (((decide (5 < ((c.cols.length : Nat) : Int))) || (decide (5 < ((c.vals.length : Nat) : Int)))) == false) (.pointer (some ⟨b, 10, none⟩)), gw (((decide (5 < ((c.cols.length : Nat) : Int))) || (decide (5 < ((c.vals.length : Nat) : Int)))) == false) (.slice a3 c.fields.length c3), gw (((decide (5 < ((c.cols.length : Nat) : Int))) || (decide (5 < ((c.vals.length : Nat) : Int)))) == false) (.int .i64 ((c.fields.length : Nat) : Int)), gw (((decide (5 < ((c.cols.length : Nat) : Int))) || (decide (5 < ((c.vals.length : Nat) : Int)))) == false) (.bool (decide (5 < ((c.fields.length : Nat) : Int)))), .bool (((decide (5 < ((c.cols.length : Nat) : Int))) || (decide (5 < ((c.vals.length : Nat) : Int)))) || (decide (5 < ((c.fields.length : Nat) : Int)))), .bool (((decide (5 < ((c.cols.length : Nat) : Int))) || (decide (5 < ((c.vals.length : Nat) : Int)))) || (decide (5 < ((c.fields.length : Nat) : Int)))), gw ((((decide (5 < ((c.cols.length : Nat) : Int))) || (decide (5 < ((c.vals.length : Nat) : Int)))) || (decide (5 < ((c.fields.length : Nat) : Int)))) == false) (.pointer (some ⟨b, 11, none⟩)), gw ((((decide (5 < ((c.cols.length : Nat) : Int))) || (decide (5 < ((c.vals.length : Nat) : Int)))) || (decide (5 < ((c.fields.length : Nat) : Int)))) == false) (.agg #[.int .i64 c.expr.k, .int .i64 c.expr.v.k, .int .i64 c.expr.v.n, .string ⟨c.expr.v.s.toArray⟩, .string ⟨c.expr.nm.toArray⟩, .slice a4 c.expr.args.length c4]), gw ((((decide (5 < ((c.cols.length : Nat) : Int))) || (decide (5 < ((c.vals.length : Nat) : Int)))) || (decide (5 < ((c.fields.length : Nat) : Int)))) == false) (.int .i64 ((min (sizeE c.expr) (15 + 1) : Nat) : Int)), gw ((((decide (5 < ((c.cols.length : Nat) : Int))) || (decide (5 < ((c.vals.length : Nat) : Int)))) || (decide (5 < ((c.fields.length : Nat) : Int)))) == false) (.bool (decide (15 < ((min (sizeE c.expr) (15 + 1) : Nat) : Int)))), .bool ((((decide (5 < ((c.cols.length : Nat) : Int))) || (decide (5 < ((c.vals.length : Nat) : Int)))) || (decide (5 < ((c.fields.length : Nat) : Int)))) || (decide (15 < ((min (sizeE c.expr) (15 + 1) : Nat) : Int)))), .bool ((((decide (5 < ((c.cols.length : Nat) : Int))) || (decide (5 < ((c.vals.length : Nat) : Int)))) || (decide (5 < ((c.fields.length : Nat) : Int)))) || (decide (15 < ((min (sizeE c.expr) (15 + 1) : Nat) : Int)))), gw (((((decide (5 < ((c.cols.length : Nat) : Int))) || (decide (5 < ((c.vals.length : Nat) : Int)))) || (decide (5 < ((c.fields.length : Nat) : Int)))) || (decide (15 < ((min (sizeE c.expr) (15 + 1) : Nat) : Int)))) == false) (.pointer (some ⟨b, 18, none⟩)), gw (((((decide (5 < ((c.cols.length : Nat) : Int))) || (decide (5 < ((c.vals.length : Nat) : Int)))) || (decide (5 < ((c.fields.length : Nat) : Int)))) || (decide (15 < ((min (sizeE c.expr) (15 + 1) : Nat) : Int)))) == false) (.agg #[.int .i64 c.wh.k, .int .i64 c.wh.v.k, .int .i64 c.wh.v.n, .string ⟨c.wh.v.s.toArray⟩, .string ⟨c.wh.nm.toArray⟩, .slice a5 c.wh.args.length c5]), gw (((((decide (5 < ((c.cols.length : Nat) : Int))) || (decide (5 < ((c.vals.length : Nat) : Int)))) || (decide (5 < ((c.fields.length : Nat) : Int)))) || (decide (15 < ((min (sizeE c.expr) (15 + 1) : Nat) : Int)))) == false) (.int .i64 ((min (sizeE c.wh) (15 + 1) : Nat) : Int)), gw (((((decide (5 < ((c.cols.length : Nat) : Int))) || (decide (5 < ((c.vals.length : Nat) : Int)))) || (decide (5 < ((c.fields.length : Nat) : Int)))) || (decide (15 < ((min (sizeE c.expr) (15 + 1) : Nat) : Int)))) == false) (.bool (decide (15 < ((min (sizeE c.wh) (15 + 1) : Nat) : Int)))), .bool (((((decide (5 < ((c.cols.length : Nat) : Int))) || (decide (5 < ((c.vals.length : Nat) : Int)))) || (decide (5 < ((c.fields.length : Nat) : Int)))) || (decide (15 < ((min (sizeE c.expr) (15 + 1) : Nat) : Int)))) || (decide (15 < ((min (sizeE c.wh) (15 + 1) : Nat) : Int))))] : List Value).getD j undef
def k1_d : List (Option Tmp) := [some 8, some 9, some 10, some 11, some 12, some 13, some 14, some 15, some 16, some 17, some 18, some 19, some 20, some 21, some 22, some 23, some 24, some 25, some 26, some 27, some 28, some 29, some 30, some 31, some 32, some 33, some 34, some 35]
theorem k1_nodup : k1_d.Nodup := by unfold k1_d; decide
theorem k1_wp {c : Cm} {a1 a2 a3 a4 a5 : Option Addr} {c1 c2 c3 c4 c5 : Nat} {b : Nat} {S : World → Prop} {a0 : Act} {Q : Exit → Act → World → Prop} {w : World} (h1 : a0.tmps[1]? = some (.pointer (some ⟨b, 0, none⟩))) (hcell : ∀ W, S W → ∀ o x, (cmL c (.slice a1 c.cols.length c1) (.slice a2 c.vals.length c2) (.slice a3 c.fields.length c3) (.slice a4 c.expr.args.length c4) (.slice a5 c.wh.args.length c5))[o]? = some x → W.cell? ⟨b, o, none⟩ = some x) (q27 : ∀ W, S W → Calls Tryz.prog 30 #[.agg #[.int .i64 c.expr.k, .int .i64 c.expr.v.k, .int .i64 c.expr.v.n, .string ⟨c.expr.v.s.toArray⟩, .string ⟨c.expr.nm.toArray⟩, .slice a4 c.expr.args.length c4], .int .i64 15] W fun e w' => e = .returned (.int .i64 ((min (sizeE c.expr) (15 + 1) : Nat) : Int)) ∧ S w') (q33 : ∀ W, S W → Calls Tryz.prog 30 #[.agg #[.int .i64 c.wh.k, .int .i64 c.wh.v.k, .int .i64 c.wh.v.n, .string ⟨c.wh.v.s.toArray⟩, .string ⟨c.wh.nm.toArray⟩, .slice a5 c.wh.args.length c5], .int .i64 15] W fun e w' => e = .returned (.int .i64 ((min (sizeE c.wh) (15 + 1) : Nat) : Int)) ∧ S w') (ha : a0.tmps.size = 272) (hS : S w)
    (hq : ∀ a' w', S w' → a'.defers = a0.defers → a'.tmps.size = 272 → (∀ j d, k1_d[j]? = some (some d) → a'.tmps[d]? = some (k1_V c a1 a2 a3 a4 a5 c1 c2 c3 c4 c5 b j)) → (∀ d, some d ∉ k1_d → a'.tmps[d]? = a0.tmps[d]?) → Q .normal a' w') : (Code.region 1 k1_R false).wp Tryz.prog Q a0 w := by
  have hz : k1_R.size = 28 := by kernel_rfl
  refine wp_plain (m := 272) hz (by kernel_rfl) k1_nodup (by kernel_rfl) ha ?_ hS hq
  refine us ?_ (obPU hz (by decide) (by kernel_rfl) fun _ _ s _ => ex_pickO (G := true) (by kernel_rfl) (s.u 22 30 (by kernel_rfl)) (s.u 26 34 (by kernel_rfl)) rfl rfl)
  refine us ?_ (obPG true 22 30 false hz (by decide) (by kernel_rfl) rfl rfl fun hG _ W s _ => ex_bin (u := 3) (x := .tmp 33) (y := .const (.int .i64 15)) (by kernel_rfl) (s.g 25 33 (by kernel_rfl) hG rfl) (rfl) (gtr3c W _ _ _ _))
  refine us ?_ (obPH true 22 30 false hz (by decide) (by kernel_rfl) rfl rfl (fun hG _ _ s => ex_call2 (ts := #[29, 3]) (x := .tmp 32) (y := .const (.int .i64 15)) (f := 30) cf30 (by kernel_rfl) rfl (s.g 24 32 (by kernel_rfl) hG rfl) (rfl)) q33)
  refine us ?_ (obPG true 22 30 false hz (by decide) (by kernel_rfl) rfl rfl fun hG _ W s hS => ex_load (x := .tmp 31) (t := 29) (by kernel_rfl) (s.g 23 31 (by kernel_rfl) hG rfl) (ld29 W _ 18 _ _ _ _ _ _ (hcell W hS 18 _ rfl) (hcell W hS 19 _ rfl) (hcell W hS 20 _ rfl) (hcell W hS 21 _ rfl) (hcell W hS 22 _ rfl) (hcell W hS 23 _ rfl)))
  refine us ?_ (obPG true 22 30 false hz (by decide) (by kernel_rfl) rfl rfl fun _ _ W s _ => ex_field (x := .tmp 1) (t := 31) (f := 11) (by kernel_rfl) (s.b 1 (by kernel_rfl) h1) (fa11 W _))
  refine us ?_ (obPU hz (by decide) (by kernel_rfl) fun _ _ s _ => ex_move (x := .tmp 29) (by kernel_rfl) (s.u 21 29 (by kernel_rfl)))
  refine us ?_ (obPU hz (by decide) (by kernel_rfl) fun _ _ s _ => ex_pickO (G := true) (by kernel_rfl) (s.u 16 24 (by kernel_rfl)) (s.u 20 28 (by kernel_rfl)) rfl rfl)
  refine us ?_ (obPG true 16 24 false hz (by decide) (by kernel_rfl) rfl rfl fun hG _ W s _ => ex_bin (u := 3) (x := .tmp 27) (y := .const (.int .i64 15)) (by kernel_rfl) (s.g 19 27 (by kernel_rfl) hG rfl) (rfl) (gtr3c W _ _ _ _))
  refine us ?_ (obPH true 16 24 false hz (by decide) (by kernel_rfl) rfl rfl (fun hG _ _ s => ex_call2 (ts := #[29, 3]) (x := .tmp 26) (y := .const (.int .i64 15)) (f := 30) cf30 (by kernel_rfl) rfl (s.g 18 26 (by kernel_rfl) hG rfl) (rfl)) q27)
  refine us ?_ (obPG true 16 24 false hz (by decide) (by kernel_rfl) rfl rfl fun hG _ W s hS => ex_load (x := .tmp 25) (t := 29) (by kernel_rfl) (s.g 17 25 (by kernel_rfl) hG rfl) (ld29 W _ 11 _ _ _ _ _ _ (hcell W hS 11 _ rfl) (hcell W hS 12 _ rfl) (hcell W hS 13 _ rfl) (hcell W hS 14 _ rfl) (hcell W hS 15 _ rfl) (hcell W hS 16 _ rfl)))
  refine us ?_ (obPG true 16 24 false hz (by decide) (by kernel_rfl) rfl rfl fun _ _ W s _ => ex_field (x := .tmp 1) (t := 31) (f := 9) (by kernel_rfl) (s.b 1 (by kernel_rfl) h1) (fa9 W _))
  refine us ?_ (obPU hz (by decide) (by kernel_rfl) fun _ _ s _ => ex_move (x := .tmp 23) (by kernel_rfl) (s.u 15 23 (by kernel_rfl)))
  refine us ?_ (obPU hz (by decide) (by kernel_rfl) fun _ _ s _ => ex_pickO (G := true) (by kernel_rfl) (s.u 10 18 (by kernel_rfl)) (s.u 14 22 (by kernel_rfl)) rfl rfl)
  refine us ?_ (obPG true 10 18 false hz (by decide) (by kernel_rfl) rfl rfl fun hG _ W s _ => ex_bin (u := 3) (x := .tmp 21) (y := .const (.int .i64 5)) (by kernel_rfl) (s.g 13 21 (by kernel_rfl) hG rfl) (rfl) (gtr3c W _ _ _ _))
  refine us ?_ (obPG true 10 18 false hz (by decide) (by kernel_rfl) rfl rfl fun hG _ W s _ => ex_len (ts := #[26]) (x := .tmp 20) (by kernel_rfl) (fun ty => len26 W a3 c.fields.length c3 ty) (s.g 12 20 (by kernel_rfl) hG rfl))
  refine us ?_ (obPG true 10 18 false hz (by decide) (by kernel_rfl) rfl rfl fun hG _ W s hS => ex_load (x := .tmp 19) (t := 26) (by kernel_rfl) (s.g 11 19 (by kernel_rfl) hG rfl) (ld26 W _ 10 _ (hcell W hS 10 _ rfl)))
  refine us ?_ (obPG true 10 18 false hz (by decide) (by kernel_rfl) rfl rfl fun _ _ W s _ => ex_field (x := .tmp 1) (t := 31) (f := 8) (by kernel_rfl) (s.b 1 (by kernel_rfl) h1) (fa8 W _))
  refine us ?_ (obPU hz (by decide) (by kernel_rfl) fun _ _ s _ => ex_move (x := .tmp 17) (by kernel_rfl) (s.u 9 17 (by kernel_rfl)))
  refine us ?_ (obPU hz (by decide) (by kernel_rfl) fun _ _ s _ => ex_pickO (G := true) (by kernel_rfl) (s.u 4 12 (by kernel_rfl)) (s.u 8 16 (by kernel_rfl)) rfl rfl)
  refine us ?_ (obPG true 4 12 false hz (by decide) (by kernel_rfl) rfl rfl fun hG _ W s _ => ex_bin (u := 3) (x := .tmp 15) (y := .const (.int .i64 5)) (by kernel_rfl) (s.g 7 15 (by kernel_rfl) hG rfl) (rfl) (gtr3c W _ _ _ _))
  refine us ?_ (obPG true 4 12 false hz (by decide) (by kernel_rfl) rfl rfl fun hG _ W s _ => ex_len (ts := #[25]) (x := .tmp 14) (by kernel_rfl) (fun ty => len25 W a2 c.vals.length c2 ty) (s.g 6 14 (by kernel_rfl) hG rfl))
  refine us ?_ (obPG true 4 12 false hz (by decide) (by kernel_rfl) rfl rfl fun hG _ W s hS => ex_load (x := .tmp 13) (t := 25) (by kernel_rfl) (s.g 5 13 (by kernel_rfl) hG rfl) (ld25 W _ 9 _ (hcell W hS 9 _ rfl)))
  refine us ?_ (obPG true 4 12 false hz (by decide) (by kernel_rfl) rfl rfl fun _ _ W s _ => ex_field (x := .tmp 1) (t := 31) (f := 7) (by kernel_rfl) (s.b 1 (by kernel_rfl) h1) (fa7 W _))
  refine us ?_ (obPU hz (by decide) (by kernel_rfl) fun _ _ s _ => ex_move (x := .tmp 11) (by kernel_rfl) (s.u 3 11 (by kernel_rfl)))
  refine us ?_ (obPU hz (by decide) (by kernel_rfl) fun _ W s _ => ex_bin (u := 3) (x := .tmp 10) (y := .const (.int .i64 5)) (by kernel_rfl) (s.u 2 10 (by kernel_rfl)) (rfl) (gtr3c W _ _ _ _))
  refine us ?_ (obPU hz (by decide) (by kernel_rfl) fun _ W s _ => ex_len (ts := #[22]) (x := .tmp 9) (by kernel_rfl) (fun ty => len22 W a1 c.cols.length c1 ty) (s.u 1 9 (by kernel_rfl)))
  refine us ?_ (obPU hz (by decide) (by kernel_rfl) fun _ W s hS => ex_load (x := .tmp 8) (t := 22) (by kernel_rfl) (s.u 0 8 (by kernel_rfl)) (ld22 W _ 4 _ (hcell W hS 4 _ rfl)))
  refine us ?_ (obPU hz (by decide) (by kernel_rfl) fun _ W s _ => ex_field (x := .tmp 1) (t := 31) (f := 4) (by kernel_rfl) (s.b 1 (by kernel_rfl) h1) (fa4 W _))
  exact fun j hj => absurd hj (Nat.not_lt_zero j)
noncomputable def k3_R : Array Oper := ((Tryz.f13.body).bind (regionOf 3)).getD #[]
def k3_V (c : Cm) (b : Nat) (j : Nat) : Value := ([.pointer (some ⟨b, 0, none⟩), .int .i64 c.kind, .int .i64 c.kind] : List Value).getD j undef
def k3_d : List (Option Tmp) := [some 36, some 37, some 3]
theorem k3_nodup : k3_d.Nodup := by unfold k3_d; decide
theorem k3_wp {c : Cm} {a1 a2 a3 a4 a5 : Option Addr} {c1 c2 c3 c4 c5 : Nat} {b : Nat} {S : World → Prop} {a0 : Act} {Q : Exit → Act → World → Prop} {w : World} (h1 : a0.tmps[1]? = some (.pointer (some ⟨b, 0, none⟩))) (hcell : ∀ W, S W → ∀ o x, (cmL c (.slice a1 c.cols.length c1) (.slice a2 c.vals.length c2) (.slice a3 c.fields.length c3) (.slice a4 c.expr.args.length c4) (.slice a5 c.wh.args.length c5))[o]? = some x → W.cell? ⟨b, o, none⟩ = some x) (ha : a0.tmps.size = 272) (hS : S w)
    (hq : ∀ a' w', S w' → a'.defers = a0.defers → a'.tmps.size = 272 → (∀ j d, k3_d[j]? = some (some d) → a'.tmps[d]? = some (k3_V c b j)) → (∀ d, some d ∉ k3_d → a'.tmps[d]? = a0.tmps[d]?) → Q .normal a' w') : (Code.region 3 k3_R false).wp Tryz.prog Q a0 w := by
  have hz : k3_R.size = 3 := by kernel_rfl
  refine wp_plain (m := 272) hz (by kernel_rfl) k3_nodup (by kernel_rfl) ha ?_ hS hq
  refine us ?_ (obPU hz (by decide) (by kernel_rfl) fun _ _ s _ => ex_assign (x := .tmp 37) (by kernel_rfl) (s.u 1 37 (by kernel_rfl)))
  refine us ?_ (obPU hz (by decide) (by kernel_rfl) fun _ W s hS => ex_load (x := .tmp 36) (t := 3) (by kernel_rfl) (s.u 0 36 (by kernel_rfl)) (ld3 W _ 0 _ (hcell W hS 0 _ rfl)))
  refine us ?_ (obPU hz (by decide) (by kernel_rfl) fun _ W s _ => ex_field (x := .tmp 1) (t := 31) (f := 0) (by kernel_rfl) (s.b 1 (by kernel_rfl) h1) (fa0 W _))
  exact fun j hj => absurd hj (Nat.not_lt_zero j)
noncomputable def k5_R : Array Oper := ((Tryz.f13.body).bind (regionOf 5)).getD #[]
def k5_V (c : Cm) (j : Nat) : Value := ([.int .i64 c.kind, .bool (decide (c.kind = 3)), .bool (decide (c.kind = 3)), gw ((decide (c.kind = 3)) == false) (.int .i64 c.kind), gw ((decide (c.kind = 3)) == false) (.bool (decide (c.kind = 6))), .bool ((decide (c.kind = 3)) || (decide (c.kind = 6)))] : List Value).getD j undef
def k5_d : List (Option Tmp) := [some 77, some 78, some 79, some 80, some 81, some 82]
theorem k5_nodup : k5_d.Nodup := by unfold k5_d; decide
theorem k5_wp {c : Cm} {S : World → Prop} {a0 : Act} {Q : Exit → Act → World → Prop} {w : World} (h3 : a0.tmps[3]? = some (.int .i64 c.kind)) (ha : a0.tmps.size = 272) (hS : S w)
    (hq : ∀ a' w', S w' → a'.defers = a0.defers → a'.tmps.size = 272 → (∀ j d, k5_d[j]? = some (some d) → a'.tmps[d]? = some (k5_V c j)) → (∀ d, some d ∉ k5_d → a'.tmps[d]? = a0.tmps[d]?) → Q .normal a' w') : (Code.region 5 k5_R false).wp Tryz.prog Q a0 w := by
  have hz : k5_R.size = 6 := by kernel_rfl
  refine wp_plain (m := 272) hz (by kernel_rfl) k5_nodup (by kernel_rfl) ha ?_ hS hq
  refine us ?_ (obPU hz (by decide) (by kernel_rfl) fun _ _ s _ => ex_pickO (G := true) (by kernel_rfl) (s.u 2 79 (by kernel_rfl)) (s.u 4 81 (by kernel_rfl)) rfl rfl)
  refine us ?_ (obPG true 2 79 false hz (by decide) (by kernel_rfl) rfl rfl fun hG _ W s _ => ex_bin (u := 3) (x := .tmp 80) (y := .const (.int .i64 6)) (by kernel_rfl) (s.g 3 80 (by kernel_rfl) hG rfl) (rfl) (eq3c W _ _ _ _))
  refine us ?_ (obPG true 2 79 false hz (by decide) (by kernel_rfl) rfl rfl fun _ _ _ s _ => ex_move (x := .tmp 3) (by kernel_rfl) (s.b 3 (by kernel_rfl) h3))
  refine us ?_ (obPU hz (by decide) (by kernel_rfl) fun _ _ s _ => ex_move (x := .tmp 78) (by kernel_rfl) (s.u 1 78 (by kernel_rfl)))
  refine us ?_ (obPU hz (by decide) (by kernel_rfl) fun _ W s _ => ex_bin (u := 3) (x := .tmp 77) (y := .const (.int .i64 3)) (by kernel_rfl) (s.u 0 77 (by kernel_rfl)) (rfl) (eq3c W _ _ _ _))
  refine us ?_ (obPU hz (by decide) (by kernel_rfl) fun _ _ s _ => ex_move (x := .tmp 3) (by kernel_rfl) (s.b 3 (by kernel_rfl) h3))
  exact fun j hj => absurd hj (Nat.not_lt_zero j)
noncomputable def k6_R : Array Oper := ((Tryz.f13.body).bind (regionOf 6)).getD #[]
def k6_V (c : Cm) (b : Nat) (ok : Bool) (j : Nat) : Value := ([.bool ok, .bool ok, gw (ok == true) (.pointer (some ⟨b, 5, none⟩)), gw (ok == true) (.int .i64 c.ty), gw (ok == true) (.bool (betw c.ty 1 3)), .bool (ok && (betw c.ty 1 3)), .bool (ok && (betw c.ty 1 3))] : List Value).getD j undef
def k6_d : List (Option Tmp) := [some 83, some 84, some 85, some 86, some 87, some 88, some 4]
theorem k6_nodup : k6_d.Nodup := by unfold k6_d; decide
theorem k6_wp {c : Cm} {a1 a2 a3 a4 a5 : Option Addr} {c1 c2 c3 c4 c5 : Nat} {b : Nat} {ok : Bool} {S : World → Prop} {a0 : Act} {Q : Exit → Act → World → Prop} {w : World} (h1 : a0.tmps[1]? = some (.pointer (some ⟨b, 0, none⟩))) (h4 : a0.tmps[4]? = some (.bool ok)) (hcell : ∀ W, S W → ∀ o x, (cmL c (.slice a1 c.cols.length c1) (.slice a2 c.vals.length c2) (.slice a3 c.fields.length c3) (.slice a4 c.expr.args.length c4) (.slice a5 c.wh.args.length c5))[o]? = some x → W.cell? ⟨b, o, none⟩ = some x) (q87 : ∀ W, S W → Calls Tryz.prog 31 #[.int .i64 c.ty, .int .i64 1, .int .i64 3] W fun e w' => e = .returned (.bool (betw c.ty 1 3)) ∧ S w') (ha : a0.tmps.size = 272) (hS : S w)
    (hq : ∀ a' w', S w' → a'.defers = a0.defers → a'.tmps.size = 272 → (∀ j d, k6_d[j]? = some (some d) → a'.tmps[d]? = some (k6_V c b ok j)) → (∀ d, some d ∉ k6_d → a'.tmps[d]? = a0.tmps[d]?) → Q .normal a' w') : (Code.region 6 k6_R false).wp Tryz.prog Q a0 w := by
  have hz : k6_R.size = 7 := by kernel_rfl
  refine wp_plain (m := 272) hz (by kernel_rfl) k6_nodup (by kernel_rfl) ha ?_ hS hq
  refine us ?_ (obPU hz (by decide) (by kernel_rfl) fun _ _ s _ => ex_assign (x := .tmp 88) (by kernel_rfl) (s.u 5 88 (by kernel_rfl)))
  refine us ?_ (obPU hz (by decide) (by kernel_rfl) fun _ _ s _ => ex_pickA (G := true) (by kernel_rfl) (s.u 1 84 (by kernel_rfl)) (s.u 4 87 (by kernel_rfl)) rfl rfl)
  refine us ?_ (obPH true 1 84 true hz (by decide) (by kernel_rfl) rfl rfl (fun hG _ _ s => ex_call3 (ts := #[3, 3, 3]) (x := .tmp 86) (y := .const (.int .i64 1)) (z := .const (.int .i64 3)) (f := 31) cf31 (by kernel_rfl) rfl (s.g 3 86 (by kernel_rfl) hG rfl) (rfl) (rfl)) q87)
  refine us ?_ (obPG true 1 84 true hz (by decide) (by kernel_rfl) rfl rfl fun hG _ W s hS => ex_load (x := .tmp 85) (t := 3) (by kernel_rfl) (s.g 2 85 (by kernel_rfl) hG rfl) (ld3 W _ 5 _ (hcell W hS 5 _ rfl)))
  refine us ?_ (obPG true 1 84 true hz (by decide) (by kernel_rfl) rfl rfl fun _ _ W s _ => ex_field (x := .tmp 1) (t := 31) (f := 5) (by kernel_rfl) (s.b 1 (by kernel_rfl) h1) (fa5 W _))
  refine us ?_ (obPU hz (by decide) (by kernel_rfl) fun _ _ s _ => ex_move (x := .tmp 83) (by kernel_rfl) (s.u 0 83 (by kernel_rfl)))
  refine us ?_ (obPU hz (by decide) (by kernel_rfl) fun _ _ s _ => ex_move (x := .tmp 4) (by kernel_rfl) (s.b 4 (by kernel_rfl) h4))
  exact fun j hj => absurd hj (Nat.not_lt_zero j)
noncomputable def k7_R : Array Oper := ((Tryz.f13.body).bind (regionOf 7)).getD #[]
def k7_V (c : Cm) (b : Nat) (ok : Bool) (j : Nat) : Value := ([.bool ok, .bool ok, gw (ok == true) (.pointer (some ⟨b, 5, none⟩)), gw (ok == true) (.int .i64 c.ty), gw (ok == true) (.bool (decide (c.ty = 0))), .bool (ok && (decide (c.ty = 0))), .bool (ok && (decide (c.ty = 0)))] : List Value).getD j undef
def k7_d : List (Option Tmp) := [some 89, some 90, some 91, some 92, some 93, some 94, some 4]
theorem k7_nodup : k7_d.Nodup := by unfold k7_d; decide
theorem k7_wp {c : Cm} {a1 a2 a3 a4 a5 : Option Addr} {c1 c2 c3 c4 c5 : Nat} {b : Nat} {ok : Bool} {S : World → Prop} {a0 : Act} {Q : Exit → Act → World → Prop} {w : World} (h1 : a0.tmps[1]? = some (.pointer (some ⟨b, 0, none⟩))) (h4 : a0.tmps[4]? = some (.bool ok)) (hcell : ∀ W, S W → ∀ o x, (cmL c (.slice a1 c.cols.length c1) (.slice a2 c.vals.length c2) (.slice a3 c.fields.length c3) (.slice a4 c.expr.args.length c4) (.slice a5 c.wh.args.length c5))[o]? = some x → W.cell? ⟨b, o, none⟩ = some x) (ha : a0.tmps.size = 272) (hS : S w)
    (hq : ∀ a' w', S w' → a'.defers = a0.defers → a'.tmps.size = 272 → (∀ j d, k7_d[j]? = some (some d) → a'.tmps[d]? = some (k7_V c b ok j)) → (∀ d, some d ∉ k7_d → a'.tmps[d]? = a0.tmps[d]?) → Q .normal a' w') : (Code.region 7 k7_R false).wp Tryz.prog Q a0 w := by
  have hz : k7_R.size = 7 := by kernel_rfl
  refine wp_plain (m := 272) hz (by kernel_rfl) k7_nodup (by kernel_rfl) ha ?_ hS hq
  refine us ?_ (obPU hz (by decide) (by kernel_rfl) fun _ _ s _ => ex_assign (x := .tmp 94) (by kernel_rfl) (s.u 5 94 (by kernel_rfl)))
  refine us ?_ (obPU hz (by decide) (by kernel_rfl) fun _ _ s _ => ex_pickA (G := true) (by kernel_rfl) (s.u 1 90 (by kernel_rfl)) (s.u 4 93 (by kernel_rfl)) rfl rfl)
  refine us ?_ (obPG true 1 90 true hz (by decide) (by kernel_rfl) rfl rfl fun hG _ W s _ => ex_bin (u := 3) (x := .tmp 92) (y := .const (.int .i64 0)) (by kernel_rfl) (s.g 3 92 (by kernel_rfl) hG rfl) (rfl) (eq3c W _ _ _ _))
  refine us ?_ (obPG true 1 90 true hz (by decide) (by kernel_rfl) rfl rfl fun hG _ W s hS => ex_load (x := .tmp 91) (t := 3) (by kernel_rfl) (s.g 2 91 (by kernel_rfl) hG rfl) (ld3 W _ 5 _ (hcell W hS 5 _ rfl)))
  refine us ?_ (obPG true 1 90 true hz (by decide) (by kernel_rfl) rfl rfl fun _ _ W s _ => ex_field (x := .tmp 1) (t := 31) (f := 5) (by kernel_rfl) (s.b 1 (by kernel_rfl) h1) (fa5 W _))
  refine us ?_ (obPU hz (by decide) (by kernel_rfl) fun _ _ s _ => ex_move (x := .tmp 89) (by kernel_rfl) (s.u 0 89 (by kernel_rfl)))
  refine us ?_ (obPU hz (by decide) (by kernel_rfl) fun _ _ s _ => ex_move (x := .tmp 4) (by kernel_rfl) (s.b 4 (by kernel_rfl) h4))
  exact fun j hj => absurd hj (Nat.not_lt_zero j)
noncomputable def k8_R : Array Oper := ((Tryz.f13.body).bind (regionOf 8)).getD #[]
def k8_V (c : Cm) (b : Nat) (ok : Bool) (j : Nat) : Value := ([.bool ok, .bool ok, gw (ok == true) (.pointer (some ⟨b, 6, none⟩)), gw (ok == true) (.agg #[.int .i64 c.val.k, .int .i64 c.val.n, .string ⟨c.val.s.toArray⟩]), gw (ok == true) (.int .i64 ((chkV c.val.k c.val.n c.val.s : Nat) : Int)), gw (ok == true) (.bool (decide (((chkV c.val.k c.val.n c.val.s : Nat) : Int) = 0))), .bool (ok && (decide (((chkV c.val.k c.val.n c.val.s : Nat) : Int) = 0))), .bool (ok && (decide (((chkV c.val.k c.val.n c.val.s : Nat) : Int) = 0))), gw ((ok && (decide (((chkV c.val.k c.val.n c.val.s : Nat) : Int) = 0))) == true) (.int .i64 c.kind), gw ((ok && (decide (((chkV c.val.k c.val.n c.val.s : Nat) : Int) = 0))) == true) (.bool (decide (c.kind = 3))), gw ((ok && (decide (((chkV c.val.k c.val.n c.val.s : Nat) : Int) = 0))) == true) (.bool (decide (c.kind = 3))), gw (((ok && (decide (((chkV c.val.k c.val.n c.val.s : Nat) : Int) = 0))) == true) && ((decide (c.kind = 3)) == false)) (.pointer (some ⟨b, 6, none⟩)), gw (((ok && (decide (((chkV c.val.k c.val.n c.val.s : Nat) : Int) = 0))) == true) && ((decide (c.kind = 3)) == false)) (.agg #[.int .i64 c.val.k, .int .i64 c.val.n, .string ⟨c.val.s.toArray⟩]), gw (((ok && (decide (((chkV c.val.k c.val.n c.val.s : Nat) : Int) = 0))) == true) && ((decide (c.kind = 3)) == false)) (.agg #[.int .i64 0, .int .i64 0, .string ⟨#[]⟩]), gw (((ok && (decide (((chkV c.val.k c.val.n c.val.s : Nat) : Int) = 0))) == true) && ((decide (c.kind = 3)) == false)) (.bool (noneV c.val)), gw ((ok && (decide (((chkV c.val.k c.val.n c.val.s : Nat) : Int) = 0))) == true) (.bool ((decide (c.kind = 3)) || (noneV c.val))), .bool ((ok && (decide (((chkV c.val.k c.val.n c.val.s : Nat) : Int) = 0))) && ((decide (c.kind = 3)) || (noneV c.val))), .bool ((ok && (decide (((chkV c.val.k c.val.n c.val.s : Nat) : Int) = 0))) && ((decide (c.kind = 3)) || (noneV c.val)))] : List Value).getD j undef
def k8_d : List (Option Tmp) := [some 95, some 96, some 97, some 98, some 99, some 100, some 101, some 102, some 103, some 104, some 105, some 106, some 107, some 108, some 109, some 110, some 111, some 4]
theorem k8_nodup : k8_d.Nodup := by unfold k8_d; decide
theorem k8_wp {c : Cm} {a1 a2 a3 a4 a5 : Option Addr} {c1 c2 c3 c4 c5 : Nat} {b : Nat} {ok : Bool} {S : World → Prop} {a0 : Act} {Q : Exit → Act → World → Prop} {w : World} (h1 : a0.tmps[1]? = some (.pointer (some ⟨b, 0, none⟩))) (h3 : a0.tmps[3]? = some (.int .i64 c.kind)) (h4 : a0.tmps[4]? = some (.bool ok)) (hcell : ∀ W, S W → ∀ o x, (cmL c (.slice a1 c.cols.length c1) (.slice a2 c.vals.length c2) (.slice a3 c.fields.length c3) (.slice a4 c.expr.args.length c4) (.slice a5 c.wh.args.length c5))[o]? = some x → W.cell? ⟨b, o, none⟩ = some x) (q99 : ∀ W, S W → Calls Tryz.prog 33 #[.agg #[.int .i64 c.val.k, .int .i64 c.val.n, .string ⟨c.val.s.toArray⟩]] W fun e w' => e = .returned (.int .i64 ((chkV c.val.k c.val.n c.val.s : Nat) : Int)) ∧ S w') (q109 : ∀ W, S W → Calls Tryz.prog 25 #[.agg #[.int .i64 c.val.k, .int .i64 c.val.n, .string ⟨c.val.s.toArray⟩], .agg #[.int .i64 0, .int .i64 0, .string ⟨#[]⟩]] W fun e w' => e = .returned (.bool (noneV c.val)) ∧ S w') (ha : a0.tmps.size = 272) (hS : S w)
    (hq : ∀ a' w', S w' → a'.defers = a0.defers → a'.tmps.size = 272 → (∀ j d, k8_d[j]? = some (some d) → a'.tmps[d]? = some (k8_V c b ok j)) → (∀ d, some d ∉ k8_d → a'.tmps[d]? = a0.tmps[d]?) → Q .normal a' w') : (Code.region 8 k8_R false).wp Tryz.prog Q a0 w := by
  have hz : k8_R.size = 18 := by kernel_rfl
  refine wp_plain (m := 272) hz (by kernel_rfl) k8_nodup (by kernel_rfl) ha ?_ hS hq
  refine us ?_ (obPU hz (by decide) (by kernel_rfl) fun _ _ s _ => ex_assign (x := .tmp 111) (by kernel_rfl) (s.u 16 111 (by kernel_rfl)))
  refine us ?_ (obPU hz (by decide) (by kernel_rfl) fun _ _ s _ => ex_pickA (G := true) (by kernel_rfl) (s.u 7 102 (by kernel_rfl)) (s.u 15 110 (by kernel_rfl)) rfl rfl)
  refine us ?_ (obPG true 7 102 true hz (by decide) (by kernel_rfl) rfl rfl fun hG _ _ s _ => ex_pickO (by kernel_rfl) (s.g 10 105 (by kernel_rfl) hG rfl) (s.u 14 109 (by kernel_rfl)) rfl hG)
  refine us ?_ (obPH _ 10 105 false hz (by decide) (by kernel_rfl) rfl rfl (fun hG _ _ s => ex_call2 (ts := #[24, 24]) (x := .tmp 107) (y := .tmp 108) (f := 25) cf25 (by kernel_rfl) rfl (s.g 12 107 (by kernel_rfl) hG rfl) (s.g 13 108 (by kernel_rfl) hG rfl)) q109)
  refine us ?_ (obPG _ 10 105 false hz (by decide) (by kernel_rfl) rfl rfl fun _ _ _ _ _ => ex_build24 (by kernel_rfl))
  refine us ?_ (obPG _ 10 105 false hz (by decide) (by kernel_rfl) rfl rfl fun hG _ W s hS => ex_load (x := .tmp 106) (t := 24) (by kernel_rfl) (s.g 11 106 (by kernel_rfl) hG rfl) (ld24 W _ 6 _ _ _ (hcell W hS 6 _ rfl) (hcell W hS 7 _ rfl) (hcell W hS 8 _ rfl)))
  refine us ?_ (obPG _ 10 105 false hz (by decide) (by kernel_rfl) rfl rfl fun _ _ W s _ => ex_field (x := .tmp 1) (t := 31) (f := 6) (by kernel_rfl) (s.b 1 (by kernel_rfl) h1) (fa6 W _))
  refine us ?_ (obPG true 7 102 true hz (by decide) (by kernel_rfl) rfl rfl fun hG _ _ s _ => ex_move (x := .tmp 104) (by kernel_rfl) (s.g 9 104 (by kernel_rfl) hG rfl))
  refine us ?_ (obPG true 7 102 true hz (by decide) (by kernel_rfl) rfl rfl fun hG _ W s _ => ex_bin (u := 3) (x := .tmp 103) (y := .const (.int .i64 3)) (by kernel_rfl) (s.g 8 103 (by kernel_rfl) hG rfl) (rfl) (eq3c W _ _ _ _))
  refine us ?_ (obPG true 7 102 true hz (by decide) (by kernel_rfl) rfl rfl fun _ _ _ s _ => ex_move (x := .tmp 3) (by kernel_rfl) (s.b 3 (by kernel_rfl) h3))
  refine us ?_ (obPU hz (by decide) (by kernel_rfl) fun _ _ s _ => ex_move (x := .tmp 101) (by kernel_rfl) (s.u 6 101 (by kernel_rfl)))
  refine us ?_ (obPU hz (by decide) (by kernel_rfl) fun _ _ s _ => ex_pickA (G := true) (by kernel_rfl) (s.u 1 96 (by kernel_rfl)) (s.u 5 100 (by kernel_rfl)) rfl rfl)
  refine us ?_ (obPG true 1 96 true hz (by decide) (by kernel_rfl) rfl rfl fun hG _ W s _ => ex_bin (u := 32) (x := .tmp 99) (y := .const (.int .i64 0)) (by kernel_rfl) (s.g 4 99 (by kernel_rfl) hG rfl) (rfl) (eq32c W _ _ _ _))
  refine us ?_ (obPH true 1 96 true hz (by decide) (by kernel_rfl) rfl rfl (fun hG _ _ s => ex_call1 (ts := #[24]) (x := .tmp 98) (f := 33) cf33 (by kernel_rfl) rfl (s.g 3 98 (by kernel_rfl) hG rfl)) q99)
  refine us ?_ (obPG true 1 96 true hz (by decide) (by kernel_rfl) rfl rfl fun hG _ W s hS => ex_load (x := .tmp 97) (t := 24) (by kernel_rfl) (s.g 2 97 (by kernel_rfl) hG rfl) (ld24 W _ 6 _ _ _ (hcell W hS 6 _ rfl) (hcell W hS 7 _ rfl) (hcell W hS 8 _ rfl)))
  refine us ?_ (obPG true 1 96 true hz (by decide) (by kernel_rfl) rfl rfl fun _ _ W s _ => ex_field (x := .tmp 1) (t := 31) (f := 6) (by kernel_rfl) (s.b 1 (by kernel_rfl) h1) (fa6 W _))
  refine us ?_ (obPU hz (by decide) (by kernel_rfl) fun _ _ s _ => ex_move (x := .tmp 95) (by kernel_rfl) (s.u 0 95 (by kernel_rfl)))
  refine us ?_ (obPU hz (by decide) (by kernel_rfl) fun _ _ s _ => ex_move (x := .tmp 4) (by kernel_rfl) (s.b 4 (by kernel_rfl) h4))
  exact fun j hj => absurd hj (Nat.not_lt_zero j)
noncomputable def k9_R : Array Oper := ((Tryz.f13.body).bind (regionOf 9)).getD #[]
def k9_V (c : Cm) (a1 a2 a3 : Option Addr) (c1 c2 c3 : Nat) (b : Nat) (ok : Bool) (j : Nat) : Value := ([.bool ok, .bool ok, gw (ok == true) (.int .i64 c.kind), gw (ok == true) (.bool (decide (c.kind = 1))), gw (ok == true) (.pointer (some ⟨b, 4, none⟩)), gw (ok == true) (.slice a1 c.cols.length c1), gw (ok == true) (.int .i64 ((c.cols.length : Nat) : Int)), gw (ok == true) (.bool (decide (0 < ((c.cols.length : Nat) : Int)))), gw (ok == true) (.bool ((decide (c.kind = 1)) == (decide (0 < ((c.cols.length : Nat) : Int))))), .bool (ok && ((decide (c.kind = 1)) == (decide (0 < ((c.cols.length : Nat) : Int))))), .bool (ok && ((decide (c.kind = 1)) == (decide (0 < ((c.cols.length : Nat) : Int))))), gw ((ok && ((decide (c.kind = 1)) == (decide (0 < ((c.cols.length : Nat) : Int))))) == true) (.int .i64 c.kind), gw ((ok && ((decide (c.kind = 1)) == (decide (0 < ((c.cols.length : Nat) : Int))))) == true) (.bool (decide (c.kind = 10))), gw ((ok && ((decide (c.kind = 1)) == (decide (0 < ((c.cols.length : Nat) : Int))))) == true) (.pointer (some ⟨b, 9, none⟩)), gw ((ok && ((decide (c.kind = 1)) == (decide (0 < ((c.cols.length : Nat) : Int))))) == true) (.slice a2 c.vals.length c2), gw ((ok && ((decide (c.kind = 1)) == (decide (0 < ((c.cols.length : Nat) : Int))))) == true) (.int .i64 ((c.vals.length : Nat) : Int)), gw ((ok && ((decide (c.kind = 1)) == (decide (0 < ((c.cols.length : Nat) : Int))))) == true) (.bool (decide (0 < ((c.vals.length : Nat) : Int)))), gw ((ok && ((decide (c.kind = 1)) == (decide (0 < ((c.cols.length : Nat) : Int))))) == true) (.bool ((decide (c.kind = 10)) == (decide (0 < ((c.vals.length : Nat) : Int))))), .bool ((ok && ((decide (c.kind = 1)) == (decide (0 < ((c.cols.length : Nat) : Int))))) && ((decide (c.kind = 10)) == (decide (0 < ((c.vals.length : Nat) : Int))))), .bool ((ok && ((decide (c.kind = 1)) == (decide (0 < ((c.cols.length : Nat) : Int))))) && ((decide (c.kind = 10)) == (decide (0 < ((c.vals.length : Nat) : Int))))), gw (((ok && ((decide (c.kind = 1)) == (decide (0 < ((c.cols.length : Nat) : Int))))) && ((decide (c.kind = 10)) == (decide (0 < ((c.vals.length : Nat) : Int))))) == true) (.int .i64 c.kind), gw (((ok && ((decide (c.kind = 1)) == (decide (0 < ((c.cols.length : Nat) : Int))))) && ((decide (c.kind = 10)) == (decide (0 < ((c.vals.length : Nat) : Int))))) == true) (.bool (decide (c.kind = 13))), gw (((ok && ((decide (c.kind = 1)) == (decide (0 < ((c.cols.length : Nat) : Int))))) && ((decide (c.kind = 10)) == (decide (0 < ((c.vals.length : Nat) : Int))))) == true) (.bool (decide (c.kind = 13))), gw ((((ok && ((decide (c.kind = 1)) == (decide (0 < ((c.cols.length : Nat) : Int))))) && ((decide (c.kind = 10)) == (decide (0 < ((c.vals.length : Nat) : Int))))) == true) && ((decide (c.kind = 13)) == false)) (.pointer (some ⟨b, 10, none⟩)), gw ((((ok && ((decide (c.kind = 1)) == (decide (0 < ((c.cols.length : Nat) : Int))))) && ((decide (c.kind = 10)) == (decide (0 < ((c.vals.length : Nat) : Int))))) == true) && ((decide (c.kind = 13)) == false)) (.slice a3 c.fields.length c3), gw ((((ok && ((decide (c.kind = 1)) == (decide (0 < ((c.cols.length : Nat) : Int))))) && ((decide (c.kind = 10)) == (decide (0 < ((c.vals.length : Nat) : Int))))) == true) && ((decide (c.kind = 13)) == false)) (.int .i64 ((c.fields.length : Nat) : Int)), gw ((((ok && ((decide (c.kind = 1)) == (decide (0 < ((c.cols.length : Nat) : Int))))) && ((decide (c.kind = 10)) == (decide (0 < ((c.vals.length : Nat) : Int))))) == true) && ((decide (c.kind = 13)) == false)) (.bool (decide (((c.fields.length : Nat) : Int) = 0))), gw ((((ok && ((decide (c.kind = 1)) == (decide (0 < ((c.cols.length : Nat) : Int))))) && ((decide (c.kind = 10)) == (decide (0 < ((c.vals.length : Nat) : Int))))) == true) && ((decide (c.kind = 13)) == false)) (.bool (decide (((c.fields.length : Nat) : Int) = 0))), gw (((((ok && ((decide (c.kind = 1)) == (decide (0 < ((c.cols.length : Nat) : Int))))) && ((decide (c.kind = 10)) == (decide (0 < ((c.vals.length : Nat) : Int))))) == true) && ((decide (c.kind = 13)) == false)) && ((decide (((c.fields.length : Nat) : Int) = 0)) == true)) (.pointer (some ⟨b, 24, none⟩)), gw (((((ok && ((decide (c.kind = 1)) == (decide (0 < ((c.cols.length : Nat) : Int))))) && ((decide (c.kind = 10)) == (decide (0 < ((c.vals.length : Nat) : Int))))) == true) && ((decide (c.kind = 13)) == false)) && ((decide (((c.fields.length : Nat) : Int) = 0)) == true)) (.string ⟨c.order.toArray⟩), gw (((((ok && ((decide (c.kind = 1)) == (decide (0 < ((c.cols.length : Nat) : Int))))) && ((decide (c.kind = 10)) == (decide (0 < ((c.vals.length : Nat) : Int))))) == true) && ((decide (c.kind = 13)) == false)) && ((decide (((c.fields.length : Nat) : Int) = 0)) == true)) (.bool (decide (c.order = []))), gw ((((ok && ((decide (c.kind = 1)) == (decide (0 < ((c.cols.length : Nat) : Int))))) && ((decide (c.kind = 10)) == (decide (0 < ((c.vals.length : Nat) : Int))))) == true) && ((decide (c.kind = 13)) == false)) (.bool ((decide (((c.fields.length : Nat) : Int) = 0)) && (decide (c.order = [])))), gw ((((ok && ((decide (c.kind = 1)) == (decide (0 < ((c.cols.length : Nat) : Int))))) && ((decide (c.kind = 10)) == (decide (0 < ((c.vals.length : Nat) : Int))))) == true) && ((decide (c.kind = 13)) == false)) (.bool ((decide (((c.fields.length : Nat) : Int) = 0)) && (decide (c.order = [])))), gw (((((ok && ((decide (c.kind = 1)) == (decide (0 < ((c.cols.length : Nat) : Int))))) && ((decide (c.kind = 10)) == (decide (0 < ((c.vals.length : Nat) : Int))))) == true) && ((decide (c.kind = 13)) == false)) && (((decide (((c.fields.length : Nat) : Int) = 0)) && (decide (c.order = []))) == true)) (.pointer (some ⟨b, 25, none⟩)), gw (((((ok && ((decide (c.kind = 1)) == (decide (0 < ((c.cols.length : Nat) : Int))))) && ((decide (c.kind = 10)) == (decide (0 < ((c.vals.length : Nat) : Int))))) == true) && ((decide (c.kind = 13)) == false)) && (((decide (((c.fields.length : Nat) : Int) = 0)) && (decide (c.order = []))) == true)) (.int .i64 c.limit), gw (((((ok && ((decide (c.kind = 1)) == (decide (0 < ((c.cols.length : Nat) : Int))))) && ((decide (c.kind = 10)) == (decide (0 < ((c.vals.length : Nat) : Int))))) == true) && ((decide (c.kind = 13)) == false)) && (((decide (((c.fields.length : Nat) : Int) = 0)) && (decide (c.order = []))) == true)) (.bool (decide (c.limit = 0))), gw ((((ok && ((decide (c.kind = 1)) == (decide (0 < ((c.cols.length : Nat) : Int))))) && ((decide (c.kind = 10)) == (decide (0 < ((c.vals.length : Nat) : Int))))) == true) && ((decide (c.kind = 13)) == false)) (.bool (((decide (((c.fields.length : Nat) : Int) = 0)) && (decide (c.order = []))) && (decide (c.limit = 0)))), gw (((ok && ((decide (c.kind = 1)) == (decide (0 < ((c.cols.length : Nat) : Int))))) && ((decide (c.kind = 10)) == (decide (0 < ((c.vals.length : Nat) : Int))))) == true) (.bool ((decide (c.kind = 13)) || (((decide (((c.fields.length : Nat) : Int) = 0)) && (decide (c.order = []))) && (decide (c.limit = 0))))), .bool (((ok && ((decide (c.kind = 1)) == (decide (0 < ((c.cols.length : Nat) : Int))))) && ((decide (c.kind = 10)) == (decide (0 < ((c.vals.length : Nat) : Int))))) && ((decide (c.kind = 13)) || (((decide (((c.fields.length : Nat) : Int) = 0)) && (decide (c.order = []))) && (decide (c.limit = 0))))), .bool (((ok && ((decide (c.kind = 1)) == (decide (0 < ((c.cols.length : Nat) : Int))))) && ((decide (c.kind = 10)) == (decide (0 < ((c.vals.length : Nat) : Int))))) && ((decide (c.kind = 13)) || (((decide (((c.fields.length : Nat) : Int) = 0)) && (decide (c.order = []))) && (decide (c.limit = 0)))))] : List Value).getD j undef
def k9_d : List (Option Tmp) := [some 112, some 113, some 114, some 115, some 116, some 117, some 118, some 119, some 120, some 121, some 122, some 123, some 124, some 125, some 126, some 127, some 128, some 129, some 130, some 131, some 132, some 133, some 134, some 135, some 136, some 137, some 138, some 139, some 140, some 141, some 142, some 143, some 144, some 145, some 146, some 147, some 148, some 149, some 150, some 4]
theorem k9_nodup : k9_d.Nodup := by unfold k9_d; decide
theorem k9_wp {c : Cm} {a1 a2 a3 a4 a5 : Option Addr} {c1 c2 c3 c4 c5 : Nat} {b : Nat} {ok : Bool} {S : World → Prop} {a0 : Act} {Q : Exit → Act → World → Prop} {w : World} (h1 : a0.tmps[1]? = some (.pointer (some ⟨b, 0, none⟩))) (h3 : a0.tmps[3]? = some (.int .i64 c.kind)) (h4 : a0.tmps[4]? = some (.bool ok)) (hcell : ∀ W, S W → ∀ o x, (cmL c (.slice a1 c.cols.length c1) (.slice a2 c.vals.length c2) (.slice a3 c.fields.length c3) (.slice a4 c.expr.args.length c4) (.slice a5 c.wh.args.length c5))[o]? = some x → W.cell? ⟨b, o, none⟩ = some x) (ha : a0.tmps.size = 272) (hS : S w)
    (hq : ∀ a' w', S w' → a'.defers = a0.defers → a'.tmps.size = 272 → (∀ j d, k9_d[j]? = some (some d) → a'.tmps[d]? = some (k9_V c a1 a2 a3 c1 c2 c3 b ok j)) → (∀ d, some d ∉ k9_d → a'.tmps[d]? = a0.tmps[d]?) → Q .normal a' w') : (Code.region 9 k9_R false).wp Tryz.prog Q a0 w := by
  have hz : k9_R.size = 40 := by kernel_rfl
  refine wp_plain (m := 272) hz (by kernel_rfl) k9_nodup (by kernel_rfl) ha ?_ hS hq
  refine us ?_ (obPU hz (by decide) (by kernel_rfl) fun _ _ s _ => ex_assign (x := .tmp 150) (by kernel_rfl) (s.u 38 150 (by kernel_rfl)))
  refine us ?_ (obPU hz (by decide) (by kernel_rfl) fun _ _ s _ => ex_pickA (G := true) (by kernel_rfl) (s.u 19 131 (by kernel_rfl)) (s.u 37 149 (by kernel_rfl)) rfl rfl)
  refine us ?_ (obPG true 19 131 true hz (by decide) (by kernel_rfl) rfl rfl fun hG _ _ s _ => ex_pickO (by kernel_rfl) (s.g 22 134 (by kernel_rfl) hG rfl) (s.u 36 148 (by kernel_rfl)) rfl hG)
  refine us ?_ (obPG _ 22 134 false hz (by decide) (by kernel_rfl) rfl rfl fun hG _ _ s _ => ex_pickA (by kernel_rfl) (s.g 32 144 (by kernel_rfl) hG rfl) (s.u 35 147 (by kernel_rfl)) rfl hG)
  refine us ?_ (obPG _ 32 144 true hz (by decide) (by kernel_rfl) rfl rfl fun hG _ W s _ => ex_bin (u := 3) (x := .tmp 146) (y := .const (.int .i64 0)) (by kernel_rfl) (s.g 34 146 (by kernel_rfl) hG rfl) (rfl) (eq3c W _ _ _ _))
  refine us ?_ (obPG _ 32 144 true hz (by decide) (by kernel_rfl) rfl rfl fun hG _ W s hS => ex_load (x := .tmp 145) (t := 3) (by kernel_rfl) (s.g 33 145 (by kernel_rfl) hG rfl) (ld3 W _ 25 _ (hcell W hS 25 _ rfl)))
  refine us ?_ (obPG _ 32 144 true hz (by decide) (by kernel_rfl) rfl rfl fun _ _ W s _ => ex_field (x := .tmp 1) (t := 31) (f := 13) (by kernel_rfl) (s.b 1 (by kernel_rfl) h1) (fa13 W _))
  refine us ?_ (obPG _ 22 134 false hz (by decide) (by kernel_rfl) rfl rfl fun hG _ _ s _ => ex_move (x := .tmp 143) (by kernel_rfl) (s.g 31 143 (by kernel_rfl) hG rfl))
  refine us ?_ (obPG _ 22 134 false hz (by decide) (by kernel_rfl) rfl rfl fun hG _ _ s _ => ex_pickA (by kernel_rfl) (s.g 27 139 (by kernel_rfl) hG rfl) (s.u 30 142 (by kernel_rfl)) rfl hG)
  refine us ?_ (obPG _ 27 139 true hz (by decide) (by kernel_rfl) rfl rfl fun hG _ W s _ => ex_bin (u := 9) (x := .tmp 141) (y := .const (.string ⟨#[]⟩)) (by kernel_rfl) (s.g 29 141 (by kernel_rfl) hG rfl) (rfl) (eq9 W _ _ _))
  refine us ?_ (obPG _ 27 139 true hz (by decide) (by kernel_rfl) rfl rfl fun hG _ W s hS => ex_load (x := .tmp 140) (t := 9) (by kernel_rfl) (s.g 28 140 (by kernel_rfl) hG rfl) (ld9 W _ 24 _ (hcell W hS 24 _ rfl)))
  refine us ?_ (obPG _ 27 139 true hz (by decide) (by kernel_rfl) rfl rfl fun _ _ W s _ => ex_field (x := .tmp 1) (t := 31) (f := 12) (by kernel_rfl) (s.b 1 (by kernel_rfl) h1) (fa12 W _))
  refine us ?_ (obPG _ 22 134 false hz (by decide) (by kernel_rfl) rfl rfl fun hG _ _ s _ => ex_move (x := .tmp 138) (by kernel_rfl) (s.g 26 138 (by kernel_rfl) hG rfl))
  refine us ?_ (obPG _ 22 134 false hz (by decide) (by kernel_rfl) rfl rfl fun hG _ W s _ => ex_bin (u := 3) (x := .tmp 137) (y := .const (.int .i64 0)) (by kernel_rfl) (s.g 25 137 (by kernel_rfl) hG rfl) (rfl) (eq3c W _ _ _ _))
  refine us ?_ (obPG _ 22 134 false hz (by decide) (by kernel_rfl) rfl rfl fun hG _ W s _ => ex_len (ts := #[26]) (x := .tmp 136) (by kernel_rfl) (fun ty => len26 W a3 c.fields.length c3 ty) (s.g 24 136 (by kernel_rfl) hG rfl))
  refine us ?_ (obPG _ 22 134 false hz (by decide) (by kernel_rfl) rfl rfl fun hG _ W s hS => ex_load (x := .tmp 135) (t := 26) (by kernel_rfl) (s.g 23 135 (by kernel_rfl) hG rfl) (ld26 W _ 10 _ (hcell W hS 10 _ rfl)))
  refine us ?_ (obPG _ 22 134 false hz (by decide) (by kernel_rfl) rfl rfl fun _ _ W s _ => ex_field (x := .tmp 1) (t := 31) (f := 8) (by kernel_rfl) (s.b 1 (by kernel_rfl) h1) (fa8 W _))
  refine us ?_ (obPG true 19 131 true hz (by decide) (by kernel_rfl) rfl rfl fun hG _ _ s _ => ex_move (x := .tmp 133) (by kernel_rfl) (s.g 21 133 (by kernel_rfl) hG rfl))
  refine us ?_ (obPG true 19 131 true hz (by decide) (by kernel_rfl) rfl rfl fun hG _ W s _ => ex_bin (u := 3) (x := .tmp 132) (y := .const (.int .i64 13)) (by kernel_rfl) (s.g 20 132 (by kernel_rfl) hG rfl) (rfl) (eq3c W _ _ _ _))
  refine us ?_ (obPG true 19 131 true hz (by decide) (by kernel_rfl) rfl rfl fun _ _ _ s _ => ex_move (x := .tmp 3) (by kernel_rfl) (s.b 3 (by kernel_rfl) h3))
  refine us ?_ (obPU hz (by decide) (by kernel_rfl) fun _ _ s _ => ex_move (x := .tmp 130) (by kernel_rfl) (s.u 18 130 (by kernel_rfl)))
  refine us ?_ (obPU hz (by decide) (by kernel_rfl) fun _ _ s _ => ex_pickA (G := true) (by kernel_rfl) (s.u 10 122 (by kernel_rfl)) (s.u 17 129 (by kernel_rfl)) rfl rfl)
  refine us ?_ (obPG true 10 122 true hz (by decide) (by kernel_rfl) rfl rfl fun hG _ W s _ => ex_bin (u := 4) (x := .tmp 124) (y := .tmp 128) (by kernel_rfl) (s.g 12 124 (by kernel_rfl) hG rfl) (s.g 16 128 (by kernel_rfl) hG rfl) (eq4c W _ _ _ _))
  refine us ?_ (obPG true 10 122 true hz (by decide) (by kernel_rfl) rfl rfl fun hG _ W s _ => ex_bin (u := 3) (x := .tmp 127) (y := .const (.int .i64 0)) (by kernel_rfl) (s.g 15 127 (by kernel_rfl) hG rfl) (rfl) (gtr3c W _ _ _ _))
  refine us ?_ (obPG true 10 122 true hz (by decide) (by kernel_rfl) rfl rfl fun hG _ W s _ => ex_len (ts := #[25]) (x := .tmp 126) (by kernel_rfl) (fun ty => len25 W a2 c.vals.length c2 ty) (s.g 14 126 (by kernel_rfl) hG rfl))
  refine us ?_ (obPG true 10 122 true hz (by decide) (by kernel_rfl) rfl rfl fun hG _ W s hS => ex_load (x := .tmp 125) (t := 25) (by kernel_rfl) (s.g 13 125 (by kernel_rfl) hG rfl) (ld25 W _ 9 _ (hcell W hS 9 _ rfl)))
  refine us ?_ (obPG true 10 122 true hz (by decide) (by kernel_rfl) rfl rfl fun _ _ W s _ => ex_field (x := .tmp 1) (t := 31) (f := 7) (by kernel_rfl) (s.b 1 (by kernel_rfl) h1) (fa7 W _))
  refine us ?_ (obPG true 10 122 true hz (by decide) (by kernel_rfl) rfl rfl fun hG _ W s _ => ex_bin (u := 3) (x := .tmp 123) (y := .const (.int .i64 10)) (by kernel_rfl) (s.g 11 123 (by kernel_rfl) hG rfl) (rfl) (eq3c W _ _ _ _))
  refine us ?_ (obPG true 10 122 true hz (by decide) (by kernel_rfl) rfl rfl fun _ _ _ s _ => ex_move (x := .tmp 3) (by kernel_rfl) (s.b 3 (by kernel_rfl) h3))
  refine us ?_ (obPU hz (by decide) (by kernel_rfl) fun _ _ s _ => ex_move (x := .tmp 121) (by kernel_rfl) (s.u 9 121 (by kernel_rfl)))
  refine us ?_ (obPU hz (by decide) (by kernel_rfl) fun _ _ s _ => ex_pickA (G := true) (by kernel_rfl) (s.u 1 113 (by kernel_rfl)) (s.u 8 120 (by kernel_rfl)) rfl rfl)
  refine us ?_ (obPG true 1 113 true hz (by decide) (by kernel_rfl) rfl rfl fun hG _ W s _ => ex_bin (u := 4) (x := .tmp 115) (y := .tmp 119) (by kernel_rfl) (s.g 3 115 (by kernel_rfl) hG rfl) (s.g 7 119 (by kernel_rfl) hG rfl) (eq4c W _ _ _ _))
  refine us ?_ (obPG true 1 113 true hz (by decide) (by kernel_rfl) rfl rfl fun hG _ W s _ => ex_bin (u := 3) (x := .tmp 118) (y := .const (.int .i64 0)) (by kernel_rfl) (s.g 6 118 (by kernel_rfl) hG rfl) (rfl) (gtr3c W _ _ _ _))
  refine us ?_ (obPG true 1 113 true hz (by decide) (by kernel_rfl) rfl rfl fun hG _ W s _ => ex_len (ts := #[22]) (x := .tmp 117) (by kernel_rfl) (fun ty => len22 W a1 c.cols.length c1 ty) (s.g 5 117 (by kernel_rfl) hG rfl))
  refine us ?_ (obPG true 1 113 true hz (by decide) (by kernel_rfl) rfl rfl fun hG _ W s hS => ex_load (x := .tmp 116) (t := 22) (by kernel_rfl) (s.g 4 116 (by kernel_rfl) hG rfl) (ld22 W _ 4 _ (hcell W hS 4 _ rfl)))
  refine us ?_ (obPG true 1 113 true hz (by decide) (by kernel_rfl) rfl rfl fun _ _ W s _ => ex_field (x := .tmp 1) (t := 31) (f := 4) (by kernel_rfl) (s.b 1 (by kernel_rfl) h1) (fa4 W _))
  refine us ?_ (obPG true 1 113 true hz (by decide) (by kernel_rfl) rfl rfl fun hG _ W s _ => ex_bin (u := 3) (x := .tmp 114) (y := .const (.int .i64 1)) (by kernel_rfl) (s.g 2 114 (by kernel_rfl) hG rfl) (rfl) (eq3c W _ _ _ _))
  refine us ?_ (obPG true 1 113 true hz (by decide) (by kernel_rfl) rfl rfl fun _ _ _ s _ => ex_move (x := .tmp 3) (by kernel_rfl) (s.b 3 (by kernel_rfl) h3))
  refine us ?_ (obPU hz (by decide) (by kernel_rfl) fun _ _ s _ => ex_move (x := .tmp 112) (by kernel_rfl) (s.u 0 112 (by kernel_rfl)))
  refine us ?_ (obPU hz (by decide) (by kernel_rfl) fun _ _ s _ => ex_move (x := .tmp 4) (by kernel_rfl) (s.b 4 (by kernel_rfl) h4))
  exact fun j hj => absurd hj (Nat.not_lt_zero j)
noncomputable def k11_R : Array Oper := ((Tryz.f13.body).bind (regionOf 11)).getD #[]
def k11_V (c : Cm) (a1 : Option Addr) (c1 : Nat) (b : Nat) (i : Nat) (j : Nat) : Value := ([.int .i64 (i : Int), .pointer (some ⟨b, 4, none⟩), .slice a1 c.cols.length c1, .int .i64 ((c.cols.length : Nat) : Int), .bool (decide ((i : Int) < ((c.cols.length : Nat) : Int)))] : List Value).getD j undef
def k11_d : List (Option Tmp) := [some 151, some 152, some 153, some 154, some 155]
theorem k11_nodup : k11_d.Nodup := by unfold k11_d; decide
theorem k11_wp {c : Cm} {a1 a2 a3 a4 a5 : Option Addr} {c1 c2 c3 c4 c5 : Nat} {b : Nat} {i : Nat} {S : World → Prop} {a0 : Act} {Q : Exit → Act → World → Prop} {w : World} (h1 : a0.tmps[1]? = some (.pointer (some ⟨b, 0, none⟩))) (h5 : a0.tmps[5]? = some (.int .i64 (i : Int))) (hcell : ∀ W, S W → ∀ o x, (cmL c (.slice a1 c.cols.length c1) (.slice a2 c.vals.length c2) (.slice a3 c.fields.length c3) (.slice a4 c.expr.args.length c4) (.slice a5 c.wh.args.length c5))[o]? = some x → W.cell? ⟨b, o, none⟩ = some x) (ha : a0.tmps.size = 272) (hS : S w)
    (hq : ∀ a' w', S w' → a'.defers = a0.defers → a'.tmps.size = 272 → (∀ j d, k11_d[j]? = some (some d) → a'.tmps[d]? = some (k11_V c a1 c1 b i j)) → (∀ d, some d ∉ k11_d → a'.tmps[d]? = a0.tmps[d]?) → Q .normal a' w') : (Code.region 11 k11_R false).wp Tryz.prog Q a0 w := by
  have hz : k11_R.size = 5 := by kernel_rfl
  refine wp_plain (m := 272) hz (by kernel_rfl) k11_nodup (by kernel_rfl) ha ?_ hS hq
  refine us ?_ (obPU hz (by decide) (by kernel_rfl) fun _ W s _ => ex_bin (u := 3) (x := .tmp 151) (y := .tmp 154) (by kernel_rfl) (s.u 0 151 (by kernel_rfl)) (s.u 3 154 (by kernel_rfl)) (lss3c W _ _ _ _))
  refine us ?_ (obPU hz (by decide) (by kernel_rfl) fun _ W s _ => ex_len (ts := #[22]) (x := .tmp 153) (by kernel_rfl) (fun ty => len22 W a1 c.cols.length c1 ty) (s.u 2 153 (by kernel_rfl)))
  refine us ?_ (obPU hz (by decide) (by kernel_rfl) fun _ W s hS => ex_load (x := .tmp 152) (t := 22) (by kernel_rfl) (s.u 1 152 (by kernel_rfl)) (ld22 W _ 4 _ (hcell W hS 4 _ rfl)))
  refine us ?_ (obPU hz (by decide) (by kernel_rfl) fun _ W s _ => ex_field (x := .tmp 1) (t := 31) (f := 4) (by kernel_rfl) (s.b 1 (by kernel_rfl) h1) (fa4 W _))
  refine us ?_ (obPU hz (by decide) (by kernel_rfl) fun _ _ s _ => ex_move (x := .tmp 5) (by kernel_rfl) (s.b 5 (by kernel_rfl) h5))
  exact fun j hj => absurd hj (Nat.not_lt_zero j)
noncomputable def k13_R : Array Oper := ((Tryz.f13.body).bind (regionOf 13)).getD #[]
def k13_V (c : Cm) (c1 : Nat) (b g o i : Nat) (ok : Bool) (x : Cl) (j : Nat) : Value := ([.bool ok, .bool ok, gw (ok == true) (.pointer (some ⟨b, 4, none⟩)), gw (ok == true) (.slice (some ⟨g, o, none⟩) c.cols.length c1), gw (ok == true) (.int .i64 (i : Int)), gw (ok == true) (.pointer (some ⟨g, o + i * 2, none⟩)), gw (ok == true) (.pointer (some ⟨g, o + i * 2, none⟩)), gw (ok == true) (.string ⟨x.name.toArray⟩), gw (ok == true) (.bool (nameW x.name)), .bool (ok && (nameW x.name)), .bool (ok && (nameW x.name)), gw ((ok && (nameW x.name)) == true) (.pointer (some ⟨b, 4, none⟩)), gw ((ok && (nameW x.name)) == true) (.slice (some ⟨g, o, none⟩) c.cols.length c1), gw ((ok && (nameW x.name)) == true) (.int .i64 (i : Int)), gw ((ok && (nameW x.name)) == true) (.pointer (some ⟨g, o + i * 2, none⟩)), gw ((ok && (nameW x.name)) == true) (.pointer (some ⟨g, o + i * 2 + 1, none⟩)), gw ((ok && (nameW x.name)) == true) (.int .i64 x.ty), gw ((ok && (nameW x.name)) == true) (.bool (betw x.ty 1 3)), .bool ((ok && (nameW x.name)) && (betw x.ty 1 3)), .bool ((ok && (nameW x.name)) && (betw x.ty 1 3))] : List Value).getD j undef
def k13_d : List (Option Tmp) := [some 158, some 159, some 160, some 161, some 162, some 163, some 164, some 165, some 166, some 167, some 168, some 169, some 170, some 171, some 172, some 173, some 174, some 175, some 176, some 4]
theorem k13_nodup : k13_d.Nodup := by unfold k13_d; decide
theorem k13_wp {c : Cm} {a2 a3 a4 a5 : Option Addr} {c1 c2 c3 c4 c5 : Nat} {b g o i : Nat} {ok : Bool} {x : Cl} {S : World → Prop} {a0 : Act} {Q : Exit → Act → World → Prop} {w : World} (h1 : a0.tmps[1]? = some (.pointer (some ⟨b, 0, none⟩))) (h4 : a0.tmps[4]? = some (.bool ok)) (h5 : a0.tmps[5]? = some (.int .i64 (i : Int))) (hcell : ∀ W, S W → ∀ p y, (cmL c (.slice (some ⟨g, o, none⟩) c.cols.length c1) (.slice a2 c.vals.length c2) (.slice a3 c.fields.length c3) (.slice a4 c.expr.args.length c4) (.slice a5 c.wh.args.length c5))[p]? = some y → W.cell? ⟨b, p, none⟩ = some y) (hix : i < c.cols.length) (e0 : ∀ W, S W → W.cell? ⟨g, o + i * 2, none⟩ = some (.string ⟨x.name.toArray⟩)) (e1 : ∀ W, S W → W.cell? ⟨g, o + i * 2 + 1, none⟩ = some (.int .i64 x.ty)) (q166 : ∀ W, S W → Calls Tryz.prog 34 #[.string ⟨x.name.toArray⟩] W fun e w' => e = .returned (.bool (nameW x.name)) ∧ S w') (q175 : ∀ W, S W → Calls Tryz.prog 31 #[.int .i64 x.ty, .int .i64 1, .int .i64 3] W fun e w' => e = .returned (.bool (betw x.ty 1 3)) ∧ S w') (ha : a0.tmps.size = 272) (hS : S w)
    (hq : ∀ a' w', S w' → a'.defers = a0.defers → a'.tmps.size = 272 → (∀ j d, k13_d[j]? = some (some d) → a'.tmps[d]? = some (k13_V c c1 b g o i ok x j)) → (∀ d, some d ∉ k13_d → a'.tmps[d]? = a0.tmps[d]?) → Q .normal a' w') : (Code.region 13 k13_R false).wp Tryz.prog Q a0 w := by
  have hz : k13_R.size = 20 := by kernel_rfl
  refine wp_plain (m := 272) hz (by kernel_rfl) k13_nodup (by kernel_rfl) ha ?_ hS hq
  refine us ?_ (obPU hz (by decide) (by kernel_rfl) fun _ _ s _ => ex_assign (x := .tmp 176) (by kernel_rfl) (s.u 18 176 (by kernel_rfl)))
  refine us ?_ (obPU hz (by decide) (by kernel_rfl) fun _ _ s _ => ex_pickA (G := true) (by kernel_rfl) (s.u 10 168 (by kernel_rfl)) (s.u 17 175 (by kernel_rfl)) rfl rfl)
  refine us ?_ (obPH true 10 168 true hz (by decide) (by kernel_rfl) rfl rfl (fun hG _ _ s => ex_call3 (ts := #[3, 3, 3]) (x := .tmp 174) (y := .const (.int .i64 1)) (z := .const (.int .i64 3)) (f := 31) cf31 (by kernel_rfl) rfl (s.g 16 174 (by kernel_rfl) hG rfl) (rfl) (rfl)) q175)
  refine us ?_ (obPG true 10 168 true hz (by decide) (by kernel_rfl) rfl rfl fun hG _ W s hS => ex_load (x := .tmp 173) (t := 3) (by kernel_rfl) (s.g 15 173 (by kernel_rfl) hG rfl) (ld3 W _ (o + i * 2 + 1) _ (e1 W hS)))
  refine us ?_ (obPG true 10 168 true hz (by decide) (by kernel_rfl) rfl rfl fun hG _ W s _ => ex_field (x := .tmp 172) (t := 56) (f := 1) (by kernel_rfl) (s.g 14 172 (by kernel_rfl) hG rfl) (fc1 W _ _))
  refine us ?_ (obPG true 10 168 true hz (by decide) (by kernel_rfl) rfl rfl fun hG _ W s _ => ex_index (t := 22) (x := .tmp 170) (y := .tmp 171) (by kernel_rfl) (s.g 12 170 (by kernel_rfl) hG rfl) (s.g 13 171 (by kernel_rfl) hG rfl) (ix22 W _ _ _ _ _ hix))
  refine us ?_ (obPG true 10 168 true hz (by decide) (by kernel_rfl) rfl rfl fun _ _ _ s _ => ex_move (x := .tmp 5) (by kernel_rfl) (s.b 5 (by kernel_rfl) h5))
  refine us ?_ (obPG true 10 168 true hz (by decide) (by kernel_rfl) rfl rfl fun hG _ W s hS => ex_load (x := .tmp 169) (t := 22) (by kernel_rfl) (s.g 11 169 (by kernel_rfl) hG rfl) (ld22 W _ 4 _ (hcell W hS 4 _ rfl)))
  refine us ?_ (obPG true 10 168 true hz (by decide) (by kernel_rfl) rfl rfl fun _ _ W s _ => ex_field (x := .tmp 1) (t := 31) (f := 4) (by kernel_rfl) (s.b 1 (by kernel_rfl) h1) (fa4 W _))
  refine us ?_ (obPU hz (by decide) (by kernel_rfl) fun _ _ s _ => ex_move (x := .tmp 167) (by kernel_rfl) (s.u 9 167 (by kernel_rfl)))
  refine us ?_ (obPU hz (by decide) (by kernel_rfl) fun _ _ s _ => ex_pickA (G := true) (by kernel_rfl) (s.u 1 159 (by kernel_rfl)) (s.u 8 166 (by kernel_rfl)) rfl rfl)
  refine us ?_ (obPH true 1 159 true hz (by decide) (by kernel_rfl) rfl rfl (fun hG _ _ s => ex_call1 (ts := #[9]) (x := .tmp 165) (f := 34) cf34 (by kernel_rfl) rfl (s.g 7 165 (by kernel_rfl) hG rfl)) q166)
  refine us ?_ (obPG true 1 159 true hz (by decide) (by kernel_rfl) rfl rfl fun hG _ W s hS => ex_load (x := .tmp 164) (t := 9) (by kernel_rfl) (s.g 6 164 (by kernel_rfl) hG rfl) (ld9 W _ (o + i * 2) _ (e0 W hS)))
  refine us ?_ (obPG true 1 159 true hz (by decide) (by kernel_rfl) rfl rfl fun hG _ W s _ => ex_field (x := .tmp 163) (t := 56) (f := 0) (by kernel_rfl) (s.g 5 163 (by kernel_rfl) hG rfl) (fc0 W _ _))
  refine us ?_ (obPG true 1 159 true hz (by decide) (by kernel_rfl) rfl rfl fun hG _ W s _ => ex_index (t := 22) (x := .tmp 161) (y := .tmp 162) (by kernel_rfl) (s.g 3 161 (by kernel_rfl) hG rfl) (s.g 4 162 (by kernel_rfl) hG rfl) (ix22 W _ _ _ _ _ hix))
  refine us ?_ (obPG true 1 159 true hz (by decide) (by kernel_rfl) rfl rfl fun _ _ _ s _ => ex_move (x := .tmp 5) (by kernel_rfl) (s.b 5 (by kernel_rfl) h5))
  refine us ?_ (obPG true 1 159 true hz (by decide) (by kernel_rfl) rfl rfl fun hG _ W s hS => ex_load (x := .tmp 160) (t := 22) (by kernel_rfl) (s.g 2 160 (by kernel_rfl) hG rfl) (ld22 W _ 4 _ (hcell W hS 4 _ rfl)))
  refine us ?_ (obPG true 1 159 true hz (by decide) (by kernel_rfl) rfl rfl fun _ _ W s _ => ex_field (x := .tmp 1) (t := 31) (f := 4) (by kernel_rfl) (s.b 1 (by kernel_rfl) h1) (fa4 W _))
  refine us ?_ (obPU hz (by decide) (by kernel_rfl) fun _ _ s _ => ex_move (x := .tmp 158) (by kernel_rfl) (s.u 0 158 (by kernel_rfl)))
  refine us ?_ (obPU hz (by decide) (by kernel_rfl) fun _ _ s _ => ex_move (x := .tmp 4) (by kernel_rfl) (s.b 4 (by kernel_rfl) h4))
  exact fun j hj => absurd hj (Nat.not_lt_zero j)
noncomputable def k12_R : Array Oper := ((Tryz.f13.body).bind (regionOf 12)).getD #[]
def k12_V (i : Nat) (j : Nat) : Value := ([.int .i64 (i : Int), .int .i64 ((i + 1 : Nat) : Int), .int .i64 ((i + 1 : Nat) : Int)] : List Value).getD j undef
def k12_d : List (Option Tmp) := [some 156, some 157, some 5]
theorem k12_nodup : k12_d.Nodup := by unfold k12_d; decide
theorem k12_wp {i : Nat} {S : World → Prop} {a0 : Act} {Q : Exit → Act → World → Prop} {w : World} (h5 : a0.tmps[5]? = some (.int .i64 (i : Int))) (hadd : i < 1000000000000001) (ha : a0.tmps.size = 272) (hS : S w)
    (hq : ∀ a' w', S w' → a'.defers = a0.defers → a'.tmps.size = 272 → (∀ j d, k12_d[j]? = some (some d) → a'.tmps[d]? = some (k12_V i j)) → (∀ d, some d ∉ k12_d → a'.tmps[d]? = a0.tmps[d]?) → Q .normal a' w') : (Code.region 12 k12_R false).wp Tryz.prog Q a0 w := by
  have hz : k12_R.size = 3 := by kernel_rfl
  refine wp_plain (m := 272) hz (by kernel_rfl) k12_nodup (by kernel_rfl) ha ?_ hS hq
  refine us ?_ (obPU hz (by decide) (by kernel_rfl) fun _ _ s _ => ex_assign (x := .tmp 157) (by kernel_rfl) (s.u 1 157 (by kernel_rfl)))
  refine us ?_ (obPU hz (by decide) (by kernel_rfl) fun _ W s _ => ex_bin (u := 3) (x := .tmp 156) (y := .const (.int .i64 1)) (by kernel_rfl) (s.u 0 156 (by kernel_rfl)) (rfl) (add3c W _ _ _ hadd))
  refine us ?_ (obPU hz (by decide) (by kernel_rfl) fun _ _ s _ => ex_move (x := .tmp 5) (by kernel_rfl) (s.b 5 (by kernel_rfl) h5))
  exact fun j hj => absurd hj (Nat.not_lt_zero j)
noncomputable def k15_R : Array Oper := ((Tryz.f13.body).bind (regionOf 15)).getD #[]
def k15_V (c : Cm) (a2 : Option Addr) (c2 : Nat) (b : Nat) (i : Nat) (j : Nat) : Value := ([.int .i64 (i : Int), .pointer (some ⟨b, 9, none⟩), .slice a2 c.vals.length c2, .int .i64 ((c.vals.length : Nat) : Int), .bool (decide ((i : Int) < ((c.vals.length : Nat) : Int)))] : List Value).getD j undef
def k15_d : List (Option Tmp) := [some 177, some 178, some 179, some 180, some 181]
theorem k15_nodup : k15_d.Nodup := by unfold k15_d; decide
theorem k15_wp {c : Cm} {a1 a2 a3 a4 a5 : Option Addr} {c1 c2 c3 c4 c5 : Nat} {b : Nat} {i : Nat} {S : World → Prop} {a0 : Act} {Q : Exit → Act → World → Prop} {w : World} (h1 : a0.tmps[1]? = some (.pointer (some ⟨b, 0, none⟩))) (h6 : a0.tmps[6]? = some (.int .i64 (i : Int))) (hcell : ∀ W, S W → ∀ o x, (cmL c (.slice a1 c.cols.length c1) (.slice a2 c.vals.length c2) (.slice a3 c.fields.length c3) (.slice a4 c.expr.args.length c4) (.slice a5 c.wh.args.length c5))[o]? = some x → W.cell? ⟨b, o, none⟩ = some x) (ha : a0.tmps.size = 272) (hS : S w)
    (hq : ∀ a' w', S w' → a'.defers = a0.defers → a'.tmps.size = 272 → (∀ j d, k15_d[j]? = some (some d) → a'.tmps[d]? = some (k15_V c a2 c2 b i j)) → (∀ d, some d ∉ k15_d → a'.tmps[d]? = a0.tmps[d]?) → Q .normal a' w') : (Code.region 15 k15_R false).wp Tryz.prog Q a0 w := by
  have hz : k15_R.size = 5 := by kernel_rfl
  refine wp_plain (m := 272) hz (by kernel_rfl) k15_nodup (by kernel_rfl) ha ?_ hS hq
  refine us ?_ (obPU hz (by decide) (by kernel_rfl) fun _ W s _ => ex_bin (u := 3) (x := .tmp 177) (y := .tmp 180) (by kernel_rfl) (s.u 0 177 (by kernel_rfl)) (s.u 3 180 (by kernel_rfl)) (lss3c W _ _ _ _))
  refine us ?_ (obPU hz (by decide) (by kernel_rfl) fun _ W s _ => ex_len (ts := #[25]) (x := .tmp 179) (by kernel_rfl) (fun ty => len25 W a2 c.vals.length c2 ty) (s.u 2 179 (by kernel_rfl)))
  refine us ?_ (obPU hz (by decide) (by kernel_rfl) fun _ W s hS => ex_load (x := .tmp 178) (t := 25) (by kernel_rfl) (s.u 1 178 (by kernel_rfl)) (ld25 W _ 9 _ (hcell W hS 9 _ rfl)))
  refine us ?_ (obPU hz (by decide) (by kernel_rfl) fun _ W s _ => ex_field (x := .tmp 1) (t := 31) (f := 7) (by kernel_rfl) (s.b 1 (by kernel_rfl) h1) (fa7 W _))
  refine us ?_ (obPU hz (by decide) (by kernel_rfl) fun _ _ s _ => ex_move (x := .tmp 6) (by kernel_rfl) (s.b 6 (by kernel_rfl) h6))
  exact fun j hj => absurd hj (Nat.not_lt_zero j)
noncomputable def k17_R : Array Oper := ((Tryz.f13.body).bind (regionOf 17)).getD #[]
def k17_V (c : Cm) (c2 : Nat) (b g o i : Nat) (ok : Bool) (x : Vl) (j : Nat) : Value := ([.bool ok, .bool ok, gw (ok == true) (.pointer (some ⟨b, 9, none⟩)), gw (ok == true) (.slice (some ⟨g, o, none⟩) c.vals.length c2), gw (ok == true) (.int .i64 (i : Int)), gw (ok == true) (.pointer (some ⟨g, o + i * 3, none⟩)), gw (ok == true) (.agg #[.int .i64 x.k, .int .i64 x.n, .string ⟨x.s.toArray⟩]), gw (ok == true) (.int .i64 ((chkV x.k x.n x.s : Nat) : Int)), gw (ok == true) (.bool (decide (((chkV x.k x.n x.s : Nat) : Int) = 0))), .bool (ok && (decide (((chkV x.k x.n x.s : Nat) : Int) = 0))), .bool (ok && (decide (((chkV x.k x.n x.s : Nat) : Int) = 0)))] : List Value).getD j undef
def k17_d : List (Option Tmp) := [some 184, some 185, some 186, some 187, some 188, some 189, some 190, some 191, some 192, some 193, some 4]
theorem k17_nodup : k17_d.Nodup := by unfold k17_d; decide
theorem k17_wp {c : Cm} {a1 a3 a4 a5 : Option Addr} {c1 c2 c3 c4 c5 : Nat} {b g o i : Nat} {ok : Bool} {x : Vl} {S : World → Prop} {a0 : Act} {Q : Exit → Act → World → Prop} {w : World} (h1 : a0.tmps[1]? = some (.pointer (some ⟨b, 0, none⟩))) (h4 : a0.tmps[4]? = some (.bool ok)) (h6 : a0.tmps[6]? = some (.int .i64 (i : Int))) (hcell : ∀ W, S W → ∀ p y, (cmL c (.slice a1 c.cols.length c1) (.slice (some ⟨g, o, none⟩) c.vals.length c2) (.slice a3 c.fields.length c3) (.slice a4 c.expr.args.length c4) (.slice a5 c.wh.args.length c5))[p]? = some y → W.cell? ⟨b, p, none⟩ = some y) (hix : i < c.vals.length) (e0 : ∀ W, S W → W.cell? ⟨g, o + i * 3, none⟩ = some (.int .i64 x.k)) (e1 : ∀ W, S W → W.cell? ⟨g, o + i * 3 + 1, none⟩ = some (.int .i64 x.n)) (e2 : ∀ W, S W → W.cell? ⟨g, o + i * 3 + 2, none⟩ = some (.string ⟨x.s.toArray⟩)) (q191 : ∀ W, S W → Calls Tryz.prog 33 #[.agg #[.int .i64 x.k, .int .i64 x.n, .string ⟨x.s.toArray⟩]] W fun e w' => e = .returned (.int .i64 ((chkV x.k x.n x.s : Nat) : Int)) ∧ S w') (ha : a0.tmps.size = 272) (hS : S w)
    (hq : ∀ a' w', S w' → a'.defers = a0.defers → a'.tmps.size = 272 → (∀ j d, k17_d[j]? = some (some d) → a'.tmps[d]? = some (k17_V c c2 b g o i ok x j)) → (∀ d, some d ∉ k17_d → a'.tmps[d]? = a0.tmps[d]?) → Q .normal a' w') : (Code.region 17 k17_R false).wp Tryz.prog Q a0 w := by
  have hz : k17_R.size = 11 := by kernel_rfl
  refine wp_plain (m := 272) hz (by kernel_rfl) k17_nodup (by kernel_rfl) ha ?_ hS hq
  refine us ?_ (obPU hz (by decide) (by kernel_rfl) fun _ _ s _ => ex_assign (x := .tmp 193) (by kernel_rfl) (s.u 9 193 (by kernel_rfl)))
  refine us ?_ (obPU hz (by decide) (by kernel_rfl) fun _ _ s _ => ex_pickA (G := true) (by kernel_rfl) (s.u 1 185 (by kernel_rfl)) (s.u 8 192 (by kernel_rfl)) rfl rfl)
  refine us ?_ (obPG true 1 185 true hz (by decide) (by kernel_rfl) rfl rfl fun hG _ W s _ => ex_bin (u := 32) (x := .tmp 191) (y := .const (.int .i64 0)) (by kernel_rfl) (s.g 7 191 (by kernel_rfl) hG rfl) (rfl) (eq32c W _ _ _ _))
  refine us ?_ (obPH true 1 185 true hz (by decide) (by kernel_rfl) rfl rfl (fun hG _ _ s => ex_call1 (ts := #[24]) (x := .tmp 190) (f := 33) cf33 (by kernel_rfl) rfl (s.g 6 190 (by kernel_rfl) hG rfl)) q191)
  refine us ?_ (obPG true 1 185 true hz (by decide) (by kernel_rfl) rfl rfl fun hG _ W s hS => ex_load (x := .tmp 189) (t := 24) (by kernel_rfl) (s.g 5 189 (by kernel_rfl) hG rfl) (ld24 W _ (o + i * 3) _ _ _ (e0 W hS) (e1 W hS) (e2 W hS)))
  refine us ?_ (obPG true 1 185 true hz (by decide) (by kernel_rfl) rfl rfl fun hG _ W s _ => ex_index (t := 25) (x := .tmp 187) (y := .tmp 188) (by kernel_rfl) (s.g 3 187 (by kernel_rfl) hG rfl) (s.g 4 188 (by kernel_rfl) hG rfl) (ix25 W _ _ _ _ _ hix))
  refine us ?_ (obPG true 1 185 true hz (by decide) (by kernel_rfl) rfl rfl fun _ _ _ s _ => ex_move (x := .tmp 6) (by kernel_rfl) (s.b 6 (by kernel_rfl) h6))
  refine us ?_ (obPG true 1 185 true hz (by decide) (by kernel_rfl) rfl rfl fun hG _ W s hS => ex_load (x := .tmp 186) (t := 25) (by kernel_rfl) (s.g 2 186 (by kernel_rfl) hG rfl) (ld25 W _ 9 _ (hcell W hS 9 _ rfl)))
  refine us ?_ (obPG true 1 185 true hz (by decide) (by kernel_rfl) rfl rfl fun _ _ W s _ => ex_field (x := .tmp 1) (t := 31) (f := 7) (by kernel_rfl) (s.b 1 (by kernel_rfl) h1) (fa7 W _))
  refine us ?_ (obPU hz (by decide) (by kernel_rfl) fun _ _ s _ => ex_move (x := .tmp 184) (by kernel_rfl) (s.u 0 184 (by kernel_rfl)))
  refine us ?_ (obPU hz (by decide) (by kernel_rfl) fun _ _ s _ => ex_move (x := .tmp 4) (by kernel_rfl) (s.b 4 (by kernel_rfl) h4))
  exact fun j hj => absurd hj (Nat.not_lt_zero j)
noncomputable def k16_R : Array Oper := ((Tryz.f13.body).bind (regionOf 16)).getD #[]
def k16_V (i : Nat) (j : Nat) : Value := ([.int .i64 (i : Int), .int .i64 ((i + 1 : Nat) : Int), .int .i64 ((i + 1 : Nat) : Int)] : List Value).getD j undef
def k16_d : List (Option Tmp) := [some 182, some 183, some 6]
theorem k16_nodup : k16_d.Nodup := by unfold k16_d; decide
theorem k16_wp {i : Nat} {S : World → Prop} {a0 : Act} {Q : Exit → Act → World → Prop} {w : World} (h6 : a0.tmps[6]? = some (.int .i64 (i : Int))) (hadd : i < 1000000000000001) (ha : a0.tmps.size = 272) (hS : S w)
    (hq : ∀ a' w', S w' → a'.defers = a0.defers → a'.tmps.size = 272 → (∀ j d, k16_d[j]? = some (some d) → a'.tmps[d]? = some (k16_V i j)) → (∀ d, some d ∉ k16_d → a'.tmps[d]? = a0.tmps[d]?) → Q .normal a' w') : (Code.region 16 k16_R false).wp Tryz.prog Q a0 w := by
  have hz : k16_R.size = 3 := by kernel_rfl
  refine wp_plain (m := 272) hz (by kernel_rfl) k16_nodup (by kernel_rfl) ha ?_ hS hq
  refine us ?_ (obPU hz (by decide) (by kernel_rfl) fun _ _ s _ => ex_assign (x := .tmp 183) (by kernel_rfl) (s.u 1 183 (by kernel_rfl)))
  refine us ?_ (obPU hz (by decide) (by kernel_rfl) fun _ W s _ => ex_bin (u := 3) (x := .tmp 182) (y := .const (.int .i64 1)) (by kernel_rfl) (s.u 0 182 (by kernel_rfl)) (rfl) (add3c W _ _ _ hadd))
  refine us ?_ (obPU hz (by decide) (by kernel_rfl) fun _ _ s _ => ex_move (x := .tmp 6) (by kernel_rfl) (s.b 6 (by kernel_rfl) h6))
  exact fun j hj => absurd hj (Nat.not_lt_zero j)
noncomputable def k19_R : Array Oper := ((Tryz.f13.body).bind (regionOf 19)).getD #[]
def k19_V (c : Cm) (a3 : Option Addr) (c3 : Nat) (b : Nat) (i : Nat) (j : Nat) : Value := ([.int .i64 (i : Int), .pointer (some ⟨b, 10, none⟩), .slice a3 c.fields.length c3, .int .i64 ((c.fields.length : Nat) : Int), .bool (decide ((i : Int) < ((c.fields.length : Nat) : Int)))] : List Value).getD j undef
def k19_d : List (Option Tmp) := [some 194, some 195, some 196, some 197, some 198]
theorem k19_nodup : k19_d.Nodup := by unfold k19_d; decide
theorem k19_wp {c : Cm} {a1 a2 a3 a4 a5 : Option Addr} {c1 c2 c3 c4 c5 : Nat} {b : Nat} {i : Nat} {S : World → Prop} {a0 : Act} {Q : Exit → Act → World → Prop} {w : World} (h1 : a0.tmps[1]? = some (.pointer (some ⟨b, 0, none⟩))) (h7 : a0.tmps[7]? = some (.int .i64 (i : Int))) (hcell : ∀ W, S W → ∀ o x, (cmL c (.slice a1 c.cols.length c1) (.slice a2 c.vals.length c2) (.slice a3 c.fields.length c3) (.slice a4 c.expr.args.length c4) (.slice a5 c.wh.args.length c5))[o]? = some x → W.cell? ⟨b, o, none⟩ = some x) (ha : a0.tmps.size = 272) (hS : S w)
    (hq : ∀ a' w', S w' → a'.defers = a0.defers → a'.tmps.size = 272 → (∀ j d, k19_d[j]? = some (some d) → a'.tmps[d]? = some (k19_V c a3 c3 b i j)) → (∀ d, some d ∉ k19_d → a'.tmps[d]? = a0.tmps[d]?) → Q .normal a' w') : (Code.region 19 k19_R false).wp Tryz.prog Q a0 w := by
  have hz : k19_R.size = 5 := by kernel_rfl
  refine wp_plain (m := 272) hz (by kernel_rfl) k19_nodup (by kernel_rfl) ha ?_ hS hq
  refine us ?_ (obPU hz (by decide) (by kernel_rfl) fun _ W s _ => ex_bin (u := 3) (x := .tmp 194) (y := .tmp 197) (by kernel_rfl) (s.u 0 194 (by kernel_rfl)) (s.u 3 197 (by kernel_rfl)) (lss3c W _ _ _ _))
  refine us ?_ (obPU hz (by decide) (by kernel_rfl) fun _ W s _ => ex_len (ts := #[26]) (x := .tmp 196) (by kernel_rfl) (fun ty => len26 W a3 c.fields.length c3 ty) (s.u 2 196 (by kernel_rfl)))
  refine us ?_ (obPU hz (by decide) (by kernel_rfl) fun _ W s hS => ex_load (x := .tmp 195) (t := 26) (by kernel_rfl) (s.u 1 195 (by kernel_rfl)) (ld26 W _ 10 _ (hcell W hS 10 _ rfl)))
  refine us ?_ (obPU hz (by decide) (by kernel_rfl) fun _ W s _ => ex_field (x := .tmp 1) (t := 31) (f := 8) (by kernel_rfl) (s.b 1 (by kernel_rfl) h1) (fa8 W _))
  refine us ?_ (obPU hz (by decide) (by kernel_rfl) fun _ _ s _ => ex_move (x := .tmp 7) (by kernel_rfl) (s.b 7 (by kernel_rfl) h7))
  exact fun j hj => absurd hj (Nat.not_lt_zero j)
noncomputable def k21_R : Array Oper := ((Tryz.f13.body).bind (regionOf 21)).getD #[]
def k21_V (c : Cm) (c3 : Nat) (b g o i : Nat) (ok : Bool) (x : List UInt8) (j : Nat) : Value := ([.bool ok, .bool ok, gw (ok == true) (.pointer (some ⟨b, 10, none⟩)), gw (ok == true) (.slice (some ⟨g, o, none⟩) c.fields.length c3), gw (ok == true) (.int .i64 (i : Int)), gw (ok == true) (.pointer (some ⟨g, o + i, none⟩)), gw (ok == true) (.string ⟨x.toArray⟩), gw (ok == true) (.bool (nameW x)), .bool (ok && (nameW x)), .bool (ok && (nameW x))] : List Value).getD j undef
def k21_d : List (Option Tmp) := [some 201, some 202, some 203, some 204, some 205, some 206, some 207, some 208, some 209, some 4]
theorem k21_nodup : k21_d.Nodup := by unfold k21_d; decide
theorem k21_wp {c : Cm} {a1 a2 a4 a5 : Option Addr} {c1 c2 c3 c4 c5 : Nat} {b g o i : Nat} {ok : Bool} {x : List UInt8} {S : World → Prop} {a0 : Act} {Q : Exit → Act → World → Prop} {w : World} (h1 : a0.tmps[1]? = some (.pointer (some ⟨b, 0, none⟩))) (h4 : a0.tmps[4]? = some (.bool ok)) (h7 : a0.tmps[7]? = some (.int .i64 (i : Int))) (hcell : ∀ W, S W → ∀ p y, (cmL c (.slice a1 c.cols.length c1) (.slice a2 c.vals.length c2) (.slice (some ⟨g, o, none⟩) c.fields.length c3) (.slice a4 c.expr.args.length c4) (.slice a5 c.wh.args.length c5))[p]? = some y → W.cell? ⟨b, p, none⟩ = some y) (hix : i < c.fields.length) (e0 : ∀ W, S W → W.cell? ⟨g, o + i, none⟩ = some (.string ⟨x.toArray⟩)) (q208 : ∀ W, S W → Calls Tryz.prog 34 #[.string ⟨x.toArray⟩] W fun e w' => e = .returned (.bool (nameW x)) ∧ S w') (ha : a0.tmps.size = 272) (hS : S w)
    (hq : ∀ a' w', S w' → a'.defers = a0.defers → a'.tmps.size = 272 → (∀ j d, k21_d[j]? = some (some d) → a'.tmps[d]? = some (k21_V c c3 b g o i ok x j)) → (∀ d, some d ∉ k21_d → a'.tmps[d]? = a0.tmps[d]?) → Q .normal a' w') : (Code.region 21 k21_R false).wp Tryz.prog Q a0 w := by
  have hz : k21_R.size = 10 := by kernel_rfl
  refine wp_plain (m := 272) hz (by kernel_rfl) k21_nodup (by kernel_rfl) ha ?_ hS hq
  refine us ?_ (obPU hz (by decide) (by kernel_rfl) fun _ _ s _ => ex_assign (x := .tmp 209) (by kernel_rfl) (s.u 8 209 (by kernel_rfl)))
  refine us ?_ (obPU hz (by decide) (by kernel_rfl) fun _ _ s _ => ex_pickA (G := true) (by kernel_rfl) (s.u 1 202 (by kernel_rfl)) (s.u 7 208 (by kernel_rfl)) rfl rfl)
  refine us ?_ (obPH true 1 202 true hz (by decide) (by kernel_rfl) rfl rfl (fun hG _ _ s => ex_call1 (ts := #[9]) (x := .tmp 207) (f := 34) cf34 (by kernel_rfl) rfl (s.g 6 207 (by kernel_rfl) hG rfl)) q208)
  refine us ?_ (obPG true 1 202 true hz (by decide) (by kernel_rfl) rfl rfl fun hG _ W s hS => ex_load (x := .tmp 206) (t := 9) (by kernel_rfl) (s.g 5 206 (by kernel_rfl) hG rfl) (ld9 W _ (o + i) _ (e0 W hS)))
  refine us ?_ (obPG true 1 202 true hz (by decide) (by kernel_rfl) rfl rfl fun hG _ W s _ => ex_index (t := 26) (x := .tmp 204) (y := .tmp 205) (by kernel_rfl) (s.g 3 204 (by kernel_rfl) hG rfl) (s.g 4 205 (by kernel_rfl) hG rfl) (ix26 W _ _ _ _ _ hix))
  refine us ?_ (obPG true 1 202 true hz (by decide) (by kernel_rfl) rfl rfl fun _ _ _ s _ => ex_move (x := .tmp 7) (by kernel_rfl) (s.b 7 (by kernel_rfl) h7))
  refine us ?_ (obPG true 1 202 true hz (by decide) (by kernel_rfl) rfl rfl fun hG _ W s hS => ex_load (x := .tmp 203) (t := 26) (by kernel_rfl) (s.g 2 203 (by kernel_rfl) hG rfl) (ld26 W _ 10 _ (hcell W hS 10 _ rfl)))
  refine us ?_ (obPG true 1 202 true hz (by decide) (by kernel_rfl) rfl rfl fun _ _ W s _ => ex_field (x := .tmp 1) (t := 31) (f := 8) (by kernel_rfl) (s.b 1 (by kernel_rfl) h1) (fa8 W _))
  refine us ?_ (obPU hz (by decide) (by kernel_rfl) fun _ _ s _ => ex_move (x := .tmp 201) (by kernel_rfl) (s.u 0 201 (by kernel_rfl)))
  refine us ?_ (obPU hz (by decide) (by kernel_rfl) fun _ _ s _ => ex_move (x := .tmp 4) (by kernel_rfl) (s.b 4 (by kernel_rfl) h4))
  exact fun j hj => absurd hj (Nat.not_lt_zero j)
noncomputable def k20_R : Array Oper := ((Tryz.f13.body).bind (regionOf 20)).getD #[]
def k20_V (i : Nat) (j : Nat) : Value := ([.int .i64 (i : Int), .int .i64 ((i + 1 : Nat) : Int), .int .i64 ((i + 1 : Nat) : Int)] : List Value).getD j undef
def k20_d : List (Option Tmp) := [some 199, some 200, some 7]
theorem k20_nodup : k20_d.Nodup := by unfold k20_d; decide
theorem k20_wp {i : Nat} {S : World → Prop} {a0 : Act} {Q : Exit → Act → World → Prop} {w : World} (h7 : a0.tmps[7]? = some (.int .i64 (i : Int))) (hadd : i < 1000000000000001) (ha : a0.tmps.size = 272) (hS : S w)
    (hq : ∀ a' w', S w' → a'.defers = a0.defers → a'.tmps.size = 272 → (∀ j d, k20_d[j]? = some (some d) → a'.tmps[d]? = some (k20_V i j)) → (∀ d, some d ∉ k20_d → a'.tmps[d]? = a0.tmps[d]?) → Q .normal a' w') : (Code.region 20 k20_R false).wp Tryz.prog Q a0 w := by
  have hz : k20_R.size = 3 := by kernel_rfl
  refine wp_plain (m := 272) hz (by kernel_rfl) k20_nodup (by kernel_rfl) ha ?_ hS hq
  refine us ?_ (obPU hz (by decide) (by kernel_rfl) fun _ _ s _ => ex_assign (x := .tmp 200) (by kernel_rfl) (s.u 1 200 (by kernel_rfl)))
  refine us ?_ (obPU hz (by decide) (by kernel_rfl) fun _ W s _ => ex_bin (u := 3) (x := .tmp 199) (y := .const (.int .i64 1)) (by kernel_rfl) (s.u 0 199 (by kernel_rfl)) (rfl) (add3c W _ _ _ hadd))
  refine us ?_ (obPU hz (by decide) (by kernel_rfl) fun _ _ s _ => ex_move (x := .tmp 7) (by kernel_rfl) (s.b 7 (by kernel_rfl) h7))
  exact fun j hj => absurd hj (Nat.not_lt_zero j)
noncomputable def k22_R : Array Oper := ((Tryz.f13.body).bind (regionOf 22)).getD #[]
def k22_V (c : Cm) (j : Nat) : Value := ([.int .i64 c.kind, .bool (decide (c.kind = 13))] : List Value).getD j undef
def k22_d : List (Option Tmp) := [some 210, some 211]
theorem k22_nodup : k22_d.Nodup := by unfold k22_d; decide
theorem k22_wp {c : Cm} {S : World → Prop} {a0 : Act} {Q : Exit → Act → World → Prop} {w : World} (h3 : a0.tmps[3]? = some (.int .i64 c.kind)) (ha : a0.tmps.size = 272) (hS : S w)
    (hq : ∀ a' w', S w' → a'.defers = a0.defers → a'.tmps.size = 272 → (∀ j d, k22_d[j]? = some (some d) → a'.tmps[d]? = some (k22_V c j)) → (∀ d, some d ∉ k22_d → a'.tmps[d]? = a0.tmps[d]?) → Q .normal a' w') : (Code.region 22 k22_R false).wp Tryz.prog Q a0 w := by
  have hz : k22_R.size = 2 := by kernel_rfl
  refine wp_plain (m := 272) hz (by kernel_rfl) k22_nodup (by kernel_rfl) ha ?_ hS hq
  refine us ?_ (obPU hz (by decide) (by kernel_rfl) fun _ W s _ => ex_bin (u := 3) (x := .tmp 210) (y := .const (.int .i64 13)) (by kernel_rfl) (s.u 0 210 (by kernel_rfl)) (rfl) (eq3c W _ _ _ _))
  refine us ?_ (obPU hz (by decide) (by kernel_rfl) fun _ _ s _ => ex_move (x := .tmp 3) (by kernel_rfl) (s.b 3 (by kernel_rfl) h3))
  exact fun j hj => absurd hj (Nat.not_lt_zero j)
noncomputable def k23_R : Array Oper := ((Tryz.f13.body).bind (regionOf 23)).getD #[]
def k23_V (c : Cm) (b : Nat) (ok : Bool) (j : Nat) : Value := ([.bool ok, .bool ok, gw (ok == true) (.pointer (some ⟨b, 25, none⟩)), gw (ok == true) (.int .i64 c.limit), gw (ok == true) (.bool (betw c.limit (-1) 999999999)), .bool (ok && (betw c.limit (-1) 999999999)), .bool (ok && (betw c.limit (-1) 999999999)), gw ((ok && (betw c.limit (-1) 999999999)) == true) (.pointer (some ⟨b, 24, none⟩)), gw ((ok && (betw c.limit (-1) 999999999)) == true) (.string ⟨c.order.toArray⟩), gw ((ok && (betw c.limit (-1) 999999999)) == true) (.bool (decide (c.order = []))), gw ((ok && (betw c.limit (-1) 999999999)) == true) (.bool (decide (c.order = []))), gw (((ok && (betw c.limit (-1) 999999999)) == true) && ((decide (c.order = [])) == false)) (.pointer (some ⟨b, 24, none⟩)), gw (((ok && (betw c.limit (-1) 999999999)) == true) && ((decide (c.order = [])) == false)) (.string ⟨c.order.toArray⟩), gw (((ok && (betw c.limit (-1) 999999999)) == true) && ((decide (c.order = [])) == false)) (.bool (nameW c.order)), gw ((ok && (betw c.limit (-1) 999999999)) == true) (.bool ((decide (c.order = [])) || (nameW c.order))), .bool ((ok && (betw c.limit (-1) 999999999)) && ((decide (c.order = [])) || (nameW c.order))), .bool ((ok && (betw c.limit (-1) 999999999)) && ((decide (c.order = [])) || (nameW c.order)))] : List Value).getD j undef
def k23_d : List (Option Tmp) := [some 212, some 213, some 214, some 215, some 216, some 217, some 218, some 219, some 220, some 221, some 222, some 223, some 224, some 225, some 226, some 227, some 4]
theorem k23_nodup : k23_d.Nodup := by unfold k23_d; decide
theorem k23_wp {c : Cm} {a1 a2 a3 a4 a5 : Option Addr} {c1 c2 c3 c4 c5 : Nat} {b : Nat} {ok : Bool} {S : World → Prop} {a0 : Act} {Q : Exit → Act → World → Prop} {w : World} (h1 : a0.tmps[1]? = some (.pointer (some ⟨b, 0, none⟩))) (h4 : a0.tmps[4]? = some (.bool ok)) (hcell : ∀ W, S W → ∀ o x, (cmL c (.slice a1 c.cols.length c1) (.slice a2 c.vals.length c2) (.slice a3 c.fields.length c3) (.slice a4 c.expr.args.length c4) (.slice a5 c.wh.args.length c5))[o]? = some x → W.cell? ⟨b, o, none⟩ = some x) (q216 : ∀ W, S W → Calls Tryz.prog 31 #[.int .i64 c.limit, .int .i64 (-1), .int .i64 999999999] W fun e w' => e = .returned (.bool (betw c.limit (-1) 999999999)) ∧ S w') (q225 : ∀ W, S W → Calls Tryz.prog 34 #[.string ⟨c.order.toArray⟩] W fun e w' => e = .returned (.bool (nameW c.order)) ∧ S w') (ha : a0.tmps.size = 272) (hS : S w)
    (hq : ∀ a' w', S w' → a'.defers = a0.defers → a'.tmps.size = 272 → (∀ j d, k23_d[j]? = some (some d) → a'.tmps[d]? = some (k23_V c b ok j)) → (∀ d, some d ∉ k23_d → a'.tmps[d]? = a0.tmps[d]?) → Q .normal a' w') : (Code.region 23 k23_R false).wp Tryz.prog Q a0 w := by
  have hz : k23_R.size = 17 := by kernel_rfl
  refine wp_plain (m := 272) hz (by kernel_rfl) k23_nodup (by kernel_rfl) ha ?_ hS hq
  refine us ?_ (obPU hz (by decide) (by kernel_rfl) fun _ _ s _ => ex_assign (x := .tmp 227) (by kernel_rfl) (s.u 15 227 (by kernel_rfl)))
  refine us ?_ (obPU hz (by decide) (by kernel_rfl) fun _ _ s _ => ex_pickA (G := true) (by kernel_rfl) (s.u 6 218 (by kernel_rfl)) (s.u 14 226 (by kernel_rfl)) rfl rfl)
  refine us ?_ (obPG true 6 218 true hz (by decide) (by kernel_rfl) rfl rfl fun hG _ _ s _ => ex_pickO (by kernel_rfl) (s.g 10 222 (by kernel_rfl) hG rfl) (s.u 13 225 (by kernel_rfl)) rfl hG)
  refine us ?_ (obPH _ 10 222 false hz (by decide) (by kernel_rfl) rfl rfl (fun hG _ _ s => ex_call1 (ts := #[9]) (x := .tmp 224) (f := 34) cf34 (by kernel_rfl) rfl (s.g 12 224 (by kernel_rfl) hG rfl)) q225)
  refine us ?_ (obPG _ 10 222 false hz (by decide) (by kernel_rfl) rfl rfl fun hG _ W s hS => ex_load (x := .tmp 223) (t := 9) (by kernel_rfl) (s.g 11 223 (by kernel_rfl) hG rfl) (ld9 W _ 24 _ (hcell W hS 24 _ rfl)))
  refine us ?_ (obPG _ 10 222 false hz (by decide) (by kernel_rfl) rfl rfl fun _ _ W s _ => ex_field (x := .tmp 1) (t := 31) (f := 12) (by kernel_rfl) (s.b 1 (by kernel_rfl) h1) (fa12 W _))
  refine us ?_ (obPG true 6 218 true hz (by decide) (by kernel_rfl) rfl rfl fun hG _ _ s _ => ex_move (x := .tmp 221) (by kernel_rfl) (s.g 9 221 (by kernel_rfl) hG rfl))
  refine us ?_ (obPG true 6 218 true hz (by decide) (by kernel_rfl) rfl rfl fun hG _ W s _ => ex_bin (u := 9) (x := .tmp 220) (y := .const (.string ⟨#[]⟩)) (by kernel_rfl) (s.g 8 220 (by kernel_rfl) hG rfl) (rfl) (eq9 W _ _ _))
  refine us ?_ (obPG true 6 218 true hz (by decide) (by kernel_rfl) rfl rfl fun hG _ W s hS => ex_load (x := .tmp 219) (t := 9) (by kernel_rfl) (s.g 7 219 (by kernel_rfl) hG rfl) (ld9 W _ 24 _ (hcell W hS 24 _ rfl)))
  refine us ?_ (obPG true 6 218 true hz (by decide) (by kernel_rfl) rfl rfl fun _ _ W s _ => ex_field (x := .tmp 1) (t := 31) (f := 12) (by kernel_rfl) (s.b 1 (by kernel_rfl) h1) (fa12 W _))
  refine us ?_ (obPU hz (by decide) (by kernel_rfl) fun _ _ s _ => ex_move (x := .tmp 217) (by kernel_rfl) (s.u 5 217 (by kernel_rfl)))
  refine us ?_ (obPU hz (by decide) (by kernel_rfl) fun _ _ s _ => ex_pickA (G := true) (by kernel_rfl) (s.u 1 213 (by kernel_rfl)) (s.u 4 216 (by kernel_rfl)) rfl rfl)
  refine us ?_ (obPH true 1 213 true hz (by decide) (by kernel_rfl) rfl rfl (fun hG _ _ s => ex_call3 (ts := #[3, 3, 3]) (x := .tmp 215) (y := .const (.int .i64 (-1))) (z := .const (.int .i64 999999999)) (f := 31) cf31 (by kernel_rfl) rfl (s.g 3 215 (by kernel_rfl) hG rfl) (rfl) (rfl)) q216)
  refine us ?_ (obPG true 1 213 true hz (by decide) (by kernel_rfl) rfl rfl fun hG _ W s hS => ex_load (x := .tmp 214) (t := 3) (by kernel_rfl) (s.g 2 214 (by kernel_rfl) hG rfl) (ld3 W _ 25 _ (hcell W hS 25 _ rfl)))
  refine us ?_ (obPG true 1 213 true hz (by decide) (by kernel_rfl) rfl rfl fun _ _ W s _ => ex_field (x := .tmp 1) (t := 31) (f := 13) (by kernel_rfl) (s.b 1 (by kernel_rfl) h1) (fa13 W _))
  refine us ?_ (obPU hz (by decide) (by kernel_rfl) fun _ _ s _ => ex_move (x := .tmp 212) (by kernel_rfl) (s.u 0 212 (by kernel_rfl)))
  refine us ?_ (obPU hz (by decide) (by kernel_rfl) fun _ _ s _ => ex_move (x := .tmp 4) (by kernel_rfl) (s.b 4 (by kernel_rfl) h4))
  exact fun j hj => absurd hj (Nat.not_lt_zero j)
noncomputable def k24_R : Array Oper := ((Tryz.f13.body).bind (regionOf 24)).getD #[]
def k24_V (c : Cm) (j : Nat) : Value := ([.int .i64 c.kind, .bool (decide (c.kind = 12))] : List Value).getD j undef
def k24_d : List (Option Tmp) := [some 228, some 229]
theorem k24_nodup : k24_d.Nodup := by unfold k24_d; decide
theorem k24_wp {c : Cm} {S : World → Prop} {a0 : Act} {Q : Exit → Act → World → Prop} {w : World} (h3 : a0.tmps[3]? = some (.int .i64 c.kind)) (ha : a0.tmps.size = 272) (hS : S w)
    (hq : ∀ a' w', S w' → a'.defers = a0.defers → a'.tmps.size = 272 → (∀ j d, k24_d[j]? = some (some d) → a'.tmps[d]? = some (k24_V c j)) → (∀ d, some d ∉ k24_d → a'.tmps[d]? = a0.tmps[d]?) → Q .normal a' w') : (Code.region 24 k24_R false).wp Tryz.prog Q a0 w := by
  have hz : k24_R.size = 2 := by kernel_rfl
  refine wp_plain (m := 272) hz (by kernel_rfl) k24_nodup (by kernel_rfl) ha ?_ hS hq
  refine us ?_ (obPU hz (by decide) (by kernel_rfl) fun _ W s _ => ex_bin (u := 3) (x := .tmp 228) (y := .const (.int .i64 12)) (by kernel_rfl) (s.u 0 228 (by kernel_rfl)) (rfl) (eq3c W _ _ _ _))
  refine us ?_ (obPU hz (by decide) (by kernel_rfl) fun _ _ s _ => ex_move (x := .tmp 3) (by kernel_rfl) (s.b 3 (by kernel_rfl) h3))
  exact fun j hj => absurd hj (Nat.not_lt_zero j)
noncomputable def k25_R : Array Oper := ((Tryz.f13.body).bind (regionOf 25)).getD #[]
def k25_V (c : Cm) (a4 : Option Addr) (c4 : Nat) (b : Nat) (ok : Bool) (j : Nat) : Value := ([.bool ok, .bool ok, gw (ok == true) (.pointer (some ⟨b, 11, none⟩)), gw (ok == true) (.agg #[.int .i64 c.expr.k, .int .i64 c.expr.v.k, .int .i64 c.expr.v.n, .string ⟨c.expr.v.s.toArray⟩, .string ⟨c.expr.nm.toArray⟩, .slice a4 c.expr.args.length c4]), gw (ok == true) (.bool (exR c.expr)), .bool (ok && (exR c.expr)), .bool (ok && (exR c.expr))] : List Value).getD j undef
def k25_d : List (Option Tmp) := [some 230, some 231, some 232, some 233, some 234, some 235, some 4]
theorem k25_nodup : k25_d.Nodup := by unfold k25_d; decide
theorem k25_wp {c : Cm} {a1 a2 a3 a4 a5 : Option Addr} {c1 c2 c3 c4 c5 : Nat} {b : Nat} {ok : Bool} {S : World → Prop} {a0 : Act} {Q : Exit → Act → World → Prop} {w : World} (h1 : a0.tmps[1]? = some (.pointer (some ⟨b, 0, none⟩))) (h4 : a0.tmps[4]? = some (.bool ok)) (hcell : ∀ W, S W → ∀ o x, (cmL c (.slice a1 c.cols.length c1) (.slice a2 c.vals.length c2) (.slice a3 c.fields.length c3) (.slice a4 c.expr.args.length c4) (.slice a5 c.wh.args.length c5))[o]? = some x → W.cell? ⟨b, o, none⟩ = some x) (q234 : ∀ W, S W → Calls Tryz.prog 35 #[.agg #[.int .i64 c.expr.k, .int .i64 c.expr.v.k, .int .i64 c.expr.v.n, .string ⟨c.expr.v.s.toArray⟩, .string ⟨c.expr.nm.toArray⟩, .slice a4 c.expr.args.length c4]] W fun e w' => e = .returned (.bool (exR c.expr)) ∧ S w') (ha : a0.tmps.size = 272) (hS : S w)
    (hq : ∀ a' w', S w' → a'.defers = a0.defers → a'.tmps.size = 272 → (∀ j d, k25_d[j]? = some (some d) → a'.tmps[d]? = some (k25_V c a4 c4 b ok j)) → (∀ d, some d ∉ k25_d → a'.tmps[d]? = a0.tmps[d]?) → Q .normal a' w') : (Code.region 25 k25_R false).wp Tryz.prog Q a0 w := by
  have hz : k25_R.size = 7 := by kernel_rfl
  refine wp_plain (m := 272) hz (by kernel_rfl) k25_nodup (by kernel_rfl) ha ?_ hS hq
  refine us ?_ (obPU hz (by decide) (by kernel_rfl) fun _ _ s _ => ex_assign (x := .tmp 235) (by kernel_rfl) (s.u 5 235 (by kernel_rfl)))
  refine us ?_ (obPU hz (by decide) (by kernel_rfl) fun _ _ s _ => ex_pickA (G := true) (by kernel_rfl) (s.u 1 231 (by kernel_rfl)) (s.u 4 234 (by kernel_rfl)) rfl rfl)
  refine us ?_ (obPH true 1 231 true hz (by decide) (by kernel_rfl) rfl rfl (fun hG _ _ s => ex_call1 (ts := #[29]) (x := .tmp 233) (f := 35) cf35 (by kernel_rfl) rfl (s.g 3 233 (by kernel_rfl) hG rfl)) q234)
  refine us ?_ (obPG true 1 231 true hz (by decide) (by kernel_rfl) rfl rfl fun hG _ W s hS => ex_load (x := .tmp 232) (t := 29) (by kernel_rfl) (s.g 2 232 (by kernel_rfl) hG rfl) (ld29 W _ 11 _ _ _ _ _ _ (hcell W hS 11 _ rfl) (hcell W hS 12 _ rfl) (hcell W hS 13 _ rfl) (hcell W hS 14 _ rfl) (hcell W hS 15 _ rfl) (hcell W hS 16 _ rfl)))
  refine us ?_ (obPG true 1 231 true hz (by decide) (by kernel_rfl) rfl rfl fun _ _ W s _ => ex_field (x := .tmp 1) (t := 31) (f := 9) (by kernel_rfl) (s.b 1 (by kernel_rfl) h1) (fa9 W _))
  refine us ?_ (obPU hz (by decide) (by kernel_rfl) fun _ _ s _ => ex_move (x := .tmp 230) (by kernel_rfl) (s.u 0 230 (by kernel_rfl)))
  refine us ?_ (obPU hz (by decide) (by kernel_rfl) fun _ _ s _ => ex_move (x := .tmp 4) (by kernel_rfl) (s.b 4 (by kernel_rfl) h4))
  exact fun j hj => absurd hj (Nat.not_lt_zero j)
noncomputable def k26_R : Array Oper := ((Tryz.f13.body).bind (regionOf 26)).getD #[]
def k26_V (c : Cm) (a4 : Option Addr) (c4 : Nat) (b : Nat) (ok : Bool) (j : Nat) : Value := ([.bool ok, .bool ok, gw (ok == true) (.pointer (some ⟨b, 11, none⟩)), gw (ok == true) (.agg #[.int .i64 c.expr.k, .int .i64 c.expr.v.k, .int .i64 c.expr.v.n, .string ⟨c.expr.v.s.toArray⟩, .string ⟨c.expr.nm.toArray⟩, .slice a4 c.expr.args.length c4]), gw (ok == true) (.bool (noneE c.expr)), .bool (ok && (noneE c.expr)), .bool (ok && (noneE c.expr))] : List Value).getD j undef
def k26_d : List (Option Tmp) := [some 236, some 237, some 238, some 239, some 240, some 241, some 4]
theorem k26_nodup : k26_d.Nodup := by unfold k26_d; decide
theorem k26_wp {c : Cm} {a1 a2 a3 a4 a5 : Option Addr} {c1 c2 c3 c4 c5 : Nat} {b : Nat} {ok : Bool} {S : World → Prop} {a0 : Act} {Q : Exit → Act → World → Prop} {w : World} (h1 : a0.tmps[1]? = some (.pointer (some ⟨b, 0, none⟩))) (h4 : a0.tmps[4]? = some (.bool ok)) (hcell : ∀ W, S W → ∀ o x, (cmL c (.slice a1 c.cols.length c1) (.slice a2 c.vals.length c2) (.slice a3 c.fields.length c3) (.slice a4 c.expr.args.length c4) (.slice a5 c.wh.args.length c5))[o]? = some x → W.cell? ⟨b, o, none⟩ = some x) (q240 : ∀ W, S W → Calls Tryz.prog 36 #[.agg #[.int .i64 c.expr.k, .int .i64 c.expr.v.k, .int .i64 c.expr.v.n, .string ⟨c.expr.v.s.toArray⟩, .string ⟨c.expr.nm.toArray⟩, .slice a4 c.expr.args.length c4]] W fun e w' => e = .returned (.bool (noneE c.expr)) ∧ S w') (ha : a0.tmps.size = 272) (hS : S w)
    (hq : ∀ a' w', S w' → a'.defers = a0.defers → a'.tmps.size = 272 → (∀ j d, k26_d[j]? = some (some d) → a'.tmps[d]? = some (k26_V c a4 c4 b ok j)) → (∀ d, some d ∉ k26_d → a'.tmps[d]? = a0.tmps[d]?) → Q .normal a' w') : (Code.region 26 k26_R false).wp Tryz.prog Q a0 w := by
  have hz : k26_R.size = 7 := by kernel_rfl
  refine wp_plain (m := 272) hz (by kernel_rfl) k26_nodup (by kernel_rfl) ha ?_ hS hq
  refine us ?_ (obPU hz (by decide) (by kernel_rfl) fun _ _ s _ => ex_assign (x := .tmp 241) (by kernel_rfl) (s.u 5 241 (by kernel_rfl)))
  refine us ?_ (obPU hz (by decide) (by kernel_rfl) fun _ _ s _ => ex_pickA (G := true) (by kernel_rfl) (s.u 1 237 (by kernel_rfl)) (s.u 4 240 (by kernel_rfl)) rfl rfl)
  refine us ?_ (obPH true 1 237 true hz (by decide) (by kernel_rfl) rfl rfl (fun hG _ _ s => ex_call1 (ts := #[29]) (x := .tmp 239) (f := 36) cf36 (by kernel_rfl) rfl (s.g 3 239 (by kernel_rfl) hG rfl)) q240)
  refine us ?_ (obPG true 1 237 true hz (by decide) (by kernel_rfl) rfl rfl fun hG _ W s hS => ex_load (x := .tmp 238) (t := 29) (by kernel_rfl) (s.g 2 238 (by kernel_rfl) hG rfl) (ld29 W _ 11 _ _ _ _ _ _ (hcell W hS 11 _ rfl) (hcell W hS 12 _ rfl) (hcell W hS 13 _ rfl) (hcell W hS 14 _ rfl) (hcell W hS 15 _ rfl) (hcell W hS 16 _ rfl)))
  refine us ?_ (obPG true 1 237 true hz (by decide) (by kernel_rfl) rfl rfl fun _ _ W s _ => ex_field (x := .tmp 1) (t := 31) (f := 9) (by kernel_rfl) (s.b 1 (by kernel_rfl) h1) (fa9 W _))
  refine us ?_ (obPU hz (by decide) (by kernel_rfl) fun _ _ s _ => ex_move (x := .tmp 236) (by kernel_rfl) (s.u 0 236 (by kernel_rfl)))
  refine us ?_ (obPU hz (by decide) (by kernel_rfl) fun _ _ s _ => ex_move (x := .tmp 4) (by kernel_rfl) (s.b 4 (by kernel_rfl) h4))
  exact fun j hj => absurd hj (Nat.not_lt_zero j)
noncomputable def k27_R : Array Oper := ((Tryz.f13.body).bind (regionOf 27)).getD #[]
def k27_V (c : Cm) (b : Nat) (j : Nat) : Value := ([.int .i64 c.kind, .bool (betw c.kind 11 13), .bool (betw c.kind 11 13), gw ((betw c.kind 11 13) == true) (.pointer (some ⟨b, 17, none⟩)), gw ((betw c.kind 11 13) == true) (.bool c.all), gw ((betw c.kind 11 13) == true) (.bool (!c.all)), .bool ((betw c.kind 11 13) && (!c.all))] : List Value).getD j undef
def k27_d : List (Option Tmp) := [some 242, some 243, some 244, some 245, some 246, some 247, some 248]
theorem k27_nodup : k27_d.Nodup := by unfold k27_d; decide
theorem k27_wp {c : Cm} {a1 a2 a3 a4 a5 : Option Addr} {c1 c2 c3 c4 c5 : Nat} {b : Nat} {S : World → Prop} {a0 : Act} {Q : Exit → Act → World → Prop} {w : World} (h1 : a0.tmps[1]? = some (.pointer (some ⟨b, 0, none⟩))) (h3 : a0.tmps[3]? = some (.int .i64 c.kind)) (hcell : ∀ W, S W → ∀ o x, (cmL c (.slice a1 c.cols.length c1) (.slice a2 c.vals.length c2) (.slice a3 c.fields.length c3) (.slice a4 c.expr.args.length c4) (.slice a5 c.wh.args.length c5))[o]? = some x → W.cell? ⟨b, o, none⟩ = some x) (q243 : ∀ W, S W → Calls Tryz.prog 31 #[.int .i64 c.kind, .int .i64 11, .int .i64 13] W fun e w' => e = .returned (.bool (betw c.kind 11 13)) ∧ S w') (ha : a0.tmps.size = 272) (hS : S w)
    (hq : ∀ a' w', S w' → a'.defers = a0.defers → a'.tmps.size = 272 → (∀ j d, k27_d[j]? = some (some d) → a'.tmps[d]? = some (k27_V c b j)) → (∀ d, some d ∉ k27_d → a'.tmps[d]? = a0.tmps[d]?) → Q .normal a' w') : (Code.region 27 k27_R false).wp Tryz.prog Q a0 w := by
  have hz : k27_R.size = 7 := by kernel_rfl
  refine wp_plain (m := 272) hz (by kernel_rfl) k27_nodup (by kernel_rfl) ha ?_ hS hq
  refine us ?_ (obPU hz (by decide) (by kernel_rfl) fun _ _ s _ => ex_pickA (G := true) (by kernel_rfl) (s.u 2 244 (by kernel_rfl)) (s.u 5 247 (by kernel_rfl)) rfl rfl)
  refine us ?_ (obPG true 2 244 true hz (by decide) (by kernel_rfl) rfl rfl fun hG _ W s _ => ex_un (x := .tmp 246) (t := 4) (op := .not) (by kernel_rfl) (s.g 4 246 (by kernel_rfl) hG rfl) (not4 W _))
  refine us ?_ (obPG true 2 244 true hz (by decide) (by kernel_rfl) rfl rfl fun hG _ W s hS => ex_load (x := .tmp 245) (t := 4) (by kernel_rfl) (s.g 3 245 (by kernel_rfl) hG rfl) (ld4 W _ 17 _ (hcell W hS 17 _ rfl)))
  refine us ?_ (obPG true 2 244 true hz (by decide) (by kernel_rfl) rfl rfl fun _ _ W s _ => ex_field (x := .tmp 1) (t := 31) (f := 10) (by kernel_rfl) (s.b 1 (by kernel_rfl) h1) (fa10 W _))
  refine us ?_ (obPU hz (by decide) (by kernel_rfl) fun _ _ s _ => ex_move (x := .tmp 243) (by kernel_rfl) (s.u 1 243 (by kernel_rfl)))
  refine us ?_ (obPC hz (by decide) (by kernel_rfl) (fun _ _ s => ex_call3 (ts := #[3, 3, 3]) (x := .tmp 242) (y := .const (.int .i64 11)) (z := .const (.int .i64 13)) (f := 31) cf31 (by kernel_rfl) rfl (s.u 0 242 (by kernel_rfl)) (rfl) (rfl)) q243)
  refine us ?_ (obPU hz (by decide) (by kernel_rfl) fun _ _ s _ => ex_move (x := .tmp 3) (by kernel_rfl) (s.b 3 (by kernel_rfl) h3))
  exact fun j hj => absurd hj (Nat.not_lt_zero j)
noncomputable def k28_R : Array Oper := ((Tryz.f13.body).bind (regionOf 28)).getD #[]
def k28_V (c : Cm) (a5 : Option Addr) (c5 : Nat) (b : Nat) (ok : Bool) (j : Nat) : Value := ([.bool ok, .bool ok, gw (ok == true) (.pointer (some ⟨b, 18, none⟩)), gw (ok == true) (.agg #[.int .i64 c.wh.k, .int .i64 c.wh.v.k, .int .i64 c.wh.v.n, .string ⟨c.wh.v.s.toArray⟩, .string ⟨c.wh.nm.toArray⟩, .slice a5 c.wh.args.length c5]), gw (ok == true) (.bool (exR c.wh)), .bool (ok && (exR c.wh)), .bool (ok && (exR c.wh))] : List Value).getD j undef
def k28_d : List (Option Tmp) := [some 249, some 250, some 251, some 252, some 253, some 254, some 4]
theorem k28_nodup : k28_d.Nodup := by unfold k28_d; decide
theorem k28_wp {c : Cm} {a1 a2 a3 a4 a5 : Option Addr} {c1 c2 c3 c4 c5 : Nat} {b : Nat} {ok : Bool} {S : World → Prop} {a0 : Act} {Q : Exit → Act → World → Prop} {w : World} (h1 : a0.tmps[1]? = some (.pointer (some ⟨b, 0, none⟩))) (h4 : a0.tmps[4]? = some (.bool ok)) (hcell : ∀ W, S W → ∀ o x, (cmL c (.slice a1 c.cols.length c1) (.slice a2 c.vals.length c2) (.slice a3 c.fields.length c3) (.slice a4 c.expr.args.length c4) (.slice a5 c.wh.args.length c5))[o]? = some x → W.cell? ⟨b, o, none⟩ = some x) (q253 : ∀ W, S W → Calls Tryz.prog 35 #[.agg #[.int .i64 c.wh.k, .int .i64 c.wh.v.k, .int .i64 c.wh.v.n, .string ⟨c.wh.v.s.toArray⟩, .string ⟨c.wh.nm.toArray⟩, .slice a5 c.wh.args.length c5]] W fun e w' => e = .returned (.bool (exR c.wh)) ∧ S w') (ha : a0.tmps.size = 272) (hS : S w)
    (hq : ∀ a' w', S w' → a'.defers = a0.defers → a'.tmps.size = 272 → (∀ j d, k28_d[j]? = some (some d) → a'.tmps[d]? = some (k28_V c a5 c5 b ok j)) → (∀ d, some d ∉ k28_d → a'.tmps[d]? = a0.tmps[d]?) → Q .normal a' w') : (Code.region 28 k28_R false).wp Tryz.prog Q a0 w := by
  have hz : k28_R.size = 7 := by kernel_rfl
  refine wp_plain (m := 272) hz (by kernel_rfl) k28_nodup (by kernel_rfl) ha ?_ hS hq
  refine us ?_ (obPU hz (by decide) (by kernel_rfl) fun _ _ s _ => ex_assign (x := .tmp 254) (by kernel_rfl) (s.u 5 254 (by kernel_rfl)))
  refine us ?_ (obPU hz (by decide) (by kernel_rfl) fun _ _ s _ => ex_pickA (G := true) (by kernel_rfl) (s.u 1 250 (by kernel_rfl)) (s.u 4 253 (by kernel_rfl)) rfl rfl)
  refine us ?_ (obPH true 1 250 true hz (by decide) (by kernel_rfl) rfl rfl (fun hG _ _ s => ex_call1 (ts := #[29]) (x := .tmp 252) (f := 35) cf35 (by kernel_rfl) rfl (s.g 3 252 (by kernel_rfl) hG rfl)) q253)
  refine us ?_ (obPG true 1 250 true hz (by decide) (by kernel_rfl) rfl rfl fun hG _ W s hS => ex_load (x := .tmp 251) (t := 29) (by kernel_rfl) (s.g 2 251 (by kernel_rfl) hG rfl) (ld29 W _ 18 _ _ _ _ _ _ (hcell W hS 18 _ rfl) (hcell W hS 19 _ rfl) (hcell W hS 20 _ rfl) (hcell W hS 21 _ rfl) (hcell W hS 22 _ rfl) (hcell W hS 23 _ rfl)))
  refine us ?_ (obPG true 1 250 true hz (by decide) (by kernel_rfl) rfl rfl fun _ _ W s _ => ex_field (x := .tmp 1) (t := 31) (f := 11) (by kernel_rfl) (s.b 1 (by kernel_rfl) h1) (fa11 W _))
  refine us ?_ (obPU hz (by decide) (by kernel_rfl) fun _ _ s _ => ex_move (x := .tmp 249) (by kernel_rfl) (s.u 0 249 (by kernel_rfl)))
  refine us ?_ (obPU hz (by decide) (by kernel_rfl) fun _ _ s _ => ex_move (x := .tmp 4) (by kernel_rfl) (s.b 4 (by kernel_rfl) h4))
  exact fun j hj => absurd hj (Nat.not_lt_zero j)
noncomputable def k29_R : Array Oper := ((Tryz.f13.body).bind (regionOf 29)).getD #[]
def k29_V (c : Cm) (a5 : Option Addr) (c5 : Nat) (b : Nat) (ok : Bool) (j : Nat) : Value := ([.bool ok, .bool ok, gw (ok == true) (.pointer (some ⟨b, 18, none⟩)), gw (ok == true) (.agg #[.int .i64 c.wh.k, .int .i64 c.wh.v.k, .int .i64 c.wh.v.n, .string ⟨c.wh.v.s.toArray⟩, .string ⟨c.wh.nm.toArray⟩, .slice a5 c.wh.args.length c5]), gw (ok == true) (.bool (noneE c.wh)), .bool (ok && (noneE c.wh)), .bool (ok && (noneE c.wh)), gw ((ok && (noneE c.wh)) == true) (.int .i64 c.kind), gw ((ok && (noneE c.wh)) == true) (.bool (betw c.kind 11 13)), gw ((ok && (noneE c.wh)) == true) (.bool (betw c.kind 11 13)), gw (((ok && (noneE c.wh)) == true) && ((betw c.kind 11 13) == false)) (.pointer (some ⟨b, 17, none⟩)), gw (((ok && (noneE c.wh)) == true) && ((betw c.kind 11 13) == false)) (.bool c.all), gw (((ok && (noneE c.wh)) == true) && ((betw c.kind 11 13) == false)) (.bool (!c.all)), gw ((ok && (noneE c.wh)) == true) (.bool ((betw c.kind 11 13) || (!c.all))), .bool ((ok && (noneE c.wh)) && ((betw c.kind 11 13) || (!c.all))), .bool ((ok && (noneE c.wh)) && ((betw c.kind 11 13) || (!c.all)))] : List Value).getD j undef
def k29_d : List (Option Tmp) := [some 255, some 256, some 257, some 258, some 259, some 260, some 261, some 262, some 263, some 264, some 265, some 266, some 267, some 268, some 269, some 4]
theorem k29_nodup : k29_d.Nodup := by unfold k29_d; decide
theorem k29_wp {c : Cm} {a1 a2 a3 a4 a5 : Option Addr} {c1 c2 c3 c4 c5 : Nat} {b : Nat} {ok : Bool} {S : World → Prop} {a0 : Act} {Q : Exit → Act → World → Prop} {w : World} (h1 : a0.tmps[1]? = some (.pointer (some ⟨b, 0, none⟩))) (h3 : a0.tmps[3]? = some (.int .i64 c.kind)) (h4 : a0.tmps[4]? = some (.bool ok)) (hcell : ∀ W, S W → ∀ o x, (cmL c (.slice a1 c.cols.length c1) (.slice a2 c.vals.length c2) (.slice a3 c.fields.length c3) (.slice a4 c.expr.args.length c4) (.slice a5 c.wh.args.length c5))[o]? = some x → W.cell? ⟨b, o, none⟩ = some x) (q259 : ∀ W, S W → Calls Tryz.prog 36 #[.agg #[.int .i64 c.wh.k, .int .i64 c.wh.v.k, .int .i64 c.wh.v.n, .string ⟨c.wh.v.s.toArray⟩, .string ⟨c.wh.nm.toArray⟩, .slice a5 c.wh.args.length c5]] W fun e w' => e = .returned (.bool (noneE c.wh)) ∧ S w') (q263 : ∀ W, S W → Calls Tryz.prog 31 #[.int .i64 c.kind, .int .i64 11, .int .i64 13] W fun e w' => e = .returned (.bool (betw c.kind 11 13)) ∧ S w') (ha : a0.tmps.size = 272) (hS : S w)
    (hq : ∀ a' w', S w' → a'.defers = a0.defers → a'.tmps.size = 272 → (∀ j d, k29_d[j]? = some (some d) → a'.tmps[d]? = some (k29_V c a5 c5 b ok j)) → (∀ d, some d ∉ k29_d → a'.tmps[d]? = a0.tmps[d]?) → Q .normal a' w') : (Code.region 29 k29_R false).wp Tryz.prog Q a0 w := by
  have hz : k29_R.size = 16 := by kernel_rfl
  refine wp_plain (m := 272) hz (by kernel_rfl) k29_nodup (by kernel_rfl) ha ?_ hS hq
  refine us ?_ (obPU hz (by decide) (by kernel_rfl) fun _ _ s _ => ex_assign (x := .tmp 269) (by kernel_rfl) (s.u 14 269 (by kernel_rfl)))
  refine us ?_ (obPU hz (by decide) (by kernel_rfl) fun _ _ s _ => ex_pickA (G := true) (by kernel_rfl) (s.u 6 261 (by kernel_rfl)) (s.u 13 268 (by kernel_rfl)) rfl rfl)
  refine us ?_ (obPG true 6 261 true hz (by decide) (by kernel_rfl) rfl rfl fun hG _ _ s _ => ex_pickO (by kernel_rfl) (s.g 9 264 (by kernel_rfl) hG rfl) (s.u 12 267 (by kernel_rfl)) rfl hG)
  refine us ?_ (obPG _ 9 264 false hz (by decide) (by kernel_rfl) rfl rfl fun hG _ W s _ => ex_un (x := .tmp 266) (t := 4) (op := .not) (by kernel_rfl) (s.g 11 266 (by kernel_rfl) hG rfl) (not4 W _))
  refine us ?_ (obPG _ 9 264 false hz (by decide) (by kernel_rfl) rfl rfl fun hG _ W s hS => ex_load (x := .tmp 265) (t := 4) (by kernel_rfl) (s.g 10 265 (by kernel_rfl) hG rfl) (ld4 W _ 17 _ (hcell W hS 17 _ rfl)))
  refine us ?_ (obPG _ 9 264 false hz (by decide) (by kernel_rfl) rfl rfl fun _ _ W s _ => ex_field (x := .tmp 1) (t := 31) (f := 10) (by kernel_rfl) (s.b 1 (by kernel_rfl) h1) (fa10 W _))
  refine us ?_ (obPG true 6 261 true hz (by decide) (by kernel_rfl) rfl rfl fun hG _ _ s _ => ex_move (x := .tmp 263) (by kernel_rfl) (s.g 8 263 (by kernel_rfl) hG rfl))
  refine us ?_ (obPH true 6 261 true hz (by decide) (by kernel_rfl) rfl rfl (fun hG _ _ s => ex_call3 (ts := #[3, 3, 3]) (x := .tmp 262) (y := .const (.int .i64 11)) (z := .const (.int .i64 13)) (f := 31) cf31 (by kernel_rfl) rfl (s.g 7 262 (by kernel_rfl) hG rfl) (rfl) (rfl)) q263)
  refine us ?_ (obPG true 6 261 true hz (by decide) (by kernel_rfl) rfl rfl fun _ _ _ s _ => ex_move (x := .tmp 3) (by kernel_rfl) (s.b 3 (by kernel_rfl) h3))
  refine us ?_ (obPU hz (by decide) (by kernel_rfl) fun _ _ s _ => ex_move (x := .tmp 260) (by kernel_rfl) (s.u 5 260 (by kernel_rfl)))
  refine us ?_ (obPU hz (by decide) (by kernel_rfl) fun _ _ s _ => ex_pickA (G := true) (by kernel_rfl) (s.u 1 256 (by kernel_rfl)) (s.u 4 259 (by kernel_rfl)) rfl rfl)
  refine us ?_ (obPH true 1 256 true hz (by decide) (by kernel_rfl) rfl rfl (fun hG _ _ s => ex_call1 (ts := #[29]) (x := .tmp 258) (f := 36) cf36 (by kernel_rfl) rfl (s.g 3 258 (by kernel_rfl) hG rfl)) q259)
  refine us ?_ (obPG true 1 256 true hz (by decide) (by kernel_rfl) rfl rfl fun hG _ W s hS => ex_load (x := .tmp 257) (t := 29) (by kernel_rfl) (s.g 2 257 (by kernel_rfl) hG rfl) (ld29 W _ 18 _ _ _ _ _ _ (hcell W hS 18 _ rfl) (hcell W hS 19 _ rfl) (hcell W hS 20 _ rfl) (hcell W hS 21 _ rfl) (hcell W hS 22 _ rfl) (hcell W hS 23 _ rfl)))
  refine us ?_ (obPG true 1 256 true hz (by decide) (by kernel_rfl) rfl rfl fun _ _ W s _ => ex_field (x := .tmp 1) (t := 31) (f := 11) (by kernel_rfl) (s.b 1 (by kernel_rfl) h1) (fa11 W _))
  refine us ?_ (obPU hz (by decide) (by kernel_rfl) fun _ _ s _ => ex_move (x := .tmp 255) (by kernel_rfl) (s.u 0 255 (by kernel_rfl)))
  refine us ?_ (obPU hz (by decide) (by kernel_rfl) fun _ _ s _ => ex_move (x := .tmp 4) (by kernel_rfl) (s.b 4 (by kernel_rfl) h4))
  exact fun j hj => absurd hj (Nat.not_lt_zero j)
noncomputable def k30_R : Array Oper := ((Tryz.f13.body).bind (regionOf 30)).getD #[]
def k30_V (ok : Bool) (j : Nat) : Value := ([.bool ok, .bool (!ok)] : List Value).getD j undef
def k30_d : List (Option Tmp) := [some 270, some 271]
theorem k30_nodup : k30_d.Nodup := by unfold k30_d; decide
theorem k30_wp {ok : Bool} {S : World → Prop} {a0 : Act} {Q : Exit → Act → World → Prop} {w : World} (h4 : a0.tmps[4]? = some (.bool ok)) (ha : a0.tmps.size = 272) (hS : S w)
    (hq : ∀ a' w', S w' → a'.defers = a0.defers → a'.tmps.size = 272 → (∀ j d, k30_d[j]? = some (some d) → a'.tmps[d]? = some (k30_V ok j)) → (∀ d, some d ∉ k30_d → a'.tmps[d]? = a0.tmps[d]?) → Q .normal a' w') : (Code.region 30 k30_R false).wp Tryz.prog Q a0 w := by
  have hz : k30_R.size = 2 := by kernel_rfl
  refine wp_plain (m := 272) hz (by kernel_rfl) k30_nodup (by kernel_rfl) ha ?_ hS hq
  refine us ?_ (obPU hz (by decide) (by kernel_rfl) fun _ W s _ => ex_un (x := .tmp 270) (t := 4) (op := .not) (by kernel_rfl) (s.u 0 270 (by kernel_rfl)) (not4 W _))
  refine us ?_ (obPU hz (by decide) (by kernel_rfl) fun _ _ s _ => ex_move (x := .tmp 4) (by kernel_rfl) (s.b 4 (by kernel_rfl) h4))
  exact fun j hj => absurd hj (Nat.not_lt_zero j)
noncomputable def ckr_R : Array Oper := ((Tryz.f13.body).bind (regionOf 4)).getD #[]
def ckr_V (c : Cm) (b : Nat) (j : Nat) : Value := ([.int .i64 c.kind, .bool (betw c.kind 1 16), .bool (betw c.kind 1 16), gw ((betw c.kind 1 16) == true) (.pointer (some ⟨b, 1, none⟩)), gw ((betw c.kind 1 16) == true) (.string ⟨c.name.toArray⟩), gw ((betw c.kind 1 16) == true) (.int .i64 c.kind), gw ((betw c.kind 1 16) == true) (.bool (decide (c.kind ≤ 13))), gw ((betw c.kind 1 16) == true) (.bool (nameIs c.name (decide (c.kind ≤ 13)))), .bool ((betw c.kind 1 16) && (nameIs c.name (decide (c.kind ≤ 13)))), .bool ((betw c.kind 1 16) && (nameIs c.name (decide (c.kind ≤ 13)))), gw (((betw c.kind 1 16) && (nameIs c.name (decide (c.kind ≤ 13)))) == true) (.pointer (some ⟨b, 2, none⟩)), gw (((betw c.kind 1 16) && (nameIs c.name (decide (c.kind ≤ 13)))) == true) (.string ⟨c.other.toArray⟩), gw (((betw c.kind 1 16) && (nameIs c.name (decide (c.kind ≤ 13)))) == true) (.int .i64 c.kind), gw (((betw c.kind 1 16) && (nameIs c.name (decide (c.kind ≤ 13)))) == true) (.bool (decide (c.kind = 5))), gw (((betw c.kind 1 16) && (nameIs c.name (decide (c.kind ≤ 13)))) == true) (.bool (decide (c.kind = 5))), gw ((((betw c.kind 1 16) && (nameIs c.name (decide (c.kind ≤ 13)))) == true) && ((decide (c.kind = 5)) == false)) (.int .i64 c.kind), gw ((((betw c.kind 1 16) && (nameIs c.name (decide (c.kind ≤ 13)))) == true) && ((decide (c.kind = 5)) == false)) (.bool (decide (c.kind = 7))), gw (((betw c.kind 1 16) && (nameIs c.name (decide (c.kind ≤ 13)))) == true) (.bool ((decide (c.kind = 5)) || (decide (c.kind = 7)))), gw (((betw c.kind 1 16) && (nameIs c.name (decide (c.kind ≤ 13)))) == true) (.bool ((decide (c.kind = 5)) || (decide (c.kind = 7)))), gw ((((betw c.kind 1 16) && (nameIs c.name (decide (c.kind ≤ 13)))) == true) && (((decide (c.kind = 5)) || (decide (c.kind = 7))) == false)) (.int .i64 c.kind), gw ((((betw c.kind 1 16) && (nameIs c.name (decide (c.kind ≤ 13)))) == true) && (((decide (c.kind = 5)) || (decide (c.kind = 7))) == false)) (.bool (decide (c.kind = 8))), gw (((betw c.kind 1 16) && (nameIs c.name (decide (c.kind ≤ 13)))) == true) (.bool (((decide (c.kind = 5)) || (decide (c.kind = 7))) || (decide (c.kind = 8)))), gw (((betw c.kind 1 16) && (nameIs c.name (decide (c.kind ≤ 13)))) == true) (.bool (nameIs c.other (((decide (c.kind = 5)) || (decide (c.kind = 7))) || (decide (c.kind = 8))))), .bool (((betw c.kind 1 16) && (nameIs c.name (decide (c.kind ≤ 13)))) && (nameIs c.other (((decide (c.kind = 5)) || (decide (c.kind = 7))) || (decide (c.kind = 8))))), .bool (((betw c.kind 1 16) && (nameIs c.name (decide (c.kind ≤ 13)))) && (nameIs c.other (((decide (c.kind = 5)) || (decide (c.kind = 7))) || (decide (c.kind = 8))))), gw ((((betw c.kind 1 16) && (nameIs c.name (decide (c.kind ≤ 13)))) && (nameIs c.other (((decide (c.kind = 5)) || (decide (c.kind = 7))) || (decide (c.kind = 8))))) == true) (.pointer (some ⟨b, 3, none⟩)), gw ((((betw c.kind 1 16) && (nameIs c.name (decide (c.kind ≤ 13)))) && (nameIs c.other (((decide (c.kind = 5)) || (decide (c.kind = 7))) || (decide (c.kind = 8))))) == true) (.string ⟨c.column.toArray⟩), gw ((((betw c.kind 1 16) && (nameIs c.name (decide (c.kind ≤ 13)))) && (nameIs c.other (((decide (c.kind = 5)) || (decide (c.kind = 7))) || (decide (c.kind = 8))))) == true) (.int .i64 c.kind), gw ((((betw c.kind 1 16) && (nameIs c.name (decide (c.kind ≤ 13)))) && (nameIs c.other (((decide (c.kind = 5)) || (decide (c.kind = 7))) || (decide (c.kind = 8))))) == true) (.bool (betw c.kind 3 6)), gw ((((betw c.kind 1 16) && (nameIs c.name (decide (c.kind ≤ 13)))) && (nameIs c.other (((decide (c.kind = 5)) || (decide (c.kind = 7))) || (decide (c.kind = 8))))) == true) (.bool (betw c.kind 3 6)), gw (((((betw c.kind 1 16) && (nameIs c.name (decide (c.kind ≤ 13)))) && (nameIs c.other (((decide (c.kind = 5)) || (decide (c.kind = 7))) || (decide (c.kind = 8))))) == true) && ((betw c.kind 3 6) == false)) (.int .i64 c.kind), gw (((((betw c.kind 1 16) && (nameIs c.name (decide (c.kind ≤ 13)))) && (nameIs c.other (((decide (c.kind = 5)) || (decide (c.kind = 7))) || (decide (c.kind = 8))))) == true) && ((betw c.kind 3 6) == false)) (.bool (decide (c.kind = 8))), gw ((((betw c.kind 1 16) && (nameIs c.name (decide (c.kind ≤ 13)))) && (nameIs c.other (((decide (c.kind = 5)) || (decide (c.kind = 7))) || (decide (c.kind = 8))))) == true) (.bool ((betw c.kind 3 6) || (decide (c.kind = 8)))), gw ((((betw c.kind 1 16) && (nameIs c.name (decide (c.kind ≤ 13)))) && (nameIs c.other (((decide (c.kind = 5)) || (decide (c.kind = 7))) || (decide (c.kind = 8))))) == true) (.bool ((betw c.kind 3 6) || (decide (c.kind = 8)))), gw (((((betw c.kind 1 16) && (nameIs c.name (decide (c.kind ≤ 13)))) && (nameIs c.other (((decide (c.kind = 5)) || (decide (c.kind = 7))) || (decide (c.kind = 8))))) == true) && (((betw c.kind 3 6) || (decide (c.kind = 8))) == false)) (.int .i64 c.kind), gw (((((betw c.kind 1 16) && (nameIs c.name (decide (c.kind ≤ 13)))) && (nameIs c.other (((decide (c.kind = 5)) || (decide (c.kind = 7))) || (decide (c.kind = 8))))) == true) && (((betw c.kind 3 6) || (decide (c.kind = 8))) == false)) (.bool (decide (c.kind = 12))), gw ((((betw c.kind 1 16) && (nameIs c.name (decide (c.kind ≤ 13)))) && (nameIs c.other (((decide (c.kind = 5)) || (decide (c.kind = 7))) || (decide (c.kind = 8))))) == true) (.bool (((betw c.kind 3 6) || (decide (c.kind = 8))) || (decide (c.kind = 12)))), gw ((((betw c.kind 1 16) && (nameIs c.name (decide (c.kind ≤ 13)))) && (nameIs c.other (((decide (c.kind = 5)) || (decide (c.kind = 7))) || (decide (c.kind = 8))))) == true) (.bool (nameIs c.column (((betw c.kind 3 6) || (decide (c.kind = 8))) || (decide (c.kind = 12))))), .bool ((((betw c.kind 1 16) && (nameIs c.name (decide (c.kind ≤ 13)))) && (nameIs c.other (((decide (c.kind = 5)) || (decide (c.kind = 7))) || (decide (c.kind = 8))))) && (nameIs c.column (((betw c.kind 3 6) || (decide (c.kind = 8))) || (decide (c.kind = 12))))), .bool ((((betw c.kind 1 16) && (nameIs c.name (decide (c.kind ≤ 13)))) && (nameIs c.other (((decide (c.kind = 5)) || (decide (c.kind = 7))) || (decide (c.kind = 8))))) && (nameIs c.column (((betw c.kind 3 6) || (decide (c.kind = 8))) || (decide (c.kind = 12)))))] : List Value).getD j undef
def ckr_d : List (Option Tmp) := [some 38, some 39, some 40, some 41, some 42, some 43, some 44, some 45, some 46, some 47, some 48, some 49, some 50, some 51, some 52, some 53, some 54, some 55, some 56, some 57, some 58, some 59, some 60, some 61, some 62, some 63, some 64, some 65, some 66, some 67, some 68, some 69, some 70, some 71, some 72, some 73, some 74, some 75, some 76, some 4]
theorem ckr_nodup : ckr_d.Nodup := by unfold ckr_d; decide
theorem ckr_wp {c : Cm} {cv vv fv ea wa : Value} {b : Nat} {S : World → Prop} {a0 : Act} {Q : Exit → Act → World → Prop} {w : World} (h1 : a0.tmps[1]? = some (.pointer (some ⟨b, 0, none⟩))) (h3 : a0.tmps[3]? = some (.int .i64 c.kind)) (hcell : ∀ W, S W → ∀ o x, (cmL c cv vv fv ea wa)[o]? = some x → W.cell? ⟨b, o, none⟩ = some x) (q39 : ∀ W, S W → Calls Tryz.prog 31 #[.int .i64 c.kind, .int .i64 1, .int .i64 16] W fun e w' => e = .returned (.bool (betw c.kind 1 16)) ∧ S w') (q45 : ∀ W, S W → Calls Tryz.prog 32 #[.string ⟨c.name.toArray⟩, .bool (decide (c.kind ≤ 13))] W fun e w' => e = .returned (.bool (nameIs c.name (decide (c.kind ≤ 13)))) ∧ S w') (q60 : ∀ W, S W → Calls Tryz.prog 32 #[.string ⟨c.other.toArray⟩, .bool (((decide (c.kind = 5)) || (decide (c.kind = 7))) || (decide (c.kind = 8)))] W fun e w' => e = .returned (.bool (nameIs c.other (((decide (c.kind = 5)) || (decide (c.kind = 7))) || (decide (c.kind = 8))))) ∧ S w') (q66 : ∀ W, S W → Calls Tryz.prog 31 #[.int .i64 c.kind, .int .i64 3, .int .i64 6] W fun e w' => e = .returned (.bool (betw c.kind 3 6)) ∧ S w') (q75 : ∀ W, S W → Calls Tryz.prog 32 #[.string ⟨c.column.toArray⟩, .bool (((betw c.kind 3 6) || (decide (c.kind = 8))) || (decide (c.kind = 12)))] W fun e w' => e = .returned (.bool (nameIs c.column (((betw c.kind 3 6) || (decide (c.kind = 8))) || (decide (c.kind = 12))))) ∧ S w') (ha : a0.tmps.size = 272) (hS : S w.drew)
    (hq : ∀ w', S w' → Q .normal { tmps := (putL a0.tmps.toList (ckr_d.zip ((List.range 40).map (ckr_V c b)))).toArray, defers := a0.defers } w') : (Code.region 4 ckr_R true).wp Tryz.prog Q a0 w := by
  have hz : ckr_R.size = 40 := by kernel_rfl
  refine wp_run (m := 272) (by kernel_rfl) hz (by kernel_rfl) (by kernel_rfl) ckr_nodup ha ?_ hS hq
  refine us ?_ (obRU hz (by decide) (by kernel_rfl) fun _ _ s _ => ex_assign (x := .tmp 76) (by kernel_rfl) (s.u 38 76 (by kernel_rfl)))
  refine us ?_ (obRU hz (by decide) (by kernel_rfl) fun _ _ s _ => ex_pickA (G := true) (by kernel_rfl) (s.u 24 62 (by kernel_rfl)) (s.u 37 75 (by kernel_rfl)) rfl rfl)
  refine us ?_ (obRH true 24 62 true hz (by decide) (by kernel_rfl) rfl rfl (fun hG _ _ s => ex_call2 (ts := #[9, 4]) (x := .tmp 64) (y := .tmp 74) (f := 32) cf32 (by kernel_rfl) rfl (s.g 26 64 (by kernel_rfl) hG rfl) (s.g 36 74 (by kernel_rfl) hG rfl)) q75)
  refine us ?_ (obRG true 24 62 true hz (by decide) (by kernel_rfl) rfl rfl fun hG _ _ s _ => ex_pickO (by kernel_rfl) (s.g 33 71 (by kernel_rfl) hG rfl) (s.u 35 73 (by kernel_rfl)) rfl hG)
  refine us ?_ (obRG _ 33 71 false hz (by decide) (by kernel_rfl) rfl rfl fun hG _ W s _ => ex_bin (u := 3) (x := .tmp 72) (y := .const (.int .i64 12)) (by kernel_rfl) (s.g 34 72 (by kernel_rfl) hG rfl) (rfl) (eq3c W _ _ _ _))
  refine us ?_ (obRG _ 33 71 false hz (by decide) (by kernel_rfl) rfl rfl fun _ _ _ s _ => ex_move (x := .tmp 3) (by kernel_rfl) (s.b 3 (by kernel_rfl) h3))
  refine us ?_ (obRG true 24 62 true hz (by decide) (by kernel_rfl) rfl rfl fun hG _ _ s _ => ex_move (x := .tmp 70) (by kernel_rfl) (s.g 32 70 (by kernel_rfl) hG rfl))
  refine us ?_ (obRG true 24 62 true hz (by decide) (by kernel_rfl) rfl rfl fun hG _ _ s _ => ex_pickO (by kernel_rfl) (s.g 29 67 (by kernel_rfl) hG rfl) (s.u 31 69 (by kernel_rfl)) rfl hG)
  refine us ?_ (obRG _ 29 67 false hz (by decide) (by kernel_rfl) rfl rfl fun hG _ W s _ => ex_bin (u := 3) (x := .tmp 68) (y := .const (.int .i64 8)) (by kernel_rfl) (s.g 30 68 (by kernel_rfl) hG rfl) (rfl) (eq3c W _ _ _ _))
  refine us ?_ (obRG _ 29 67 false hz (by decide) (by kernel_rfl) rfl rfl fun _ _ _ s _ => ex_move (x := .tmp 3) (by kernel_rfl) (s.b 3 (by kernel_rfl) h3))
  refine us ?_ (obRG true 24 62 true hz (by decide) (by kernel_rfl) rfl rfl fun hG _ _ s _ => ex_move (x := .tmp 66) (by kernel_rfl) (s.g 28 66 (by kernel_rfl) hG rfl))
  refine us ?_ (obRH true 24 62 true hz (by decide) (by kernel_rfl) rfl rfl (fun hG _ _ s => ex_call3 (ts := #[3, 3, 3]) (x := .tmp 65) (y := .const (.int .i64 3)) (z := .const (.int .i64 6)) (f := 31) cf31 (by kernel_rfl) rfl (s.g 27 65 (by kernel_rfl) hG rfl) (rfl) (rfl)) q66)
  refine us ?_ (obRG true 24 62 true hz (by decide) (by kernel_rfl) rfl rfl fun _ _ _ s _ => ex_move (x := .tmp 3) (by kernel_rfl) (s.b 3 (by kernel_rfl) h3))
  refine us ?_ (obRG true 24 62 true hz (by decide) (by kernel_rfl) rfl rfl fun hG _ W s hS => ex_load (x := .tmp 63) (t := 9) (by kernel_rfl) (s.g 25 63 (by kernel_rfl) hG rfl) (ld9 W _ 3 _ (hcell W hS 3 _ rfl)))
  refine us ?_ (obRG true 24 62 true hz (by decide) (by kernel_rfl) rfl rfl fun _ _ W s _ => ex_field (x := .tmp 1) (t := 31) (f := 3) (by kernel_rfl) (s.b 1 (by kernel_rfl) h1) (fa3 W _))
  refine us ?_ (obRU hz (by decide) (by kernel_rfl) fun _ _ s _ => ex_move (x := .tmp 61) (by kernel_rfl) (s.u 23 61 (by kernel_rfl)))
  refine us ?_ (obRU hz (by decide) (by kernel_rfl) fun _ _ s _ => ex_pickA (G := true) (by kernel_rfl) (s.u 9 47 (by kernel_rfl)) (s.u 22 60 (by kernel_rfl)) rfl rfl)
  refine us ?_ (obRH true 9 47 true hz (by decide) (by kernel_rfl) rfl rfl (fun hG _ _ s => ex_call2 (ts := #[9, 4]) (x := .tmp 49) (y := .tmp 59) (f := 32) cf32 (by kernel_rfl) rfl (s.g 11 49 (by kernel_rfl) hG rfl) (s.g 21 59 (by kernel_rfl) hG rfl)) q60)
  refine us ?_ (obRG true 9 47 true hz (by decide) (by kernel_rfl) rfl rfl fun hG _ _ s _ => ex_pickO (by kernel_rfl) (s.g 18 56 (by kernel_rfl) hG rfl) (s.u 20 58 (by kernel_rfl)) rfl hG)
  refine us ?_ (obRG _ 18 56 false hz (by decide) (by kernel_rfl) rfl rfl fun hG _ W s _ => ex_bin (u := 3) (x := .tmp 57) (y := .const (.int .i64 8)) (by kernel_rfl) (s.g 19 57 (by kernel_rfl) hG rfl) (rfl) (eq3c W _ _ _ _))
  refine us ?_ (obRG _ 18 56 false hz (by decide) (by kernel_rfl) rfl rfl fun _ _ _ s _ => ex_move (x := .tmp 3) (by kernel_rfl) (s.b 3 (by kernel_rfl) h3))
  refine us ?_ (obRG true 9 47 true hz (by decide) (by kernel_rfl) rfl rfl fun hG _ _ s _ => ex_move (x := .tmp 55) (by kernel_rfl) (s.g 17 55 (by kernel_rfl) hG rfl))
  refine us ?_ (obRG true 9 47 true hz (by decide) (by kernel_rfl) rfl rfl fun hG _ _ s _ => ex_pickO (by kernel_rfl) (s.g 14 52 (by kernel_rfl) hG rfl) (s.u 16 54 (by kernel_rfl)) rfl hG)
  refine us ?_ (obRG _ 14 52 false hz (by decide) (by kernel_rfl) rfl rfl fun hG _ W s _ => ex_bin (u := 3) (x := .tmp 53) (y := .const (.int .i64 7)) (by kernel_rfl) (s.g 15 53 (by kernel_rfl) hG rfl) (rfl) (eq3c W _ _ _ _))
  refine us ?_ (obRG _ 14 52 false hz (by decide) (by kernel_rfl) rfl rfl fun _ _ _ s _ => ex_move (x := .tmp 3) (by kernel_rfl) (s.b 3 (by kernel_rfl) h3))
  refine us ?_ (obRG true 9 47 true hz (by decide) (by kernel_rfl) rfl rfl fun hG _ _ s _ => ex_move (x := .tmp 51) (by kernel_rfl) (s.g 13 51 (by kernel_rfl) hG rfl))
  refine us ?_ (obRG true 9 47 true hz (by decide) (by kernel_rfl) rfl rfl fun hG _ W s _ => ex_bin (u := 3) (x := .tmp 50) (y := .const (.int .i64 5)) (by kernel_rfl) (s.g 12 50 (by kernel_rfl) hG rfl) (rfl) (eq3c W _ _ _ _))
  refine us ?_ (obRG true 9 47 true hz (by decide) (by kernel_rfl) rfl rfl fun _ _ _ s _ => ex_move (x := .tmp 3) (by kernel_rfl) (s.b 3 (by kernel_rfl) h3))
  refine us ?_ (obRG true 9 47 true hz (by decide) (by kernel_rfl) rfl rfl fun hG _ W s hS => ex_load (x := .tmp 48) (t := 9) (by kernel_rfl) (s.g 10 48 (by kernel_rfl) hG rfl) (ld9 W _ 2 _ (hcell W hS 2 _ rfl)))
  refine us ?_ (obRG true 9 47 true hz (by decide) (by kernel_rfl) rfl rfl fun _ _ W s _ => ex_field (x := .tmp 1) (t := 31) (f := 2) (by kernel_rfl) (s.b 1 (by kernel_rfl) h1) (fa2 W _))
  refine us ?_ (obRU hz (by decide) (by kernel_rfl) fun _ _ s _ => ex_move (x := .tmp 46) (by kernel_rfl) (s.u 8 46 (by kernel_rfl)))
  refine us ?_ (obRU hz (by decide) (by kernel_rfl) fun _ _ s _ => ex_pickA (G := true) (by kernel_rfl) (s.u 2 40 (by kernel_rfl)) (s.u 7 45 (by kernel_rfl)) rfl rfl)
  refine us ?_ (obRH true 2 40 true hz (by decide) (by kernel_rfl) rfl rfl (fun hG _ _ s => ex_call2 (ts := #[9, 4]) (x := .tmp 42) (y := .tmp 44) (f := 32) cf32 (by kernel_rfl) rfl (s.g 4 42 (by kernel_rfl) hG rfl) (s.g 6 44 (by kernel_rfl) hG rfl)) q45)
  refine us ?_ (obRG true 2 40 true hz (by decide) (by kernel_rfl) rfl rfl fun hG _ W s _ => ex_bin (u := 3) (x := .tmp 43) (y := .const (.int .i64 13)) (by kernel_rfl) (s.g 5 43 (by kernel_rfl) hG rfl) (rfl) (leq3c W _ _ _ _))
  refine us ?_ (obRG true 2 40 true hz (by decide) (by kernel_rfl) rfl rfl fun _ _ _ s _ => ex_move (x := .tmp 3) (by kernel_rfl) (s.b 3 (by kernel_rfl) h3))
  refine us ?_ (obRG true 2 40 true hz (by decide) (by kernel_rfl) rfl rfl fun hG _ W s hS => ex_load (x := .tmp 41) (t := 9) (by kernel_rfl) (s.g 3 41 (by kernel_rfl) hG rfl) (ld9 W _ 1 _ (hcell W hS 1 _ rfl)))
  refine us ?_ (obRG true 2 40 true hz (by decide) (by kernel_rfl) rfl rfl fun _ _ W s _ => ex_field (x := .tmp 1) (t := 31) (f := 1) (by kernel_rfl) (s.b 1 (by kernel_rfl) h1) (fa1 W _))
  refine us ?_ (obRU hz (by decide) (by kernel_rfl) fun _ _ s _ => ex_move (x := .tmp 39) (by kernel_rfl) (s.u 1 39 (by kernel_rfl)))
  refine us ?_ (obRC hz (by decide) (by kernel_rfl) (fun _ _ s => ex_call3 (ts := #[3, 3, 3]) (x := .tmp 38) (y := .const (.int .i64 1)) (z := .const (.int .i64 16)) (f := 31) cf31 (by kernel_rfl) rfl (s.u 0 38 (by kernel_rfl)) (rfl) (rfl)) q39)
  refine us ?_ (obRU hz (by decide) (by kernel_rfl) fun _ _ s _ => ex_move (x := .tmp 3) (by kernel_rfl) (s.b 3 (by kernel_rfl) h3))
  exact fun j hj => absurd hj (Nat.not_lt_zero j)
structure Fr (a : Act) (b : Nat) (k : Int) (ok : Bool) : Prop where
  size : a.tmps.size = 272
  defers : a.defers = []
  t1 : a.tmps[1]? = some (.pointer (some ⟨b, 0, none⟩))
  t3 : a.tmps[3]? = some (.int .i64 k)
  t4 : a.tmps[4]? = some (.bool ok)
theorem Fr.next {a a' : Act} {b : Nat} {k : Int} {ok ok' : Bool} (h : Fr a b k ok) (hd : a'.defers = a.defers) (hz : a'.tmps.size = 272) (h1 : a'.tmps[1]? = a.tmps[1]?) (h3 : a'.tmps[3]? = a.tmps[3]?) (h4 : a'.tmps[4]? = some (.bool ok')) : Fr a' b k ok' :=
  ⟨hz, hd.trans h.defers, h1.trans h.t1, h3.trans h.t3, h4⟩
theorem Fr.stay {a a' : Act} {b : Nat} {k : Int} {ok : Bool} (h : Fr a b k ok) (hd : a'.defers = a.defers) (hz : a'.tmps.size = 272) (h1 : a'.tmps[1]? = a.tmps[1]?) (h3 : a'.tmps[3]? = a.tmps[3]?) (h4 : a'.tmps[4]? = a.tmps[4]?) : Fr a' b k ok :=
  h.next hd hz h1 h3 (h4.trans h.t4)
structure CkS (c : Cm) (b : Nat) (a1 a2 a3 a4 a5 : Option Addr) (c1 c2 c3 c4 c5 : Nat) (S : World → Prop) : Prop where
  cell : ∀ W, S W → ∀ o x, (cmL c (.slice a1 c.cols.length c1) (.slice a2 c.vals.length c2) (.slice a3 c.fields.length c3) (.slice a4 c.expr.args.length c4) (.slice a5 c.wh.args.length c5))[o]? = some x → W.cell? ⟨b, o, none⟩ = some x
  drew : ∀ W, S W → S W.drew
  btw : ∀ (n x y : Int) W, S W → Calls Tryz.prog 31 #[.int .i64 n, .int .i64 x, .int .i64 y] W fun e w' => e = .returned (.bool (betw n x y)) ∧ S w'
  nmi : ∀ (s : List UInt8) (p : Bool), s.length ≤ 140737488355328 → ∀ W, S W → Calls Tryz.prog 32 #[.string ⟨s.toArray⟩, .bool p] W fun e w' => e = .returned (.bool (nameIs s p)) ∧ S w'
  nam : ∀ s : List UInt8, s.length ≤ 140737488355328 → ∀ W, S W → Calls Tryz.prog 34 #[.string ⟨s.toArray⟩] W fun e w' => e = .returned (.bool (nameW s)) ∧ S w'
  ckv : ∀ v : Vl, v.s.length ≤ 140737488355328 → ∀ W, S W → Calls Tryz.prog 33 #[.agg #[.int .i64 v.k, .int .i64 v.n, .string ⟨v.s.toArray⟩]] W fun e w' => e = .returned (.int .i64 ((chkV v.k v.n v.s : Nat) : Int)) ∧ S w'
  smv : ∀ v : Vl, ∀ W, S W → Calls Tryz.prog 25 #[.agg #[.int .i64 v.k, .int .i64 v.n, .string ⟨v.s.toArray⟩], .agg #[.int .i64 0, .int .i64 0, .string ⟨#[]⟩]] W fun e w' => e = .returned (.bool (noneV v)) ∧ S w'
  ixe : ∀ W, S W → Calls Tryz.prog 35 #[.agg #[.int .i64 c.expr.k, .int .i64 c.expr.v.k, .int .i64 c.expr.v.n, .string ⟨c.expr.v.s.toArray⟩, .string ⟨c.expr.nm.toArray⟩, .slice a4 c.expr.args.length c4]] W fun e w' => e = .returned (.bool (exR c.expr)) ∧ S w'
  ixw : ∀ W, S W → Calls Tryz.prog 35 #[.agg #[.int .i64 c.wh.k, .int .i64 c.wh.v.k, .int .i64 c.wh.v.n, .string ⟨c.wh.v.s.toArray⟩, .string ⟨c.wh.nm.toArray⟩, .slice a5 c.wh.args.length c5]] W fun e w' => e = .returned (.bool (exR c.wh)) ∧ S w'
  noe : ∀ W, S W → Calls Tryz.prog 36 #[.agg #[.int .i64 c.expr.k, .int .i64 c.expr.v.k, .int .i64 c.expr.v.n, .string ⟨c.expr.v.s.toArray⟩, .string ⟨c.expr.nm.toArray⟩, .slice a4 c.expr.args.length c4]] W fun e w' => e = .returned (.bool (noneE c.expr)) ∧ S w'
  now : ∀ W, S W → Calls Tryz.prog 36 #[.agg #[.int .i64 c.wh.k, .int .i64 c.wh.v.k, .int .i64 c.wh.v.n, .string ⟨c.wh.v.s.toArray⟩, .string ⟨c.wh.nm.toArray⟩, .slice a5 c.wh.args.length c5]] W fun e w' => e = .returned (.bool (noneE c.wh)) ∧ S w'
theorem post_slot {P : Program} {fn : Func} {R : Ending → World → Prop} {a : Act} {w : World} {s : Nat} {v : Value} (hres : fn.results = #[.tmp s]) (hd : a.defers = []) (hv : a.tmps[s]? = some v) (h : R (.returned v) w) : bodyPost P fn R .ret a w := by
  refine bodyPost_ret (results_tmp hres _ _ _) hd ?_
  have e : a.tmps.getD s undef = v := by rw [Array.getD_eq_getD_getElem?, hv]; rfl
  rw [e]; exact h
theorem wp_as {P : Program} {Q : Exit → Act → World → Prop} {a : Act} {w : World} {x y : Code} (e : x = y) (h : y.wp P Q a w) : x.wp P Q a w := by rw [e]; exact h
noncomputable def cT8 : Code := .seq (.seq (.region 30 k30_R false) (.cond (.tmp 271) (.seq (.region 31 k31_R false) .ret) .skip)) (.seq (.region 32 k32_R false) .ret)
noncomputable def cT7 : Code := .seq (.seq (.region 27 k27_R false) (.cond (.tmp 248) (.region 28 k28_R false) (.region 29 k29_R false))) cT8
noncomputable def cT6 : Code := .seq (.seq (.region 24 k24_R false) (.cond (.tmp 229) (.region 25 k25_R false) (.region 26 k26_R false))) cT7
noncomputable def cT5 : Code := .seq (.seq (.region 22 k22_R false) (.cond (.tmp 211) (.region 23 k23_R false) .skip)) cT6
noncomputable def cB3 : Code := .block 4 (.loop (.seq (.seq (.region 19 k19_R false) (.cond (.tmp 198) .skip (.exit 4))) (.seq (.block 5 (.region 21 k21_R false)) (.region 20 k20_R false))))
noncomputable def cL3 : Code := .seq (.seq (.region 18 k18_R false) cB3) cT5
noncomputable def cB2 : Code := .block 2 (.loop (.seq (.seq (.region 15 k15_R false) (.cond (.tmp 181) .skip (.exit 2))) (.seq (.block 3 (.region 17 k17_R false)) (.region 16 k16_R false))))
noncomputable def cL2 : Code := .seq (.seq (.region 14 k14_R false) cB2) cL3
noncomputable def cB1 : Code := .block 0 (.loop (.seq (.seq (.region 11 k11_R false) (.cond (.tmp 155) .skip (.exit 0))) (.seq (.block 1 (.region 13 k13_R false)) (.region 12 k12_R false))))
noncomputable def cL1 : Code := .seq (.seq (.region 10 k10_R false) cB1) cL2
noncomputable def cT4 : Code := .seq (.region 9 k9_R false) cL1
noncomputable def cT3 : Code := .seq (.region 8 k8_R false) cT4
noncomputable def cT2 : Code := .seq (.seq (.region 5 k5_R false) (.cond (.tmp 82) (.region 6 k6_R false) (.region 7 k7_R false))) cT3
noncomputable def cT1 : Code := .seq (.region 4 ckr_R true) cT2
noncomputable def cT0 : Code := .seq (.region 3 k3_R false) cT1
def ansC (ok : Bool) : Value := .int .i64 (if ok = true then 0 else 1)
abbrev Rw1 (c : Cm) (a1 : Option Addr) (S : World → Prop) : Prop := 0 < c.cols.length → ∃ g o, a1 = some ⟨g, o, none⟩ ∧ ∀ W, S W → ∀ i x, c.cols[i]? = some x → W.cell? ⟨g, o + i * 2, none⟩ = some (.string ⟨x.name.toArray⟩) ∧ W.cell? ⟨g, o + i * 2 + 1, none⟩ = some (.int .i64 x.ty)
abbrev Rw2 (c : Cm) (a2 : Option Addr) (S : World → Prop) : Prop := 0 < c.vals.length → ∃ g o, a2 = some ⟨g, o, none⟩ ∧ ∀ W, S W → ∀ i x, c.vals[i]? = some x → W.cell? ⟨g, o + i * 3, none⟩ = some (.int .i64 x.k) ∧ W.cell? ⟨g, o + i * 3 + 1, none⟩ = some (.int .i64 x.n) ∧ W.cell? ⟨g, o + i * 3 + 2, none⟩ = some (.string ⟨x.s.toArray⟩)
abbrev Rw3 (c : Cm) (a3 : Option Addr) (S : World → Prop) : Prop := 0 < c.fields.length → ∃ g o, a3 = some ⟨g, o, none⟩ ∧ ∀ W, S W → ∀ i x, c.fields[i]? = some x → W.cell? ⟨g, o + i, none⟩ = some (.string ⟨x.toArray⟩)
def idxA (a : Act) (s : Nat) : Nat := match a.tmps[s]? with | some x => (intOf x).toNat | none => 0
theorem ckr_not (d : Nat) (h : some d ∉ ckr_d) {n : Nat} {V : Nat → Value} : ∀ p ∈ ckr_d.zip ((List.range n).map V), p.1 ≠ some d := by
  intro p hp e
  have := (List.of_mem_zip (a := p.1) (b := p.2) hp).1
  rw [e] at this
  exact h this
section
variable {c : Cm} {b : Nat} {a1 a2 a3 a4 a5 : Option Addr} {c1 c2 c3 c4 c5 : Nat} {S : World → Prop} {R : Ending → World → Prop} {a : Act} {w : World} {ok : Bool}
theorem st8 (h : Fr a b c.kind ok) (hS : S w) (hR : ∀ w', S w' → R (.returned (ansC ok)) w') : cT8.wp Tryz.prog (bodyPost Tryz.prog Tryz.f13 R) a w := by
  unfold cT8
  refine wp_seq (wp_seq ?_)
  refine k30_wp (S := S) h.t4 h.size hS ?_
  intro x w1 hS1 hd hz hn ho
  have g : Fr x b c.kind ok := h.stay hd hz (ho 1 (by decide)) (ho 3 (by decide)) (ho 4 (by decide))
  refine wp_cond_split (t := !ok) (eval_tmp (hn 1 271 rfl)) (fun ht => ?_) (fun ht => ?_)
  · refine wp_seq ?_
    refine k31_wp (S := S) g.size hS1 ?_
    intro y w2 hS2 hd2 _ hn2 _
    refine wp_ret ?_
    refine post_slot (v := .int .i64 1) rfl (hd2.trans g.defers) (hn2 0 2 rfl) ?_
    have := hR w2 hS2
    have e : ok = false := by simpa using ht
    rw [e] at this
    exact this
  · refine wp_skip ?_
    refine wp_seq ?_
    refine k32_wp (S := S) g.size hS1 ?_
    intro y w2 hS2 hd2 _ hn2 _
    refine wp_ret ?_
    refine post_slot (v := .int .i64 0) rfl (hd2.trans g.defers) (hn2 0 2 rfl) ?_
    have := hR w2 hS2
    have e : ok = true := by simpa using ht
    rw [e] at this
    exact this
def f7 (c : Cm) (ok : Bool) : Bool := if (betw c.kind 11 13 && !c.all) = true then ok && exR c.wh else (ok && noneE c.wh) && (betw c.kind 11 13 || !c.all)
theorem st7 (k : CkS c b a1 a2 a3 a4 a5 c1 c2 c3 c4 c5 S) (h : Fr a b c.kind ok) (hS : S w) (hR : ∀ w', S w' → R (.returned (ansC (f7 c ok))) w') : cT7.wp Tryz.prog (bodyPost Tryz.prog Tryz.f13 R) a w := by
  unfold cT7
  refine wp_seq (wp_seq ?_)
  refine k27_wp (S := S) h.t1 h.t3 k.cell (k.btw _ _ _) h.size hS ?_
  intro x w1 hS1 hd hz hn ho
  have g : Fr x b c.kind ok := h.stay hd hz (ho 1 (by decide)) (ho 3 (by decide)) (ho 4 (by decide))
  refine wp_cond_split (t := betw c.kind 11 13 && !c.all) (eval_tmp (hn 6 248 rfl)) (fun ht => ?_) (fun ht => ?_)
  · refine k28_wp (S := S) g.t1 g.t4 k.cell k.ixw g.size hS1 ?_
    intro y w2 hS2 hd2 hz2 hn2 ho2
    exact st8 (g.next hd2 hz2 (ho2 1 (by decide)) (ho2 3 (by decide)) (hn2 6 4 rfl)) hS2 (by simpa only [f7, if_pos ht] using hR)
  · refine k29_wp (S := S) g.t1 g.t3 g.t4 k.cell k.now (k.btw _ _ _) g.size hS1 ?_
    intro y w2 hS2 hd2 hz2 hn2 ho2
    exact st8 (g.next hd2 hz2 (ho2 1 (by decide)) (ho2 3 (by decide)) (hn2 15 4 rfl)) hS2 (by simpa only [f7, if_neg (show ¬ (betw c.kind 11 13 && !c.all) = true by rw [ht]; decide)] using hR)
def f6 (c : Cm) (ok : Bool) : Bool := f7 c (if c.kind = 12 then ok && exR c.expr else ok && noneE c.expr)
theorem st6 (k : CkS c b a1 a2 a3 a4 a5 c1 c2 c3 c4 c5 S) (h : Fr a b c.kind ok) (hS : S w) (hR : ∀ w', S w' → R (.returned (ansC (f6 c ok))) w') : cT6.wp Tryz.prog (bodyPost Tryz.prog Tryz.f13 R) a w := by
  unfold cT6
  refine wp_seq (wp_seq ?_)
  refine k24_wp (S := S) h.t3 h.size hS ?_
  intro x w1 hS1 hd hz hn ho
  have g : Fr x b c.kind ok := h.stay hd hz (ho 1 (by decide)) (ho 3 (by decide)) (ho 4 (by decide))
  refine wp_cond_split (t := decide (c.kind = 12)) (eval_tmp (hn 1 229 rfl)) (fun ht => ?_) (fun ht => ?_)
  · refine k25_wp (S := S) g.t1 g.t4 k.cell k.ixe g.size hS1 ?_
    intro y w2 hS2 hd2 hz2 hn2 ho2
    exact st7 k (g.next hd2 hz2 (ho2 1 (by decide)) (ho2 3 (by decide)) (hn2 6 4 rfl)) hS2 (by simpa only [f6, if_pos (of_decide_eq_true ht)] using hR)
  · refine k26_wp (S := S) g.t1 g.t4 k.cell k.noe g.size hS1 ?_
    intro y w2 hS2 hd2 hz2 hn2 ho2
    exact st7 k (g.next hd2 hz2 (ho2 1 (by decide)) (ho2 3 (by decide)) (hn2 6 4 rfl)) hS2 (by simpa only [f6, if_neg (of_decide_eq_false ht)] using hR)
def f5 (c : Cm) (ok : Bool) : Bool := f6 c (if c.kind = 13 then (ok && betw c.limit (-1) 999999999) && (decide (c.order = []) || nameW c.order) else ok)
theorem st5 (k : CkS c b a1 a2 a3 a4 a5 c1 c2 c3 c4 c5 S) (hf : CmFit c) (h : Fr a b c.kind ok) (hS : S w) (hR : ∀ w', S w' → R (.returned (ansC (f5 c ok))) w') : cT5.wp Tryz.prog (bodyPost Tryz.prog Tryz.f13 R) a w := by
  unfold cT5
  refine wp_seq (wp_seq ?_)
  refine k22_wp (S := S) h.t3 h.size hS ?_
  intro x w1 hS1 hd hz hn ho
  have g : Fr x b c.kind ok := h.stay hd hz (ho 1 (by decide)) (ho 3 (by decide)) (ho 4 (by decide))
  refine wp_cond_split (t := decide (c.kind = 13)) (eval_tmp (hn 1 211 rfl)) (fun ht => ?_) (fun ht => ?_)
  · refine k23_wp (S := S) g.t1 g.t4 k.cell (k.btw _ _ _) (k.nam _ hf.order) g.size hS1 ?_
    intro y w2 hS2 hd2 hz2 hn2 ho2
    exact st6 k (g.next hd2 hz2 (ho2 1 (by decide)) (ho2 3 (by decide)) (hn2 16 4 rfl)) hS2 (by simpa only [f5, if_pos (of_decide_eq_true ht)] using hR)
  · refine wp_skip ?_
    exact st6 k g hS1 (by simpa only [f5, if_neg (of_decide_eq_false ht)] using hR)
def fL3 (c : Cm) (ok : Bool) : Bool := f5 c (ok && c.fields.all nameW)
theorem lp3 {Q : Exit → Act → World → Prop} (k : CkS c b a1 a2 a3 a4 a5 c1 c2 c3 c4 c5 S) (hf : CmFit c)
    (hrows : 0 < c.fields.length → ∃ g o, a3 = some ⟨g, o, none⟩ ∧ ∀ W, S W → ∀ i x, c.fields[i]? = some x → W.cell? ⟨g, o + i, none⟩ = some (.string ⟨x.toArray⟩))
    (h : Fr a b c.kind ok) (h5 : a.tmps[7]? = some (.int .i64 0)) (hS : S w)
    (hq : ∀ a' w', Fr a' b c.kind (ok && c.fields.all nameW) → S w' → Q .normal a' w') : cB3.wp Tryz.prog Q a w := by
  unfold cB3
  refine wp_block ?_
  refine wp_loop (fun a w => ∃ i : Nat, i ≤ c.fields.length ∧ Fr a b c.kind (ok && (c.fields.take i).all nameW) ∧ a.tmps[7]? = some (.int .i64 (i : Int)) ∧ S w) (fun a _ => c.fields.length - idxA a 7) ⟨0, Nat.zero_le _, by simpa using h, h5, hS⟩ ?_
  rintro a w ⟨i, hi, h, h5, hS⟩
  refine wp_seq (wp_seq ?_)
  refine k19_wp (S := S) h.t1 h5 k.cell h.size hS ?_
  intro y w1 hS1 hd hz hn ho
  have g1 := h.stay hd hz (ho 1 (by decide)) (ho 3 (by decide)) (ho 4 (by decide))
  have g5 : y.tmps[7]? = some (.int .i64 (i : Int)) := (ho 7 (by decide)).trans h5
  refine wp_cond_split (t := decide ((i : Int) < ((c.fields.length : Nat) : Int))) (eval_tmp (hn 4 198 rfl)) (fun ht => ?_) (fun ht => ?_)
  · have hlt : i < c.fields.length := by have := of_decide_eq_true ht; omega
    refine wp_skip ?_
    refine wp_seq ?_
    refine wp_block ?_
    obtain ⟨x, hx⟩ : ∃ x, c.fields[i]? = some x := ⟨c.fields[i]'hlt, List.getElem?_eq_getElem hlt⟩
    obtain ⟨g, o, rfl, hrow⟩ := hrows (by omega)
    refine k21_wp (S := S) (g := g) (o := o) (x := x) g1.t1 g1.t4 g5 k.cell hlt (fun W hW => hrow W hW i x hx) (k.nam _ (hf.fieldsN x (List.mem_of_getElem? hx))) g1.size hS1 ?_
    intro z w2 hS2 hd2 hz2 hn2 ho2
    have g2 : Fr z b c.kind ((ok && (c.fields.take i).all nameW) && nameW x) := g1.next hd2 hz2 (ho2 1 (by decide)) (ho2 3 (by decide)) (hn2 9 4 rfl)
    have g6 : z.tmps[7]? = some (.int .i64 (i : Int)) := (ho2 7 (by decide)).trans g5
    have hfew := hf.fields
    refine k20_wp (S := S) g6 (by omega) g2.size hS2 ?_
    intro v w3 hS3 hd3 hz3 hn3 ho3
    have g7 : v.tmps[7]? = some (.int .i64 ((i + 1 : Nat) : Int)) := hn3 2 7 rfl
    refine ⟨⟨i + 1, by omega, ?_, g7, hS3⟩, ?_⟩
    · have g3 := g2.stay hd3 hz3 (ho3 1 (by decide)) (ho3 3 (by decide)) (ho3 4 (by decide))
      have e : (ok && (c.fields.take (i + 1)).all nameW) = ((ok && (c.fields.take i).all nameW) && nameW x) := by
        rw [List.take_add_one, hx]
        simp [List.all_append, Bool.and_assoc]
      rw [e]; exact g3
    · simp only [idxA, g7, h5, intOf, Int.toNat_natCast]; omega
  · have hlt : ¬ i < c.fields.length := by have := of_decide_eq_false ht; omega
    refine wp_exit ?_
    show Q .normal y w1
    refine hq y w1 ?_ hS1
    rw [List.take_of_length_le (by omega)] at g1
    exact g1
theorem sl3 (k : CkS c b a1 a2 a3 a4 a5 c1 c2 c3 c4 c5 S) (hf : CmFit c)
    (h3 : Rw3 c a3 S)
    (h : Fr a b c.kind ok) (hS : S w) (hR : ∀ w', S w' → R (.returned (ansC (fL3 c ok))) w') : cL3.wp Tryz.prog (bodyPost Tryz.prog Tryz.f13 R) a w := by
  unfold cL3
  refine wp_seq (wp_seq ?_)
  refine k18_wp (S := S) h.size hS ?_
  intro y w1 hS1 hd hz hn ho
  have g := h.stay hd hz (ho 1 (by decide)) (ho 3 (by decide)) (ho 4 (by decide))
  refine lp3 k hf h3 g (hn 0 7 rfl) hS1 ?_
  intro a' w' g' hS'
  exact st5 k hf g' hS' (by simpa only [fL3] using hR)
def fL2 (c : Cm) (ok : Bool) : Bool := fL3 c (ok && c.vals.all valB)
theorem lp2 {Q : Exit → Act → World → Prop} (k : CkS c b a1 a2 a3 a4 a5 c1 c2 c3 c4 c5 S) (hf : CmFit c)
    (hrows : 0 < c.vals.length → ∃ g o, a2 = some ⟨g, o, none⟩ ∧ ∀ W, S W → ∀ i x, c.vals[i]? = some x → W.cell? ⟨g, o + i * 3, none⟩ = some (.int .i64 x.k) ∧ W.cell? ⟨g, o + i * 3 + 1, none⟩ = some (.int .i64 x.n) ∧ W.cell? ⟨g, o + i * 3 + 2, none⟩ = some (.string ⟨x.s.toArray⟩))
    (h : Fr a b c.kind ok) (h5 : a.tmps[6]? = some (.int .i64 0)) (hS : S w)
    (hq : ∀ a' w', Fr a' b c.kind (ok && c.vals.all valB) → S w' → Q .normal a' w') : cB2.wp Tryz.prog Q a w := by
  unfold cB2
  refine wp_block ?_
  refine wp_loop (fun a w => ∃ i : Nat, i ≤ c.vals.length ∧ Fr a b c.kind (ok && (c.vals.take i).all valB) ∧ a.tmps[6]? = some (.int .i64 (i : Int)) ∧ S w) (fun a _ => c.vals.length - idxA a 6) ⟨0, Nat.zero_le _, by simpa using h, h5, hS⟩ ?_
  rintro a w ⟨i, hi, h, h5, hS⟩
  refine wp_seq (wp_seq ?_)
  refine k15_wp (S := S) h.t1 h5 k.cell h.size hS ?_
  intro y w1 hS1 hd hz hn ho
  have g1 := h.stay hd hz (ho 1 (by decide)) (ho 3 (by decide)) (ho 4 (by decide))
  have g5 : y.tmps[6]? = some (.int .i64 (i : Int)) := (ho 6 (by decide)).trans h5
  refine wp_cond_split (t := decide ((i : Int) < ((c.vals.length : Nat) : Int))) (eval_tmp (hn 4 181 rfl)) (fun ht => ?_) (fun ht => ?_)
  · have hlt : i < c.vals.length := by have := of_decide_eq_true ht; omega
    refine wp_skip ?_
    refine wp_seq ?_
    refine wp_block ?_
    obtain ⟨x, hx⟩ : ∃ x, c.vals[i]? = some x := ⟨c.vals[i]'hlt, List.getElem?_eq_getElem hlt⟩
    obtain ⟨g, o, rfl, hrow⟩ := hrows (by omega)
    refine k17_wp (S := S) (g := g) (o := o) (x := x) g1.t1 g1.t4 g5 k.cell hlt (fun W hW => (hrow W hW i x hx).1) (fun W hW => (hrow W hW i x hx).2.1) (fun W hW => (hrow W hW i x hx).2.2) (k.ckv _ (hf.valsN x (List.mem_of_getElem? hx))) g1.size hS1 ?_
    intro z w2 hS2 hd2 hz2 hn2 ho2
    have g2 : Fr z b c.kind ((ok && (c.vals.take i).all valB) && decide (((chkV x.k x.n x.s : Nat) : Int) = 0)) := g1.next hd2 hz2 (ho2 1 (by decide)) (ho2 3 (by decide)) (hn2 10 4 rfl)
    have g6 : z.tmps[6]? = some (.int .i64 (i : Int)) := (ho2 6 (by decide)).trans g5
    have hfew := hf.vals
    refine k16_wp (S := S) g6 (by omega) g2.size hS2 ?_
    intro v w3 hS3 hd3 hz3 hn3 ho3
    have g7 : v.tmps[6]? = some (.int .i64 ((i + 1 : Nat) : Int)) := hn3 2 6 rfl
    refine ⟨⟨i + 1, by omega, ?_, g7, hS3⟩, ?_⟩
    · have g3 := g2.stay hd3 hz3 (ho3 1 (by decide)) (ho3 3 (by decide)) (ho3 4 (by decide))
      have e : (ok && (c.vals.take (i + 1)).all valB) = ((ok && (c.vals.take i).all valB) && decide (((chkV x.k x.n x.s : Nat) : Int) = 0)) := by
        rw [List.take_add_one, hx]
        simp [List.all_append, Bool.and_assoc, valB]
      rw [e]; exact g3
    · simp only [idxA, g7, h5, intOf, Int.toNat_natCast]; omega
  · have hlt : ¬ i < c.vals.length := by have := of_decide_eq_false ht; omega
    refine wp_exit ?_
    show Q .normal y w1
    refine hq y w1 ?_ hS1
    rw [List.take_of_length_le (by omega)] at g1
    exact g1
theorem sl2 (k : CkS c b a1 a2 a3 a4 a5 c1 c2 c3 c4 c5 S) (hf : CmFit c)
    (h2 : Rw2 c a2 S)
    (h3 : Rw3 c a3 S)
    (h : Fr a b c.kind ok) (hS : S w) (hR : ∀ w', S w' → R (.returned (ansC (fL2 c ok))) w') : cL2.wp Tryz.prog (bodyPost Tryz.prog Tryz.f13 R) a w := by
  unfold cL2
  refine wp_seq (wp_seq ?_)
  refine k14_wp (S := S) h.size hS ?_
  intro y w1 hS1 hd hz hn ho
  have g := h.stay hd hz (ho 1 (by decide)) (ho 3 (by decide)) (ho 4 (by decide))
  refine lp2 k hf h2 g (hn 0 6 rfl) hS1 ?_
  intro a' w' g' hS'
  exact sl3 k hf h3 g' hS' (by simpa only [fL2] using hR)
def fL1 (c : Cm) (ok : Bool) : Bool := fL2 c (ok && c.cols.all (fun x => nameW x.name && betw x.ty 1 3))
theorem lp1 {Q : Exit → Act → World → Prop} (k : CkS c b a1 a2 a3 a4 a5 c1 c2 c3 c4 c5 S) (hf : CmFit c)
    (hrows : 0 < c.cols.length → ∃ g o, a1 = some ⟨g, o, none⟩ ∧ ∀ W, S W → ∀ i x, c.cols[i]? = some x → W.cell? ⟨g, o + i * 2, none⟩ = some (.string ⟨x.name.toArray⟩) ∧ W.cell? ⟨g, o + i * 2 + 1, none⟩ = some (.int .i64 x.ty))
    (h : Fr a b c.kind ok) (h5 : a.tmps[5]? = some (.int .i64 0)) (hS : S w)
    (hq : ∀ a' w', Fr a' b c.kind (ok && c.cols.all (fun x => nameW x.name && betw x.ty 1 3)) → S w' → Q .normal a' w') : cB1.wp Tryz.prog Q a w := by
  unfold cB1
  refine wp_block ?_
  refine wp_loop (fun a w => ∃ i : Nat, i ≤ c.cols.length ∧ Fr a b c.kind (ok && (c.cols.take i).all (fun x => nameW x.name && betw x.ty 1 3)) ∧ a.tmps[5]? = some (.int .i64 (i : Int)) ∧ S w) (fun a _ => c.cols.length - idxA a 5) ⟨0, Nat.zero_le _, by simpa using h, h5, hS⟩ ?_
  rintro a w ⟨i, hi, h, h5, hS⟩
  refine wp_seq (wp_seq ?_)
  refine k11_wp (S := S) h.t1 h5 k.cell h.size hS ?_
  intro y w1 hS1 hd hz hn ho
  have g1 := h.stay hd hz (ho 1 (by decide)) (ho 3 (by decide)) (ho 4 (by decide))
  have g5 : y.tmps[5]? = some (.int .i64 (i : Int)) := (ho 5 (by decide)).trans h5
  refine wp_cond_split (t := decide ((i : Int) < ((c.cols.length : Nat) : Int))) (eval_tmp (hn 4 155 rfl)) (fun ht => ?_) (fun ht => ?_)
  · have hlt : i < c.cols.length := by have := of_decide_eq_true ht; omega
    refine wp_skip ?_
    refine wp_seq ?_
    refine wp_block ?_
    obtain ⟨x, hx⟩ : ∃ x, c.cols[i]? = some x := ⟨c.cols[i]'hlt, List.getElem?_eq_getElem hlt⟩
    obtain ⟨g, o, rfl, hrow⟩ := hrows (by omega)
    refine k13_wp (S := S) (g := g) (o := o) (x := x) g1.t1 g1.t4 g5 k.cell hlt (fun W hW => by have := hrow W hW i x hx; exact this.1) (fun W hW => (hrow W hW i x hx).2) (k.nam _ (hf.colsN x (List.mem_of_getElem? hx))) (k.btw _ _ _) g1.size hS1 ?_
    intro z w2 hS2 hd2 hz2 hn2 ho2
    have g2 : Fr z b c.kind (((ok && (c.cols.take i).all (fun x => nameW x.name && betw x.ty 1 3)) && nameW x.name) && betw x.ty 1 3) := g1.next hd2 hz2 (ho2 1 (by decide)) (ho2 3 (by decide)) (hn2 19 4 rfl)
    have g6 : z.tmps[5]? = some (.int .i64 (i : Int)) := (ho2 5 (by decide)).trans g5
    have hfew := hf.cols
    refine k12_wp (S := S) g6 (by omega) g2.size hS2 ?_
    intro v w3 hS3 hd3 hz3 hn3 ho3
    have g7 : v.tmps[5]? = some (.int .i64 ((i + 1 : Nat) : Int)) := hn3 2 5 rfl
    refine ⟨⟨i + 1, by omega, ?_, g7, hS3⟩, ?_⟩
    · have g3 := g2.stay hd3 hz3 (ho3 1 (by decide)) (ho3 3 (by decide)) (ho3 4 (by decide))
      have e : (ok && (c.cols.take (i + 1)).all (fun x => nameW x.name && betw x.ty 1 3)) = (((ok && (c.cols.take i).all (fun x => nameW x.name && betw x.ty 1 3)) && nameW x.name) && betw x.ty 1 3) := by
        rw [List.take_add_one, hx]
        simp [List.all_append, Bool.and_assoc]
      rw [e]; exact g3
    · simp only [idxA, g7, h5, intOf, Int.toNat_natCast]; omega
  · have hlt : ¬ i < c.cols.length := by have := of_decide_eq_false ht; omega
    refine wp_exit ?_
    show Q .normal y w1
    refine hq y w1 ?_ hS1
    rw [List.take_of_length_le (by omega)] at g1
    exact g1
theorem sl1 (k : CkS c b a1 a2 a3 a4 a5 c1 c2 c3 c4 c5 S) (hf : CmFit c)
    (h1 : Rw1 c a1 S)
    (h2 : Rw2 c a2 S)
    (h3 : Rw3 c a3 S)
    (h : Fr a b c.kind ok) (hS : S w) (hR : ∀ w', S w' → R (.returned (ansC (fL1 c ok))) w') : cL1.wp Tryz.prog (bodyPost Tryz.prog Tryz.f13 R) a w := by
  unfold cL1
  refine wp_seq (wp_seq ?_)
  refine k10_wp (S := S) h.size hS ?_
  intro y w1 hS1 hd hz hn ho
  have g := h.stay hd hz (ho 1 (by decide)) (ho 3 (by decide)) (ho 4 (by decide))
  refine lp1 k hf h1 g (hn 0 5 rfl) hS1 ?_
  intro a' w' g' hS'
  exact sl2 k hf h2 h3 g' hS' (by simpa only [fL1] using hR)
def f4 (c : Cm) (ok : Bool) : Bool := fL1 c (((ok && (decide (c.kind = 1) == decide (0 < ((c.cols.length : Nat) : Int)))) && (decide (c.kind = 10) == decide (0 < ((c.vals.length : Nat) : Int)))) && (decide (c.kind = 13) || ((decide (((c.fields.length : Nat) : Int) = 0) && decide (c.order = [])) && decide (c.limit = 0))))
theorem st4 (k : CkS c b a1 a2 a3 a4 a5 c1 c2 c3 c4 c5 S) (hf : CmFit c)
    (h1 : Rw1 c a1 S)
    (h2 : Rw2 c a2 S)
    (h3 : Rw3 c a3 S)
    (h : Fr a b c.kind ok) (hS : S w) (hR : ∀ w', S w' → R (.returned (ansC (f4 c ok))) w') : cT4.wp Tryz.prog (bodyPost Tryz.prog Tryz.f13 R) a w := by
  unfold cT4
  refine wp_seq ?_
  refine k9_wp (S := S) h.t1 h.t3 h.t4 k.cell h.size hS ?_
  intro y w1 hS1 hd hz hn ho
  exact sl1 k hf h1 h2 h3 (h.next hd hz (ho 1 (by decide)) (ho 3 (by decide)) (hn 39 4 rfl)) hS1 (by simpa only [f4] using hR)
def f3 (c : Cm) (ok : Bool) : Bool := f4 c ((ok && decide (((chkV c.val.k c.val.n c.val.s : Nat) : Int) = 0)) && (decide (c.kind = 3) || noneV c.val))
theorem st3 (k : CkS c b a1 a2 a3 a4 a5 c1 c2 c3 c4 c5 S) (hf : CmFit c)
    (h1 : Rw1 c a1 S)
    (h2 : Rw2 c a2 S)
    (h3 : Rw3 c a3 S)
    (h : Fr a b c.kind ok) (hS : S w) (hR : ∀ w', S w' → R (.returned (ansC (f3 c ok))) w') : cT3.wp Tryz.prog (bodyPost Tryz.prog Tryz.f13 R) a w := by
  unfold cT3
  refine wp_seq ?_
  refine k8_wp (S := S) h.t1 h.t3 h.t4 k.cell (k.ckv _ hf.val) (k.smv _) h.size hS ?_
  intro y w1 hS1 hd hz hn ho
  exact st4 k hf h1 h2 h3 (h.next hd hz (ho 1 (by decide)) (ho 3 (by decide)) (hn 17 4 rfl)) hS1 (by simpa only [f3] using hR)
def f2 (c : Cm) (ok : Bool) : Bool := f3 c (if (decide (c.kind = 3) || decide (c.kind = 6)) = true then ok && betw c.ty 1 3 else ok && decide (c.ty = 0))
theorem st2 (k : CkS c b a1 a2 a3 a4 a5 c1 c2 c3 c4 c5 S) (hf : CmFit c)
    (h1 : Rw1 c a1 S)
    (h2 : Rw2 c a2 S)
    (h3 : Rw3 c a3 S)
    (h : Fr a b c.kind ok) (hS : S w) (hR : ∀ w', S w' → R (.returned (ansC (f2 c ok))) w') : cT2.wp Tryz.prog (bodyPost Tryz.prog Tryz.f13 R) a w := by
  unfold cT2
  refine wp_seq (wp_seq ?_)
  refine k5_wp (S := S) h.t3 h.size hS ?_
  intro x w1 hS1 hd hz hn ho
  have g : Fr x b c.kind ok := h.stay hd hz (ho 1 (by decide)) (ho 3 (by decide)) (ho 4 (by decide))
  refine wp_cond_split (t := decide (c.kind = 3) || decide (c.kind = 6)) (eval_tmp (hn 5 82 rfl)) (fun ht => ?_) (fun ht => ?_)
  · refine k6_wp (S := S) g.t1 g.t4 k.cell (k.btw _ _ _) g.size hS1 ?_
    intro y w2 hS2 hd2 hz2 hn2 ho2
    exact st3 k hf h1 h2 h3 (g.next hd2 hz2 (ho2 1 (by decide)) (ho2 3 (by decide)) (hn2 6 4 rfl)) hS2 (by simpa only [f2, if_pos ht] using hR)
  · refine k7_wp (S := S) g.t1 g.t4 k.cell g.size hS1 ?_
    intro y w2 hS2 hd2 hz2 hn2 ho2
    exact st3 k hf h1 h2 h3 (g.next hd2 hz2 (ho2 1 (by decide)) (ho2 3 (by decide)) (hn2 6 4 rfl)) hS2 (by simpa only [f2, if_neg (show ¬ (decide (c.kind = 3) || decide (c.kind = 6)) = true by rw [ht]; decide)] using hR)
def k1B (c : Cm) : Bool := (((betw c.kind 1 16 && nameIs c.name (decide (c.kind ≤ 13))) && nameIs c.other ((decide (c.kind = 5) || decide (c.kind = 7)) || decide (c.kind = 8))) && nameIs c.column ((betw c.kind 3 6 || decide (c.kind = 8)) || decide (c.kind = 12)))
theorem st1 (k : CkS c b a1 a2 a3 a4 a5 c1 c2 c3 c4 c5 S) (hf : CmFit c)
    (h1 : Rw1 c a1 S)
    (h2 : Rw2 c a2 S)
    (h3 : Rw3 c a3 S)
    (hz : a.tmps.size = 272) (hd : a.defers = []) (t1 : a.tmps[1]? = some (.pointer (some ⟨b, 0, none⟩))) (t3 : a.tmps[3]? = some (.int .i64 c.kind)) (hS : S w) (hR : ∀ w', S w' → R (.returned (ansC (f2 c (k1B c)))) w') : cT1.wp Tryz.prog (bodyPost Tryz.prog Tryz.f13 R) a w := by
  unfold cT1
  refine wp_seq ?_
  refine ckr_wp (S := S) t1 t3 k.cell (k.btw _ _ _) (k.nmi _ _ hf.name) (k.nmi _ _ hf.other) (k.btw _ _ _) (k.nmi _ _ hf.column) hz (k.drew _ hS) ?_
  intro w1 hS1
  refine st2 k hf h1 h2 h3 (ok := k1B c) ⟨?_, hd, ?_, ?_, ?_⟩ hS1 hR
  · rw [List.size_toArray, putL_length]; simpa using hz
  · rw [List.getElem?_toArray, putL_old _ _ 1 (ckr_not 1 (by decide))]; simpa using t1
  · rw [List.getElem?_toArray, putL_old _ _ 3 (ckr_not 3 (by decide))]; simpa using t3
  · rw [List.getElem?_toArray, frame_at (n := 40) ckr_nodup rfl 39 4 rfl (by simp [hz])]; rfl
theorem st0 (k : CkS c b a1 a2 a3 a4 a5 c1 c2 c3 c4 c5 S) (hf : CmFit c)
    (h1 : Rw1 c a1 S)
    (h2 : Rw2 c a2 S)
    (h3 : Rw3 c a3 S)
    (hz : a.tmps.size = 272) (hd : a.defers = []) (t1 : a.tmps[1]? = some (.pointer (some ⟨b, 0, none⟩))) (hS : S w) (hR : ∀ w', S w' → R (.returned (ansC (f2 c (k1B c)))) w') : cT0.wp Tryz.prog (bodyPost Tryz.prog Tryz.f13 R) a w := by
  unfold cT0
  refine wp_seq ?_
  refine k3_wp (S := S) t1 k.cell hz hS ?_
  intro y w1 hS1 hd1 hz1 hn ho
  exact st1 k hf h1 h2 h3 hz1 (hd1.trans hd) ((ho 1 (by decide)).trans t1) (hn 2 3 rfl) hS1 hR
end
theorem fin_pure (P1 P2 P3 P4 : Prop) [Decidable P1] [Decidable P2] [Decidable P3] [Decidable P4] (K T1 T2 V1 V2 L1 L2 L3 A1 A2 A3 S1 S2 X1 X2 X3 X4 Y : Bool) :
    (if P4 then (if P3 then (if P2 then ((((((((((if P1 then K && T1 else K && T2) && V1) && V2) && L1) && L2) && L3) && A1) && A2) && A3) && S1) && S2 else (((((((((if P1 then K && T1 else K && T2) && V1) && V2) && L1) && L2) && L3) && A1) && A2) && A3)) && X1 else (if P2 then ((((((((((if P1 then K && T1 else K && T2) && V1) && V2) && L1) && L2) && L3) && A1) && A2) && A3) && S1) && S2 else (((((((((if P1 then K && T1 else K && T2) && V1) && V2) && L1) && L2) && L3) && A1) && A2) && A3)) && X3) && X2 else ((if P3 then (if P2 then ((((((((((if P1 then K && T1 else K && T2) && V1) && V2) && L1) && L2) && L3) && A1) && A2) && A3) && S1) && S2 else (((((((((if P1 then K && T1 else K && T2) && V1) && V2) && L1) && L2) && L3) && A1) && A2) && A3)) && X1 else (if P2 then ((((((((((if P1 then K && T1 else K && T2) && V1) && V2) && L1) && L2) && L3) && A1) && A2) && A3) && S1) && S2 else (((((((((if P1 then K && T1 else K && T2) && V1) && V2) && L1) && L2) && L3) && A1) && A2) && A3)) && X3) && X4) && Y) = (K && (if P1 then T1 else T2) && (V1 && V2) && (L1 && L2 && L3) && A1 && A2 && A3 && (if P2 then S1 && S2 else true) && (if P3 then X1 else X3) && (if P4 then X2 else X4 && Y)) := by
  by_cases g1 : P1 <;> by_cases g2 : P2 <;> by_cases g3 : P3 <;> by_cases g4 : P4 <;> simp [g1, g2, g3, g4, Bool.and_assoc]
theorem fin_ref (c : Cm) : f2 c (k1B c) = refC c := by
  have e1 : decide (0 < ((c.cols.length : Nat) : Int)) = decide (0 < c.cols.length) := by rw [decide_eq_decide]; omega
  have e2 : decide (0 < ((c.vals.length : Nat) : Int)) = decide (0 < c.vals.length) := by rw [decide_eq_decide]; omega
  have e3 : decide (((c.fields.length : Nat) : Int) = 0) = decide (c.fields.length = 0) := by rw [decide_eq_decide]; omega
  have e4 : ∀ v : Vl, decide (((chkV v.k v.n v.s : Nat) : Int) = 0) = valB v := by intro v; unfold valB; rw [decide_eq_decide]; omega
  have e5 : (decide (c.kind = 3) || decide (c.kind = 6)) = decide (c.kind = 3 ∨ c.kind = 6) := by rw [Bool.decide_or]
  unfold f2 f3 f4 fL1 fL2 fL3 f5 f6 f7 k1B refC
  rw [e1, e2, e3, e4, e5]
  simp only [decide_eq_true_eq]
  exact fin_pure _ _ _ _ _ _ _ _ _ _ _ _ _ _ _ _ _ _ _ _ _ _
noncomputable def pln_R : Array Oper := ((Tryz.f85.body).bind (regionOf 1)).getD #[]
def pln_V (k : Int) (v : Vl) (nm : List UInt8) (ao : Option Addr) (n ca : Nat) (b : Nat) (j : Nat) : Value := ([.pointer (some ⟨b, 5, none⟩), .slice ao n ca, .int .i64 ((n : Nat) : Int), .pointer (some ⟨b, 0, none⟩), .int .i64 k, .int .i64 (argsR k), .bool (decide (((n : Nat) : Int) = (argsR k))), .bool (decide (((n : Nat) : Int) = (argsR k))), gw ((decide (((n : Nat) : Int) = (argsR k))) == true) (.pointer (some ⟨b, 0, none⟩)), gw ((decide (((n : Nat) : Int) = (argsR k))) == true) (.int .i64 k), gw ((decide (((n : Nat) : Int) = (argsR k))) == true) (.bool (decide (k = 2))), gw ((decide (((n : Nat) : Int) = (argsR k))) == true) (.bool (decide (k = 2))), gw (((decide (((n : Nat) : Int) = (argsR k))) == true) && ((decide (k = 2)) == false)) (.pointer (some ⟨b, 4, none⟩)), gw (((decide (((n : Nat) : Int) = (argsR k))) == true) && ((decide (k = 2)) == false)) (.string ⟨nm.toArray⟩), gw (((decide (((n : Nat) : Int) = (argsR k))) == true) && ((decide (k = 2)) == false)) (.bool (decide (nm = []))), gw ((decide (((n : Nat) : Int) = (argsR k))) == true) (.bool ((decide (k = 2)) || (decide (nm = [])))), .bool ((decide (((n : Nat) : Int) = (argsR k))) && ((decide (k = 2)) || (decide (nm = [])))), .bool ((decide (((n : Nat) : Int) = (argsR k))) && ((decide (k = 2)) || (decide (nm = [])))), gw (((decide (((n : Nat) : Int) = (argsR k))) && ((decide (k = 2)) || (decide (nm = [])))) == true) (.pointer (some ⟨b, 0, none⟩)), gw (((decide (((n : Nat) : Int) = (argsR k))) && ((decide (k = 2)) || (decide (nm = [])))) == true) (.int .i64 k), gw (((decide (((n : Nat) : Int) = (argsR k))) && ((decide (k = 2)) || (decide (nm = [])))) == true) (.bool (decide (k = 1))), gw (((decide (((n : Nat) : Int) = (argsR k))) && ((decide (k = 2)) || (decide (nm = [])))) == true) (.bool (decide (k = 1))), gw ((((decide (((n : Nat) : Int) = (argsR k))) && ((decide (k = 2)) || (decide (nm = [])))) == true) && ((decide (k = 1)) == false)) (.pointer (some ⟨b, 1, none⟩)), gw ((((decide (((n : Nat) : Int) = (argsR k))) && ((decide (k = 2)) || (decide (nm = [])))) == true) && ((decide (k = 1)) == false)) (.agg #[.int .i64 v.k, .int .i64 v.n, .string ⟨v.s.toArray⟩]), gw ((((decide (((n : Nat) : Int) = (argsR k))) && ((decide (k = 2)) || (decide (nm = [])))) == true) && ((decide (k = 1)) == false)) (.agg #[.int .i64 0, .int .i64 0, .string ⟨#[]⟩]), gw ((((decide (((n : Nat) : Int) = (argsR k))) && ((decide (k = 2)) || (decide (nm = [])))) == true) && ((decide (k = 1)) == false)) (.bool (noneV v)), gw (((decide (((n : Nat) : Int) = (argsR k))) && ((decide (k = 2)) || (decide (nm = [])))) == true) (.bool ((decide (k = 1)) || (noneV v))), .bool (((decide (((n : Nat) : Int) = (argsR k))) && ((decide (k = 2)) || (decide (nm = [])))) && ((decide (k = 1)) || (noneV v))), .bool (((decide (((n : Nat) : Int) = (argsR k))) && ((decide (k = 2)) || (decide (nm = [])))) && ((decide (k = 1)) || (noneV v)))] : List Value).getD j undef
def pln_d : List (Option Tmp) := [some 3, some 4, some 5, some 6, some 7, some 8, some 9, some 10, some 11, some 12, some 13, some 14, some 15, some 16, some 17, some 18, some 19, some 20, some 21, some 22, some 23, some 24, some 25, some 26, some 27, some 28, some 29, some 30, some 2]
theorem pln_nodup : pln_d.Nodup := by unfold pln_d; decide
theorem pln_wp {k : Int} {v : Vl} {nm : List UInt8} {ao : Option Addr} {n ca : Nat} {b : Nat} {S : World → Prop} {a0 : Act} {Q : Exit → Act → World → Prop} {w : World} (h1 : a0.tmps[1]? = some (.pointer (some ⟨b, 0, none⟩))) (hcell : ∀ W, S W → ∀ o x, ([.int .i64 k, .int .i64 v.k, .int .i64 v.n, .string ⟨v.s.toArray⟩, .string ⟨nm.toArray⟩, .slice ao n ca] : List Value)[o]? = some x → W.cell? ⟨b, o, none⟩ = some x) (q8 : ∀ W, S W → Calls Tryz.prog 130 #[.int .i64 k] W fun e w' => e = .returned (.int .i64 (argsR k)) ∧ S w') (q28 : ∀ W, S W → Calls Tryz.prog 25 #[.agg #[.int .i64 v.k, .int .i64 v.n, .string ⟨v.s.toArray⟩], .agg #[.int .i64 0, .int .i64 0, .string ⟨#[]⟩]] W fun e w' => e = .returned (.bool (noneV v)) ∧ S w') (ha : a0.tmps.size = 31) (hS : S w.drew)
    (hq : ∀ w', S w' → Q .normal { tmps := (putL a0.tmps.toList (pln_d.zip ((List.range 29).map (pln_V k v nm ao n ca b)))).toArray, defers := a0.defers } w') : (Code.region 1 pln_R true).wp Tryz.prog Q a0 w := by
  have hz : pln_R.size = 29 := by kernel_rfl
  refine wp_run (m := 31) (by kernel_rfl) hz (by kernel_rfl) (by kernel_rfl) pln_nodup ha ?_ hS hq
  refine us ?_ (obRU hz (by decide) (by kernel_rfl) fun _ _ s _ => ex_assign (x := .tmp 30) (by kernel_rfl) (s.u 27 30 (by kernel_rfl)))
  refine us ?_ (obRU hz (by decide) (by kernel_rfl) fun _ _ s _ => ex_pickA (G := true) (by kernel_rfl) (s.u 17 20 (by kernel_rfl)) (s.u 26 29 (by kernel_rfl)) rfl rfl)
  refine us ?_ (obRG true 17 20 true hz (by decide) (by kernel_rfl) rfl rfl fun hG _ _ s _ => ex_pickO (by kernel_rfl) (s.g 21 24 (by kernel_rfl) hG rfl) (s.u 25 28 (by kernel_rfl)) rfl hG)
  refine us ?_ (obRH _ 21 24 false hz (by decide) (by kernel_rfl) rfl rfl (fun hG _ _ s => ex_call2 (ts := #[24, 24]) (x := .tmp 26) (y := .tmp 27) (f := 25) cf25 (by kernel_rfl) rfl (s.g 23 26 (by kernel_rfl) hG rfl) (s.g 24 27 (by kernel_rfl) hG rfl)) q28)
  refine us ?_ (obRG _ 21 24 false hz (by decide) (by kernel_rfl) rfl rfl fun _ _ _ _ _ => ex_build24 (by kernel_rfl))
  refine us ?_ (obRG _ 21 24 false hz (by decide) (by kernel_rfl) rfl rfl fun hG _ W s hS => ex_load (x := .tmp 25) (t := 24) (by kernel_rfl) (s.g 22 25 (by kernel_rfl) hG rfl) (ld24 W _ 1 _ _ _ (hcell W hS 1 _ rfl) (hcell W hS 2 _ rfl) (hcell W hS 3 _ rfl)))
  refine us ?_ (obRG _ 21 24 false hz (by decide) (by kernel_rfl) rfl rfl fun _ _ W s _ => ex_field (x := .tmp 1) (t := 29) (f := 1) (by kernel_rfl) (s.b 1 (by kernel_rfl) h1) (fx1 W _))
  refine us ?_ (obRG true 17 20 true hz (by decide) (by kernel_rfl) rfl rfl fun hG _ _ s _ => ex_move (x := .tmp 23) (by kernel_rfl) (s.g 20 23 (by kernel_rfl) hG rfl))
  refine us ?_ (obRG true 17 20 true hz (by decide) (by kernel_rfl) rfl rfl fun hG _ W s _ => ex_bin (u := 3) (x := .tmp 22) (y := .const (.int .i64 1)) (by kernel_rfl) (s.g 19 22 (by kernel_rfl) hG rfl) (rfl) (eq3c W _ _ _ _))
  refine us ?_ (obRG true 17 20 true hz (by decide) (by kernel_rfl) rfl rfl fun hG _ W s hS => ex_load (x := .tmp 21) (t := 3) (by kernel_rfl) (s.g 18 21 (by kernel_rfl) hG rfl) (ld3 W _ 0 _ (hcell W hS 0 _ rfl)))
  refine us ?_ (obRG true 17 20 true hz (by decide) (by kernel_rfl) rfl rfl fun _ _ W s _ => ex_field (x := .tmp 1) (t := 29) (f := 0) (by kernel_rfl) (s.b 1 (by kernel_rfl) h1) (fx0 W _))
  refine us ?_ (obRU hz (by decide) (by kernel_rfl) fun _ _ s _ => ex_move (x := .tmp 19) (by kernel_rfl) (s.u 16 19 (by kernel_rfl)))
  refine us ?_ (obRU hz (by decide) (by kernel_rfl) fun _ _ s _ => ex_pickA (G := true) (by kernel_rfl) (s.u 7 10 (by kernel_rfl)) (s.u 15 18 (by kernel_rfl)) rfl rfl)
  refine us ?_ (obRG true 7 10 true hz (by decide) (by kernel_rfl) rfl rfl fun hG _ _ s _ => ex_pickO (by kernel_rfl) (s.g 11 14 (by kernel_rfl) hG rfl) (s.u 14 17 (by kernel_rfl)) rfl hG)
  refine us ?_ (obRG _ 11 14 false hz (by decide) (by kernel_rfl) rfl rfl fun hG _ W s _ => ex_bin (u := 9) (x := .tmp 16) (y := .const (.string ⟨#[]⟩)) (by kernel_rfl) (s.g 13 16 (by kernel_rfl) hG rfl) (rfl) (eq9 W _ _ _))
  refine us ?_ (obRG _ 11 14 false hz (by decide) (by kernel_rfl) rfl rfl fun hG _ W s hS => ex_load (x := .tmp 15) (t := 9) (by kernel_rfl) (s.g 12 15 (by kernel_rfl) hG rfl) (ld9 W _ 4 _ (hcell W hS 4 _ rfl)))
  refine us ?_ (obRG _ 11 14 false hz (by decide) (by kernel_rfl) rfl rfl fun _ _ W s _ => ex_field (x := .tmp 1) (t := 29) (f := 2) (by kernel_rfl) (s.b 1 (by kernel_rfl) h1) (fx2 W _))
  refine us ?_ (obRG true 7 10 true hz (by decide) (by kernel_rfl) rfl rfl fun hG _ _ s _ => ex_move (x := .tmp 13) (by kernel_rfl) (s.g 10 13 (by kernel_rfl) hG rfl))
  refine us ?_ (obRG true 7 10 true hz (by decide) (by kernel_rfl) rfl rfl fun hG _ W s _ => ex_bin (u := 3) (x := .tmp 12) (y := .const (.int .i64 2)) (by kernel_rfl) (s.g 9 12 (by kernel_rfl) hG rfl) (rfl) (eq3c W _ _ _ _))
  refine us ?_ (obRG true 7 10 true hz (by decide) (by kernel_rfl) rfl rfl fun hG _ W s hS => ex_load (x := .tmp 11) (t := 3) (by kernel_rfl) (s.g 8 11 (by kernel_rfl) hG rfl) (ld3 W _ 0 _ (hcell W hS 0 _ rfl)))
  refine us ?_ (obRG true 7 10 true hz (by decide) (by kernel_rfl) rfl rfl fun _ _ W s _ => ex_field (x := .tmp 1) (t := 29) (f := 0) (by kernel_rfl) (s.b 1 (by kernel_rfl) h1) (fx0 W _))
  refine us ?_ (obRU hz (by decide) (by kernel_rfl) fun _ _ s _ => ex_move (x := .tmp 9) (by kernel_rfl) (s.u 6 9 (by kernel_rfl)))
  refine us ?_ (obRU hz (by decide) (by kernel_rfl) fun _ W s _ => ex_bin (u := 3) (x := .tmp 5) (y := .tmp 8) (by kernel_rfl) (s.u 2 5 (by kernel_rfl)) (s.u 5 8 (by kernel_rfl)) (eq3c W _ _ _ _))
  refine us ?_ (obRC hz (by decide) (by kernel_rfl) (fun _ _ s => ex_call1 (ts := #[3]) (x := .tmp 7) (f := 130) cf130 (by kernel_rfl) rfl (s.u 4 7 (by kernel_rfl))) q8)
  refine us ?_ (obRU hz (by decide) (by kernel_rfl) fun _ W s hS => ex_load (x := .tmp 6) (t := 3) (by kernel_rfl) (s.u 3 6 (by kernel_rfl)) (ld3 W _ 0 _ (hcell W hS 0 _ rfl)))
  refine us ?_ (obRU hz (by decide) (by kernel_rfl) fun _ W s _ => ex_field (x := .tmp 1) (t := 29) (f := 0) (by kernel_rfl) (s.b 1 (by kernel_rfl) h1) (fx0 W _))
  refine us ?_ (obRU hz (by decide) (by kernel_rfl) fun _ W s _ => ex_len (ts := #[27]) (x := .tmp 4) (by kernel_rfl) (fun ty => len27 W ao n ca ty) (s.u 1 4 (by kernel_rfl)))
  refine us ?_ (obRU hz (by decide) (by kernel_rfl) fun _ W s hS => ex_load (x := .tmp 3) (t := 27) (by kernel_rfl) (s.u 0 3 (by kernel_rfl)) (ld27 W _ 5 _ (hcell W hS 5 _ rfl)))
  refine us ?_ (obRU hz (by decide) (by kernel_rfl) fun _ W s _ => ex_field (x := .tmp 1) (t := 29) (f := 3) (by kernel_rfl) (s.b 1 (by kernel_rfl) h1) (fx3 W _))
  exact fun j hj => absurd hj (Nat.not_lt_zero j)
theorem between_rw {n a b : Int} {r : Bool} (h : (decide (a ≤ n) && decide (n ≤ b)) = r) (w : World) :
    Calls Tryz.prog 31 #[.int .i64 n, .int .i64 a, .int .i64 b] w fun e w' => e = .returned (.bool r) ∧ w' = w := by
  rw [← h]; exact between_any n a b w
theorem refI_any (n : Int) (w : World) : Calls Tryz.prog 81 #[.int .i64 n] w fun e w' => e = .returned (.bool (isInt n)) ∧ w' = w := by
  go_enter Tryz.func81, Tryz.ntmps81
  go_wp2_with (go_at_call 31; refine (between_any _ _ _ _).mono ?_; rintro e w' ⟨rfl, rfl⟩)
  go_ret
  exact ⟨ret_bool (by rfl), rfl⟩
theorem all_at (s : ByteArray) : s.data.toList.all isQ = true ↔ ∀ j (h : j < s.size), isQ s[j] = true := by
  rw [List.all_eq_true]
  constructor
  · intro h j hj
    exact h _ (by
      have : s[j] = s.data[j] := rfl
      rw [this]
      exact Array.mem_toList_iff.2 (Array.getElem_mem _))
  · intro h c hc
    obtain ⟨j, hj, rfl⟩ := List.getElem_of_mem hc
    have hj' : j < s.size := by
      have : s.data.toList.length = s.size := Array.length_toList
      omega
    have := h j hj'
    rw [Array.getElem_toList]
    exact this
theorem ckv_bad (K N : Int) (s : ByteArray) (w : World) (hK : (decide (0 ≤ K) && decide (K ≤ 3)) = false) :
    Calls Tryz.prog 33 #[.agg #[.int .i64 K, .int .i64 N, .string s]] w fun e w' => e = .returned (.int .i64 7) ∧ Below w.heap.size w w' := by
  have hb := between_rw hK
  clear hK
  go_enter Tryz.func33, Tryz.ntmps33
  go_wp2_with (go_at_call 31; refine (hb _).mono ?_; rintro e w' ⟨rfl, hw'⟩; obtain rfl := hw'.symm; clear hw')
  go_ret
  exact ⟨rfl, (Below.refl _ _).alloc (Nat.le_refl _) _⟩
def errB (b : Bool) : Int := if b = true then 0 else 3
theorem ckv_0 (N : Int) (s : ByteArray) (w : World) (b d : Bool) (hN : (N == 0) = b) (hS : s.toList.isEmpty = d) :
    Calls Tryz.prog 33 #[.agg #[.int .i64 0, .int .i64 N, .string s]] w fun e w' => e = .returned (.int .i64 (errB (b && d))) ∧ Below w.heap.size w w' := by
  have hb := between_rw (n := 0) (a := 0) (b := 3) (r := true) (by decide)
  cases b <;> cases d
  all_goals
    go_enter Tryz.func33, Tryz.ntmps33
    go_wp2_with (go_at_call 31; refine (hb _).mono ?_; rintro e w' ⟨rfl, hw'⟩; obtain rfl := hw'.symm; clear hw')
    go_ret
    exact ⟨rfl, (Below.refl _ _).alloc (Nat.le_refl _) _⟩
theorem ckv_1 (N : Int) (s : ByteArray) (w : World) (b d : Bool) (hN : isInt N = b) (hS : s.toList.isEmpty = d) :
    Calls Tryz.prog 33 #[.agg #[.int .i64 1, .int .i64 N, .string s]] w fun e w' => e = .returned (.int .i64 (errB (b && d))) ∧ Below w.heap.size w w' := by
  have hb := between_rw (n := 1) (a := 0) (b := 3) (r := true) (by decide)
  have hi := fun W => refI_any N W
  rw [hN] at hi
  clear hN
  cases b <;> cases d
  all_goals
    go_enter Tryz.func33, Tryz.ntmps33
    go_wp2_with (first | (go_at_call 31; refine (hb _).mono ?_; rintro e w' ⟨rfl, hw'⟩; obtain rfl := hw'.symm; clear hw') | (go_at_call 81; refine (hi _).mono ?_; rintro e w' ⟨rfl, hw'⟩; obtain rfl := hw'.symm; clear hw'))
    go_ret
    exact ⟨rfl, (Below.refl _ _).alloc (Nat.le_refl _) _⟩
theorem ckv_3 (N : Int) (s : ByteArray) (w : World) (b d : Bool) (hN : (decide (0 ≤ N) && decide (N ≤ 1)) = b) (hS : s.toList.isEmpty = d) :
    Calls Tryz.prog 33 #[.agg #[.int .i64 3, .int .i64 N, .string s]] w fun e w' => e = .returned (.int .i64 (errB (b && d))) ∧ Below w.heap.size w w' := by
  have hb := between_rw (n := 3) (a := 0) (b := 3) (r := true) (by decide)
  have hi := between_rw hN
  clear hN
  cases b <;> cases d
  all_goals
    go_enter Tryz.func33, Tryz.ntmps33
    go_wp2_with fail
    refine (hb _).mono ?_
    rintro e w' ⟨rfl, hw'⟩
    obtain rfl := hw'.symm
    clear hw' hb
    go_wp2_with fail
    refine (hi _).mono ?_
    rintro e w' ⟨rfl, hw'⟩
    obtain rfl := hw'.symm
    clear hw' hi
    go_wp2
    go_ret
    exact ⟨rfl, (Below.refl _ _).alloc (Nat.le_refl _) _⟩
theorem ckv_2n (N : Int) (s : ByteArray) (w : World) (h : (N == 0) = false ∨ ((N == 0) = true ∧ 20 < s.size)) (hs : s.size ≤ 140737488355328) :
    Calls Tryz.prog 33 #[.agg #[.int .i64 2, .int .i64 N, .string s]] w fun e w' => e = .returned (.int .i64 3) ∧ Below w.heap.size w w' := by
  have hb := between_rw (n := 2) (a := 0) (b := 3) (r := true) (by decide)
  rcases h with h | ⟨h, h'⟩
  all_goals
    go_enter Tryz.func33, Tryz.ntmps33
    go_wp2_with (go_at_call 31; refine (hb _).mono ?_; rintro e w' ⟨rfl, hw'⟩; obtain rfl := hw'.symm; clear hw')
    clear hb
    go_loop [3, 4] (fun o i => o = .bool false ∧ i = .int .i64 0) (fun _ _ => 0)
    case atStart => exact ⟨by first | rfl | (rw [decide_eq_false (by omega)]), rfl⟩
    case round =>
      obtain ⟨rfl, rfl⟩ := hrel
      go_wp2
      all_goals go_ret
      all_goals exact ⟨rfl, (Below.refl _ _).alloc (Nat.le_refl _) _⟩
theorem ckv_2y (s : ByteArray) (w : World) (hz : s.size ≤ 20) (r : Bool) (Hr : Hid (s.data.toList.all isQ = r)) :
    Calls Tryz.prog 33 #[.agg #[.int .i64 2, .int .i64 0, .string s]] w fun e w' => e = .returned (.int .i64 (errB r)) ∧ Below w.heap.size w w' := by
  have hb := between_rw (n := 2) (a := 0) (b := 3) (r := true) (by decide)
  go_enter Tryz.func33, Tryz.ntmps33
  go_wp2_with (go_at_call 31; refine (hb _).mono ?_; rintro e w' ⟨rfl, hw'⟩; obtain rfl := hw'.symm; clear hw')
  clear hb
  go_loop [3, 4] (fun o i => ∃ (n : Nat) (b : Bool), n ≤ s.size ∧ i = .int .i64 n ∧ o = .bool b ∧ Hid ((b = true → ∀ j (h : j < s.size), j < n → isQ s[j] = true) ∧ (b = false → ∃ j, ∃ h : j < s.size, isQ s[j] = false))) (fun _ i => s.size - (intOf i).toNat)
  case atStart => exact ⟨0, true, by omega, rfl, by rw [decide_eq_true (by omega)], ⟨fun _ j _ h => absurd h (by omega), fun h => by cases h⟩⟩
  case round =>
    obtain ⟨n, b, hn, rfl, rfl, HE⟩ := hrel
    cases b with
    | false =>
      have HF : Hid (s.data.toList.all isQ = false) := by
        obtain ⟨j, hj, hq⟩ := HE.out.2 rfl
        rw [Hid, Bool.eq_false_iff]
        intro h
        have := (all_at s).1 h j hj
        rw [hq] at this
        cases this
      clear HE
      go_wp2
      all_goals go_ret
      all_goals exact ⟨by rw [show r = false from Hr.out.symm.trans HF.out]; rfl, (Below.refl _ _).alloc (Nat.le_refl _) _⟩
    | true =>
      by_cases hlt : n < s.size
      · have hq := fun W => refQ_any s[n] W
        have HG : Hid ((isQ s[n] = true → ∀ j (h : j < s.size), j < n + 1 → isQ s[j] = true) ∧ (isQ s[n] = false → ∃ j, ∃ h : j < s.size, isQ s[j] = false)) := by
          refine ⟨fun h j hj hj' => ?_, fun h => ⟨n, hlt, h⟩⟩
          by_cases e : j = n
          · subst e; exact h
          · exact HE.out.1 rfl j hj (by omega)
        generalize isQ s[n] = q at hq HG
        clear HE
        go_wp2_with (go_at_call 82; refine (hq _).mono ?_; rintro e w' ⟨rfl, hw'⟩; obtain rfl := hw'.symm; clear hw')
        go_round
        case rel => exact ⟨n + 1, q, by omega, by go_num, rfl, HG⟩
        case measure => simp [intOf]; omega
      · have HF : Hid (s.data.toList.all isQ = true) := (all_at s).2 fun j hj => HE.out.1 rfl j hj (by omega)
        clear HE
        go_wp2
        all_goals go_ret
        all_goals exact ⟨by rw [show r = true from Hr.out.symm.trans HF.out]; rfl, (Below.refl _ _).alloc (Nat.le_refl _) _⟩
theorem errB_chk (b : Bool) : errB b = ((if b = true then 0 else 3 : Nat) : Int) := by cases b <;> rfl
theorem ckv_any (K N : Int) (s : ByteArray) (w : World) (hs : s.size ≤ 140737488355328) :
    Calls Tryz.prog 33 #[.agg #[.int .i64 K, .int .i64 N, .string s]] w fun e w' => e = .returned (.int .i64 (chkV K N s.data.toList : Nat)) ∧ Below w.heap.size w w' := by
  have hS := empty_iff s
  by_cases h0 : K = 0
  · subst h0
    have e : chkV 0 N s.data.toList = if ((N == 0) && decide (s.data.toList = [])) = true then 0 else 3 := by simp [chkV]
    rw [e, ← errB_chk]
    exact ckv_0 N s w _ _ rfl hS
  by_cases h1 : K = 1
  · subst h1
    have e : chkV 1 N s.data.toList = if (isInt N && decide (s.data.toList = [])) = true then 0 else 3 := by simp [chkV]
    rw [e, ← errB_chk]
    exact ckv_1 N s w _ _ rfl hS
  by_cases h3 : K = 3
  · subst h3
    have e : chkV 3 N s.data.toList = if ((decide (0 ≤ N) && decide (N ≤ 1)) && decide (s.data.toList = [])) = true then 0 else 3 := by
      have : (N = 0 ∨ N = 1) ↔ (0 ≤ N ∧ N ≤ 1) := by omega
      simp [chkV, this]
    rw [e, ← errB_chk]
    exact ckv_3 N s w _ _ rfl hS
  by_cases h2 : K = 2
  · subst h2
    have hl : s.data.toList.length = s.size := Array.length_toList
    by_cases hN : N = 0
    · subst hN
      by_cases hz : s.size ≤ 20
      · have e : chkV 2 0 s.data.toList = if (s.data.toList.all isQ) = true then 0 else 3 := by
          simp only [chkV, quotB, hl]
          simp [hz]
        rw [e, ← errB_chk]
        exact ckv_2y s w hz _ rfl
      · have e : chkV 2 0 s.data.toList = 3 := by
          simp only [chkV, quotB, hl]
          simp [hz]
        rw [e]
        exact ckv_2n 0 s w (Or.inr ⟨rfl, by omega⟩) hs
    · have e : chkV 2 N s.data.toList = 3 := by simp [chkV, hN]
      rw [e]
      exact ckv_2n N s w (Or.inl (by simpa using hN)) hs
  have e : chkV K N s.data.toList = 7 := by simp [chkV, h0, h1, h2, h3]
  rw [e]
  refine ckv_bad K N s w ?_
  rw [Bool.and_eq_false_iff, decide_eq_false_iff_not, decide_eq_false_iff_not]
  omega
theorem args_any (k : Int) (w : World) : Calls Tryz.prog 130 #[.int .i64 k] w fun e w' => e = .returned (.int .i64 (argsR k)) ∧ Below w.heap.size w w' := by
  by_cases hk : k < 1 ∨ 11 < k
  · have hb : (decide (1 ≤ k) && decide (k ≤ 11)) = false := by
      rcases hk with h | h
      · have : ¬ 1 ≤ k := by omega
        simp [this]
      · have : ¬ k ≤ 11 := by omega
        simp [this]
    have e : argsR k = -1 := by rw [argsR, if_pos hk]
    rw [e]
    have hbt := between_rw hb
    clear e hk hb
    go_enter Tryz.func130, Tryz.ntmps130
    go_wp2_with (go_at_call 31; refine (hbt _).mono ?_; rintro e w' ⟨rfl, hw'⟩; obtain rfl := hw'.symm; clear hw')
    go_ret
    exact ⟨rfl, Below.refl _ _⟩
  · have hb : (decide (1 ≤ k) && decide (k ≤ 11)) = true := by
      have h1 : 1 ≤ k := by omega
      have h2 : k ≤ 11 := by omega
      simp [h1, h2]
    have hc : k = 1 ∨ k = 2 ∨ k = 3 ∨ k = 4 ∨ k = 5 ∨ k = 6 ∨ k = 7 ∨ k = 8 ∨ k = 9 ∨ k = 10 ∨ k = 11 := by omega
    rcases hc with rfl | rfl | rfl | rfl | rfl | rfl | rfl | rfl | rfl | rfl | rfl
    all_goals
      have hbt := between_rw hb
      clear hb hk
      go_enter Tryz.func130, Tryz.ntmps130
      go_wp2_with (go_at_call 31; refine (hbt _).mono ?_; rintro e w' ⟨rfl, hw'⟩; obtain rfl := hw'.symm; clear hw')
      go_ret
      exact ⟨rfl, (Below.refl _ _).alloc (Nat.le_refl _) _⟩
theorem nameIs_any (s : List UInt8) (b : Bool) (w : World) (hs : s.length ≤ 140737488355328) : Calls Tryz.prog 32 #[.string ⟨s.toArray⟩, .bool b] w fun e w' => e = .returned (.bool (nameIs s b)) ∧ Below w.heap.size w w' := by
  have hn := rname_any ⟨s.toArray⟩ w (by rw [size_mk]; omega)
  have e0 : (⟨s.toArray⟩ : ByteArray).data.toList = s := by simp
  rw [e0] at hn
  cases b with
  | true =>
    show Calls _ _ _ _ fun e w' => e = .returned (.bool (nameW s)) ∧ _
    generalize nameW s = r at hn ⊢
    go_enter Tryz.func32, Tryz.ntmps32
    go_wp2_with (go_at_call 34; refine hn.mono ?_; rintro e w' ⟨rfl, b1⟩)
    go_ret
    exact ⟨rfl, b1⟩
  | false =>
    have e1 : nameIs s false = s.isEmpty := by unfold nameIs; cases s <;> simp
    rw [e1]
    clear hn
    go_enter Tryz.func32, Tryz.ntmps32
    go_wp2
    go_ret
    exact ⟨ret_bool (by simp), Below.refl _ _⟩
theorem eqV_none (x : Vl) : eqV x ⟨0, 0, []⟩ = noneV x := rfl
theorem noX_any (x : Ex) (ao : Option Addr) (ca : Nat) (w : World) :
    Calls Tryz.prog 36 #[.agg #[.int .i64 x.k, .int .i64 x.v.k, .int .i64 x.v.n, .string ⟨x.v.s.toArray⟩, .string ⟨x.nm.toArray⟩, .slice ao x.args.length ca]] w fun e w' => e = .returned (.bool (noneE x)) ∧ Below w.heap.size w w' := by
  have hsv := fun W => sameV_any x.v ⟨0, 0, []⟩ W
  rw [eqV_none] at hsv
  unfold noneE
  generalize noneV x.v = B at hsv ⊢
  have hk : (x.k == 0) = decide (x.k = 0) := by rw [Bool.eq_iff_iff]; simp
  have hn : x.nm.isEmpty = decide (x.nm = []) := by cases x.nm <;> simp
  have ha : ((x.args.length : Int) == 0) = decide (x.args = []) := by rw [Bool.eq_iff_iff]; cases x.args <;> simp; omega
  generalize decide (x.k = 0) = K at hk ⊢
  generalize decide (x.nm = []) = M at hn ⊢
  generalize decide (x.args = []) = A at ha ⊢
  have b0 : ∀ o, Below w.heap.size w (w.alloc o) := fun o => (Below.refl _ _).alloc (Nat.le_refl _) o
  cases K <;> cases M <;> cases A
  all_goals
    go_enter Tryz.func36, Tryz.ntmps36
    go_wp2_with (go_at_call 25; refine (hsv _).mono ?_; rintro e w1 ⟨rfl, b1⟩)
    go_ret
    first | exact ⟨ret_bool (by simp), b0 _⟩ | exact ⟨ret_bool (by simp), (b0 _).trans (b1.mono (by simp))⟩
def HeldX (w : World) (k : Int) (v : Vl) (nm : List UInt8) (a : Value) (W : World) : Prop :=
  (∀ o x, ([.int .i64 k, .int .i64 v.k, .int .i64 v.n, .string ⟨v.s.toArray⟩, .string ⟨nm.toArray⟩, a] : List Value)[o]? = some x → W.cell? ⟨w.heap.size, o, none⟩ = some x) ∧ Below w.heap.size w W ∧ w.heap.size + 1 ≤ W.heap.size
theorem HeldX.start (w : World) (k : Int) (v : Vl) (nm : List UInt8) (a : Value) : HeldX w k v nm a (w.alloc (.cells #[.int .i64 k, .int .i64 v.k, .int .i64 v.n, .string ⟨v.s.toArray⟩, .string ⟨nm.toArray⟩, a] 29)) := by
  refine ⟨fun o x hx => ?_, (Below.refl _ _).alloc (Nat.le_refl _) _, by simp⟩
  rw [Lib.cell_of_heap (heap_alloc_new w _)]; simpa using hx
theorem HeldX.below {w : World} {k : Int} {v : Vl} {nm : List UInt8} {a : Value} {W W' : World} (h : HeldX w k v nm a W) (hb : Below W.heap.size W W') : HeldX w k v nm a W' := by
  obtain ⟨h1, h3, h4⟩ := h
  exact ⟨fun o x hx => (hb.cell (p := ⟨w.heap.size, o, none⟩) (by show w.heap.size < _; omega)).trans (h1 o x hx), h3.trans (hb.mono h3.size), Nat.le_trans h4 hb.size⟩
theorem HeldX.drew {w : World} {k : Int} {v : Vl} {nm : List UInt8} {a : Value} {W : World} (h : HeldX w k v nm a W) : HeldX w k v nm a W.drew := ⟨h.1, h.2.1.drew, h.2.2⟩
theorem plain_any (k : Int) (v : Vl) (nm : List UInt8) (ao : Option Addr) (n ca : Nat) (w : World) :
    Calls Tryz.prog 85 #[exV k v nm (.slice ao n ca)] w fun e w' => e = .returned (.bool (plainK k v nm n)) ∧ Below w.heap.size w w' := by
  have H0 := hide (HeldX.start w k v nm (.slice ao n ca))
  have hq1 := hide (args_any k)
  have hq2 := hide (fun W => sameV_any v ⟨0, 0, []⟩ W)
  unfold exV
  go_enter Tryz.func85, Tryz.ntmps85
  go_wp2_with fail
  refine wp_region_as pln_R (by kernel_rfl) ?_
  refine pln_wp (k := k) (v := v) (nm := nm) (ao := ao) (n := n) (ca := ca) (b := w.heap.size) (S := HeldX w k v nm (.slice ao n ca)) rfl (fun W h => h.1) (fun W h => (hq1.out W).mono fun e w' q => ⟨q.1, h.below q.2⟩) (fun W h => (hq2.out W).mono fun e w' q => ⟨q.1, h.below q.2⟩) rfl H0.out.drew ?_
  intro w' hS
  refine ‹∀ (a : Act) (w : World), Code.wp _ _ _ a w → _› _ _ ?_
  refine wp_ret ?_
  exact post_frame 28 rfl pln_nodup rfl rfl (by simp) ⟨rfl, hS.2.1⟩
theorem min_step (n s e : Nat) (h : n ≤ e) : n + min s (e - n + 1) = min (n + s) (e + 1) := by omega
theorem sizeL_take (l : List Ex) (i : Nat) (y : Ex) (h : l[i]? = some y) : sizeL (l.take (i + 1)) = sizeL (l.take i) + sizeE y := by
  induction l generalizing i with
  | nil => simp at h
  | cons z r ih =>
    cases i with
    | zero => simp at h; subst h; simp [sizeL]
    | succ i =>
      have := ih i (by simpa using h)
      simp only [List.take_succ_cons, sizeL]
      omega
theorem sizeL_pre (l : List Ex) (i : Nat) : sizeL (l.take i) ≤ sizeL l := by
  induction l generalizing i with
  | nil => simp
  | cons z r ih =>
    cases i with
    | zero => simp [sizeL]
    | succ i => have := ih i; simp only [List.take_succ_cons, sizeL]; omega
theorem partsOf_core (k : Int) (x : Vl) (nm : List UInt8) (ao : Option Addr) (n ca e : Nat) (xs : List Ex) (us : Nat → Value) (w : World) (hx : xs.length = n) (he : e ≤ 15)
    (h1 : 0 < n → ∃ g o, ao = some ⟨g, o, none⟩ ∧ g < w.heap.size ∧ (∀ i, i < n → Six w g (o + 6 * i) (us i))) (hn : n ≤ 1000000000000000)
    (hc : ∀ i y, xs[i]? = some y → ∀ e : Nat, e ≤ 15 → ∀ W, Below w.heap.size w W → Calls Tryz.prog 30 #[us i, .int .i64 (e : Nat)] W fun r w' => r = .returned (.int .i64 ((min (sizeE y) (e + 1) : Nat))) ∧ Below W.heap.size W w') :
    Calls Tryz.prog 30 #[exV k x nm (.slice ao n ca), .int .i64 (e : Nat)] w fun r w' => r = .returned (.int .i64 ((min (1 + sizeL xs) (e + 1) : Nat))) ∧ Below w.heap.size w w' := by
  have b0 : ∀ o, Below w.heap.size w (w.alloc o) := fun o => (Below.refl _ _).alloc (Nat.le_refl _) o
  have H1 := hide h1
  have HC := hide hc
  clear h1 hc
  unfold exV
  go_enter Tryz.func30, Tryz.ntmps30
  go_wp2
  go_loopw [5, 6] (fun r i wl => ∃ (m k : Nat), r = .int .i64 (m : Nat) ∧ i = .int .i64 (k : Nat) ∧ k ≤ n ∧ m = min (1 + sizeL (xs.take k)) (e + 1) ∧ m ≤ 16 ∧ wl.cell? ⟨w.heap.size, 5, none⟩ = some (.slice ao n ca) ∧ Below w.heap.size w wl ∧ w.heap.size + 1 ≤ wl.heap.size) (fun _ i _ => n - (intOf i).toNat)
  case atStart => exact ⟨1, 0, rfl, rfl, Nat.zero_le _, by simp [sizeL], by omega, by simp, b0 _, by simp⟩
  case round =>
    obtain ⟨m, i, rfl, rfl, hi, hm, hm16, d0, hnx, hsz⟩ := hrel
    have HM := hide hm
    clear hm
    by_cases hlt : i < n
    · by_cases hme : m ≤ e
      · obtain ⟨y, hy1⟩ : ∃ y, xs[i]? = some y := ⟨xs[i]'(by omega), List.getElem?_eq_getElem (by omega)⟩
        obtain ⟨g, o, rfl, hg, f1⟩ := H1.out (by omega)
        have kc := HC.out i y hy1 (e - m) (by omega)
        obtain ⟨ky, vy, ny, ay, ey, s0, s1, s2, s3, s4, s5⟩ := f1 i hlt
        rw [ey] at kc
        unfold exV at kc
        have up : ∀ b o, b < w.heap.size → wr.cell? ⟨b, o, none⟩ = w.cell? ⟨b, o, none⟩ := fun b o hb => hnx.cell (p := ⟨b, o, none⟩) hb
        have e0 := (up _ _ hg).trans s0
        have e1 := (up _ _ hg).trans s1
        have e2 := (up _ _ hg).trans s2
        have e3 := (up _ _ hg).trans s3
        have e4 := (up _ _ hg).trans s4
        have e5 := (up _ _ hg).trans s5
        have HX := hide hy1
        have hlt' : (i : Int) < (n : Int) := by omega
        have hme' : (m : Int) ≤ (e : Int) := by omega
        have hsub : ((e - m : Nat) : Int) = (e : Int) - (m : Int) := by omega
        rw [hsub] at kc
        have hmin : ((min (sizeE y) (e - m + 1) : Nat) : Int) ≤ 16 := by omega
        have hmin0 : (0 : Int) ≤ ((min (sizeE y) (e - m + 1) : Nat) : Int) := by omega
        rw [Nat.mul_comm 6 i] at e0 e1 e2 e3 e4 e5
        have HMin := hide (rfl : min (sizeE y) (e - m + 1) = min (sizeE y) (e - m + 1))
        generalize hq : min (sizeE y) (e - m + 1) = q at kc hmin hmin0
        have HQ := hide hq
        clear s0 s1 s2 s3 s4 s5 hy1 H1 HC up ey hsub hq HMin
        go_wp2_with (go_at_call 30; refine (kc _ hnx).mono ?_; rintro r w1 ⟨rfl, b1⟩; have d1 := (b1.cell (p := ⟨w.heap.size, 5, none⟩) (by show w.heap.size < _; omega)).trans d0)
        have hs1 := b1.size
        go_roundw
        case rel =>
          refine ⟨m + q, i + 1, by go_num, by go_num, by omega, ?_, ?_, d1, hnx.trans (b1.mono hnx.size), by omega⟩
          · rw [sizeL_take xs i y HX.out, ← HQ.out, min_step _ _ _ hme, HM.out]
            have := HM.out
            omega
          · have := HQ.out
            omega
        case measure => simp [intOf]; omega
      · have hme' : (e : Int) < (m : Int) := by omega
        have hlt' : (i : Int) < (n : Int) := by omega
        clear H1 HC
        go_wp2
        go_ret
        refine ⟨ret_int ?_, hnx⟩
        have h2 : sizeL (xs.take i) ≤ sizeL xs := sizeL_pre xs i
        have := HM.out
        omega
    · clear H1 HC
      have hlt' : ¬ ((i : Int) < (n : Int)) := by omega
      go_wp2
      go_ret
      refine ⟨ret_int ?_, hnx⟩
      have h2 : xs.take i = xs := List.take_of_length_le (by omega)
      have := HM.out
      rw [h2] at this
      omega
theorem partsOf_any (n : Nat) : ∀ (x : Ex) (u : Value) (w0 : World), sizeE x ≤ n → ExAt 0 w0 u x → Fit x → ∀ e : Nat, e ≤ 15 → ∀ W, Below w0.heap.size w0 W →
    Calls Tryz.prog 30 #[u, .int .i64 (e : Nat)] W fun r w' => r = .returned (.int .i64 ((min (sizeE x) (e + 1) : Nat))) ∧ Below W.heap.size W w' := by
  induction n with
  | zero => intro x u w0 h; have := sizeE_pos x; omega
  | succ n ih =>
    intro x u w0 hs hx hf e he W hW
    obtain ⟨ao, ca, us, rfl, h1⟩ := hx.spread
    have keep : ∀ {g o : Nat} {u : Value}, g < w0.heap.size → Six w0 g o u → Six W g o u := fun hg h => h.keep (hW.block _ hg)
    rw [sizeE_args x, Nat.add_comm (sizeL x.args) 1]
    refine partsOf_core x.k x.v x.nm ao x.args.length ca e x.args us W rfl he ?_ hf.few ?_
    · intro h0
      obtain ⟨g, o, rfl, -, hg, hc, -⟩ := h1 h0
      exact ⟨g, o, rfl, Nat.lt_of_lt_of_le hg hW.size, fun i hi => keep hg (hc i hi)⟩
    · intro i y hy e' he' W' hW'
      have h0 : 0 < x.args.length := by have := (List.getElem?_eq_some_iff.1 hy).1; omega
      obtain ⟨g, o, -, -, -, -, hex⟩ := h1 h0
      exact ih y (us i) w0 (by have := size_arg hy; omega) (hex i y hy) (hf.arg hy) e' he' W' (hW.trans (hW'.mono hW.size))
theorem exRL_all : ∀ l : List Ex, exRL l = l.all exR
  | [] => rfl
  | x :: r => by rw [exRL, exRL_all r]; rfl
theorem isX_no (k : Int) (x : Vl) (nm : List UInt8) (ao : Option Addr) (n ca : Nat) (w : World) (A B C : Bool) (E : Int) (hk : (k == 2) = B)
    (hp : ∀ W : World, Calls Tryz.prog 85 #[.agg #[.int .i64 k, .int .i64 x.k, .int .i64 x.n, .string ⟨x.s.toArray⟩, .string ⟨nm.toArray⟩, .slice ao n ca]] W fun e w' => e = .returned (.bool A) ∧ Below W.heap.size W w')
    (hn : ∀ W : World, Calls Tryz.prog 34 #[.string ⟨nm.toArray⟩] W fun e w' => e = .returned (.bool C) ∧ Below W.heap.size W w')
    (hv : ∀ W : World, Calls Tryz.prog 33 #[.agg #[.int .i64 x.k, .int .i64 x.n, .string ⟨x.s.toArray⟩]] W fun e w' => e = .returned (.int .i64 E) ∧ Below W.heap.size W w')
    (hno : A = false ∨ (A = true ∧ B = true ∧ C = false) ∨ (A = true ∧ (B = true → C = true) ∧ ¬ E = 0)) :
    Calls Tryz.prog 35 #[exV k x nm (.slice ao n ca)] w fun e w' => e = .returned (.bool false) ∧ Below w.heap.size w w' := by
  have b0 : ∀ o, Below w.heap.size w (w.alloc o) := fun o => (Below.refl _ _).alloc (Nat.le_refl _) o
  unfold exV
  have cell5 : ∀ {W W' : World} (o : Nat) (v : Value), w.heap.size + 1 ≤ W.heap.size → Below W.heap.size W W' → W.cell? ⟨w.heap.size, o, none⟩ = some v → W'.cell? ⟨w.heap.size, o, none⟩ = some v :=
    fun o v hs hb h => (hb.cell (p := ⟨w.heap.size, o, none⟩) (by show w.heap.size < _; omega)).trans h
  rcases hno with rfl | ⟨rfl, rfl, rfl⟩ | ⟨rfl, hbc, hE⟩
  · clear hn hv cell5
    go_enter Tryz.func35, Tryz.ntmps35
    go_wp2_with (go_at_call 85; refine (hp _).mono ?_; rintro e w1 ⟨rfl, b1⟩)
    go_ret
    exact ⟨rfl, (b0 _).trans (b1.mono (by simp))⟩
  · clear hv
    go_enter Tryz.func35, Tryz.ntmps35
    go_wp2_with fail
    refine (hp _).mono ?_
    rintro e w1 ⟨rfl, b1⟩
    have s1 : w.heap.size + 1 ≤ w1.heap.size := by have := b1.size; simp at this; omega
    have c0 := b1.cell (p := ⟨w.heap.size, 0, none⟩) (by simp)
    have c4 := b1.cell (p := ⟨w.heap.size, 4, none⟩) (by simp)
    simp at c0 c4
    have q1 : Below w.heap.size w w1 := (b0 _).trans (b1.mono (by simp))
    clear b1 hp b0 cell5
    go_wp2_with (go_at_call 34; refine (hn _).mono ?_; rintro e w2 ⟨rfl, b2⟩)
    go_ret
    exact ⟨rfl, q1.trans (b2.mono q1.size)⟩
  · cases B with
    | false =>
      clear hn
      go_enter Tryz.func35, Tryz.ntmps35
      go_wp2_with fail
      refine (hp _).mono ?_
      rintro e w1 ⟨rfl, b1⟩
      have s1 : w.heap.size + 1 ≤ w1.heap.size := by have := b1.size; simp at this; omega
      have c0 := b1.cell (p := ⟨w.heap.size, 0, none⟩) (by simp)
      have c1 := b1.cell (p := ⟨w.heap.size, 1, none⟩) (by simp)
      have c2 := b1.cell (p := ⟨w.heap.size, 2, none⟩) (by simp)
      have c3 := b1.cell (p := ⟨w.heap.size, 3, none⟩) (by simp)
      simp at c0 c1 c2 c3
      have q1 : Below w.heap.size w w1 := (b0 _).trans (b1.mono (by simp))
      clear b1 hp b0 cell5 hbc
      go_wp2_with (go_at_call 33; refine (hv _).mono ?_; rintro e w2 ⟨rfl, b2⟩)
      go_ret
      exact ⟨rfl, q1.trans (b2.mono q1.size)⟩
    | true =>
      obtain rfl := hbc rfl
      go_enter Tryz.func35, Tryz.ntmps35
      go_wp2_with fail
      refine (hp _).mono ?_
      rintro e w1 ⟨rfl, b1⟩
      have s1 : w.heap.size + 1 ≤ w1.heap.size := by have := b1.size; simp at this; omega
      have c0 := b1.cell (p := ⟨w.heap.size, 0, none⟩) (by simp)
      have c1 := b1.cell (p := ⟨w.heap.size, 1, none⟩) (by simp)
      have c2 := b1.cell (p := ⟨w.heap.size, 2, none⟩) (by simp)
      have c3 := b1.cell (p := ⟨w.heap.size, 3, none⟩) (by simp)
      have c4 := b1.cell (p := ⟨w.heap.size, 4, none⟩) (by simp)
      simp at c0 c1 c2 c3 c4
      have q1 : Below w.heap.size w w1 := (b0 _).trans (b1.mono (by simp))
      clear b1 hp b0 hbc
      go_wp2_with fail
      refine (hn _).mono ?_
      rintro e w2 ⟨rfl, b2⟩
      have d1 := cell5 1 _ s1 b2 c1
      have d2 := cell5 2 _ s1 b2 c2
      have d3 := cell5 3 _ s1 b2 c3
      have q2 := q1.trans (b2.mono q1.size)
      clear c0 c1 c2 c3 c4 cell5 hn
      go_wp2_with (go_at_call 33; refine (hv _).mono ?_; rintro e w3 ⟨rfl, b3⟩)
      go_ret
      exact ⟨rfl, q2.trans (b3.mono q2.size)⟩
theorem isX_yes (k : Int) (x : Vl) (nm : List UInt8) (ao : Option Addr) (n ca : Nat) (xs : List Ex) (us : Nat → Value) (w : World) (B : Bool) (hk : (k == 2) = B) (hx : xs.length = n) (hn0 : n ≤ 1000000000000000)
    (hp : ∀ W : World, Calls Tryz.prog 85 #[.agg #[.int .i64 k, .int .i64 x.k, .int .i64 x.n, .string ⟨x.s.toArray⟩, .string ⟨nm.toArray⟩, .slice ao n ca]] W fun e w' => e = .returned (.bool true) ∧ Below W.heap.size W w')
    (hn : B = true → ∀ W : World, Calls Tryz.prog 34 #[.string ⟨nm.toArray⟩] W fun e w' => e = .returned (.bool true) ∧ Below W.heap.size W w')
    (hv : ∀ W : World, Calls Tryz.prog 33 #[.agg #[.int .i64 x.k, .int .i64 x.n, .string ⟨x.s.toArray⟩]] W fun e w' => e = .returned (.int .i64 0) ∧ Below W.heap.size W w')
    (h1 : 0 < n → ∃ g o, ao = some ⟨g, o, none⟩ ∧ g < w.heap.size ∧ (∀ i, i < n → Six w g (o + 6 * i) (us i)))
    (hc : ∀ i y, xs[i]? = some y → ∀ W, Below w.heap.size w W → Calls Tryz.prog 35 #[us i] W fun e w' => e = .returned (.bool (exR y)) ∧ Below W.heap.size W w') :
    Calls Tryz.prog 35 #[exV k x nm (.slice ao n ca)] w fun e w' => e = .returned (.bool (exRL xs)) ∧ Below w.heap.size w w' := by
  have b0 : ∀ o, Below w.heap.size w (w.alloc o) := fun o => (Below.refl _ _).alloc (Nat.le_refl _) o
  have H1 := hide h1
  have HC := hide hc
  have HN := hide hn
  clear h1 hc hn
  unfold exV
  have cell5 : ∀ {W W' : World} (o : Nat) (v : Value), w.heap.size + 1 ≤ W.heap.size → Below W.heap.size W W' → W.cell? ⟨w.heap.size, o, none⟩ = some v → W'.cell? ⟨w.heap.size, o, none⟩ = some v :=
    fun o v hs hb h => (hb.cell (p := ⟨w.heap.size, o, none⟩) (by show w.heap.size < _; omega)).trans h
  go_enter Tryz.func35, Tryz.ntmps35
  go_wp2_with fail
  refine (hp _).mono ?_
  rintro e w1 ⟨rfl, b1⟩
  have s1 : w.heap.size + 1 ≤ w1.heap.size := by have := b1.size; simp at this; omega
  have c0 := b1.cell (p := ⟨w.heap.size, 0, none⟩) (by simp)
  have c1 := b1.cell (p := ⟨w.heap.size, 1, none⟩) (by simp)
  have c2 := b1.cell (p := ⟨w.heap.size, 2, none⟩) (by simp)
  have c3 := b1.cell (p := ⟨w.heap.size, 3, none⟩) (by simp)
  have c4 := b1.cell (p := ⟨w.heap.size, 4, none⟩) (by simp)
  have c5 := b1.cell (p := ⟨w.heap.size, 5, none⟩) (by simp)
  simp at c0 c1 c2 c3 c4 c5
  have q1 : Below w.heap.size w w1 := (b0 _).trans (b1.mono (by simp))
  clear b1 hp b0
  cases B
  case' false =>
    go_wp2_with fail
    refine (hv _).mono ?_
    rintro e w3 ⟨rfl, b3⟩
    have f5 := cell5 5 _ s1 b3 c5
    have q3 := q1.trans (b3.mono q1.size)
    have s3 : w.heap.size + 1 ≤ w3.heap.size := by have := b3.size; omega
  case' true =>
    go_wp2_with fail
    refine (HN.out (by first | rfl | trivial) _).mono ?_
    rintro e w2 ⟨rfl, b2⟩
    have d1 := cell5 1 _ s1 b2 c1
    have d2 := cell5 2 _ s1 b2 c2
    have d3 := cell5 3 _ s1 b2 c3
    have d5 := cell5 5 _ s1 b2 c5
    have s2 : w.heap.size + 1 ≤ w2.heap.size := by have := b2.size; omega
    have q2 := q1.trans (b2.mono q1.size)
    go_wp2_with fail
    refine (hv _).mono ?_
    rintro e w3 ⟨rfl, b3⟩
    have f5 := cell5 5 _ s2 b3 d5
    have q3 := q2.trans (b3.mono q2.size)
    have s3 : w.heap.size + 1 ≤ w3.heap.size := by have := b3.size; omega
    clear d1 d2 d3 d5 s2 q2 b2
  all_goals
    clear c0 c1 c2 c3 c4 c5 s1 q1 b3 hv HN
    go_wp2
    go_loopw [3] (fun i wl => ∃ k : Nat, k ≤ n ∧ i = .int .i64 k ∧ wl.cell? ⟨w.heap.size, 5, none⟩ = some (.slice ao n ca) ∧ Below w.heap.size w wl ∧ w.heap.size + 1 ≤ wl.heap.size ∧ Hid (∀ j y, j < k → xs[j]? = some y → exR y = true)) (fun i _ => n - (intOf i).toNat)
    case atStart => exact ⟨0, Nat.zero_le _, rfl, f5, q3, s3, fun j _ hj => absurd hj (Nat.not_lt_zero _)⟩
    case round =>
      obtain ⟨i, hi, rfl, d0, hnx, hsz, HA⟩ := hrel
      clear f5 q3 s3
      by_cases hlt : i < n
      · obtain ⟨y, hy1⟩ : ∃ y, xs[i]? = some y := ⟨xs[i]'(by omega), List.getElem?_eq_getElem (by omega)⟩
        obtain ⟨g, o, rfl, hg, f1⟩ := H1.out (by omega)
        have kc := HC.out i y hy1
        obtain ⟨ky, vy, ny, ay, ey, t0, t1, t2, t3, t4, t5⟩ := f1 i hlt
        rw [ey] at kc
        unfold exV at kc
        have up : ∀ b o, b < w.heap.size → wr.cell? ⟨b, o, none⟩ = w.cell? ⟨b, o, none⟩ := fun b o hb => hnx.cell (p := ⟨b, o, none⟩) hb
        have e0 := (up _ _ hg).trans t0
        have e1 := (up _ _ hg).trans t1
        have e2 := (up _ _ hg).trans t2
        have e3 := (up _ _ hg).trans t3
        have e4 := (up _ _ hg).trans t4
        have e5 := (up _ _ hg).trans t5
        have HX := hide hy1
        have hlt' : (i : Int) < (n : Int) := by omega
        rw [Nat.mul_comm 6 i] at e0 e1 e2 e3 e4 e5
        generalize hq : exR y = q at kc
        have HQ := hide hq
        clear t0 t1 t2 t3 t4 t5 hy1 H1 HC up ey hq
        cases q with
        | true =>
          go_wp2_with (go_at_call 35; refine (kc _ hnx).mono ?_; rintro r w4 ⟨rfl, b4⟩; have d4 := (b4.cell (p := ⟨w.heap.size, 5, none⟩) (by show w.heap.size < _; omega)).trans d0)
          have hs4 := b4.size
          go_roundw
          case rel =>
            refine ⟨i + 1, by omega, by go_num, d4, hnx.trans (b4.mono hnx.size), by omega, fun j y' hj hy' => ?_⟩
            rcases Nat.lt_or_ge j i with hjk | hjk
            · exact HA.out j y' hjk hy'
            · have h := HX.out
              rw [show j = i by omega, h] at hy'
              cases hy'
              exact HQ.out
          case measure => simp [intOf]; omega
        | false =>
          go_wp2_with (go_at_call 35; refine (kc _ hnx).mono ?_; rintro r w4 ⟨rfl, b4⟩)
          go_ret
          refine ⟨ret_bool ?_, hnx.trans (b4.mono hnx.size)⟩
          rw [exRL_all]
          symm
          rw [List.all_eq_false]
          exact ⟨y, List.mem_of_getElem? HX.out, by rw [HQ.out]; decide⟩
      · clear H1 HC
        have hlt' : ¬ ((i : Int) < (n : Int)) := by omega
        go_wp2
        go_ret
        refine ⟨ret_bool ?_, hnx⟩
        rw [exRL_all]
        symm
        rw [List.all_eq_true]
        intro y hy
        obtain ⟨j, hj⟩ := List.getElem?_of_mem hy
        exact HA.out j y (by have := (List.getElem?_eq_some_iff.1 hj).1; omega) hj
theorem isX_any (n : Nat) : ∀ (x : Ex) (u : Value) (w0 : World), sizeE x ≤ n → ExAt 0 w0 u x → Fit x → ∀ W, Below w0.heap.size w0 W →
    Calls Tryz.prog 35 #[u] W fun e w' => e = .returned (.bool (exR x)) ∧ Below W.heap.size W w' := by
  induction n with
  | zero => intro x u w0 h; have := sizeE_pos x; omega
  | succ n ih =>
    intro x u w0 hs hx hf W hW
    obtain ⟨ao, ca, us, rfl, h1⟩ := hx.spread
    have keep : ∀ {g o : Nat} {u : Value}, g < w0.heap.size → Six w0 g o u → Six W g o u := fun hg h => h.keep (hW.block _ hg)
    have hp := fun W => plain_any x.k x.v x.nm ao x.args.length ca W
    unfold exV at hp
    have hz : x.nm.length ≤ 140737488355328 ∧ x.v.s.length ≤ 140737488355328 := by
      cases hf with
      | mk k v nm args hv hn ha hh => exact ⟨hn, hv⟩
    have hn : ∀ W : World, Calls Tryz.prog 34 #[.string ⟨x.nm.toArray⟩] W fun e w' => e = .returned (.bool (nameW x.nm)) ∧ Below W.heap.size W w' := by
      intro W
      have := rname_any ⟨x.nm.toArray⟩ W (by rw [size_mk]; omega)
      have e0 : (⟨x.nm.toArray⟩ : ByteArray).data.toList = x.nm := by simp
      rw [e0] at this
      exact this
    have hv : ∀ W : World, Calls Tryz.prog 33 #[.agg #[.int .i64 x.v.k, .int .i64 x.v.n, .string ⟨x.v.s.toArray⟩]] W fun e w' => e = .returned (.int .i64 ((chkV x.v.k x.v.n x.v.s : Nat) : Int)) ∧ Below W.heap.size W w' := by
      intro W
      have := ckv_any x.v.k x.v.n ⟨x.v.s.toArray⟩ W (by rw [size_mk]; omega)
      have e0 : (⟨x.v.s.toArray⟩ : ByteArray).data.toList = x.v.s := by simp
      rw [e0] at this
      exact this
    have hk : (x.k == 2) = decide (x.k = 2) := by rw [Bool.eq_iff_iff]; simp
    have he : exR x = (plainK x.k x.v x.nm x.args.length && !(decide (x.k = 2) && !nameW x.nm) && valB x.v && exRL x.args) := by cases x; rw [exR]; rfl
    by_cases hy : plainK x.k x.v x.nm x.args.length = true ∧ (decide (x.k = 2) = true → nameW x.nm = true) ∧ chkV x.v.k x.v.n x.v.s = 0
    · obtain ⟨y1, y2, y3⟩ := hy
      have e1 : exR x = exRL x.args := by
        rw [he, y1, valB, y3]
        cases hd : decide (x.k = 2) with
        | false => simp
        | true => rw [y2 hd]; simp
      rw [e1]
      rw [y1] at hp
      rw [y3] at hv
      refine isX_yes x.k x.v x.nm ao x.args.length ca x.args us W _ hk rfl hf.few hp (fun hb => by have := hn; rw [y2 hb] at this; exact this) hv ?_ ?_
      · intro h0
        obtain ⟨g, o, rfl, -, hg, hc, -⟩ := h1 h0
        exact ⟨g, o, rfl, Nat.lt_of_lt_of_le hg hW.size, fun i hi => keep hg (hc i hi)⟩
      · intro i y hy W' hW'
        have h0 : 0 < x.args.length := by have := (List.getElem?_eq_some_iff.1 hy).1; omega
        obtain ⟨g, o, -, -, -, -, hex⟩ := h1 h0
        exact ih y (us i) w0 (by have := size_arg hy; omega) (hex i y hy) (hf.arg hy) W' (hW.trans (hW'.mono hW.size))
    · have e1 : exR x = false := by
        rw [he]
        apply Bool.eq_false_iff.2
        intro h
        simp only [Bool.and_eq_true, valB, decide_eq_true_eq, Bool.not_eq_true', Bool.and_eq_false_iff, Bool.not_eq_false'] at h
        refine hy ⟨h.1.1.1, fun hd => ?_, h.1.2⟩
        rcases h.1.1.2 with h2 | h2
        · rw [h2] at hd; cases hd
        · exact h2
      rw [e1]
      refine isX_no x.k x.v x.nm ao x.args.length ca W _ _ _ _ hk hp hn hv ?_
      cases hA : plainK x.k x.v x.nm x.args.length with
      | false => exact .inl rfl
      | true =>
        by_cases hB : decide (x.k = 2) = true ∧ nameW x.nm = false
        · exact .inr (.inl ⟨rfl, hB.1, hB.2⟩)
        · refine .inr (.inr ⟨rfl, fun hd => ?_, fun h0 => hy ⟨hA, fun hd => ?_, by omega⟩⟩)
          · cases hN : nameW x.nm with
            | true => rfl
            | false => exact absurd ⟨hd, hN⟩ hB
          · cases hN : nameW x.nm with
            | true => rfl
            | false => exact absurd ⟨hd, hN⟩ hB
def HeldC (w : World) (c : Cm) (cv vv fv ea wa : Value) (W : World) : Prop :=
  (∀ o x, (cmL c cv vv fv ea wa)[o]? = some x → W.cell? ⟨w.heap.size, o, none⟩ = some x) ∧ Below w.heap.size w W ∧ w.heap.size + 1 ≤ W.heap.size
theorem HeldC.start (w : World) (c : Cm) (cv vv fv ea wa : Value) : HeldC w c cv vv fv ea wa (w.alloc (.cells (cmL c cv vv fv ea wa).toArray 31)) := by
  refine ⟨fun o x hx => ?_, (Below.refl _ _).alloc (Nat.le_refl _) _, by simp⟩
  rw [Lib.cell_of_heap (heap_alloc_new w _)]; simpa using hx
theorem HeldC.below {w : World} {c : Cm} {cv vv fv ea wa : Value} {W W' : World} (h : HeldC w c cv vv fv ea wa W) (hb : Below W.heap.size W W') : HeldC w c cv vv fv ea wa W' := by
  obtain ⟨h1, h3, h4⟩ := h
  exact ⟨fun o x hx => (hb.cell (p := ⟨w.heap.size, o, none⟩) (by show w.heap.size < _; omega)).trans (h1 o x hx), h3.trans (hb.mono h3.size), Nat.le_trans h4 hb.size⟩
theorem flat_get3 {α : Type} (C : α → List Value) {m : Nat} (hC : ∀ y, (C y).length = m) : ∀ (L : List α) (i k : Nat) (y : α) (v : Value), L[i]? = some y → (C y)[k]? = some v → (L.flatMap C)[i * m + k]? = some v
  | [], i, k, y, v, h, _ => by simp at h
  | z :: r, 0, k, y, v, h, hv => by
    simp at h
    subst h
    rw [List.flatMap_cons, Nat.zero_mul, Nat.zero_add, List.getElem?_append_left (List.getElem?_eq_some_iff.1 hv).1]
    exact hv
  | z :: r, i + 1, k, y, v, h, hv => by
    rw [List.flatMap_cons, List.getElem?_append_right (by rw [hC, Nat.add_mul]; omega), hC]
    have e : (i + 1) * m + k - m = i * m + k := by rw [Nat.add_mul]; omega
    rw [e]
    exact flat_get3 C hC r i k y v (by simpa using h) hv
theorem RowAt.slice {B : Nat} {w : World} {u : Value} {n : Nat} {xs : List Value} (h : RowAt B w u n xs) : ∃ ao cap, u = .slice ao n cap ∧ (0 < n → ∃ b off, ao = some ⟨b, off, none⟩ ∧ b < w.heap.size ∧ ∀ j x, xs[j]? = some x → w.cell? ⟨b, off + j, none⟩ = some x) := by
  rcases h with ⟨rfl, ao, cap, rfl⟩ | ⟨b, off, cap, rfl, -, hb, hc⟩
  · exact ⟨ao, cap, rfl, fun h => absurd h (Nat.lt_irrefl 0)⟩
  · exact ⟨_, cap, rfl, fun _ => ⟨b, off, rfl, hb, hc⟩⟩
theorem ExAt.slice {B : Nat} {w : World} {k : Int} {v : Vl} {nm : List UInt8} {a : Value} {x : Ex} (h : ExAt B w (exV k v nm a) x) : ∃ ao cap, a = .slice ao x.args.length cap := by
  obtain ⟨ao, ca, us, e, -⟩ := h.spread
  simp only [exV, Value.agg.injEq, Array.mk.injEq, List.cons.injEq, and_true] at e
  exact ⟨ao, ca, e.2.2.2.2.2⟩
theorem ck_of {w : World} {c : Cm} {a1 a2 a3 a4 a5 : Option Addr} {c1 c2 c3 c4 c5 : Nat} (he : ExAt 0 w (exV c.expr.k c.expr.v c.expr.nm (.slice a4 c.expr.args.length c4)) c.expr) (hw : ExAt 0 w (exV c.wh.k c.wh.v c.wh.nm (.slice a5 c.wh.args.length c5)) c.wh) (hf : CmFit c) :
    CkS c w.heap.size a1 a2 a3 a4 a5 c1 c2 c3 c4 c5 (HeldC w c (.slice a1 c.cols.length c1) (.slice a2 c.vals.length c2) (.slice a3 c.fields.length c3) (.slice a4 c.expr.args.length c4) (.slice a5 c.wh.args.length c5)) where
  cell := fun W h => h.1
  drew := fun W h => ⟨h.1, h.2.1.drew, h.2.2⟩
  btw := fun n x y W h => (between_any n x y W).mono fun e w' q => ⟨q.1, by rw [q.2]; exact h⟩
  nmi := fun s p hs W h => (nameIs_any s p W hs).mono fun e w' q => ⟨q.1, h.below q.2⟩
  nam := fun s hs W h => by
    have := rname_any ⟨s.toArray⟩ W (by rw [size_mk]; omega)
    have e0 : (⟨s.toArray⟩ : ByteArray).data.toList = s := by simp
    rw [e0] at this
    exact this.mono fun e w' q => ⟨q.1, h.below q.2⟩
  ckv := fun v hs W h => by
    have := ckv_any v.k v.n ⟨v.s.toArray⟩ W (by rw [size_mk]; omega)
    have e0 : (⟨v.s.toArray⟩ : ByteArray).data.toList = v.s := by simp
    rw [e0] at this
    exact this.mono fun e w' q => ⟨q.1, h.below q.2⟩
  smv := fun v W h => (sameV_any v ⟨0, 0, []⟩ W).mono fun e w' q => ⟨q.1, h.below q.2⟩
  ixe := fun W h => (isX_any _ c.expr _ w (Nat.le_refl _) he hf.expr W h.2.1).mono fun e w' q => ⟨q.1, h.below q.2⟩
  ixw := fun W h => (isX_any _ c.wh _ w (Nat.le_refl _) hw hf.wh W h.2.1).mono fun e w' q => ⟨q.1, h.below q.2⟩
  noe := fun W h => (noX_any c.expr a4 c4 W).mono fun e w' q => ⟨q.1, h.below q.2⟩
  now := fun W h => (noX_any c.wh a5 c5 W).mono fun e w' q => ⟨q.1, h.below q.2⟩
theorem many_eq (c : Cm) : (((((decide (5 < ((c.cols.length : Nat) : Int))) || (decide (5 < ((c.vals.length : Nat) : Int)))) || (decide (5 < ((c.fields.length : Nat) : Int)))) || (decide (15 < ((min (sizeE c.expr) (15 + 1) : Nat) : Int)))) || (decide (15 < ((min (sizeE c.wh) (15 + 1) : Nat) : Int)))) = manyC c := by
  unfold manyC
  rw [Bool.eq_iff_iff]
  simp only [Bool.or_eq_true, decide_eq_true_eq]
  omega
theorem checkCmd_any (c : Cm) (cv vv fv ea wa : Value) {w : World} (hi : CmIn 0 w c cv vv fv ea wa) (hf : CmFit c) :
    Calls Tryz.prog 13 #[.agg (cmL c cv vv fv ea wa).toArray] w fun e w' => e = .returned (.int .i64 (chkC (manyC c) (refC c))) ∧ Below w.heap.size w w' := by
  obtain ⟨a1, c1, rfl, h1⟩ := hi.cols.slice
  obtain ⟨a2, c2, rfl, h2⟩ := hi.vals.slice
  obtain ⟨a3, c3, rfl, h3⟩ := hi.fields.slice
  obtain ⟨a4, c4, rfl⟩ := hi.expr.slice
  obtain ⟨a5, c5, rfl⟩ := hi.wh.slice
  have K := hide (ck_of (a1 := a1) (a2 := a2) (a3 := a3) (c1 := c1) (c2 := c2) (c3 := c3) hi.expr hi.wh hf)
  have H0 := hide (HeldC.start w c (.slice a1 c.cols.length c1) (.slice a2 c.vals.length c2) (.slice a3 c.fields.length c3) (.slice a4 c.expr.args.length c4) (.slice a5 c.wh.args.length c5))
  have g1 := hide (show 0 < c.cols.length → ∃ g o, a1 = some ⟨g, o, none⟩ ∧ ∀ W, HeldC w c (.slice a1 c.cols.length c1) (.slice a2 c.vals.length c2) (.slice a3 c.fields.length c3) (.slice a4 c.expr.args.length c4) (.slice a5 c.wh.args.length c5) W → ∀ i x, c.cols[i]? = some x → W.cell? ⟨g, o + i * 2, none⟩ = some (.string ⟨x.name.toArray⟩) ∧ W.cell? ⟨g, o + i * 2 + 1, none⟩ = some (.int .i64 x.ty) by
    intro h0
    obtain ⟨g, o, e, hg, hc⟩ := h1 h0
    refine ⟨g, o, e, fun W hW i x hx => ?_⟩
    have up : ∀ o, W.cell? ⟨g, o, none⟩ = w.cell? ⟨g, o, none⟩ := fun o => hW.2.1.cell (p := ⟨g, o, none⟩) hg
    rw [up, up]
    exact ⟨hc _ _ (flat_get3 clC (m := 2) (fun _ => rfl) c.cols i 0 x _ hx rfl), hc _ _ (flat_get3 clC (m := 2) (fun _ => rfl) c.cols i 1 x _ hx rfl)⟩)
  have g2 := hide (show 0 < c.vals.length → ∃ g o, a2 = some ⟨g, o, none⟩ ∧ ∀ W, HeldC w c (.slice a1 c.cols.length c1) (.slice a2 c.vals.length c2) (.slice a3 c.fields.length c3) (.slice a4 c.expr.args.length c4) (.slice a5 c.wh.args.length c5) W → ∀ i x, c.vals[i]? = some x → W.cell? ⟨g, o + i * 3, none⟩ = some (.int .i64 x.k) ∧ W.cell? ⟨g, o + i * 3 + 1, none⟩ = some (.int .i64 x.n) ∧ W.cell? ⟨g, o + i * 3 + 2, none⟩ = some (.string ⟨x.s.toArray⟩) by
    intro h0
    obtain ⟨g, o, e, hg, hc⟩ := h2 h0
    refine ⟨g, o, e, fun W hW i x hx => ?_⟩
    have up : ∀ o, W.cell? ⟨g, o, none⟩ = w.cell? ⟨g, o, none⟩ := fun o => hW.2.1.cell (p := ⟨g, o, none⟩) hg
    rw [up, up, up]
    exact ⟨hc _ _ (flat_get3 vlC (m := 3) (fun _ => rfl) c.vals i 0 x _ hx rfl), hc _ _ (flat_get3 vlC (m := 3) (fun _ => rfl) c.vals i 1 x _ hx rfl), hc _ _ (flat_get3 vlC (m := 3) (fun _ => rfl) c.vals i 2 x _ hx rfl)⟩)
  have g3 := hide (show 0 < c.fields.length → ∃ g o, a3 = some ⟨g, o, none⟩ ∧ ∀ W, HeldC w c (.slice a1 c.cols.length c1) (.slice a2 c.vals.length c2) (.slice a3 c.fields.length c3) (.slice a4 c.expr.args.length c4) (.slice a5 c.wh.args.length c5) W → ∀ i x, c.fields[i]? = some x → W.cell? ⟨g, o + i, none⟩ = some (.string ⟨x.toArray⟩) by
    intro h0
    obtain ⟨g, o, e, hg, hc⟩ := h3 h0
    refine ⟨g, o, e, fun W hW i x hx => ?_⟩
    have up : ∀ o, W.cell? ⟨g, o, none⟩ = w.cell? ⟨g, o, none⟩ := fun o => hW.2.1.cell (p := ⟨g, o, none⟩) hg
    rw [up]
    have := flat_get3 stC (m := 1) (fun _ => rfl) c.fields i 0 x _ hx rfl
    rw [Nat.mul_one] at this
    exact hc _ _ this)
  have p1 := hide (fun (W : World) (hW : HeldC w c (.slice a1 c.cols.length c1) (.slice a2 c.vals.length c2) (.slice a3 c.fields.length c3) (.slice a4 c.expr.args.length c4) (.slice a5 c.wh.args.length c5) W) => (partsOf_any _ c.expr _ w (Nat.le_refl _) hi.expr hf.expr 15 (Nat.le_refl _) W hW.2.1).mono fun e w' q => (⟨q.1, hW.below q.2⟩ : _ ∧ HeldC w c (.slice a1 c.cols.length c1) (.slice a2 c.vals.length c2) (.slice a3 c.fields.length c3) (.slice a4 c.expr.args.length c4) (.slice a5 c.wh.args.length c5) w'))
  have p2 := hide (fun (W : World) (hW : HeldC w c (.slice a1 c.cols.length c1) (.slice a2 c.vals.length c2) (.slice a3 c.fields.length c3) (.slice a4 c.expr.args.length c4) (.slice a5 c.wh.args.length c5) W) => (partsOf_any _ c.wh _ w (Nat.le_refl _) hi.wh hf.wh 15 (Nat.le_refl _) W hW.2.1).mono fun e w' q => (⟨q.1, hW.below q.2⟩ : _ ∧ HeldC w c (.slice a1 c.cols.length c1) (.slice a2 c.vals.length c2) (.slice a3 c.fields.length c3) (.slice a4 c.expr.args.length c4) (.slice a5 c.wh.args.length c5) w'))
  have HF := hide hf
  clear hi h1 h2 h3 hf
  unfold cmL
  go_enter Tryz.func13, Tryz.ntmps13
  go_upto_region 1 with fail
  rename_i K1 hK1 K2 hK2
  refine wp_region_as k1_R (by kernel_rfl) ?_
  refine k1_wp (c := c) (b := w.heap.size) (a1 := a1) (a2 := a2) (a3 := a3) (a4 := a4) (a5 := a5) (c1 := c1) (c2 := c2) (c3 := c3) (c4 := c4) (c5 := c5) rfl K.out.cell p1.out p2.out rfl H0.out ?_
  intro x w1 hS1 hd hz hn ho
  refine hK2 _ _ ?_
  refine wp_cond_split (t := manyC c) ((eval_tmp (hn 27 35 rfl)).trans (congrArg Value.bool (many_eq c))) (fun ht => ?_) (fun ht => ?_)
  · refine wp_seq ?_
    refine wp_region_as k2_R (by kernel_rfl) ?_
    refine k2_wp hz hS1 ?_
    intro y w2 hS2 hd2 _ hn2 _
    refine wp_ret ?_
    show bodyPost Tryz.prog Tryz.f13 (fun e w' => e = .returned (.int .i64 (chkC (manyC c) (refC c))) ∧ Below w.heap.size w w') .ret y w2
    refine post_slot (v := .int .i64 2) rfl (hd2.trans hd) (hn2 0 2 rfl) ?_
    rw [ht]
    exact ⟨rfl, hS2.2.1⟩
  · refine wp_skip ?_
    refine hK1 _ _ ?_
    refine wp_as (y := cT0) (by kernel_rfl) ?_
    refine st0 K.out HF.out g1.out g2.out g3.out hz hd ((ho 1 (by decide)).trans rfl) hS1 ?_
    intro w' hS'
    rw [ht, fin_ref]
    refine ⟨?_, hS'.2.1⟩
    unfold ansC chkC
    simp
abbrev rdZ : List Value := .slice none 0 0 :: .int .i64 0 :: .int .i64 0 :: .bool false :: cmZ
theorem Tryz.size50 : (Tryz.prog.info? 50).map (·.size) = some 30 := by kernel_rfl
theorem zeroIs50 : (#[.slice none 0 0, .int .i64 0, .int .i64 0, .bool false, .int .i64 0, .string ⟨#[]⟩, .string ⟨#[]⟩, .string ⟨#[]⟩, .slice none 0 0, .int .i64 0, .int .i64 0, .int .i64 0, .string ⟨#[]⟩, .slice none 0 0, .slice none 0 0, .int .i64 0, .int .i64 0, .int .i64 0, .string ⟨#[]⟩, .string ⟨#[]⟩, .slice none 0 0, .bool false, .int .i64 0, .int .i64 0, .int .i64 0, .string ⟨#[]⟩, .string ⟨#[]⟩, .slice none 0 0, .string ⟨#[]⟩, .int .i64 0] : Array Value) = rdZ.toArray := rfl
theorem Tryz.alloc50 (w : World) : (Instr.alloc 50 true (.tuple #[])).run Tryz.prog w = .ok (.pointer (some ⟨w.heap.size, 0, none⟩)) (w.alloc (.cells rdZ.toArray 50)) := by
  rw [← zeroIs50]
  simp [Instr.alloc, Tryz.zeroValue50, go_sem]
theorem results_of9 (tmps : Array Value) (w : World) (rb : Nat) (cs : List Value) (x y : Value) (h2 : tmps.getD 2 undef = .pointer (some ⟨rb, 0, none⟩)) (h3 : tmps.getD 3 undef = x) (h4 : tmps.getD 4 undef = y)
    (hl : cs.length = 26) (hr : w.heap[rb]? = some (.cells cs.toArray 31)) : (results Tryz.f9 tmps).run Tryz.prog w = .ok (.tuple #[.agg cs.toArray, x, y]) w := by
  have h := run_loadVar_mid (P := Tryz.prog) w rb 0 31 cs _ (fun j v hv => by rw [Nat.zero_add, Lib.cell_of_heap hr]; simpa using hv) Tryz.underlying31 rfl (by rw [hl]; exact Tryz.size31)
  have h2' : tmps[2]?.getD undef = .pointer (some ⟨rb, 0, none⟩) := by simpa using h2
  have h3' : tmps[3]?.getD undef = x := by simpa using h3
  have h4' : tmps[4]?.getD undef = y := by simpa using h4
  simp [results, Tryz.results9, h2', h3', h4', asAddr, h]
theorem below_all {w w1 w3 : World} {rb : Nat} {xs : List Value} (hr : w.heap.size ≤ rb) (h : Below w.heap.size w w1) (p3 : w3 = putAll w1 rb 0 xs) : Below w.heap.size w w3 := by
  subst p3
  exact h.trans ⟨(putAll_misc rb _ w1 0).1, (putAll_misc rb _ w1 0).2.1, (putAll_misc rb _ w1 0).2.2, Nat.le_of_eq (putAll_size rb _ w1 0).symm, fun k hk => putAll_other rb _ w1 0 k (by omega)⟩
theorem PO_scan {w : World} (s : List UInt8) (A E : Nat) (hs : s.length ≤ 9223372036854775000) (hA : (scanS s).2.1 = A) (hE : (scanS s).2.2 = E) (hz : E ≠ 0) :
    Calls Tryz.prog 9 #[.string ⟨s.toArray⟩] w fun e w' => e = .returned (.tuple #[.agg cmZ.toArray, .int .i64 (A : Nat), .int .i64 (E : Nat)]) ∧ Below w.heap.size w w' := by
  have hsc : ∀ W : World, Calls Tryz.prog 22 #[.string ⟨s.toArray⟩] W fun e w' => ∃ v, e = .returned (.tuple #[v, .int .i64 (A : Nat), .int .i64 (E : Nat)]) ∧ Below W.heap.size W w' := by
    intro W
    refine (scanOf_any ⟨s.toArray⟩ W (by rw [size_mk]; exact hs)).mono ?_
    rintro e w' ⟨v, rfl, -, hb⟩
    refine ⟨v, ?_, hb⟩
    show Ending.returned (.tuple #[v, .int .i64 ((scanS s).2.1 : Nat), .int .i64 ((scanS s).2.2 : Nat)]) = _
    rw [hA, hE]
  have hd : ¬ ((E : Int) = 0) := by omega
  clear hA hE hs
  go_enter Tryz.func9, Tryz.ntmps9
  go_wp2_with (first | (refine wpList_alloc_blk 2 31 cmZ rfl rfl rfl Tryz.alloc31 ?_; intro W0 rb hrb k0 b0) | (refine (hsc _).mono ?_; rintro e w1 ⟨v, rfl, b1⟩; have k1 := (b1.block rb (ltS k0)).trans k0) | (refine wpList_store_whole 31 _ _ rfl rfl _ cmZ cmZ 31 rfl rfl (by exact k1) rfl Tryz.size31 (by exact (cmIn0 0 w1 cm0 rfl rfl rfl rfl rfl).one) ?_; intro w3 k3 p3))
  have B3 : Below w.heap.size w w3 := below_all (Nat.le_of_eq hrb.out.symm) (b0.trans (b1.mono b0.size)) p3.out
  exact bodyPost_ret (results_of9 _ _ rb cmZ _ _ rfl rfl rfl rfl k3) rfl ⟨rfl, B3⟩
theorem rdC_new {w : World} {base rb : Nat} {v : Value} {s : List UInt8} {en : Int} (hb : w.heap[rb]? = some (.cells (v :: .int .i64 0 :: .int .i64 en :: .bool false :: cmZ).toArray 50)) (ho : w.ownsRow base 63 3 v (scanS s).1.length (cellsT (scanS s).1)) (hlt : ∀ g, v.ownBlock = some g → g < rb) :
    RdC w base rb v (scanS s).1 en (nilS, nilS, nilS) (0, false) cm0 :=
  ⟨.slice none 0 0, .slice none 0 0, ⟨hb, ho, hlt, Nat.zero_le _, scanS_few s, scanned_ok s, scanned_is s⟩, cmIn0 _ _ cm0 rfl rfl rfl rfl rfl⟩
theorem own_lt {w : World} {base : Nat} {e : TypeId} {size : Nat} {v : Value} {n : Nat} {xs : List Value} (h : w.ownsRow base e size v n xs) : ∀ g, v.ownBlock = some g → g < w.heap.size := by
  intro g hg
  rcases h.2 with ⟨hv, _⟩ | ⟨g', cap, cur, hv, _, hh, _⟩
  · rw [hv] at hg; cases hg
  · rw [hv] at hg
    cases hg
    exact (ltS hh)
theorem below_grown {w w3 w4 : World} {pb : Nat} (h : Below w.heap.size w w3) (hp : w.heap.size ≤ pb) (g : w3.grownBy w4 (some pb)) : Below w.heap.size w w4 :=
  h.trans ⟨g.os, g.tape, g.output, g.size, fun k hk => g.block k (by have := h.size; omega) (by simp only [ne_eq, Option.some.injEq]; omega)⟩
theorem RdC.cells {w : World} {base rb : Nat} {v : Value} {T : List Tk} {en : Int} {L : Value × Value × Value} {s : Sx} {c : Cm} (h : RdC w base rb v T en L s c) : w.cell? ⟨rb, 1, none⟩ = some (.int .i64 ((s.1 : Nat) : Int)) ∧ w.cell? ⟨rb, 3, none⟩ = some (.bool s.2) := by
  obtain ⟨ea, wa, h1, -⟩ := h
  obtain ⟨⟨-, c1, -, c3⟩, -⟩ := rd4 h1.blk
  exact ⟨c1, c3⟩
theorem scanOf_ok {s : List UInt8} (hs : s.length ≤ 9223372036854775000) (hE : (scanS s).2.2 = 0) (W : World) : Calls Tryz.prog 22 #[.string ⟨s.toArray⟩] W fun e w' => ∃ ao cap A, e = .returned (.tuple #[.slice ao (scanS s).1.length cap, .int .i64 A, .int .i64 0]) ∧ Hid (w'.ownsRow W.heap.size 63 3 (.slice ao (scanS s).1.length cap) (scanS s).1.length (cellsT (scanS s).1)) ∧ Below W.heap.size W w' := by
  refine (scanOf_any ⟨s.toArray⟩ W (by rw [size_mk]; exact hs)).mono ?_
  rintro e w' ⟨v, rfl, ho, hb⟩
  have ho' : w'.ownsRow W.heap.size 63 3 v (scanS s).1.length (cellsT (scanS s).1) := ho
  obtain ⟨ao, cap, rfl⟩ := owns_slice ho'
  refine ⟨ao, cap, ((scanS s).2.1 : Nat), ?_, ho', hb⟩
  show Ending.returned (.tuple #[_, .int .i64 ((scanS s).2.1 : Nat), .int .i64 ((scanS s).2.2 : Nat)]) = _
  rw [hE]; rfl
theorem rd_one {v : Value} {n : Int} (hv : v.oneCell' = true) : ∀ x ∈ (v :: .int .i64 0 :: .int .i64 n :: .bool false :: cmZ : List Value), x.oneCell' = true := by
  intro x hx
  simp only [List.mem_cons] at hx
  rcases hx with rfl | rfl | rfl | rfl | hx
  · exact hv
  · rfl
  · rfl
  · rfl
  · exact (cmIn0 0 default cm0 rfl rfl rfl rfl rfl).one x (by simpa [cmZ, cmL] using hx)
structure Made (w w1 w3 : World) (s : List UInt8) (rb pb : Nat) (v : Value) (en : Int) : Prop where
  rd : RdC w3 w1.heap.size pb v (scanS s).1 en (nilS, nilS, nilS) (0, false) cm0
  res : w3.heap[rb]? = some (.cells cmZ.toArray 31)
  lt : rb < pb
  le : w.heap.size ≤ rb
  bel : Below w.heap.size w w3
theorem made_of {w W0 w1 w2 w3 : World} {s : List UInt8} {rb pb : Nat} {v : Value} {en : Int} (hrb : Hid (rb = w.heap.size)) (k0 : W0.heap[rb]? = some (.cells cmZ.toArray 31)) (b0 : Below w.heap.size w W0) (ho : Hid (w1.ownsRow W0.heap.size 63 3 v (scanS s).1.length (cellsT (scanS s).1))) (b1 : Below W0.heap.size W0 w1)
    (hpb : Hid (pb = w1.heap.size)) (b2 : Below w1.heap.size w1 w2) (k3 : w3.heap[pb]? = some (.cells (v :: .int .i64 0 :: .int .i64 en :: .bool false :: cmZ).toArray 50)) (p3 : Hid (w3 = putAll w2 pb 0 (v :: .int .i64 0 :: .int .i64 en :: .bool false :: cmZ))) : Made w W0 w3 s rb pb v en := by
  have B1 := b0.trans (b1.mono b0.size)
  have B2 := B1.trans (b2.mono B1.size)
  have z0 := (ltS k0)
  have z1 := b1.size
  have e1 := hrb.out
  have e2 := hpb.out
  have hs3 : w1.heap.size ≤ w3.heap.size := by rw [p3.out, putAll_size]; exact b2.size
  have up : ∀ k, k < w1.heap.size → w3.heap[k]? = w1.heap[k]? := fun k hk => by rw [p3.out]; exact (putAll_other pb _ w2 0 k (by omega)).trans (b2.block k hk)
  refine ⟨rdC_new k3 ?_ (fun g hg => by have := own_lt ho.out g hg; omega), ?_, by omega, by omega, below_all (by omega) B2 p3.out⟩
  · refine ho.out.kept (w' := w3) (row := some pb) ⟨?_, ?_, ?_, hs3, fun k hk _ => up k hk⟩ (.inr fun h => by have := own_lt ho.out _ h; omega)
    · rw [p3.out, (putAll_misc pb _ w2 0).1, b2.os]
    · rw [p3.out, (putAll_misc pb _ w2 0).2.1, b2.tape]
    · rw [p3.out, (putAll_misc pb _ w2 0).2.2, b2.output]
  · exact (up rb (by omega)).trans ((b1.block rb z0).trans k0)
theorem PO_bad {w : World} (s : List UInt8) (F : Bool) (j : Nat) (c : Cm) (hs : s.length ≤ 9223372036854775000) (hE : (scanS s).2.2 = 0) (hc : commandS (scanS s).1 (0, false) = (c, (j, F))) (hb : F = true ∨ j < (scanS s).1.length) :
    Calls Tryz.prog 9 #[.string ⟨s.toArray⟩] w fun e w' => e = .returned (.tuple #[.agg cmZ.toArray, .int .i64 (pl (scanS s).1 (s.length : Nat) j), .int .i64 1]) ∧ Below w.heap.size w w' := by
  have hsc := scanOf_ok hs hE
  have hcm : ∀ (W : World) (base pb : Nat) (v : Value), RdC W base pb v (scanS s).1 (s.length : Nat) (nilS, nilS, nilS) (0, false) cm0 → Calls Tryz.prog 23 #[.pointer (some ⟨pb, 0, none⟩)] W fun e w' => e = .returned (.tuple #[]) ∧ (∃ L', RdC w' base pb v (scanS s).1 (s.length : Nat) L' (j, F) c) ∧ W.grownBy w' (some pb) := fun W base pb v h => commandC h hc
  have hhr : ∀ (W : World) (base pb : Nat) (v : Value) (L' : Value × Value × Value), RdC W base pb v (scanS s).1 (s.length : Nat) L' (j, F) c → Calls Tryz.prog 24 #[.pointer (some ⟨pb, 0, none⟩)] W fun e w' => e = .returned (.int .i64 (pl (scanS s).1 (s.length : Nat) j)) ∧ Below W.heap.size W w' := fun W base pb v L' h => hereC h
  have hz : (⟨s.toArray⟩ : ByteArray).size = s.length := size_mk s
  have HB := hide hb
  have hcase : F = true ∨ (F = false ∧ ((j : Int) < (((scanS s).1.length : Nat) : Int))) := by
    rcases hb with h | h
    · exact .inl h
    · cases F
      · exact .inr ⟨rfl, by omega⟩
      · exact .inl rfl
  generalize pl (scanS s).1 (s.length : Nat) j = PP at hhr ⊢
  clear hc hE hs hb
  go_enter Tryz.func9, Tryz.ntmps9
  go_wp2_with (first | (refine wpList_alloc_blk 2 31 cmZ rfl rfl rfl Tryz.alloc31 ?_; intro W0 rb hrb k0 b0) | (go_at_call 22; refine (hsc _).mono ?_; rintro e w1 ⟨ao, cap, A, rfl, ho, b1⟩) | (refine wpList_alloc_blk 8 50 rdZ rfl rfl rfl Tryz.alloc50 ?_; intro w2 pb hpb k2 b2) | (refine wpList_store_whole 50 _ _ rfl rfl pb rdZ (.slice ao (scanS s).1.length cap :: .int .i64 0 :: .int .i64 ((s.length : Nat) : Int) :: .bool false :: cmZ) 50 rfl rfl (by exact k2) rfl Tryz.size50 (by exact rd_one rfl) ?_; intro w3 k3 p3))
  have M := hide (made_of hrb k0 b0 ho b1 hpb b2 k3 p3)
  clear p3 k0 b0 ho b1 b2 k2 k3 hsc
  refine (hcm _ _ _ _ M.out.rd).mono ?_
  rintro e w4 ⟨rfl, ⟨L', R4⟩, g4⟩
  have k4 : w4.heap[rb]? = some (.cells cmZ.toArray 31) := (g4.block rb (ltS M.out.res) (by have := M.out.lt; simp only [ne_eq, Option.some.injEq]; omega)).trans M.out.res
  have B4 := hide (below_grown M.out.bel (by have := M.out.lt; have := M.out.le; omega) g4)
  have c1 : w4.cell? ⟨pb, 1, none⟩ = some (.int .i64 ((j : Nat) : Int)) := R4.cells.1
  have c3 : w4.cell? ⟨pb, 3, none⟩ = some (.bool F) := R4.cells.2
  have HR := hide R4
  clear R4 g4 hcm
  rcases hcase with rfl | ⟨rfl, hjlt⟩
  all_goals
    go_wp2_with (first | (go_at_call 24; refine (hhr _ _ _ _ _ HR.out).mono ?_; rintro e w5 ⟨rfl, b5⟩; have k5 := (b5.block rb (ltS k4)).trans k4) | (refine wpList_store_whole 31 _ _ rfl rfl rb cmZ cmZ 31 rfl rfl (by exact k5) rfl Tryz.size31 (by exact (cmIn0 0 w5 cm0 rfl rfl rfl rfl rfl).one) ?_; intro w6 k6 p6))
    have B6 := below_all M.out.le (B4.out.trans (b5.mono B4.out.size)) p6.out
    exact bodyPost_ret (results_of9 _ _ rb cmZ _ _ rfl rfl rfl rfl k6) rfl ⟨rfl, B6⟩
theorem Rd.range {w : World} {base rb : Nat} {v : Value} {T : List Tk} {en : Int} {s : Sx} {cs : List Value} (h : Rd w base rb v T en s cs) : w.rangeAt rb 4 cs := by
  intro j x hx
  rw [Lib.cell_of_heap h.blk, Nat.add_comm 4 j]
  simpa using hx
theorem PO_wrong {w : World} (s : List UInt8) (j : Nat) (c : Cm) (E : Int) (hs : s.length ≤ 9223372036854775000) (hE : (scanS s).2.2 = 0) (hc : commandS (scanS s).1 (0, false) = (c, (j, false))) (hj : ¬ j < (scanS s).1.length) (hf : CmFit c) (hq : chkC (manyC c) (refC c) = E) (hd : ¬ E = 0) :
    Calls Tryz.prog 9 #[.string ⟨s.toArray⟩] w fun e w' => e = .returned (.tuple #[.agg cmZ.toArray, .int .i64 0, .int .i64 E]) ∧ Below w.heap.size w w' := by
  have hsc := scanOf_ok hs hE
  have hcm : ∀ (W : World) (base pb : Nat) (v : Value), RdC W base pb v (scanS s).1 (s.length : Nat) (nilS, nilS, nilS) (0, false) cm0 → Calls Tryz.prog 23 #[.pointer (some ⟨pb, 0, none⟩)] W fun e w' => e = .returned (.tuple #[]) ∧ (∃ L', RdC w' base pb v (scanS s).1 (s.length : Nat) L' (j, false) c) ∧ W.grownBy w' (some pb) := fun W base pb v h => commandC h hc
  have hck : ∀ (W : World) (cv vv fv ea wa : Value), CmIn 0 W c cv vv fv ea wa → Calls Tryz.prog 13 #[.agg (cmL c cv vv fv ea wa).toArray] W fun e w' => e = .returned (.int .i64 E) ∧ Below W.heap.size W w' := by
    intro W cv vv fv ea wa hi
    rw [← hq]
    exact checkCmd_any c cv vv fv ea wa hi hf
  have hz : (⟨s.toArray⟩ : ByteArray).size = s.length := size_mk s
  have hjlt : ¬ ((j : Int) < (((scanS s).1.length : Nat) : Int)) := by omega
  clear hc hE hs hj hq hf
  go_enter Tryz.func9, Tryz.ntmps9
  go_wp2_with (first | (refine wpList_alloc_blk 2 31 cmZ rfl rfl rfl Tryz.alloc31 ?_; intro W0 rb hrb k0 b0) | (go_at_call 22; refine (hsc _).mono ?_; rintro e w1 ⟨ao, cap, A, rfl, ho, b1⟩) | (refine wpList_alloc_blk 8 50 rdZ rfl rfl rfl Tryz.alloc50 ?_; intro w2 pb hpb k2 b2) | (refine wpList_store_whole 50 _ _ rfl rfl pb rdZ (.slice ao (scanS s).1.length cap :: .int .i64 0 :: .int .i64 ((s.length : Nat) : Int) :: .bool false :: cmZ) 50 rfl rfl (by exact k2) rfl Tryz.size50 (by exact rd_one rfl) ?_; intro w3 k3 p3))
  have M := hide (made_of hrb k0 b0 ho b1 hpb b2 k3 p3)
  clear p3 k0 b0 ho b1 b2 k2 k3 hsc
  refine (hcm _ _ _ _ M.out.rd).mono ?_
  rintro e w4 ⟨rfl, ⟨L', R4⟩, g4⟩
  have k4 : w4.heap[rb]? = some (.cells cmZ.toArray 31) := (g4.block rb (ltS M.out.res) (by have := M.out.lt; simp only [ne_eq, Option.some.injEq]; omega)).trans M.out.res
  have B4 := hide (below_grown M.out.bel (by have := M.out.lt; have := M.out.le; omega) g4)
  have c1 : w4.cell? ⟨pb, 1, none⟩ = some (.int .i64 ((j : Nat) : Int)) := R4.cells.1
  have c3 : w4.cell? ⟨pb, 3, none⟩ = some (.bool false) := R4.cells.2
  obtain ⟨ea, wa, r4, i4⟩ := R4
  obtain ⟨cv, vv, fv⟩ := L'
  have HR := hide r4
  have HI := hide i4
  clear r4 i4 g4 hcm
  go_wp2_with (first | (go_at_call 13; refine (hck _ _ _ _ _ _ (HI.out.weak (Nat.zero_le _))).mono ?_; rintro e w5 ⟨rfl, b5⟩; have k5 := (b5.block rb (ltS k4)).trans k4; have HR5 := hide (HR.out.below b5); have HI5 := hide (HI.out.under b5)) | (refine wpList_load_mid rfl 31 _ rfl pb 4 rfl (cmL c cv vv fv ea wa) _ (by exact HR.out.range) Tryz.underlying31 rfl Tryz.size31 ?_) | (refine wpList_store_whole 31 _ _ rfl rfl rb cmZ cmZ 31 rfl rfl (by exact k5) rfl Tryz.size31 (by exact (cmIn0 0 w5 cm0 rfl rfl rfl rfl rfl).one) ?_; intro w6 k6 p6))
  have B6 := below_all M.out.le (B4.out.trans (b5.mono B4.out.size)) p6.out
  exact bodyPost_ret (results_of9 _ _ rb cmZ _ _ rfl rfl rfl rfl k6) rfl ⟨rfl, B6⟩
theorem PO_right {w : World} (s : List UInt8) (j : Nat) (c : Cm) (E : Int) (hs : s.length ≤ 9223372036854775000) (hE : (scanS s).2.2 = 0) (hc : commandS (scanS s).1 (0, false) = (c, (j, false))) (hj : ¬ j < (scanS s).1.length) (hf : CmFit c) (hq : chkC (manyC c) (refC c) = E) (hd : E = 0) :
    Calls Tryz.prog 9 #[.string ⟨s.toArray⟩] w fun e w' => (∃ u, e = .returned (.tuple #[u, .int .i64 0, .int .i64 0]) ∧ CmAt w.heap.size w' u c) ∧ Below w.heap.size w w' := by
  have hsc := scanOf_ok hs hE
  have hcm : ∀ (W : World) (base pb : Nat) (v : Value), RdC W base pb v (scanS s).1 (s.length : Nat) (nilS, nilS, nilS) (0, false) cm0 → Calls Tryz.prog 23 #[.pointer (some ⟨pb, 0, none⟩)] W fun e w' => e = .returned (.tuple #[]) ∧ (∃ L', RdC w' base pb v (scanS s).1 (s.length : Nat) L' (j, false) c) ∧ W.grownBy w' (some pb) := fun W base pb v h => commandC h hc
  have hck : ∀ (W : World) (cv vv fv ea wa : Value), CmIn 0 W c cv vv fv ea wa → Calls Tryz.prog 13 #[.agg (cmL c cv vv fv ea wa).toArray] W fun e w' => e = .returned (.int .i64 E) ∧ Below W.heap.size W w' := by
    intro W cv vv fv ea wa hi
    rw [← hq]
    exact checkCmd_any c cv vv fv ea wa hi hf
  have hz : (⟨s.toArray⟩ : ByteArray).size = s.length := size_mk s
  have hjlt : ¬ ((j : Int) < (((scanS s).1.length : Nat) : Int)) := by omega
  clear hc hE hs hj hq hf
  subst hd
  go_enter Tryz.func9, Tryz.ntmps9
  go_wp2_with (first | (refine wpList_alloc_blk 2 31 cmZ rfl rfl rfl Tryz.alloc31 ?_; intro W0 rb hrb k0 b0) | (go_at_call 22; refine (hsc _).mono ?_; rintro e w1 ⟨ao, cap, A, rfl, ho, b1⟩) | (refine wpList_alloc_blk 8 50 rdZ rfl rfl rfl Tryz.alloc50 ?_; intro w2 pb hpb k2 b2) | (refine wpList_store_whole 50 _ _ rfl rfl pb rdZ (.slice ao (scanS s).1.length cap :: .int .i64 0 :: .int .i64 ((s.length : Nat) : Int) :: .bool false :: cmZ) 50 rfl rfl (by exact k2) rfl Tryz.size50 (by exact rd_one rfl) ?_; intro w3 k3 p3))
  have M := hide (made_of hrb k0 b0 ho b1 hpb b2 k3 p3)
  clear p3 k0 b0 ho b1 b2 k2 k3 hsc
  refine (hcm _ _ _ _ M.out.rd).mono ?_
  rintro e w4 ⟨rfl, ⟨L', R4⟩, g4⟩
  have k4 : w4.heap[rb]? = some (.cells cmZ.toArray 31) := (g4.block rb (ltS M.out.res) (by have := M.out.lt; simp only [ne_eq, Option.some.injEq]; omega)).trans M.out.res
  have B4 := hide (below_grown M.out.bel (by have := M.out.lt; have := M.out.le; omega) g4)
  have c1 : w4.cell? ⟨pb, 1, none⟩ = some (.int .i64 ((j : Nat) : Int)) := R4.cells.1
  have c3 : w4.cell? ⟨pb, 3, none⟩ = some (.bool false) := R4.cells.2
  obtain ⟨ea, wa, r4, i4⟩ := R4
  obtain ⟨cv, vv, fv⟩ := L'
  have HR := hide r4
  have HI := hide i4
  clear r4 i4 g4 hcm
  go_wp2_with (first | (go_at_call 13; refine (hck _ _ _ _ _ _ (HI.out.weak (Nat.zero_le _))).mono ?_; rintro e w5 ⟨rfl, b5⟩; have k5 := (b5.block rb (ltS k4)).trans k4; have HR5 := hide (HR.out.below b5); have HI5 := hide (HI.out.under b5)) | (refine wpList_load_mid rfl 31 _ rfl pb 4 rfl (cmL c cv vv fv ea wa) _ (by first | exact HR5.out.range | exact HR.out.range) Tryz.underlying31 rfl Tryz.size31 ?_) | (refine wpList_store_whole 31 _ _ rfl rfl rb cmZ (cmL c cv vv fv ea wa) 31 rfl rfl (by exact k5) rfl Tryz.size31 (by exact HI5.out.one) ?_; intro w6 k6 p6))
  have B6 := below_all M.out.le (B4.out.trans (b5.mono B4.out.size)) p6.out
  have m6 : CmIn (pb + 1) w6 c cv vv fv ea wa := by
    rw [p6.out]
    exact HI5.out.putAll (by have := M.out.lt; omega) 0 _
  exact bodyPost_ret (results_of9 _ _ rb (cmL c cv vv fv ea wa) _ _ rfl rfl rfl rfl k6) rfl ⟨⟨_, rfl, cv, vv, fv, ea, wa, rfl, m6.weak (by have := M.out.lt; have := M.out.le; omega)⟩, B6⟩
theorem small_cells {c : Cm} (h1 : c.kind = 12) (h2 : c.column = [97]) (h3 : c.all = false) (h4 : c.expr.k = 7) (h5 : c.wh.k = 11) {W : World} {b : Nat} {t : TypeId} {cv vv fv ea wa : Value} (h : W.heap[b]? = some (.cells (cmL c cv vv fv ea wa).toArray t)) :
    W.cell? ⟨b, 0, none⟩ = some (.int .i64 12) ∧ W.cell? ⟨b, 3, none⟩ = some (.string ⟨#[97]⟩) ∧ W.cell? ⟨b, 17, none⟩ = some (.bool false) ∧ W.cell? ⟨b, 11, none⟩ = some (.int .i64 7) ∧ W.cell? ⟨b, 18, none⟩ = some (.int .i64 11) := by
  have e0 : W.cell? ⟨b, 0, none⟩ = some (.int .i64 c.kind) := (Lib.cell_of_heap h _).trans rfl
  have e3 : W.cell? ⟨b, 3, none⟩ = some (.string ⟨c.column.toArray⟩) := (Lib.cell_of_heap h _).trans rfl
  have e17 : W.cell? ⟨b, 17, none⟩ = some (.bool c.all) := (Lib.cell_of_heap h _).trans rfl
  have e11 : W.cell? ⟨b, 11, none⟩ = some (.int .i64 c.expr.k) := (Lib.cell_of_heap h _).trans rfl
  have e18 : W.cell? ⟨b, 18, none⟩ = some (.int .i64 c.wh.k) := (Lib.cell_of_heap h _).trans rfl
  rw [h1] at e0
  rw [h2] at e3
  rw [h3] at e17
  rw [h4] at e11
  rw [h5] at e18
  exact ⟨e0, e3, e17, e11, e18⟩
theorem cbegun_of (c : Cm) (h1 : c.kind = 12) (h2 : c.column = [97]) (h3 : c.all = false) (h4 : c.expr.k = 7) (h5 : c.wh.k = 11) (hf : CmFit c) (hq : chkC (manyC c) (rightC c) = 0) (w : World) (hl : Laid w)
    (hp : ∀ W, Laid W → Calls Tryz.prog 8 #[.string ⟨#[117, 112, 100, 97, 116, 101, 32, 116, 32, 115, 101, 116, 32, 97, 32, 61, 32, 40, 97, 32, 43, 32, 49, 41, 32, 119, 104, 101, 114, 101, 32, 40, 98, 32, 61, 32, 39, 120, 39, 41, 32]⟩] W fun e w' => (∃ cv vv fv ea wa, e = .returned (.tuple #[.agg (cmL c cv vv fv ea wa).toArray, .int .i64 0, .int .i64 0]) ∧ Hid (CmIn W.heap.size w' c cv vv fv ea wa)) ∧ Below W.heap.size W w') :
    Calls Tryz.prog 10 #[] w fun e w' => e = .returned (.bool true) ∧ Below w.heap.size w w' := by
  have hck : ∀ (W : World) (cv vv fv ea wa : Value), CmIn 0 W c cv vv fv ea wa → Laid W → Calls Tryz.prog 12 #[.agg (cmL c cv vv fv ea wa).toArray] W fun e w' => e = .returned (.int .i64 0) ∧ Below W.heap.size W w' := by
    intro W cv vv fv ea wa hi hL
    rw [← hq]
    exact check_cmd c cv vv fv ea wa hi hf hL
  have HL := hide hl
  have hp := hp w hl
  have hm := fun {W : World} {b : Nat} {cv vv fv ea wa : Value} => @small_cells c h1 h2 h3 h4 h5 W b 31 cv vv fv ea wa
  clear hl h1 h2 h3 h4 h5 hq hf
  go_enter Tryz.func10, Tryz.ntmps10
  go_wp2_with fail
  refine hp.mono ?_
  rintro e w2 ⟨⟨cv, vv, fv, ea, wa, rfl, hi⟩, b2⟩
  clear hp
  go_wp2_with (first | (refine wpList_alloc_blk 1 31 cmZ rfl rfl rfl Tryz.alloc31 ?_; intro w4 cb hcb k4 b4) | (refine wpList_store_whole 31 _ _ rfl rfl cb cmZ (cmL c cv vv fv ea wa) 31 rfl rfl (by exact k4) rfl Tryz.size31 (by exact hi.out.one) ?_; intro w6 k6 p6; have b6 := below_put hcb b4 p6; obtain ⟨m0, m3, m17, m11, m18⟩ := hm k6; clear p6) | (refine wpList_load_if 31 _ (by rfl) rfl _ (cmL c cv vv fv ea wa) 31 _ rfl (by exact k6) Tryz.underlying31 rfl Tryz.size31 ?_) | (refine (hck _ _ _ _ _ _ ((hi.out.under b6).weak (Nat.zero_le _)) ((HL.out.below b2).below b6)).mono ?_; rintro e w7 ⟨rfl, b7⟩))
  go_ret
  have q6 : Below w.heap.size w w6 := b2.trans (b6.mono b2.size)
  exact ⟨rfl, q6.trans (b7.mono q6.size)⟩
theorem cbegun_any (w : World) (hl : Laid w) : Calls Tryz.prog 10 #[] w fun e w' => e = .returned (.bool true) ∧ Below w.heap.size w w' := by
  refine cbegun_of smallC rfl rfl rfl rfl rfl small_fit small_check w hl fun W hL => ?_
  have h := parse_all smallL W (by decide) hL
  rw [small_parse] at h
  refine h.mono ?_
  rintro e w' ⟨⟨u, rfl, cv, vv, fv, ea, wa, rfl, hi⟩, hb⟩
  exact ⟨⟨cv, vv, fv, ea, wa, rfl, hi⟩, hb⟩
theorem pof_all (s : List UInt8) (w : World) (hs : s.length ≤ 9223372036854775000) :
    Calls Tryz.prog 9 #[.string ⟨s.toArray⟩] w fun e w' => (∃ u, e = .returned (.tuple #[u, .int .i64 (parseF s).2.1, .int .i64 (parseF s).1]) ∧ CmAt w.heap.size w' u (parseF s).2.2) ∧ Below w.heap.size w w' := by
  have hD := command_does (scanS s).1
  have hP := command_scanned s 0
  unfold parseF
  by_cases hE : (scanS s).2.2 = 0
  · rw [if_pos hE]
    unfold wholeP
    rw [hP]
    cases hR : commandR (scanS s).1 0 with
    | bad j =>
      have h1 := (hD.1 0).2 j hR
      obtain ⟨c, z⟩ : ∃ c, commandS (scanS s).1 (0, false) = (c, (j, true)) := ⟨(commandS (scanS s).1 (0, false)).1, Prod.ext rfl h1⟩
      refine (PO_bad s true j c hs hE z (.inl rfl)).mono ?_
      rintro e w' ⟨rfl, hb⟩
      exact ⟨⟨_, rfl, cmZ_at _ _⟩, hb⟩
    | ok c j =>
      have h1 := (hD.1 0).1 c j hR
      have hw : wholeP (scanS s).1 = (if j < (scanS s).1.length then .bad j else .ok c j) := by unfold wholeP; rw [hP, hR]; rfl
      by_cases hj : j < (scanS s).1.length
      · refine (PO_bad s false j c hs hE h1 (.inr hj)).mono ?_
        rintro e w' ⟨rfl, hb⟩
        simp only [Rs.then, if_pos hj]
        exact ⟨⟨_, rfl, cmZ_at _ _⟩, hb⟩
      · rw [if_neg hj] at hw
        have hf := scanned_fit hw
        simp only [Rs.then, if_neg hj]
        rw [rightC_iff]
        by_cases hq : chkC (manyC c) (refC c) = 0
        · rw [if_pos hq]
          refine (PO_right s j c _ hs hE h1 hj hf hq rfl).mono ?_
          rintro e w' ⟨⟨u, rfl, hu⟩, hb⟩
          exact ⟨⟨u, rfl, hu⟩, hb⟩
        · rw [if_neg hq]
          refine (PO_wrong s j c _ hs hE h1 hj hf rfl hq).mono ?_
          rintro e w' ⟨rfl, hb⟩
          exact ⟨⟨_, rfl, cmZ_at _ _⟩, hb⟩
  · rw [if_neg hE]
    refine (PO_scan s _ _ hs rfl rfl hE).mono ?_
    rintro e w' ⟨rfl, hb⟩
    exact ⟨⟨_, rfl, cmZ_at _ _⟩, hb⟩
theorem parses_of (s : List UInt8) (c : Cm) (A E : Int) (w : World) (hl : Laid w) (hf : CmFit c)
    (hp : ∀ W, Laid W → Calls Tryz.prog 8 #[.string ⟨s.toArray⟩] W fun e w' => (∃ cv vv fv ea wa, e = .returned (.tuple #[.agg (cmL c cv vv fv ea wa).toArray, .int .i64 A, .int .i64 E]) ∧ Hid (CmIn W.heap.size w' c cv vv fv ea wa)) ∧ Below W.heap.size W w')
    (hr : ∀ W, Calls Tryz.prog 9 #[.string ⟨s.toArray⟩] W fun e w' => (∃ cv vv fv ea wa, e = .returned (.tuple #[.agg (cmL c cv vv fv ea wa).toArray, .int .i64 A, .int .i64 E]) ∧ Hid (CmIn W.heap.size w' c cv vv fv ea wa)) ∧ Below W.heap.size W w') :
    Calls Tryz.prog 3 #[.string ⟨s.toArray⟩] w fun e w' => e = .returned (.bool true) ∧ Below w.heap.size w w' := by
  have HL := hide hl
  have hsm : ∀ (W : World) (cv vv fv ea wa cv' vv' fv' ea' wa' : Value), CmIn 0 W c cv vv fv ea wa → CmIn 0 W c cv' vv' fv' ea' wa' → Calls Tryz.prog 11 #[.agg (cmL c cv vv fv ea wa).toArray, .agg (cmL c cv' vv' fv' ea' wa').toArray] W fun e w' => e = .returned (.bool true) ∧ Below W.heap.size W w' :=
    fun W cv vv fv ea wa cv' vv' fv' ea' wa' h h' => sameC_same c cv vv fv ea wa cv' vv' fv' ea' wa' W h h' hf
  clear hl hf
  go_enter Tryz.func3, Tryz.ntmps3
  go_wp2_with fail
  refine (hp _ HL.out).mono ?_
  rintro e w1 ⟨⟨cv, vv, fv, ea, wa, rfl, i1⟩, b1⟩
  go_wp2_with (first | (refine wpList_alloc_blk 3 31 cmZ rfl rfl rfl Tryz.alloc31 ?_; intro w2 cb hcb k2 b2) | (refine wpList_store_whole 31 _ _ rfl rfl cb cmZ (cmL c cv vv fv ea wa) 31 rfl rfl (by exact k2) rfl Tryz.size31 (by exact i1.out.one) ?_; intro w3 k3 p3; have b3 := below_put hcb b2 p3; have i3 := hide (i1.out.under b3); have B3 := hide (b1.trans (b3.mono b1.size)); clear p3))
  refine (hr _).mono ?_
  rintro e w4 ⟨⟨cx, vx, fx, ex, wx, rfl, i4⟩, b4⟩
  have k4 := (b4.block cb (ltS k3)).trans k3
  have j4 := hide (i3.out.under b4)
  have B4 := hide (B3.out.trans (b4.mono B3.out.size))
  clear b1 b2 b3 b4 i1 i3 k2 k3
  go_wp2_with (first | (refine wpList_alloc_blk 6 31 cmZ rfl rfl rfl Tryz.alloc31 ?_; intro w5 db hdb k5 b5) | (refine wpList_store_whole 31 _ _ rfl rfl db cmZ (cmL c cx vx fx ex wx) 31 rfl rfl (by exact k5) rfl Tryz.size31 (by exact i4.out.one) ?_; intro w6 k6 p6; have b6 := below_put hdb b5 p6; have q6 := (b6.block cb (ltS k4)).trans k4; have i6 := hide (i4.out.under b6); have j6 := hide (j4.out.under b6); have B6 := hide (B4.out.trans (b6.mono B4.out.size)); clear p6) | (go_at_call 10; refine (cbegun_any _ (HL.out.below B6.out)).mono ?_; rintro e w7 ⟨rfl, b7⟩; have k7 := (b7.block db (ltS k6)).trans k6; have q7 := (b7.block cb (ltS q6)).trans q6; have i7 := hide (i6.out.under b7); have j7 := hide (j6.out.under b7); have B7 := hide (B6.out.trans (b7.mono B6.out.size))) | (refine wpList_load_if 31 _ (by rfl) rfl cb (cmL c cv vv fv ea wa) 31 _ rfl (by exact q7) Tryz.underlying31 rfl Tryz.size31 ?_) | (refine wpList_load_if 31 _ (by rfl) rfl db (cmL c cx vx fx ex wx) 31 _ rfl (by exact k7) Tryz.underlying31 rfl Tryz.size31 ?_) | (go_at_call 11; refine (hsm _ _ _ _ _ _ _ _ _ _ _ (j7.out.weak (Nat.zero_le _)) (i7.out.weak (Nat.zero_le _))).mono ?_; rintro e w8 ⟨rfl, b8⟩))
  go_ret
  exact ⟨ret_bool (by simp), B7.out.trans (b8.mono B7.out.size)⟩
theorem parses_any (s : List UInt8) (hs : s.length ≤ 9223372036854775000) (w : World) (hl : Laid w) : Calls Tryz.prog 3 #[.string ⟨s.toArray⟩] w fun e w' => e = .returned (.bool true) ∧ Below w.heap.size w w' := by
  refine parses_of s (parseF s).2.2 (parseF s).2.1 (parseF s).1 w hl (parseF_fit s) (fun W hL => ?_) (fun W => ?_)
  · refine (parse_all s W hs hL).mono ?_
    rintro e w' ⟨⟨u, rfl, cv, vv, fv, ea, wa, rfl, hi⟩, hb⟩
    exact ⟨⟨cv, vv, fv, ea, wa, rfl, hi⟩, hb⟩
  · refine (pof_all s W hs).mono ?_
    rintro e w' ⟨⟨u, rfl, cv, vv, fv, ea, wa, rfl, hi⟩, hb⟩
    exact ⟨⟨cv, vv, fv, ea, wa, rfl, hi⟩, hb⟩
end Go.Proofs.YtkpeklealgicpabGreatDoor
namespace Go.Proofs.YtkpeklealgicpabGreatDoor
open Go.ChangeShapes Go.WideShapes Go.ChangeAt Go.RowKit
theorem Tryz.own : ownKnob Tryz.prog.godebug = none := by kernel_rfl
theorem Tryz.gPowType : (Tryz.prog.globals[1]?).map (·.type) = some 174 := by kernel_rfl
theorem Tryz.gESType : (Tryz.prog.globals[2]?).map (·.type) = some 74 := by kernel_rfl
theorem Tryz.gERType : (Tryz.prog.globals[3]?).map (·.type) = some 74 := by kernel_rfl
theorem Tryz.c174 : Tryz.prog.cellsOf 174 = 20 := by kernel_rfl
theorem Tryz.c159 : Tryz.prog.cellsOf 159 = 1 := by kernel_rfl
theorem Tryz.c187 : Tryz.prog.cellsOf 187 = 1 := by kernel_rfl
theorem Tryz.c9 : Tryz.prog.cellsOf 9 = 1 := by kernel_rfl
theorem Tryz.star : "*" ++ "errors.errorString" = "*errors.errorString" := by decide
theorem Tryz.row185 (u : TypeId) (h : Tryz.prog.typeName? 3 u = some "*errors.errorString") : u = 185 :=
  typeName_ptr_named (nm := "errors.errorString") (by rw [Tryz.star]; kernel_rfl) (by kernel_rfl) (by decide) u (by rw [Tryz.star]; exact h)
theorem pow_laid : (Rows.laid_internal_strconv_uint64pow10 : DataW Unit) = Lib.tabData .u64 Lib.pow10Tab := by rfl
theorem Tryz.six : Tryz.prog.globals.size = 6 := by kernel_rfl
theorem max_int {W : World} (h : W.ShapedOpen Tryz.prog) : ∃ m, W.cell? ⟨0, 0, none⟩ = some (.int .i64 m) :=
  Go.Proofs.cell_of_shapedOpen_int (t := 3) (zero := #[.int .i64 0]) h (by rw [Tryz.six]; decide) (by kernel_rfl) rfl (by kernel_rfl) (by kernel_rfl) Tryz.underlying3
theorem low_six {W : World} (h : W.ShapedOpen Tryz.prog) : 6 ≤ W.heap.size := by
  have hz : (((begin Tryz.prog (fun _ _ => 0) default).world.heap[5]?).bind Obj.row?).isSome = true := by kernel_rfl
  obtain ⟨⟨z, t⟩, hz⟩ := Option.isSome_iff_exists.1 hz
  obtain ⟨cs, hh, -⟩ := h.1 5 z t (by rw [Tryz.six]; decide) hz
  have := (ltS hh)
  omega
theorem laid_of {W : World} (h : laidMetH Tryz.prog Rows.commandTellsRow.laid W) (hs : W.ShapedOpen Tryz.prog) : Laid W := by
  rw [MakeChecks.laidMetH_plain _ _ _ (by kernel_rfl)] at h
  have h3 : laidMet Tryz.prog (("internal/strconv.uint64pow10", Rows.laid_internal_strconv_uint64pow10) :: ("strconv.ErrRange", Rows.laid_strconv_ErrRange) :: ("strconv.ErrSyntax", Rows.laid_strconv_ErrSyntax) :: []) W := h.tail.tail
  rw [pow_laid] at h3
  refine ⟨Lib.tabIs_of_head Tryz.gPow Tryz.gPowType Tryz.underlying174 Tryz.underlying159 Tryz.c159 Tryz.c174 h3, ?_, ?_, max_int hs, low_six hs⟩
  · obtain ⟨a0, s0, hv0, -, -, -⟩ := laid_sentinel h3.tail.tail Tryz.gES Tryz.gESType Tryz.underlying74 Tryz.row185 Tryz.underlying185 Tryz.underlying187 rfl rfl Tryz.underlying9 Tryz.c187 Tryz.c9
    exact ⟨_, _, hv0⟩
  · obtain ⟨a0, s0, hv0, -, -, -⟩ := laid_sentinel h3.tail Tryz.gER Tryz.gERType Tryz.underlying74 Tryz.row185 Tryz.underlying185 Tryz.underlying187 rfl rfl Tryz.underlying9 Tryz.c187 Tryz.c9
    exact ⟨_, _, hv0⟩
theorem door_met (os : Os) (args : Array Value) : laidMetH Tryz.prog Rows.commandTellsRow.laid ((World.doorLaid Tryz.prog 200 os).forCall (fun _ _ => 0) ⟨#[], args, []⟩).memory := by
  rw [MakeChecks.laidMetH_plain _ _ _ (by kernel_rfl)]
  exact laidMet_of_run' 8 (by kernel_rfl) (by kernel_rfl)
end Go.Proofs.YtkpeklealgicpabGreatDoor
