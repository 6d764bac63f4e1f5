/-
  The program's Same: of two commands that are alike, and of two of another kind.
  The program's Same: of two commands that are not alike.
  The program's Same: of two commands that are not alike.
  The program's Same: of two commands that are not alike.
  The document's SameCmd and the program's Same, of any two commands.
  PlainExpr of the document: its region.
-/
import Derived.Test.YtkpeklealgicpabGreatDoorQa
import Derived.Test.YtkpeklealgicpabGreatDoorQd
import Derived.Test.YtkpeklealgicpabGreatDoorQf

set_option maxRecDepth 100000
set_option maxHeartbeats 8000000
namespace Go.Proofs.YtkpeklealgicpabGreatDoor
open Go.RowKit
theorem ydq {W:World} {b:Nat} {t:TypeId} {c:Cm} {cv vv fv ea wa:Value} (h:W.heap[b]?=some (.cells (cmL c cv vv fv ea wa).toArray t)) :
  W.cell? ⟨b,0,none⟩=some (.int .i64 c.kind)∧W.cell? ⟨b,1,none⟩=some (.string ⟨c.name.toArray⟩)∧W.cell? ⟨b,2,none⟩=some (.string ⟨c.other.toArray⟩)∧W.cell? ⟨b,3,none⟩=some (.string ⟨c.column.toArray⟩)∧W.cell? ⟨b,4,none⟩=some (cv):=by
 refine ⟨?_, ?_, ?_, ?_, ?_⟩ <;> exact (Lib.cell_of_heap h _).trans rfl
theorem yfF {W:World} {b:Nat} {t:TypeId} {c:Cm} {cv vv fv ea wa:Value} (h:W.heap[b]?=some (.cells (cmL c cv vv fv ea wa).toArray t)) :
  W.cell? ⟨b,5,none⟩=some (.int .i64 c.ty)∧W.cell? ⟨b,6,none⟩=some (.int .i64 c.val.k)∧W.cell? ⟨b,7,none⟩=some (.int .i64 c.val.n)∧W.cell? ⟨b,8,none⟩=some (.string ⟨c.val.s.toArray⟩)∧W.cell? ⟨b,9,none⟩=some (vv):=by
 refine ⟨?_, ?_, ?_, ?_, ?_⟩ <;> exact (Lib.cell_of_heap h _).trans rfl
theorem yiK {W:World} {b:Nat} {t:TypeId} {c:Cm} {cv vv fv ea wa:Value} (h:W.heap[b]?=some (.cells (cmL c cv vv fv ea wa).toArray t)) :
  W.cell? ⟨b,10,none⟩=some (fv):=by
 exact (Lib.cell_of_heap h _).trans rfl
theorem ykg {W:World} {b:Nat} {t:TypeId} {c:Cm} {cv vv fv ea wa:Value} (h:W.heap[b]?=some (.cells (cmL c cv vv fv ea wa).toArray t)) :
  W.cell? ⟨b,11,none⟩=some (.int .i64 c.expr.k)∧W.cell? ⟨b,12,none⟩=some (.int .i64 c.expr.v.k)∧W.cell? ⟨b,13,none⟩=some (.int .i64 c.expr.v.n)∧W.cell? ⟨b,14,none⟩=some (.string ⟨c.expr.v.s.toArray⟩)∧W.cell? ⟨b,15,none⟩=some (.string ⟨c.expr.nm.toArray⟩)∧W.cell? ⟨b,16,none⟩=some (ea):=by
 refine ⟨?_, ?_, ?_, ?_, ?_, ?_⟩ <;> exact (Lib.cell_of_heap h _).trans rfl
theorem ymX {W:World} {b:Nat} {t:TypeId} {c:Cm} {cv vv fv ea wa:Value} (h:W.heap[b]?=some (.cells (cmL c cv vv fv ea wa).toArray t)) :
  W.cell? ⟨b,17,none⟩=some (.bool c.all)∧W.cell? ⟨b,18,none⟩=some (.int .i64 c.wh.k)∧W.cell? ⟨b,19,none⟩=some (.int .i64 c.wh.v.k)∧W.cell? ⟨b,20,none⟩=some (.int .i64 c.wh.v.n)∧W.cell? ⟨b,21,none⟩=some (.string ⟨c.wh.v.s.toArray⟩)∧W.cell? ⟨b,22,none⟩=some (.string ⟨c.wh.nm.toArray⟩)∧W.cell? ⟨b,23,none⟩=some (wa):=by
 refine ⟨?_, ?_, ?_, ?_, ?_, ?_, ?_⟩ <;> exact (Lib.cell_of_heap h _).trans rfl
theorem yrd {W:World} {b:Nat} {t:TypeId} {c:Cm} {cv vv fv ea wa:Value} (h:W.heap[b]?=some (.cells (cmL c cv vv fv ea wa).toArray t)) :
  W.cell? ⟨b,24,none⟩=some (.string ⟨c.order.toArray⟩)∧W.cell? ⟨b,25,none⟩=some (.int .i64 c.limit):=by
 refine ⟨?_, ?_⟩ <;> exact (Lib.cell_of_heap h _).trans rfl
theorem yph (c d:Cm) (a1 a2 a3 a1' a2' a3':Option Addr) (c1 c2 c3 c1' c2' c3':Nat) (ea wa ea' wa':Value) (w:World) (ne:c.kind≠d.kind) :
  Calls Tryz.prog 20 #[.agg (cmL c (.slice a1 c.cols.length c1) (.slice a2 c.vals.length c2) (.slice a3 c.fields.length c3) ea wa).toArray,.agg (cmL d (.slice a1' d.cols.length c1') (.slice a2' d.vals.length c2') (.slice a3' d.fields.length c3') ea' wa').toArray] w fun e w'=>e=.returned (.bool false)∧Below w.heap.size w w':=by
 have ne':(c.kind == d.kind)=false:=by simpa using ne
 clear ne
 go_enter Tryz.func20,Tryz.ntmps20
 go_wp2_with (first|(refine yah 2 31 _ (cmL c (.slice a1 c.cols.length c1) (.slice a2 c.vals.length c2) (.slice a3 c.fields.length c3) ea wa) rfl rfl rfl rfl ?_;intro W0 rb hrb k0 b0)|(refine yah 3 31 _ (cmL d (.slice a1' d.cols.length c1') (.slice a2' d.vals.length c2') (.slice a3' d.fields.length c3') ea' wa') rfl rfl rfl rfl ?_;intro W1 sb hsb j1 b1;have k1:=(b1.block rb (ltS k0)).trans k0;have B1:Hid (Below w.heap.size w W1):=b0.trans (b1.mono b0.size);obtain ⟨pa0,pa1,pa2,pa3,pa4⟩:=ydq k1;obtain ⟨qa0,qa1,qa2,qa3,qa4⟩:=ydq j1))
 go_ret
 exact ⟨rfl,B1.out⟩
theorem ymp (c d:Cm) (a1 a2 a3 a1' a2' a3':Option Addr) (c1 c2 c3 c1' c2' c3':Nat) (ea wa ea' wa':Value) (w:World) (e1:Hid (d.kind=c.kind)) (e2:Hid (d.name=c.name)) (e3:Hid (d.other=c.other)) (e4:Hid (d.column=c.column)) (h5:∀ W,Below w.heap.size w W→Calls Tryz.prog 51 #[.slice a1 c.cols.length c1,.slice a1' d.cols.length c1'] W fun e w'=>e=.returned (.bool true)∧Below W.heap.size W w') (e6:Hid (d.ty=c.ty)) (e7:Hid (d.val=c.val)) (h8:∀ W,Below w.heap.size w W→Calls Tryz.prog 52 #[.slice a2 c.vals.length c2,.slice a2' d.vals.length c2'] W fun e w'=>e=.returned (.bool true)∧Below W.heap.size W w') (h9:∀ W,Below w.heap.size w W→Calls Tryz.prog 53 #[.slice a3 c.fields.length c3,.slice a3' d.fields.length c3'] W fun e w'=>e=.returned (.bool true)∧Below W.heap.size W w') (h10:∀ W,Below w.heap.size w W→Calls Tryz.prog 54 #[exV c.expr.k c.expr.v c.expr.nm ea,exV d.expr.k d.expr.v d.expr.nm ea'] W fun e w'=>e=.returned (.bool true)∧Below W.heap.size W w') (e11:Hid (d.all=c.all)) (h12:∀ W,Below w.heap.size w W→Calls Tryz.prog 54 #[exV c.wh.k c.wh.v c.wh.nm wa,exV d.wh.k d.wh.v d.wh.nm wa'] W fun e w'=>e=.returned (.bool true)∧Below W.heap.size W w') (e13:Hid (d.order=c.order)) (e14:Hid (d.limit=c.limit)) :
  Calls Tryz.prog 20 #[.agg (cmL c (.slice a1 c.cols.length c1) (.slice a2 c.vals.length c2) (.slice a3 c.fields.length c3) ea wa).toArray,.agg (cmL d (.slice a1' d.cols.length c1') (.slice a2' d.vals.length c2') (.slice a3' d.fields.length c3') ea' wa').toArray] w fun e w'=>e=.returned (.bool true)∧Below w.heap.size w w':=by
 have hq:=ykG c.val c.val
 rw [(ybx c.val c.val).2 rfl] at hq
 simp only [exV] at h10 h12
 go_enter Tryz.func20,Tryz.ntmps20
 go_wp2_with (first|(refine yah 2 31 _ (cmL c (.slice a1 c.cols.length c1) (.slice a2 c.vals.length c2) (.slice a3 c.fields.length c3) ea wa) rfl rfl rfl rfl ?_;intro W0 rb hrb k0 b0)|(refine yah 3 31 _ (cmL d (.slice a1' d.cols.length c1') (.slice a2' d.vals.length c2') (.slice a3' d.fields.length c3') ea' wa') rfl rfl rfl rfl ?_;intro W1 sb hsb j1 b1;have k1:=(b1.block rb (ltS k0)).trans k0;have B1:Hid (Below w.heap.size w W1):=b0.trans (b1.mono b0.size);obtain ⟨pa0,pa1,pa2,pa3,pa4⟩:=ydq k1;obtain ⟨qa0,qa1,qa2,qa3,qa4⟩:=ydq j1;rw [e1.out] at qa0;rw [e2.out] at qa1;rw [e3.out] at qa2;rw [e4.out] at qa3))
 refine (h5 _ B1.out).mono ?_
 rintro e W2 ⟨rfl,b2⟩
 have k2:=(b2.block rb (ltS k1)).trans k1
 have j2:=(b2.block sb (ltS j1)).trans j1
 have B2:Hid (Below w.heap.size w W2):=B1.out.trans (b2.mono B1.out.size)
 obtain ⟨pb5,pb6,pb7,pb8,pb9⟩:=yfF k2
 obtain ⟨qb5,qb6,qb7,qb8,qb9⟩:=yfF j2
 rw [e6.out] at qb5
 rw [e7.out] at qb6
 rw [e7.out] at qb7
 rw [e7.out] at qb8
 clear h5 b2 k1 j1 pa0 qa0 pa1 qa1 pa2 qa2 pa3 qa3 pa4 qa4
 go_wp2_with fail
 refine (h8 _ B2.out).mono ?_
 rintro e W3 ⟨rfl,b3⟩
 have k3:=(b3.block rb (ltS k2)).trans k2
 have j3:=(b3.block sb (ltS j2)).trans j2
 have B3:Hid (Below w.heap.size w W3):=B2.out.trans (b3.mono B2.out.size)
 have pc10:=yiK k3
 have qc10:=yiK j3
 clear h8 b3 k2 j2 pb5 qb5 pb6 qb6 pb7 qb7 pb8 qb8 pb9 qb9
 go_wp2_with fail
 refine (h9 _ B3.out).mono ?_
 rintro e W4 ⟨rfl,b4⟩
 have k4:=(b4.block rb (ltS k3)).trans k3
 have j4:=(b4.block sb (ltS j3)).trans j3
 have B4:Hid (Below w.heap.size w W4):=B3.out.trans (b4.mono B3.out.size)
 obtain ⟨pd11,pd12,pd13,pd14,pd15,pd16⟩:=ykg k4
 obtain ⟨qd11,qd12,qd13,qd14,qd15,qd16⟩:=ykg j4
 clear h9 b4 k3 j3 pc10 qc10
 go_wp2_with fail
 refine (h10 _ B4.out).mono ?_
 rintro e W5 ⟨rfl,b5⟩
 have k5:=(b5.block rb (ltS k4)).trans k4
 have j5:=(b5.block sb (ltS j4)).trans j4
 have B5:Hid (Below w.heap.size w W5):=B4.out.trans (b5.mono B4.out.size)
 obtain ⟨pe17,pe18,pe19,pe20,pe21,pe22,pe23⟩:=ymX k5
 obtain ⟨qe17,qe18,qe19,qe20,qe21,qe22,qe23⟩:=ymX j5
 rw [e11.out] at qe17
 clear h10 b5 k4 j4 pd11 qd11 pd12 qd12 pd13 qd13 pd14 qd14 pd15 qd15 pd16 qd16
 go_wp2_with fail
 refine (h12 _ B5.out).mono ?_
 rintro e W6 ⟨rfl,b6⟩
 have k6:=(b6.block rb (ltS k5)).trans k5
 have j6:=(b6.block sb (ltS j5)).trans j5
 have B6:Hid (Below w.heap.size w W6):=B5.out.trans (b6.mono B5.out.size)
 obtain ⟨pf24,pf25⟩:=yrd k6
 obtain ⟨qf24,qf25⟩:=yrd j6
 rw [e13.out] at qf24
 rw [e14.out] at qf25
 clear h12 b6 k5 j5 pe17 qe17 pe18 qe18 pe19 qe19 pe20 qe20 pe21 qe21 pe22 qe22 pe23 qe23
 go_wp2
 go_ret
 exact ⟨rfl,B6.out⟩
theorem ysL (c d:Cm) (a1 a2 a3 a1' a2' a3':Option Addr) (c1 c2 c3 c1' c2' c3':Nat) (ea wa ea' wa':Value) (w:World) (e1:Hid (d.kind=c.kind)) (ne:c.name≠d.name) :
  Calls Tryz.prog 20 #[.agg (cmL c (.slice a1 c.cols.length c1) (.slice a2 c.vals.length c2) (.slice a3 c.fields.length c3) ea wa).toArray,.agg (cmL d (.slice a1' d.cols.length c1') (.slice a2' d.vals.length c2') (.slice a3' d.fields.length c3') ea' wa').toArray] w fun e w'=>e=.returned (.bool false)∧Below w.heap.size w w':=by
 have ne':=ycJ ne
 have ne2:(c.name == d.name)=false:=beq_eq_false_iff_ne.2 ne
 clear ne
 go_enter Tryz.func20,Tryz.ntmps20
 go_wp2_with (first|(refine yah 2 31 _ (cmL c (.slice a1 c.cols.length c1) (.slice a2 c.vals.length c2) (.slice a3 c.fields.length c3) ea wa) rfl rfl rfl rfl ?_;intro W0 rb hrb k0 b0)|(refine yah 3 31 _ (cmL d (.slice a1' d.cols.length c1') (.slice a2' d.vals.length c2') (.slice a3' d.fields.length c3') ea' wa') rfl rfl rfl rfl ?_;intro W1 sb hsb j1 b1;have k1:=(b1.block rb (ltS k0)).trans k0;have B1:Hid (Below w.heap.size w W1):=b0.trans (b1.mono b0.size);obtain ⟨pa0,pa1,pa2,pa3,pa4⟩:=ydq k1;obtain ⟨qa0,qa1,qa2,qa3,qa4⟩:=ydq j1;rw [e1.out] at qa0))
 go_ret
 exact ⟨rfl,B1.out⟩
theorem ysM (c d:Cm) (a1 a2 a3 a1' a2' a3':Option Addr) (c1 c2 c3 c1' c2' c3':Nat) (ea wa ea' wa':Value) (w:World) (e1:Hid (d.kind=c.kind)) (e2:Hid (d.name=c.name)) (ne:c.other≠d.other) :
  Calls Tryz.prog 20 #[.agg (cmL c (.slice a1 c.cols.length c1) (.slice a2 c.vals.length c2) (.slice a3 c.fields.length c3) ea wa).toArray,.agg (cmL d (.slice a1' d.cols.length c1') (.slice a2' d.vals.length c2') (.slice a3' d.fields.length c3') ea' wa').toArray] w fun e w'=>e=.returned (.bool false)∧Below w.heap.size w w':=by
 have ne':=ycJ ne
 have ne2:(c.other == d.other)=false:=beq_eq_false_iff_ne.2 ne
 clear ne
 go_enter Tryz.func20,Tryz.ntmps20
 go_wp2_with (first|(refine yah 2 31 _ (cmL c (.slice a1 c.cols.length c1) (.slice a2 c.vals.length c2) (.slice a3 c.fields.length c3) ea wa) rfl rfl rfl rfl ?_;intro W0 rb hrb k0 b0)|(refine yah 3 31 _ (cmL d (.slice a1' d.cols.length c1') (.slice a2' d.vals.length c2') (.slice a3' d.fields.length c3') ea' wa') rfl rfl rfl rfl ?_;intro W1 sb hsb j1 b1;have k1:=(b1.block rb (ltS k0)).trans k0;have B1:Hid (Below w.heap.size w W1):=b0.trans (b1.mono b0.size);obtain ⟨pa0,pa1,pa2,pa3,pa4⟩:=ydq k1;obtain ⟨qa0,qa1,qa2,qa3,qa4⟩:=ydq j1;rw [e1.out] at qa0;rw [e2.out] at qa1))
 go_ret
 exact ⟨rfl,B1.out⟩
theorem ysN (c d:Cm) (a1 a2 a3 a1' a2' a3':Option Addr) (c1 c2 c3 c1' c2' c3':Nat) (ea wa ea' wa':Value) (w:World) (e1:Hid (d.kind=c.kind)) (e2:Hid (d.name=c.name)) (e3:Hid (d.other=c.other)) (ne:c.column≠d.column) :
  Calls Tryz.prog 20 #[.agg (cmL c (.slice a1 c.cols.length c1) (.slice a2 c.vals.length c2) (.slice a3 c.fields.length c3) ea wa).toArray,.agg (cmL d (.slice a1' d.cols.length c1') (.slice a2' d.vals.length c2') (.slice a3' d.fields.length c3') ea' wa').toArray] w fun e w'=>e=.returned (.bool false)∧Below w.heap.size w w':=by
 have ne':=ycJ ne
 have ne2:(c.column == d.column)=false:=beq_eq_false_iff_ne.2 ne
 clear ne
 go_enter Tryz.func20,Tryz.ntmps20
 go_wp2_with (first|(refine yah 2 31 _ (cmL c (.slice a1 c.cols.length c1) (.slice a2 c.vals.length c2) (.slice a3 c.fields.length c3) ea wa) rfl rfl rfl rfl ?_;intro W0 rb hrb k0 b0)|(refine yah 3 31 _ (cmL d (.slice a1' d.cols.length c1') (.slice a2' d.vals.length c2') (.slice a3' d.fields.length c3') ea' wa') rfl rfl rfl rfl ?_;intro W1 sb hsb j1 b1;have k1:=(b1.block rb (ltS k0)).trans k0;have B1:Hid (Below w.heap.size w W1):=b0.trans (b1.mono b0.size);obtain ⟨pa0,pa1,pa2,pa3,pa4⟩:=ydq k1;obtain ⟨qa0,qa1,qa2,qa3,qa4⟩:=ydq j1;rw [e1.out] at qa0;rw [e2.out] at qa1;rw [e3.out] at qa2))
 go_ret
 exact ⟨rfl,B1.out⟩
theorem yqT (c d:Cm) (a1 a2 a3 a1' a2' a3':Option Addr) (c1 c2 c3 c1' c2' c3':Nat) (ea wa ea' wa':Value) (w:World) (e1:Hid (d.kind=c.kind)) (e2:Hid (d.name=c.name)) (e3:Hid (d.other=c.other)) (e4:Hid (d.column=c.column)) (h5:∀ W,Below w.heap.size w W→Calls Tryz.prog 51 #[.slice a1 c.cols.length c1,.slice a1' d.cols.length c1'] W fun e w'=>e=.returned (.bool true)∧Below W.heap.size W w') (e6:Hid (d.ty=c.ty)) (e7:Hid (d.val=c.val)) (h8:∀ W,Below w.heap.size w W→Calls Tryz.prog 52 #[.slice a2 c.vals.length c2,.slice a2' d.vals.length c2'] W fun e w'=>e=.returned (.bool true)∧Below W.heap.size W w') (h9:∀ W,Below w.heap.size w W→Calls Tryz.prog 53 #[.slice a3 c.fields.length c3,.slice a3' d.fields.length c3'] W fun e w'=>e=.returned (.bool true)∧Below W.heap.size W w') (h10:∀ W,Below w.heap.size w W→Calls Tryz.prog 54 #[exV c.expr.k c.expr.v c.expr.nm ea,exV d.expr.k d.expr.v d.expr.nm ea'] W fun e w'=>e=.returned (.bool true)∧Below W.heap.size W w') (ne:c.all≠d.all) :
  Calls Tryz.prog 20 #[.agg (cmL c (.slice a1 c.cols.length c1) (.slice a2 c.vals.length c2) (.slice a3 c.fields.length c3) ea wa).toArray,.agg (cmL d (.slice a1' d.cols.length c1') (.slice a2' d.vals.length c2') (.slice a3' d.fields.length c3') ea' wa').toArray] w fun e w'=>e=.returned (.bool false)∧Below w.heap.size w w':=by
 have ne':(c.all == d.all)=false:=by simpa using ne
 clear ne
 have hq:=ykG c.val c.val
 rw [(ybx c.val c.val).2 rfl] at hq
 simp only [exV] at h10
 go_enter Tryz.func20,Tryz.ntmps20
 go_wp2_with (first|(refine yah 2 31 _ (cmL c (.slice a1 c.cols.length c1) (.slice a2 c.vals.length c2) (.slice a3 c.fields.length c3) ea wa) rfl rfl rfl rfl ?_;intro W0 rb hrb k0 b0)|(refine yah 3 31 _ (cmL d (.slice a1' d.cols.length c1') (.slice a2' d.vals.length c2') (.slice a3' d.fields.length c3') ea' wa') rfl rfl rfl rfl ?_;intro W1 sb hsb j1 b1;have k1:=(b1.block rb (ltS k0)).trans k0;have B1:Hid (Below w.heap.size w W1):=b0.trans (b1.mono b0.size);obtain ⟨pa0,pa1,pa2,pa3,pa4⟩:=ydq k1;obtain ⟨qa0,qa1,qa2,qa3,qa4⟩:=ydq j1;rw [e1.out] at qa0;rw [e2.out] at qa1;rw [e3.out] at qa2;rw [e4.out] at qa3))
 refine (h5 _ B1.out).mono ?_
 rintro e W2 ⟨rfl,b2⟩
 have k2:=(b2.block rb (ltS k1)).trans k1
 have j2:=(b2.block sb (ltS j1)).trans j1
 have B2:Hid (Below w.heap.size w W2):=B1.out.trans (b2.mono B1.out.size)
 obtain ⟨pb5,pb6,pb7,pb8,pb9⟩:=yfF k2
 obtain ⟨qb5,qb6,qb7,qb8,qb9⟩:=yfF j2
 rw [e6.out] at qb5
 rw [e7.out] at qb6
 rw [e7.out] at qb7
 rw [e7.out] at qb8
 clear h5 b2 k1 j1 pa0 qa0 pa1 qa1 pa2 qa2 pa3 qa3 pa4 qa4
 go_wp2_with fail
 refine (h8 _ B2.out).mono ?_
 rintro e W3 ⟨rfl,b3⟩
 have k3:=(b3.block rb (ltS k2)).trans k2
 have j3:=(b3.block sb (ltS j2)).trans j2
 have B3:Hid (Below w.heap.size w W3):=B2.out.trans (b3.mono B2.out.size)
 have pc10:=yiK k3
 have qc10:=yiK j3
 clear h8 b3 k2 j2 pb5 qb5 pb6 qb6 pb7 qb7 pb8 qb8 pb9 qb9
 go_wp2_with fail
 refine (h9 _ B3.out).mono ?_
 rintro e W4 ⟨rfl,b4⟩
 have k4:=(b4.block rb (ltS k3)).trans k3
 have j4:=(b4.block sb (ltS j3)).trans j3
 have B4:Hid (Below w.heap.size w W4):=B3.out.trans (b4.mono B3.out.size)
 obtain ⟨pd11,pd12,pd13,pd14,pd15,pd16⟩:=ykg k4
 obtain ⟨qd11,qd12,qd13,qd14,qd15,qd16⟩:=ykg j4
 clear h9 b4 k3 j3 pc10 qc10
 go_wp2_with fail
 refine (h10 _ B4.out).mono ?_
 rintro e W5 ⟨rfl,b5⟩
 have k5:=(b5.block rb (ltS k4)).trans k4
 have j5:=(b5.block sb (ltS j4)).trans j4
 have B5:Hid (Below w.heap.size w W5):=B4.out.trans (b5.mono B4.out.size)
 obtain ⟨pe17,pe18,pe19,pe20,pe21,pe22,pe23⟩:=ymX k5
 obtain ⟨qe17,qe18,qe19,qe20,qe21,qe22,qe23⟩:=ymX j5
 clear h10 b5 k4 j4 pd11 qd11 pd12 qd12 pd13 qd13 pd14 qd14 pd15 qd15 pd16 qd16
 go_wp2
 go_ret
 exact ⟨rfl,B5.out⟩
theorem yqU (c d:Cm) (a1 a2 a3 a1' a2' a3':Option Addr) (c1 c2 c3 c1' c2' c3':Nat) (ea wa ea' wa':Value) (w:World) (e1:Hid (d.kind=c.kind)) (e2:Hid (d.name=c.name)) (e3:Hid (d.other=c.other)) (e4:Hid (d.column=c.column)) (h5:∀ W,Below w.heap.size w W→Calls Tryz.prog 51 #[.slice a1 c.cols.length c1,.slice a1' d.cols.length c1'] W fun e w'=>e=.returned (.bool true)∧Below W.heap.size W w') (e6:Hid (d.ty=c.ty)) (e7:Hid (d.val=c.val)) (h8:∀ W,Below w.heap.size w W→Calls Tryz.prog 52 #[.slice a2 c.vals.length c2,.slice a2' d.vals.length c2'] W fun e w'=>e=.returned (.bool true)∧Below W.heap.size W w') (h9:∀ W,Below w.heap.size w W→Calls Tryz.prog 53 #[.slice a3 c.fields.length c3,.slice a3' d.fields.length c3'] W fun e w'=>e=.returned (.bool true)∧Below W.heap.size W w') (h10:∀ W,Below w.heap.size w W→Calls Tryz.prog 54 #[exV c.expr.k c.expr.v c.expr.nm ea,exV d.expr.k d.expr.v d.expr.nm ea'] W fun e w'=>e=.returned (.bool true)∧Below W.heap.size W w') (e11:Hid (d.all=c.all)) (h12:∀ W,Below w.heap.size w W→Calls Tryz.prog 54 #[exV c.wh.k c.wh.v c.wh.nm wa,exV d.wh.k d.wh.v d.wh.nm wa'] W fun e w'=>e=.returned (.bool false)∧Below W.heap.size W w') :
  Calls Tryz.prog 20 #[.agg (cmL c (.slice a1 c.cols.length c1) (.slice a2 c.vals.length c2) (.slice a3 c.fields.length c3) ea wa).toArray,.agg (cmL d (.slice a1' d.cols.length c1') (.slice a2' d.vals.length c2') (.slice a3' d.fields.length c3') ea' wa').toArray] w fun e w'=>e=.returned (.bool false)∧Below w.heap.size w w':=by
 have hq:=ykG c.val c.val
 rw [(ybx c.val c.val).2 rfl] at hq
 simp only [exV] at h10 h12
 go_enter Tryz.func20,Tryz.ntmps20
 go_wp2_with (first|(refine yah 2 31 _ (cmL c (.slice a1 c.cols.length c1) (.slice a2 c.vals.length c2) (.slice a3 c.fields.length c3) ea wa) rfl rfl rfl rfl ?_;intro W0 rb hrb k0 b0)|(refine yah 3 31 _ (cmL d (.slice a1' d.cols.length c1') (.slice a2' d.vals.length c2') (.slice a3' d.fields.length c3') ea' wa') rfl rfl rfl rfl ?_;intro W1 sb hsb j1 b1;have k1:=(b1.block rb (ltS k0)).trans k0;have B1:Hid (Below w.heap.size w W1):=b0.trans (b1.mono b0.size);obtain ⟨pa0,pa1,pa2,pa3,pa4⟩:=ydq k1;obtain ⟨qa0,qa1,qa2,qa3,qa4⟩:=ydq j1;rw [e1.out] at qa0;rw [e2.out] at qa1;rw [e3.out] at qa2;rw [e4.out] at qa3))
 refine (h5 _ B1.out).mono ?_
 rintro e W2 ⟨rfl,b2⟩
 have k2:=(b2.block rb (ltS k1)).trans k1
 have j2:=(b2.block sb (ltS j1)).trans j1
 have B2:Hid (Below w.heap.size w W2):=B1.out.trans (b2.mono B1.out.size)
 obtain ⟨pb5,pb6,pb7,pb8,pb9⟩:=yfF k2
 obtain ⟨qb5,qb6,qb7,qb8,qb9⟩:=yfF j2
 rw [e6.out] at qb5
 rw [e7.out] at qb6
 rw [e7.out] at qb7
 rw [e7.out] at qb8
 clear h5 b2 k1 j1 pa0 qa0 pa1 qa1 pa2 qa2 pa3 qa3 pa4 qa4
 go_wp2_with fail
 refine (h8 _ B2.out).mono ?_
 rintro e W3 ⟨rfl,b3⟩
 have k3:=(b3.block rb (ltS k2)).trans k2
 have j3:=(b3.block sb (ltS j2)).trans j2
 have B3:Hid (Below w.heap.size w W3):=B2.out.trans (b3.mono B2.out.size)
 have pc10:=yiK k3
 have qc10:=yiK j3
 clear h8 b3 k2 j2 pb5 qb5 pb6 qb6 pb7 qb7 pb8 qb8 pb9 qb9
 go_wp2_with fail
 refine (h9 _ B3.out).mono ?_
 rintro e W4 ⟨rfl,b4⟩
 have k4:=(b4.block rb (ltS k3)).trans k3
 have j4:=(b4.block sb (ltS j3)).trans j3
 have B4:Hid (Below w.heap.size w W4):=B3.out.trans (b4.mono B3.out.size)
 obtain ⟨pd11,pd12,pd13,pd14,pd15,pd16⟩:=ykg k4
 obtain ⟨qd11,qd12,qd13,qd14,qd15,qd16⟩:=ykg j4
 clear h9 b4 k3 j3 pc10 qc10
 go_wp2_with fail
 refine (h10 _ B4.out).mono ?_
 rintro e W5 ⟨rfl,b5⟩
 have k5:=(b5.block rb (ltS k4)).trans k4
 have j5:=(b5.block sb (ltS j4)).trans j4
 have B5:Hid (Below w.heap.size w W5):=B4.out.trans (b5.mono B4.out.size)
 obtain ⟨pe17,pe18,pe19,pe20,pe21,pe22,pe23⟩:=ymX k5
 obtain ⟨qe17,qe18,qe19,qe20,qe21,qe22,qe23⟩:=ymX j5
 rw [e11.out] at qe17
 clear h10 b5 k4 j4 pd11 qd11 pd12 qd12 pd13 qd13 pd14 qd14 pd15 qd15 pd16 qd16
 go_wp2_with fail
 refine (h12 _ B5.out).mono ?_
 rintro e W6 ⟨rfl,b6⟩
 have k6:=(b6.block rb (ltS k5)).trans k5
 have j6:=(b6.block sb (ltS j5)).trans j5
 have B6:Hid (Below w.heap.size w W6):=B5.out.trans (b6.mono B5.out.size)
 clear h12 b6 k5 j5 pe17 qe17 pe18 qe18 pe19 qe19 pe20 qe20 pe21 qe21 pe22 qe22 pe23 qe23
 go_wp2
 go_ret
 exact ⟨rfl,B6.out⟩
theorem yqV (c d:Cm) (a1 a2 a3 a1' a2' a3':Option Addr) (c1 c2 c3 c1' c2' c3':Nat) (ea wa ea' wa':Value) (w:World) (e1:Hid (d.kind=c.kind)) (e2:Hid (d.name=c.name)) (e3:Hid (d.other=c.other)) (e4:Hid (d.column=c.column)) (h5:∀ W,Below w.heap.size w W→Calls Tryz.prog 51 #[.slice a1 c.cols.length c1,.slice a1' d.cols.length c1'] W fun e w'=>e=.returned (.bool true)∧Below W.heap.size W w') (e6:Hid (d.ty=c.ty)) (e7:Hid (d.val=c.val)) (h8:∀ W,Below w.heap.size w W→Calls Tryz.prog 52 #[.slice a2 c.vals.length c2,.slice a2' d.vals.length c2'] W fun e w'=>e=.returned (.bool true)∧Below W.heap.size W w') (h9:∀ W,Below w.heap.size w W→Calls Tryz.prog 53 #[.slice a3 c.fields.length c3,.slice a3' d.fields.length c3'] W fun e w'=>e=.returned (.bool true)∧Below W.heap.size W w') (h10:∀ W,Below w.heap.size w W→Calls Tryz.prog 54 #[exV c.expr.k c.expr.v c.expr.nm ea,exV d.expr.k d.expr.v d.expr.nm ea'] W fun e w'=>e=.returned (.bool true)∧Below W.heap.size W w') (e11:Hid (d.all=c.all)) (h12:∀ W,Below w.heap.size w W→Calls Tryz.prog 54 #[exV c.wh.k c.wh.v c.wh.nm wa,exV d.wh.k d.wh.v d.wh.nm wa'] W fun e w'=>e=.returned (.bool true)∧Below W.heap.size W w') (ne:c.order≠d.order) :
  Calls Tryz.prog 20 #[.agg (cmL c (.slice a1 c.cols.length c1) (.slice a2 c.vals.length c2) (.slice a3 c.fields.length c3) ea wa).toArray,.agg (cmL d (.slice a1' d.cols.length c1') (.slice a2' d.vals.length c2') (.slice a3' d.fields.length c3') ea' wa').toArray] w fun e w'=>e=.returned (.bool false)∧Below w.heap.size w w':=by
 have ne':=ycJ ne
 have ne2:(c.order == d.order)=false:=beq_eq_false_iff_ne.2 ne
 clear ne
 have hq:=ykG c.val c.val
 rw [(ybx c.val c.val).2 rfl] at hq
 simp only [exV] at h10 h12
 go_enter Tryz.func20,Tryz.ntmps20
 go_wp2_with (first|(refine yah 2 31 _ (cmL c (.slice a1 c.cols.length c1) (.slice a2 c.vals.length c2) (.slice a3 c.fields.length c3) ea wa) rfl rfl rfl rfl ?_;intro W0 rb hrb k0 b0)|(refine yah 3 31 _ (cmL d (.slice a1' d.cols.length c1') (.slice a2' d.vals.length c2') (.slice a3' d.fields.length c3') ea' wa') rfl rfl rfl rfl ?_;intro W1 sb hsb j1 b1;have k1:=(b1.block rb (ltS k0)).trans k0;have B1:Hid (Below w.heap.size w W1):=b0.trans (b1.mono b0.size);obtain ⟨pa0,pa1,pa2,pa3,pa4⟩:=ydq k1;obtain ⟨qa0,qa1,qa2,qa3,qa4⟩:=ydq j1;rw [e1.out] at qa0;rw [e2.out] at qa1;rw [e3.out] at qa2;rw [e4.out] at qa3))
 refine (h5 _ B1.out).mono ?_
 rintro e W2 ⟨rfl,b2⟩
 have k2:=(b2.block rb (ltS k1)).trans k1
 have j2:=(b2.block sb (ltS j1)).trans j1
 have B2:Hid (Below w.heap.size w W2):=B1.out.trans (b2.mono B1.out.size)
 obtain ⟨pb5,pb6,pb7,pb8,pb9⟩:=yfF k2
 obtain ⟨qb5,qb6,qb7,qb8,qb9⟩:=yfF j2
 rw [e6.out] at qb5
 rw [e7.out] at qb6
 rw [e7.out] at qb7
 rw [e7.out] at qb8
 clear h5 b2 k1 j1 pa0 qa0 pa1 qa1 pa2 qa2 pa3 qa3 pa4 qa4
 go_wp2_with fail
 refine (h8 _ B2.out).mono ?_
 rintro e W3 ⟨rfl,b3⟩
 have k3:=(b3.block rb (ltS k2)).trans k2
 have j3:=(b3.block sb (ltS j2)).trans j2
 have B3:Hid (Below w.heap.size w W3):=B2.out.trans (b3.mono B2.out.size)
 have pc10:=yiK k3
 have qc10:=yiK j3
 clear h8 b3 k2 j2 pb5 qb5 pb6 qb6 pb7 qb7 pb8 qb8 pb9 qb9
 go_wp2_with fail
 refine (h9 _ B3.out).mono ?_
 rintro e W4 ⟨rfl,b4⟩
 have k4:=(b4.block rb (ltS k3)).trans k3
 have j4:=(b4.block sb (ltS j3)).trans j3
 have B4:Hid (Below w.heap.size w W4):=B3.out.trans (b4.mono B3.out.size)
 obtain ⟨pd11,pd12,pd13,pd14,pd15,pd16⟩:=ykg k4
 obtain ⟨qd11,qd12,qd13,qd14,qd15,qd16⟩:=ykg j4
 clear h9 b4 k3 j3 pc10 qc10
 go_wp2_with fail
 refine (h10 _ B4.out).mono ?_
 rintro e W5 ⟨rfl,b5⟩
 have k5:=(b5.block rb (ltS k4)).trans k4
 have j5:=(b5.block sb (ltS j4)).trans j4
 have B5:Hid (Below w.heap.size w W5):=B4.out.trans (b5.mono B4.out.size)
 obtain ⟨pe17,pe18,pe19,pe20,pe21,pe22,pe23⟩:=ymX k5
 obtain ⟨qe17,qe18,qe19,qe20,qe21,qe22,qe23⟩:=ymX j5
 rw [e11.out] at qe17
 clear h10 b5 k4 j4 pd11 qd11 pd12 qd12 pd13 qd13 pd14 qd14 pd15 qd15 pd16 qd16
 go_wp2_with fail
 refine (h12 _ B5.out).mono ?_
 rintro e W6 ⟨rfl,b6⟩
 have k6:=(b6.block rb (ltS k5)).trans k5
 have j6:=(b6.block sb (ltS j5)).trans j5
 have B6:Hid (Below w.heap.size w W6):=B5.out.trans (b6.mono B5.out.size)
 obtain ⟨pf24,pf25⟩:=yrd k6
 obtain ⟨qf24,qf25⟩:=yrd j6
 clear h12 b6 k5 j5 pe17 qe17 pe18 qe18 pe19 qe19 pe20 qe20 pe21 qe21 pe22 qe22 pe23 qe23
 go_wp2
 go_ret
 exact ⟨rfl,B6.out⟩
theorem yqW (c d:Cm) (a1 a2 a3 a1' a2' a3':Option Addr) (c1 c2 c3 c1' c2' c3':Nat) (ea wa ea' wa':Value) (w:World) (e1:Hid (d.kind=c.kind)) (e2:Hid (d.name=c.name)) (e3:Hid (d.other=c.other)) (e4:Hid (d.column=c.column)) (h5:∀ W,Below w.heap.size w W→Calls Tryz.prog 51 #[.slice a1 c.cols.length c1,.slice a1' d.cols.length c1'] W fun e w'=>e=.returned (.bool true)∧Below W.heap.size W w') (e6:Hid (d.ty=c.ty)) (e7:Hid (d.val=c.val)) (h8:∀ W,Below w.heap.size w W→Calls Tryz.prog 52 #[.slice a2 c.vals.length c2,.slice a2' d.vals.length c2'] W fun e w'=>e=.returned (.bool true)∧Below W.heap.size W w') (h9:∀ W,Below w.heap.size w W→Calls Tryz.prog 53 #[.slice a3 c.fields.length c3,.slice a3' d.fields.length c3'] W fun e w'=>e=.returned (.bool true)∧Below W.heap.size W w') (h10:∀ W,Below w.heap.size w W→Calls Tryz.prog 54 #[exV c.expr.k c.expr.v c.expr.nm ea,exV d.expr.k d.expr.v d.expr.nm ea'] W fun e w'=>e=.returned (.bool true)∧Below W.heap.size W w') (e11:Hid (d.all=c.all)) (h12:∀ W,Below w.heap.size w W→Calls Tryz.prog 54 #[exV c.wh.k c.wh.v c.wh.nm wa,exV d.wh.k d.wh.v d.wh.nm wa'] W fun e w'=>e=.returned (.bool true)∧Below W.heap.size W w') (e13:Hid (d.order=c.order)) (ne:c.limit≠d.limit) :
  Calls Tryz.prog 20 #[.agg (cmL c (.slice a1 c.cols.length c1) (.slice a2 c.vals.length c2) (.slice a3 c.fields.length c3) ea wa).toArray,.agg (cmL d (.slice a1' d.cols.length c1') (.slice a2' d.vals.length c2') (.slice a3' d.fields.length c3') ea' wa').toArray] w fun e w'=>e=.returned (.bool false)∧Below w.heap.size w w':=by
 have ne':(c.limit == d.limit)=false:=by simpa using ne
 clear ne
 have hq:=ykG c.val c.val
 rw [(ybx c.val c.val).2 rfl] at hq
 simp only [exV] at h10 h12
 go_enter Tryz.func20,Tryz.ntmps20
 go_wp2_with (first|(refine yah 2 31 _ (cmL c (.slice a1 c.cols.length c1) (.slice a2 c.vals.length c2) (.slice a3 c.fields.length c3) ea wa) rfl rfl rfl rfl ?_;intro W0 rb hrb k0 b0)|(refine yah 3 31 _ (cmL d (.slice a1' d.cols.length c1') (.slice a2' d.vals.length c2') (.slice a3' d.fields.length c3') ea' wa') rfl rfl rfl rfl ?_;intro W1 sb hsb j1 b1;have k1:=(b1.block rb (ltS k0)).trans k0;have B1:Hid (Below w.heap.size w W1):=b0.trans (b1.mono b0.size);obtain ⟨pa0,pa1,pa2,pa3,pa4⟩:=ydq k1;obtain ⟨qa0,qa1,qa2,qa3,qa4⟩:=ydq j1;rw [e1.out] at qa0;rw [e2.out] at qa1;rw [e3.out] at qa2;rw [e4.out] at qa3))
 refine (h5 _ B1.out).mono ?_
 rintro e W2 ⟨rfl,b2⟩
 have k2:=(b2.block rb (ltS k1)).trans k1
 have j2:=(b2.block sb (ltS j1)).trans j1
 have B2:Hid (Below w.heap.size w W2):=B1.out.trans (b2.mono B1.out.size)
 obtain ⟨pb5,pb6,pb7,pb8,pb9⟩:=yfF k2
 obtain ⟨qb5,qb6,qb7,qb8,qb9⟩:=yfF j2
 rw [e6.out] at qb5
 rw [e7.out] at qb6
 rw [e7.out] at qb7
 rw [e7.out] at qb8
 clear h5 b2 k1 j1 pa0 qa0 pa1 qa1 pa2 qa2 pa3 qa3 pa4 qa4
 go_wp2_with fail
 refine (h8 _ B2.out).mono ?_
 rintro e W3 ⟨rfl,b3⟩
 have k3:=(b3.block rb (ltS k2)).trans k2
 have j3:=(b3.block sb (ltS j2)).trans j2
 have B3:Hid (Below w.heap.size w W3):=B2.out.trans (b3.mono B2.out.size)
 have pc10:=yiK k3
 have qc10:=yiK j3
 clear h8 b3 k2 j2 pb5 qb5 pb6 qb6 pb7 qb7 pb8 qb8 pb9 qb9
 go_wp2_with fail
 refine (h9 _ B3.out).mono ?_
 rintro e W4 ⟨rfl,b4⟩
 have k4:=(b4.block rb (ltS k3)).trans k3
 have j4:=(b4.block sb (ltS j3)).trans j3
 have B4:Hid (Below w.heap.size w W4):=B3.out.trans (b4.mono B3.out.size)
 obtain ⟨pd11,pd12,pd13,pd14,pd15,pd16⟩:=ykg k4
 obtain ⟨qd11,qd12,qd13,qd14,qd15,qd16⟩:=ykg j4
 clear h9 b4 k3 j3 pc10 qc10
 go_wp2_with fail
 refine (h10 _ B4.out).mono ?_
 rintro e W5 ⟨rfl,b5⟩
 have k5:=(b5.block rb (ltS k4)).trans k4
 have j5:=(b5.block sb (ltS j4)).trans j4
 have B5:Hid (Below w.heap.size w W5):=B4.out.trans (b5.mono B4.out.size)
 obtain ⟨pe17,pe18,pe19,pe20,pe21,pe22,pe23⟩:=ymX k5
 obtain ⟨qe17,qe18,qe19,qe20,qe21,qe22,qe23⟩:=ymX j5
 rw [e11.out] at qe17
 clear h10 b5 k4 j4 pd11 qd11 pd12 qd12 pd13 qd13 pd14 qd14 pd15 qd15 pd16 qd16
 go_wp2_with fail
 refine (h12 _ B5.out).mono ?_
 rintro e W6 ⟨rfl,b6⟩
 have k6:=(b6.block rb (ltS k5)).trans k5
 have j6:=(b6.block sb (ltS j5)).trans j5
 have B6:Hid (Below w.heap.size w W6):=B5.out.trans (b6.mono B5.out.size)
 obtain ⟨pf24,pf25⟩:=yrd k6
 obtain ⟨qf24,qf25⟩:=yrd j6
 rw [e13.out] at qf24
 clear h12 b6 k5 j5 pe17 qe17 pe18 qe18 pe19 qe19 pe20 qe20 pe21 qe21 pe22 qe22 pe23 qe23
 go_wp2
 go_ret
 exact ⟨rfl,B6.out⟩
theorem ysO (c d:Cm) (a1 a2 a3 a1' a2' a3':Option Addr) (c1 c2 c3 c1' c2' c3':Nat) (ea wa ea' wa':Value) (w:World) (e1:Hid (d.kind=c.kind)) (e2:Hid (d.name=c.name)) (e3:Hid (d.other=c.other)) (e4:Hid (d.column=c.column)) (h5:∀ W,Below w.heap.size w W→Calls Tryz.prog 51 #[.slice a1 c.cols.length c1,.slice a1' d.cols.length c1'] W fun e w'=>e=.returned (.bool false)∧Below W.heap.size W w') :
  Calls Tryz.prog 20 #[.agg (cmL c (.slice a1 c.cols.length c1) (.slice a2 c.vals.length c2) (.slice a3 c.fields.length c3) ea wa).toArray,.agg (cmL d (.slice a1' d.cols.length c1') (.slice a2' d.vals.length c2') (.slice a3' d.fields.length c3') ea' wa').toArray] w fun e w'=>e=.returned (.bool false)∧Below w.heap.size w w':=by
 go_enter Tryz.func20,Tryz.ntmps20
 go_wp2_with (first|(refine yah 2 31 _ (cmL c (.slice a1 c.cols.length c1) (.slice a2 c.vals.length c2) (.slice a3 c.fields.length c3) ea wa) rfl rfl rfl rfl ?_;intro W0 rb hrb k0 b0)|(refine yah 3 31 _ (cmL d (.slice a1' d.cols.length c1') (.slice a2' d.vals.length c2') (.slice a3' d.fields.length c3') ea' wa') rfl rfl rfl rfl ?_;intro W1 sb hsb j1 b1;have k1:=(b1.block rb (ltS k0)).trans k0;have B1:Hid (Below w.heap.size w W1):=b0.trans (b1.mono b0.size);obtain ⟨pa0,pa1,pa2,pa3,pa4⟩:=ydq k1;obtain ⟨qa0,qa1,qa2,qa3,qa4⟩:=ydq j1;rw [e1.out] at qa0;rw [e2.out] at qa1;rw [e3.out] at qa2;rw [e4.out] at qa3))
 refine (h5 _ B1.out).mono ?_
 rintro e W2 ⟨rfl,b2⟩
 have k2:=(b2.block rb (ltS k1)).trans k1
 have j2:=(b2.block sb (ltS j1)).trans j1
 have B2:Hid (Below w.heap.size w W2):=B1.out.trans (b2.mono B1.out.size)
 clear h5 b2 k1 j1 pa0 qa0 pa1 qa1 pa2 qa2 pa3 qa3 pa4 qa4
 go_wp2
 go_ret
 exact ⟨rfl,B2.out⟩
theorem ysP (c d:Cm) (a1 a2 a3 a1' a2' a3':Option Addr) (c1 c2 c3 c1' c2' c3':Nat) (ea wa ea' wa':Value) (w:World) (e1:Hid (d.kind=c.kind)) (e2:Hid (d.name=c.name)) (e3:Hid (d.other=c.other)) (e4:Hid (d.column=c.column)) (h5:∀ W,Below w.heap.size w W→Calls Tryz.prog 51 #[.slice a1 c.cols.length c1,.slice a1' d.cols.length c1'] W fun e w'=>e=.returned (.bool true)∧Below W.heap.size W w') (ne:c.ty≠d.ty) :
  Calls Tryz.prog 20 #[.agg (cmL c (.slice a1 c.cols.length c1) (.slice a2 c.vals.length c2) (.slice a3 c.fields.length c3) ea wa).toArray,.agg (cmL d (.slice a1' d.cols.length c1') (.slice a2' d.vals.length c2') (.slice a3' d.fields.length c3') ea' wa').toArray] w fun e w'=>e=.returned (.bool false)∧Below w.heap.size w w':=by
 have ne':(c.ty == d.ty)=false:=by simpa using ne
 clear ne
 go_enter Tryz.func20,Tryz.ntmps20
 go_wp2_with (first|(refine yah 2 31 _ (cmL c (.slice a1 c.cols.length c1) (.slice a2 c.vals.length c2) (.slice a3 c.fields.length c3) ea wa) rfl rfl rfl rfl ?_;intro W0 rb hrb k0 b0)|(refine yah 3 31 _ (cmL d (.slice a1' d.cols.length c1') (.slice a2' d.vals.length c2') (.slice a3' d.fields.length c3') ea' wa') rfl rfl rfl rfl ?_;intro W1 sb hsb j1 b1;have k1:=(b1.block rb (ltS k0)).trans k0;have B1:Hid (Below w.heap.size w W1):=b0.trans (b1.mono b0.size);obtain ⟨pa0,pa1,pa2,pa3,pa4⟩:=ydq k1;obtain ⟨qa0,qa1,qa2,qa3,qa4⟩:=ydq j1;rw [e1.out] at qa0;rw [e2.out] at qa1;rw [e3.out] at qa2;rw [e4.out] at qa3))
 refine (h5 _ B1.out).mono ?_
 rintro e W2 ⟨rfl,b2⟩
 have k2:=(b2.block rb (ltS k1)).trans k1
 have j2:=(b2.block sb (ltS j1)).trans j1
 have B2:Hid (Below w.heap.size w W2):=B1.out.trans (b2.mono B1.out.size)
 obtain ⟨pb5,pb6,pb7,pb8,pb9⟩:=yfF k2
 obtain ⟨qb5,qb6,qb7,qb8,qb9⟩:=yfF j2
 clear h5 b2 k1 j1 pa0 qa0 pa1 qa1 pa2 qa2 pa3 qa3 pa4 qa4
 go_wp2
 go_ret
 exact ⟨rfl,B2.out⟩
theorem ysQ (c d:Cm) (a1 a2 a3 a1' a2' a3':Option Addr) (c1 c2 c3 c1' c2' c3':Nat) (ea wa ea' wa':Value) (w:World) (e1:Hid (d.kind=c.kind)) (e2:Hid (d.name=c.name)) (e3:Hid (d.other=c.other)) (e4:Hid (d.column=c.column)) (h5:∀ W,Below w.heap.size w W→Calls Tryz.prog 51 #[.slice a1 c.cols.length c1,.slice a1' d.cols.length c1'] W fun e w'=>e=.returned (.bool true)∧Below W.heap.size W w') (e6:Hid (d.ty=c.ty)) (ne:c.val≠d.val) :
  Calls Tryz.prog 20 #[.agg (cmL c (.slice a1 c.cols.length c1) (.slice a2 c.vals.length c2) (.slice a3 c.fields.length c3) ea wa).toArray,.agg (cmL d (.slice a1' d.cols.length c1') (.slice a2' d.vals.length c2') (.slice a3' d.fields.length c3') ea' wa').toArray] w fun e w'=>e=.returned (.bool false)∧Below w.heap.size w w':=by
 have hq:=ykG c.val d.val
 have hf:eqV c.val d.val=false:=by
  cases hh:eqV c.val d.val with
  | false=>rfl
  | true=>exact absurd ((ybx _ _).1 hh) ne
 rw [hf] at hq
 clear ne hf
 go_enter Tryz.func20,Tryz.ntmps20
 go_wp2_with (first|(refine yah 2 31 _ (cmL c (.slice a1 c.cols.length c1) (.slice a2 c.vals.length c2) (.slice a3 c.fields.length c3) ea wa) rfl rfl rfl rfl ?_;intro W0 rb hrb k0 b0)|(refine yah 3 31 _ (cmL d (.slice a1' d.cols.length c1') (.slice a2' d.vals.length c2') (.slice a3' d.fields.length c3') ea' wa') rfl rfl rfl rfl ?_;intro W1 sb hsb j1 b1;have k1:=(b1.block rb (ltS k0)).trans k0;have B1:Hid (Below w.heap.size w W1):=b0.trans (b1.mono b0.size);obtain ⟨pa0,pa1,pa2,pa3,pa4⟩:=ydq k1;obtain ⟨qa0,qa1,qa2,qa3,qa4⟩:=ydq j1;rw [e1.out] at qa0;rw [e2.out] at qa1;rw [e3.out] at qa2;rw [e4.out] at qa3))
 refine (h5 _ B1.out).mono ?_
 rintro e W2 ⟨rfl,b2⟩
 have k2:=(b2.block rb (ltS k1)).trans k1
 have j2:=(b2.block sb (ltS j1)).trans j1
 have B2:Hid (Below w.heap.size w W2):=B1.out.trans (b2.mono B1.out.size)
 obtain ⟨pb5,pb6,pb7,pb8,pb9⟩:=yfF k2
 obtain ⟨qb5,qb6,qb7,qb8,qb9⟩:=yfF j2
 rw [e6.out] at qb5
 clear h5 b2 k1 j1 pa0 qa0 pa1 qa1 pa2 qa2 pa3 qa3 pa4 qa4
 go_wp2
 go_ret
 exact ⟨rfl,B2.out⟩
theorem ysR (c d:Cm) (a1 a2 a3 a1' a2' a3':Option Addr) (c1 c2 c3 c1' c2' c3':Nat) (ea wa ea' wa':Value) (w:World) (e1:Hid (d.kind=c.kind)) (e2:Hid (d.name=c.name)) (e3:Hid (d.other=c.other)) (e4:Hid (d.column=c.column)) (h5:∀ W,Below w.heap.size w W→Calls Tryz.prog 51 #[.slice a1 c.cols.length c1,.slice a1' d.cols.length c1'] W fun e w'=>e=.returned (.bool true)∧Below W.heap.size W w') (e6:Hid (d.ty=c.ty)) (e7:Hid (d.val=c.val)) (h8:∀ W,Below w.heap.size w W→Calls Tryz.prog 52 #[.slice a2 c.vals.length c2,.slice a2' d.vals.length c2'] W fun e w'=>e=.returned (.bool false)∧Below W.heap.size W w') :
  Calls Tryz.prog 20 #[.agg (cmL c (.slice a1 c.cols.length c1) (.slice a2 c.vals.length c2) (.slice a3 c.fields.length c3) ea wa).toArray,.agg (cmL d (.slice a1' d.cols.length c1') (.slice a2' d.vals.length c2') (.slice a3' d.fields.length c3') ea' wa').toArray] w fun e w'=>e=.returned (.bool false)∧Below w.heap.size w w':=by
 have hq:=ykG c.val c.val
 rw [(ybx c.val c.val).2 rfl] at hq
 go_enter Tryz.func20,Tryz.ntmps20
 go_wp2_with (first|(refine yah 2 31 _ (cmL c (.slice a1 c.cols.length c1) (.slice a2 c.vals.length c2) (.slice a3 c.fields.length c3) ea wa) rfl rfl rfl rfl ?_;intro W0 rb hrb k0 b0)|(refine yah 3 31 _ (cmL d (.slice a1' d.cols.length c1') (.slice a2' d.vals.length c2') (.slice a3' d.fields.length c3') ea' wa') rfl rfl rfl rfl ?_;intro W1 sb hsb j1 b1;have k1:=(b1.block rb (ltS k0)).trans k0;have B1:Hid (Below w.heap.size w W1):=b0.trans (b1.mono b0.size);obtain ⟨pa0,pa1,pa2,pa3,pa4⟩:=ydq k1;obtain ⟨qa0,qa1,qa2,qa3,qa4⟩:=ydq j1;rw [e1.out] at qa0;rw [e2.out] at qa1;rw [e3.out] at qa2;rw [e4.out] at qa3))
 refine (h5 _ B1.out).mono ?_
 rintro e W2 ⟨rfl,b2⟩
 have k2:=(b2.block rb (ltS k1)).trans k1
 have j2:=(b2.block sb (ltS j1)).trans j1
 have B2:Hid (Below w.heap.size w W2):=B1.out.trans (b2.mono B1.out.size)
 obtain ⟨pb5,pb6,pb7,pb8,pb9⟩:=yfF k2
 obtain ⟨qb5,qb6,qb7,qb8,qb9⟩:=yfF j2
 rw [e6.out] at qb5
 rw [e7.out] at qb6
 rw [e7.out] at qb7
 rw [e7.out] at qb8
 clear h5 b2 k1 j1 pa0 qa0 pa1 qa1 pa2 qa2 pa3 qa3 pa4 qa4
 go_wp2_with fail
 refine (h8 _ B2.out).mono ?_
 rintro e W3 ⟨rfl,b3⟩
 have k3:=(b3.block rb (ltS k2)).trans k2
 have j3:=(b3.block sb (ltS j2)).trans j2
 have B3:Hid (Below w.heap.size w W3):=B2.out.trans (b3.mono B2.out.size)
 clear h8 b3 k2 j2 pb5 qb5 pb6 qb6 pb7 qb7 pb8 qb8 pb9 qb9
 go_wp2
 go_ret
 exact ⟨rfl,B3.out⟩
theorem ysS (c d:Cm) (a1 a2 a3 a1' a2' a3':Option Addr) (c1 c2 c3 c1' c2' c3':Nat) (ea wa ea' wa':Value) (w:World) (e1:Hid (d.kind=c.kind)) (e2:Hid (d.name=c.name)) (e3:Hid (d.other=c.other)) (e4:Hid (d.column=c.column)) (h5:∀ W,Below w.heap.size w W→Calls Tryz.prog 51 #[.slice a1 c.cols.length c1,.slice a1' d.cols.length c1'] W fun e w'=>e=.returned (.bool true)∧Below W.heap.size W w') (e6:Hid (d.ty=c.ty)) (e7:Hid (d.val=c.val)) (h8:∀ W,Below w.heap.size w W→Calls Tryz.prog 52 #[.slice a2 c.vals.length c2,.slice a2' d.vals.length c2'] W fun e w'=>e=.returned (.bool true)∧Below W.heap.size W w') (h9:∀ W,Below w.heap.size w W→Calls Tryz.prog 53 #[.slice a3 c.fields.length c3,.slice a3' d.fields.length c3'] W fun e w'=>e=.returned (.bool false)∧Below W.heap.size W w') :
  Calls Tryz.prog 20 #[.agg (cmL c (.slice a1 c.cols.length c1) (.slice a2 c.vals.length c2) (.slice a3 c.fields.length c3) ea wa).toArray,.agg (cmL d (.slice a1' d.cols.length c1') (.slice a2' d.vals.length c2') (.slice a3' d.fields.length c3') ea' wa').toArray] w fun e w'=>e=.returned (.bool false)∧Below w.heap.size w w':=by
 have hq:=ykG c.val c.val
 rw [(ybx c.val c.val).2 rfl] at hq
 go_enter Tryz.func20,Tryz.ntmps20
 go_wp2_with (first|(refine yah 2 31 _ (cmL c (.slice a1 c.cols.length c1) (.slice a2 c.vals.length c2) (.slice a3 c.fields.length c3) ea wa) rfl rfl rfl rfl ?_;intro W0 rb hrb k0 b0)|(refine yah 3 31 _ (cmL d (.slice a1' d.cols.length c1') (.slice a2' d.vals.length c2') (.slice a3' d.fields.length c3') ea' wa') rfl rfl rfl rfl ?_;intro W1 sb hsb j1 b1;have k1:=(b1.block rb (ltS k0)).trans k0;have B1:Hid (Below w.heap.size w W1):=b0.trans (b1.mono b0.size);obtain ⟨pa0,pa1,pa2,pa3,pa4⟩:=ydq k1;obtain ⟨qa0,qa1,qa2,qa3,qa4⟩:=ydq j1;rw [e1.out] at qa0;rw [e2.out] at qa1;rw [e3.out] at qa2;rw [e4.out] at qa3))
 refine (h5 _ B1.out).mono ?_
 rintro e W2 ⟨rfl,b2⟩
 have k2:=(b2.block rb (ltS k1)).trans k1
 have j2:=(b2.block sb (ltS j1)).trans j1
 have B2:Hid (Below w.heap.size w W2):=B1.out.trans (b2.mono B1.out.size)
 obtain ⟨pb5,pb6,pb7,pb8,pb9⟩:=yfF k2
 obtain ⟨qb5,qb6,qb7,qb8,qb9⟩:=yfF j2
 rw [e6.out] at qb5
 rw [e7.out] at qb6
 rw [e7.out] at qb7
 rw [e7.out] at qb8
 clear h5 b2 k1 j1 pa0 qa0 pa1 qa1 pa2 qa2 pa3 qa3 pa4 qa4
 go_wp2_with fail
 refine (h8 _ B2.out).mono ?_
 rintro e W3 ⟨rfl,b3⟩
 have k3:=(b3.block rb (ltS k2)).trans k2
 have j3:=(b3.block sb (ltS j2)).trans j2
 have B3:Hid (Below w.heap.size w W3):=B2.out.trans (b3.mono B2.out.size)
 have pc10:=yiK k3
 have qc10:=yiK j3
 clear h8 b3 k2 j2 pb5 qb5 pb6 qb6 pb7 qb7 pb8 qb8 pb9 qb9
 go_wp2_with fail
 refine (h9 _ B3.out).mono ?_
 rintro e W4 ⟨rfl,b4⟩
 have k4:=(b4.block rb (ltS k3)).trans k3
 have j4:=(b4.block sb (ltS j3)).trans j3
 have B4:Hid (Below w.heap.size w W4):=B3.out.trans (b4.mono B3.out.size)
 clear h9 b4 k3 j3 pc10 qc10
 go_wp2
 go_ret
 exact ⟨rfl,B4.out⟩
theorem yqS (c d:Cm) (a1 a2 a3 a1' a2' a3':Option Addr) (c1 c2 c3 c1' c2' c3':Nat) (ea wa ea' wa':Value) (w:World) (e1:Hid (d.kind=c.kind)) (e2:Hid (d.name=c.name)) (e3:Hid (d.other=c.other)) (e4:Hid (d.column=c.column)) (h5:∀ W,Below w.heap.size w W→Calls Tryz.prog 51 #[.slice a1 c.cols.length c1,.slice a1' d.cols.length c1'] W fun e w'=>e=.returned (.bool true)∧Below W.heap.size W w') (e6:Hid (d.ty=c.ty)) (e7:Hid (d.val=c.val)) (h8:∀ W,Below w.heap.size w W→Calls Tryz.prog 52 #[.slice a2 c.vals.length c2,.slice a2' d.vals.length c2'] W fun e w'=>e=.returned (.bool true)∧Below W.heap.size W w') (h9:∀ W,Below w.heap.size w W→Calls Tryz.prog 53 #[.slice a3 c.fields.length c3,.slice a3' d.fields.length c3'] W fun e w'=>e=.returned (.bool true)∧Below W.heap.size W w') (h10:∀ W,Below w.heap.size w W→Calls Tryz.prog 54 #[exV c.expr.k c.expr.v c.expr.nm ea,exV d.expr.k d.expr.v d.expr.nm ea'] W fun e w'=>e=.returned (.bool false)∧Below W.heap.size W w') :
  Calls Tryz.prog 20 #[.agg (cmL c (.slice a1 c.cols.length c1) (.slice a2 c.vals.length c2) (.slice a3 c.fields.length c3) ea wa).toArray,.agg (cmL d (.slice a1' d.cols.length c1') (.slice a2' d.vals.length c2') (.slice a3' d.fields.length c3') ea' wa').toArray] w fun e w'=>e=.returned (.bool false)∧Below w.heap.size w w':=by
 have hq:=ykG c.val c.val
 rw [(ybx c.val c.val).2 rfl] at hq
 simp only [exV] at h10
 go_enter Tryz.func20,Tryz.ntmps20
 go_wp2_with (first|(refine yah 2 31 _ (cmL c (.slice a1 c.cols.length c1) (.slice a2 c.vals.length c2) (.slice a3 c.fields.length c3) ea wa) rfl rfl rfl rfl ?_;intro W0 rb hrb k0 b0)|(refine yah 3 31 _ (cmL d (.slice a1' d.cols.length c1') (.slice a2' d.vals.length c2') (.slice a3' d.fields.length c3') ea' wa') rfl rfl rfl rfl ?_;intro W1 sb hsb j1 b1;have k1:=(b1.block rb (ltS k0)).trans k0;have B1:Hid (Below w.heap.size w W1):=b0.trans (b1.mono b0.size);obtain ⟨pa0,pa1,pa2,pa3,pa4⟩:=ydq k1;obtain ⟨qa0,qa1,qa2,qa3,qa4⟩:=ydq j1;rw [e1.out] at qa0;rw [e2.out] at qa1;rw [e3.out] at qa2;rw [e4.out] at qa3))
 refine (h5 _ B1.out).mono ?_
 rintro e W2 ⟨rfl,b2⟩
 have k2:=(b2.block rb (ltS k1)).trans k1
 have j2:=(b2.block sb (ltS j1)).trans j1
 have B2:Hid (Below w.heap.size w W2):=B1.out.trans (b2.mono B1.out.size)
 obtain ⟨pb5,pb6,pb7,pb8,pb9⟩:=yfF k2
 obtain ⟨qb5,qb6,qb7,qb8,qb9⟩:=yfF j2
 rw [e6.out] at qb5
 rw [e7.out] at qb6
 rw [e7.out] at qb7
 rw [e7.out] at qb8
 clear h5 b2 k1 j1 pa0 qa0 pa1 qa1 pa2 qa2 pa3 qa3 pa4 qa4
 go_wp2_with fail
 refine (h8 _ B2.out).mono ?_
 rintro e W3 ⟨rfl,b3⟩
 have k3:=(b3.block rb (ltS k2)).trans k2
 have j3:=(b3.block sb (ltS j2)).trans j2
 have B3:Hid (Below w.heap.size w W3):=B2.out.trans (b3.mono B2.out.size)
 have pc10:=yiK k3
 have qc10:=yiK j3
 clear h8 b3 k2 j2 pb5 qb5 pb6 qb6 pb7 qb7 pb8 qb8 pb9 qb9
 go_wp2_with fail
 refine (h9 _ B3.out).mono ?_
 rintro e W4 ⟨rfl,b4⟩
 have k4:=(b4.block rb (ltS k3)).trans k3
 have j4:=(b4.block sb (ltS j3)).trans j3
 have B4:Hid (Below w.heap.size w W4):=B3.out.trans (b4.mono B3.out.size)
 obtain ⟨pd11,pd12,pd13,pd14,pd15,pd16⟩:=ykg k4
 obtain ⟨qd11,qd12,qd13,qd14,qd15,qd16⟩:=ykg j4
 clear h9 b4 k3 j3 pc10 qc10
 go_wp2_with fail
 refine (h10 _ B4.out).mono ?_
 rintro e W5 ⟨rfl,b5⟩
 have k5:=(b5.block rb (ltS k4)).trans k4
 have j5:=(b5.block sb (ltS j4)).trans j4
 have B5:Hid (Below w.heap.size w W5):=B4.out.trans (b5.mono B4.out.size)
 clear h10 b5 k4 j4 pd11 qd11 pd12 qd12 pd13 qd13 pd14 qd14 pd15 qd15 pd16 qd16
 go_wp2
 go_ret
 exact ⟨rfl,B5.out⟩
theorem yo5 {c d:Cm} (h1:d.kind=c.kind) (h2:d.name=c.name) (h3:d.other=c.other) (h4:d.column=c.column) (h5:d.ty=c.ty) (h6:d.val=c.val) (h7:d.expr=c.expr) (h8:d.all=c.all) (h9:d.wh=c.wh) (h10:d.order=c.order) (h11:d.limit=c.limit):d={ c with cols:=d.cols,vals:=d.vals,fields:=d.fields }:=by
 obtain ⟨k,n,o,co,cl,ty,v,vs,fs,ex,al,wh,od,li⟩:=c
 obtain ⟨k',n',o',co',cl',ty',v',vs',fs',ex',al',wh',od',li'⟩:=d
 simp only at *
 subst h1 h2 h3 h4 h5 h6 h7 h8 h9 h10 h11
 rfl
theorem b84_iff {c y:Cm} {sx sy:Bool}:ygR c y sx sy=false↔c.kind=y.kind∧c.name=y.name∧c.other=y.other∧c.column=y.column∧c.ty=y.ty∧c.val=y.val∧c.all=y.all∧c.order=y.order∧c.limit=y.limit∧sx=true∧sy=true:=by
 unfold ygR ydf yde ydM ydL ydK ydd ydJ ydI ydH
 have hv:=ybx c.val y.val
 cases hq:eqV c.val y.val
 ·rw [hq] at hv
  simp at hv
  simp [hv]
 ·rw [hq] at hv
  simp at hv
  simp [hv,and_assoc]
theorem yh8 (c y:Cm) (cv vv fv ea wa cv' vv' fv' ea' wa':Value) (w:World) (h:CmIn 0 w c cv vv fv ea wa) (h':CmIn 0 w y cv' vv' fv' ea' wa') (hf:CmFit c) (hf':CmFit y) :
  Calls Tryz.prog 11 #[.agg (cmL c cv vv fv ea wa).toArray,.agg (cmL y cv' vv' fv' ea' wa').toArray] w fun e w'=>(∃ b,e=.returned (.bool b)∧(b=true↔c=y))∧Below w.heap.size w w':=by
 have dec:∀ p:Prop,∃ b:Bool,(b=true↔p):=fun p=>by
  by_cases hp:p
  ·exact ⟨true,by simp [hp]⟩
  ·exact ⟨false,by simp [hp]⟩
 obtain ⟨sx,hsx⟩:=dec (c.expr=y.expr)
 obtain ⟨sy,hsy⟩:=dec (c.wh=y.wh)
 cases hb:ygR c y sx sy with
 | true =>
  obtain ⟨a1,c1,e1⟩:=h.cols.form
  obtain ⟨a2,c2,e2⟩:=h.vals.form
  obtain ⟨a3,c3,e3⟩:=h.fields.form
  obtain ⟨a1',c1',e1'⟩:=h'.cols.form
  obtain ⟨a2',c2',e2'⟩:=h'.vals.form
  obtain ⟨a3',c3',e3'⟩:=h'.fields.form
  subst e1 e2 e3 e1' e2' e3'
  refine (yoI c y a1 a2 a3 a1' a2' a3' c1 c2 c3 c1' c2' c3' ea wa ea' wa' w sx sy (fun W hW=>ydN _ c.expr y.expr _ _ w (Nat.le_refl _) h.expr h'.expr hf.expr sx hsx W hW) (fun W hW=>ydN _ c.wh y.wh _ _ w (Nat.le_refl _) h.wh h'.wh hf.wh sy hsy W hW) hb).mono ?_
  rintro e w' ⟨rfl,bel⟩
  refine ⟨⟨false,rfl,by simp;rintro rfl;rw [b84_iff.2 ⟨rfl,rfl,rfl,rfl,rfl,rfl,rfl,rfl,rfl,hsx.2 rfl,hsy.2 rfl⟩] at hb;cases hb⟩,bel⟩
 | false =>
  obtain ⟨b1,b2,b3,b4,b5,b6,b7,b8,b9,b10,b11⟩:=b84_iff.1 hb
  obtain ⟨cl,vl,fl,rfl⟩:∃ cl vl fl,y={ c with cols:=cl,vals:=vl,fields:=fl }:=⟨_,_,_,yo5 b1.symm b2.symm b3.symm b4.symm b5.symm b6.symm (hsx.1 b10).symm b7.symm (hsy.1 b11).symm b8.symm b9.symm⟩
  refine (yh7 c cl vl fl cv vv fv ea wa cv' vv' fv' ea' wa' w h h' hf hf').mono ?_
  rintro e w' ⟨⟨b,rfl,hb'⟩,bel⟩
  refine ⟨⟨b,rfl,hb'.trans ?_⟩,bel⟩
  constructor
  ·rintro ⟨rfl,rfl,rfl⟩;rfl
  ·intro e
   exact ⟨congrArg Cm.cols e,congrArg Cm.vals e,congrArg Cm.fields e⟩
theorem yoH (c d:Cm) (cv vv fv ea wa cv' vv' fv' ea' wa':Value) (w:World) (h:CmIn 0 w c cv vv fv ea wa) (h':CmIn 0 w d cv' vv' fv' ea' wa') (hf:CmFit c) :
  Calls Tryz.prog 20 #[.agg (cmL c cv vv fv ea wa).toArray,.agg (cmL d cv' vv' fv' ea' wa').toArray] w fun e w'=>(∃ b,e=.returned (.bool b)∧(b=true↔c=d))∧Below w.heap.size w w':=by
 obtain ⟨a1,c1,e1⟩:=h.cols.form
 obtain ⟨a2,c2,e2⟩:=h.vals.form
 obtain ⟨a3,c3,e3⟩:=h.fields.form
 obtain ⟨a1',c1',e1'⟩:=h'.cols.form
 obtain ⟨a2',c2',e2'⟩:=h'.vals.form
 obtain ⟨a3',c3',e3'⟩:=h'.fields.form
 subst e1 e2 e3 e1' e2' e3'
 have no:∀ {P:Prop} {e:Ending} {w':World},(c=d→P)→¬ P→(e=.returned (.bool false)∧Below w.heap.size w w')→(∃ b,e=.returned (.bool b)∧(b=true↔c=d))∧Below w.heap.size w w':=fun hp hn q=>⟨⟨false,q.1,by simp;exact fun e=>hn (hp e)⟩,q.2⟩
 have kcols:∀ v:Bool,(v=true↔c.cols=d.cols)→∀ W,Below w.heap.size w W→Calls Tryz.prog 51 #[.slice a1 c.cols.length c1,.slice a1' d.cols.length c1'] W fun e w'=>e=.returned (.bool v)∧Below W.heap.size W w':=fun v hv W hW=>by
  refine (yfk c.cols d.cols _ _ W (h.cols.under hW) (h'.cols.under hW) hf.cols).mono ?_
  rintro e w' ⟨⟨b,rfl,hb⟩,bel⟩
  rw [Bool.eq_iff_iff.2 (hb.trans hv.symm)]
  exact ⟨rfl,bel⟩
 have kvals:∀ v:Bool,(v=true↔c.vals=d.vals)→∀ W,Below w.heap.size w W→Calls Tryz.prog 52 #[.slice a2 c.vals.length c2,.slice a2' d.vals.length c2'] W fun e w'=>e=.returned (.bool v)∧Below W.heap.size W w':=fun v hv W hW=>by
  refine (yfm c.vals d.vals _ _ W (h.vals.under hW) (h'.vals.under hW) hf.vals).mono ?_
  rintro e w' ⟨⟨b,rfl,hb⟩,bel⟩
  rw [Bool.eq_iff_iff.2 (hb.trans hv.symm)]
  exact ⟨rfl,bel⟩
 have kfields:∀ v:Bool,(v=true↔c.fields=d.fields)→∀ W,Below w.heap.size w W→Calls Tryz.prog 53 #[.slice a3 c.fields.length c3,.slice a3' d.fields.length c3'] W fun e w'=>e=.returned (.bool v)∧Below W.heap.size W w':=fun v hv W hW=>by
  refine (yfl c.fields d.fields _ _ W (h.fields.under hW) (h'.fields.under hW) hf.fields).mono ?_
  rintro e w' ⟨⟨b,rfl,hb⟩,bel⟩
  rw [Bool.eq_iff_iff.2 (hb.trans hv.symm)]
  exact ⟨rfl,bel⟩
 have kexpr:=fun (v:Bool) (hv:v=true↔c.expr=d.expr) W hW=>yiP _ c.expr d.expr _ _ w (Nat.le_refl _) h.expr h'.expr hf.expr v hv W hW
 have kwh:=fun (v:Bool) (hv:v=true↔c.wh=d.wh) W hW=>yiP _ c.wh d.wh _ _ w (Nat.le_refl _) h.wh h'.wh hf.wh v hv W hW
 by_cases g1:c.kind=d.kind
 case neg=>exact (yph c d a1 a2 a3 a1' a2' a3' c1 c2 c3 c1' c2' c3' ea wa ea' wa' w g1).mono fun e w'=>no (fun e=>by rw [e]) g1
 by_cases g2:c.name=d.name
 case neg=>exact (ysL c d a1 a2 a3 a1' a2' a3' c1 c2 c3 c1' c2' c3' ea wa ea' wa' w (yaa g1.symm) g2).mono fun e w'=>no (fun e=>by rw [e]) g2
 by_cases g3:c.other=d.other
 case neg=>exact (ysM c d a1 a2 a3 a1' a2' a3' c1 c2 c3 c1' c2' c3' ea wa ea' wa' w (yaa g1.symm) (yaa g2.symm) g3).mono fun e w'=>no (fun e=>by rw [e]) g3
 by_cases g4:c.column=d.column
 case neg=>exact (ysN c d a1 a2 a3 a1' a2' a3' c1 c2 c3 c1' c2' c3' ea wa ea' wa' w (yaa g1.symm) (yaa g2.symm) (yaa g3.symm) g4).mono fun e w'=>no (fun e=>by rw [e]) g4
 by_cases g5:c.cols=d.cols
 case neg=>exact (ysO c d a1 a2 a3 a1' a2' a3' c1 c2 c3 c1' c2' c3' ea wa ea' wa' w (yaa g1.symm) (yaa g2.symm) (yaa g3.symm) (yaa g4.symm) (kcols false (by simp [g5]))).mono fun e w'=>no (fun e=>by rw [e]) g5
 by_cases g6:c.ty=d.ty
 case neg=>exact (ysP c d a1 a2 a3 a1' a2' a3' c1 c2 c3 c1' c2' c3' ea wa ea' wa' w (yaa g1.symm) (yaa g2.symm) (yaa g3.symm) (yaa g4.symm) (kcols true (by simp [g5])) g6).mono fun e w'=>no (fun e=>by rw [e]) g6
 by_cases g7:c.val=d.val
 case neg=>exact (ysQ c d a1 a2 a3 a1' a2' a3' c1 c2 c3 c1' c2' c3' ea wa ea' wa' w (yaa g1.symm) (yaa g2.symm) (yaa g3.symm) (yaa g4.symm) (kcols true (by simp [g5])) (yaa g6.symm) g7).mono fun e w'=>no (fun e=>by rw [e]) g7
 by_cases g8:c.vals=d.vals
 case neg=>exact (ysR c d a1 a2 a3 a1' a2' a3' c1 c2 c3 c1' c2' c3' ea wa ea' wa' w (yaa g1.symm) (yaa g2.symm) (yaa g3.symm) (yaa g4.symm) (kcols true (by simp [g5])) (yaa g6.symm) (yaa g7.symm) (kvals false (by simp [g8]))).mono fun e w'=>no (fun e=>by rw [e]) g8
 by_cases g9:c.fields=d.fields
 case neg=>exact (ysS c d a1 a2 a3 a1' a2' a3' c1 c2 c3 c1' c2' c3' ea wa ea' wa' w (yaa g1.symm) (yaa g2.symm) (yaa g3.symm) (yaa g4.symm) (kcols true (by simp [g5])) (yaa g6.symm) (yaa g7.symm) (kvals true (by simp [g8])) (kfields false (by simp [g9]))).mono fun e w'=>no (fun e=>by rw [e]) g9
 by_cases g10:c.expr=d.expr
 case neg=>exact (yqS c d a1 a2 a3 a1' a2' a3' c1 c2 c3 c1' c2' c3' ea wa ea' wa' w (yaa g1.symm) (yaa g2.symm) (yaa g3.symm) (yaa g4.symm) (kcols true (by simp [g5])) (yaa g6.symm) (yaa g7.symm) (kvals true (by simp [g8])) (kfields true (by simp [g9])) (kexpr false (by simp [g10]))).mono fun e w'=>no (fun e=>by rw [e]) g10
 by_cases g11:c.all=d.all
 case neg=>exact (yqT c d a1 a2 a3 a1' a2' a3' c1 c2 c3 c1' c2' c3' ea wa ea' wa' w (yaa g1.symm) (yaa g2.symm) (yaa g3.symm) (yaa g4.symm) (kcols true (by simp [g5])) (yaa g6.symm) (yaa g7.symm) (kvals true (by simp [g8])) (kfields true (by simp [g9])) (kexpr true (by simp [g10])) g11).mono fun e w'=>no (fun e=>by rw [e]) g11
 by_cases g12:c.wh=d.wh
 case neg=>exact (yqU c d a1 a2 a3 a1' a2' a3' c1 c2 c3 c1' c2' c3' ea wa ea' wa' w (yaa g1.symm) (yaa g2.symm) (yaa g3.symm) (yaa g4.symm) (kcols true (by simp [g5])) (yaa g6.symm) (yaa g7.symm) (kvals true (by simp [g8])) (kfields true (by simp [g9])) (kexpr true (by simp [g10])) (yaa g11.symm) (kwh false (by simp [g12]))).mono fun e w'=>no (fun e=>by rw [e]) g12
 by_cases g13:c.order=d.order
 case neg=>exact (yqV c d a1 a2 a3 a1' a2' a3' c1 c2 c3 c1' c2' c3' ea wa ea' wa' w (yaa g1.symm) (yaa g2.symm) (yaa g3.symm) (yaa g4.symm) (kcols true (by simp [g5])) (yaa g6.symm) (yaa g7.symm) (kvals true (by simp [g8])) (kfields true (by simp [g9])) (kexpr true (by simp [g10])) (yaa g11.symm) (kwh true (by simp [g12])) g13).mono fun e w'=>no (fun e=>by rw [e]) g13
 by_cases g14:c.limit=d.limit
 case neg=>exact (yqW c d a1 a2 a3 a1' a2' a3' c1 c2 c3 c1' c2' c3' ea wa ea' wa' w (yaa g1.symm) (yaa g2.symm) (yaa g3.symm) (yaa g4.symm) (kcols true (by simp [g5])) (yaa g6.symm) (yaa g7.symm) (kvals true (by simp [g8])) (kfields true (by simp [g9])) (kexpr true (by simp [g10])) (yaa g11.symm) (kwh true (by simp [g12])) (yaa g13.symm) g14).mono fun e w'=>no (fun e=>by rw [e]) g14
 refine (ymp c d a1 a2 a3 a1' a2' a3' c1 c2 c3 c1' c2' c3' ea wa ea' wa' w (yaa g1.symm) (yaa g2.symm) (yaa g3.symm) (yaa g4.symm) (kcols true (by simp [g5])) (yaa g6.symm) (yaa g7.symm) (kvals true (by simp [g8])) (kfields true (by simp [g9])) (kexpr true (by simp [g10])) (yaa g11.symm) (kwh true (by simp [g12])) (yaa g13.symm) (yaa g14.symm)).mono ?_
 rintro e w' ⟨rfl,bel⟩
 refine ⟨⟨true,rfl, ?_⟩,bel⟩
 simp only [true_iff]
 have e:=yo5 g1.symm g2.symm g3.symm g4.symm g6.symm g7.symm g10.symm g11.symm g12.symm g13.symm g14.symm
 rw [e,← g5,← g8,← g9]
noncomputable def pln_R:Array Oper:=((Tryz.f85.body).bind (yas 1)).getD #[]
def yuf (k:Int) (v:Vl) (nm:List UInt8) (ao:Option Addr) (n ca:Nat) (b:Nat) (j:Nat):Value:=([.pointer (some ⟨b,5,none⟩),.slice ao n ca,.int .i64 ((n:Nat):Int),.pointer (some ⟨b,0,none⟩),.int .i64 k,.int .i64 (ybz k),.bool (decide (((n:Nat):Int)=(ybz k))),.bool (decide (((n:Nat):Int)=(ybz k))),gw ((decide (((n:Nat):Int)=(ybz k))) == true) (.pointer (some ⟨b,0,none⟩)),gw ((decide (((n:Nat):Int)=(ybz k))) == true) (.int .i64 k),gw ((decide (((n:Nat):Int)=(ybz k))) == true) (.bool (decide (k=2))),gw ((decide (((n:Nat):Int)=(ybz k))) == true) (.bool (decide (k=2))),gw (((decide (((n:Nat):Int)=(ybz k))) == true)&&((decide (k=2)) == false)) (.pointer (some ⟨b,4,none⟩)),gw (((decide (((n:Nat):Int)=(ybz k))) == true)&&((decide (k=2)) == false)) (.string ⟨nm.toArray⟩),gw (((decide (((n:Nat):Int)=(ybz k))) == true)&&((decide (k=2)) == false)) (.bool (decide (nm=[]))),gw ((decide (((n:Nat):Int)=(ybz k))) == true) (.bool ((decide (k=2)) || (decide (nm=[])))),.bool ((decide (((n:Nat):Int)=(ybz k)))&&((decide (k=2)) || (decide (nm=[])))),.bool ((decide (((n:Nat):Int)=(ybz k)))&&((decide (k=2)) || (decide (nm=[])))),gw (((decide (((n:Nat):Int)=(ybz k)))&&((decide (k=2)) || (decide (nm=[])))) == true) (.pointer (some ⟨b,0,none⟩)),gw (((decide (((n:Nat):Int)=(ybz k)))&&((decide (k=2)) || (decide (nm=[])))) == true) (.int .i64 k),gw (((decide (((n:Nat):Int)=(ybz k)))&&((decide (k=2)) || (decide (nm=[])))) == true) (.bool (decide (k=1))),gw (((decide (((n:Nat):Int)=(ybz k)))&&((decide (k=2)) || (decide (nm=[])))) == true) (.bool (decide (k=1))),gw ((((decide (((n:Nat):Int)=(ybz k)))&&((decide (k=2)) || (decide (nm=[])))) == true)&&((decide (k=1)) == false)) (.pointer (some ⟨b,1,none⟩)),gw ((((decide (((n:Nat):Int)=(ybz k)))&&((decide (k=2)) || (decide (nm=[])))) == true)&&((decide (k=1)) == false)) (.agg #[.int .i64 v.k,.int .i64 v.n,.string ⟨v.s.toArray⟩]),gw ((((decide (((n:Nat):Int)=(ybz k)))&&((decide (k=2)) || (decide (nm=[])))) == true)&&((decide (k=1)) == false)) (.agg #[.int .i64 0,.int .i64 0,.string ⟨#[]⟩]),gw ((((decide (((n:Nat):Int)=(ybz k)))&&((decide (k=2)) || (decide (nm=[])))) == true)&&((decide (k=1)) == false)) (.bool (ybu v)),gw (((decide (((n:Nat):Int)=(ybz k)))&&((decide (k=2)) || (decide (nm=[])))) == true) (.bool ((decide (k=1)) || (ybu v))),.bool (((decide (((n:Nat):Int)=(ybz k)))&&((decide (k=2)) || (decide (nm=[]))))&&((decide (k=1)) || (ybu v))),.bool (((decide (((n:Nat):Int)=(ybz k)))&&((decide (k=2)) || (decide (nm=[]))))&&((decide (k=1)) || (ybu v)))]:List Value).getD j undef
def pln_d:List (Option Tmp):=[some 3,some 4,some 5,some 6,some 7,some 8,some 9,some 10,some 11,some 12,some 13,some 14,some 15,some 16,some 17,some 18,some 19,some 20,some 21,some 22,some 23,some 24,some 25,some 26,some 27,some 28,some 29,some 30,some 2]
theorem ygM:pln_d.Nodup:=by unfold pln_d;decide
theorem ysH {k:Int} {v:Vl} {nm:List UInt8} {ao:Option Addr} {n ca:Nat} {b:Nat} {S:World→Prop} {a0:Act} {Q:Exit→Act→World→Prop} {w:World} (h1:a0.tmps[1]?=some (.pointer (some ⟨b,0,none⟩))) (hcell:∀ W,S W→∀ o x,([.int .i64 k,.int .i64 v.k,.int .i64 v.n,.string ⟨v.s.toArray⟩,.string ⟨nm.toArray⟩,.slice ao n ca]:List Value)[o]?=some x→W.cell? ⟨b,o,none⟩=some x) (q8:∀ W,S W→Calls Tryz.prog 130 #[.int .i64 k] W fun e w'=>e=.returned (.int .i64 (ybz k))∧S w') (q28:∀ W,S W→Calls Tryz.prog 25 #[.agg #[.int .i64 v.k,.int .i64 v.n,.string ⟨v.s.toArray⟩],.agg #[.int .i64 0,.int .i64 0,.string ⟨#[]⟩]] W fun e w'=>e=.returned (.bool (ybu v))∧S w') (ha:a0.tmps.size=31) (hS:S w.drew)
  (hq:∀ w',S w'→Q .normal { tmps:=(ydW a0.tmps.toList (pln_d.zip ((List.range 29).map (yuf k v nm ao n ca b)))).toArray,defers:=a0.defers } w'):(Code.region 1 pln_R true).wp Tryz.prog Q a0 w:=by
 have hz:pln_R.size=29:=by kernel_rfl
 refine yd9 (m:=31) (by kernel_rfl) hz (by kernel_rfl) (by kernel_rfl) ygM ha ?_ hS hq
 refine us ?_ (ya1 hz (by decide) (by kernel_rfl) fun _ _ s _=>yaA (x:=.tmp 30) (by kernel_rfl) (s.u 27 30 (by kernel_rfl)))
 refine us ?_ (ya1 hz (by decide) (by kernel_rfl) fun _ _ s _=>yav (G:=true) (by kernel_rfl) (s.u 17 20 (by kernel_rfl)) (s.u 26 29 (by kernel_rfl)) rfl rfl)
 refine us ?_ (yaM true 17 20 true hz (by decide) (by kernel_rfl) rfl rfl fun hG _ _ s _=>yaS (by kernel_rfl) (s.g 21 24 (by kernel_rfl) hG rfl) (s.u 25 28 (by kernel_rfl)) rfl hG)
 refine us ?_ (yc9 _ 21 24 false hz (by decide) (by kernel_rfl) rfl rfl (fun hG _ _ s=>ybp (ts:=#[24,24]) (x:=.tmp 26) (y:=.tmp 27) (f:=25) ytd (by kernel_rfl) rfl (s.g 23 26 (by kernel_rfl) hG rfl) (s.g 24 27 (by kernel_rfl) hG rfl)) q28)
 refine us ?_ (yaM _ 21 24 false hz (by decide) (by kernel_rfl) rfl rfl fun _ _ _ _ _=>ydU (by kernel_rfl))
 refine us ?_ (yaM _ 21 24 false hz (by decide) (by kernel_rfl) rfl rfl fun hG _ W s hS=>yaf (x:=.tmp 25) (t:=24) (by kernel_rfl) (s.g 22 25 (by kernel_rfl) hG rfl) (yoa W _ 1 _ _ _ (hcell W hS 1 _ rfl) (hcell W hS 2 _ rfl) (hcell W hS 3 _ rfl)))
 refine us ?_ (yaM _ 21 24 false hz (by decide) (by kernel_rfl) rfl rfl fun _ _ W s _=>yad (x:=.tmp 1) (t:=29) (f:=1) (by kernel_rfl) (s.b 1 (by kernel_rfl) h1) (fx1 W _))
 refine us ?_ (yaM true 17 20 true hz (by decide) (by kernel_rfl) rfl rfl fun hG _ _ s _=>yac (x:=.tmp 23) (by kernel_rfl) (s.g 20 23 (by kernel_rfl) hG rfl))
 refine us ?_ (yaM true 17 20 true hz (by decide) (by kernel_rfl) rfl rfl fun hG _ W s _=>yaq (u:=3) (x:=.tmp 22) (y:=.const (.int .i64 1)) (by kernel_rfl) (s.g 19 22 (by kernel_rfl) hG rfl) (rfl) (yee W _ _ _ _))
 refine us ?_ (yaM true 17 20 true hz (by decide) (by kernel_rfl) rfl rfl fun hG _ W s hS=>yaf (x:=.tmp 21) (t:=3) (by kernel_rfl) (s.g 18 21 (by kernel_rfl) hG rfl) (ld3 W _ 0 _ (hcell W hS 0 _ rfl)))
 refine us ?_ (yaM true 17 20 true hz (by decide) (by kernel_rfl) rfl rfl fun _ _ W s _=>yad (x:=.tmp 1) (t:=29) (f:=0) (by kernel_rfl) (s.b 1 (by kernel_rfl) h1) (fx0 W _))
 refine us ?_ (ya1 hz (by decide) (by kernel_rfl) fun _ _ s _=>yac (x:=.tmp 19) (by kernel_rfl) (s.u 16 19 (by kernel_rfl)))
 refine us ?_ (ya1 hz (by decide) (by kernel_rfl) fun _ _ s _=>yav (G:=true) (by kernel_rfl) (s.u 7 10 (by kernel_rfl)) (s.u 15 18 (by kernel_rfl)) rfl rfl)
 refine us ?_ (yaM true 7 10 true hz (by decide) (by kernel_rfl) rfl rfl fun hG _ _ s _=>yaS (by kernel_rfl) (s.g 11 14 (by kernel_rfl) hG rfl) (s.u 14 17 (by kernel_rfl)) rfl hG)
 refine us ?_ (yaM _ 11 14 false hz (by decide) (by kernel_rfl) rfl rfl fun hG _ W s _=>yaq (u:=9) (x:=.tmp 16) (y:=.const (.string ⟨#[]⟩)) (by kernel_rfl) (s.g 13 16 (by kernel_rfl) hG rfl) (rfl) (eq9 W _ _ _))
 refine us ?_ (yaM _ 11 14 false hz (by decide) (by kernel_rfl) rfl rfl fun hG _ W s hS=>yaf (x:=.tmp 15) (t:=9) (by kernel_rfl) (s.g 12 15 (by kernel_rfl) hG rfl) (ld9 W _ 4 _ (hcell W hS 4 _ rfl)))
 refine us ?_ (yaM _ 11 14 false hz (by decide) (by kernel_rfl) rfl rfl fun _ _ W s _=>yad (x:=.tmp 1) (t:=29) (f:=2) (by kernel_rfl) (s.b 1 (by kernel_rfl) h1) (fx2 W _))
 refine us ?_ (yaM true 7 10 true hz (by decide) (by kernel_rfl) rfl rfl fun hG _ _ s _=>yac (x:=.tmp 13) (by kernel_rfl) (s.g 10 13 (by kernel_rfl) hG rfl))
 refine us ?_ (yaM true 7 10 true hz (by decide) (by kernel_rfl) rfl rfl fun hG _ W s _=>yaq (u:=3) (x:=.tmp 12) (y:=.const (.int .i64 2)) (by kernel_rfl) (s.g 9 12 (by kernel_rfl) hG rfl) (rfl) (yee W _ _ _ _))
 refine us ?_ (yaM true 7 10 true hz (by decide) (by kernel_rfl) rfl rfl fun hG _ W s hS=>yaf (x:=.tmp 11) (t:=3) (by kernel_rfl) (s.g 8 11 (by kernel_rfl) hG rfl) (ld3 W _ 0 _ (hcell W hS 0 _ rfl)))
 refine us ?_ (yaM true 7 10 true hz (by decide) (by kernel_rfl) rfl rfl fun _ _ W s _=>yad (x:=.tmp 1) (t:=29) (f:=0) (by kernel_rfl) (s.b 1 (by kernel_rfl) h1) (fx0 W _))
 refine us ?_ (ya1 hz (by decide) (by kernel_rfl) fun _ _ s _=>yac (x:=.tmp 9) (by kernel_rfl) (s.u 6 9 (by kernel_rfl)))
 refine us ?_ (ya1 hz (by decide) (by kernel_rfl) fun _ W s _=>yaq (u:=3) (x:=.tmp 5) (y:=.tmp 8) (by kernel_rfl) (s.u 2 5 (by kernel_rfl)) (s.u 5 8 (by kernel_rfl)) (yee W _ _ _ _))
 refine us ?_ (yol hz (by decide) (by kernel_rfl) (fun _ _ s=>yaP (ts:=#[3]) (x:=.tmp 7) (f:=130) ytc (by kernel_rfl) rfl (s.u 4 7 (by kernel_rfl))) q8)
 refine us ?_ (ya1 hz (by decide) (by kernel_rfl) fun _ W s hS=>yaf (x:=.tmp 6) (t:=3) (by kernel_rfl) (s.u 3 6 (by kernel_rfl)) (ld3 W _ 0 _ (hcell W hS 0 _ rfl)))
 refine us ?_ (ya1 hz (by decide) (by kernel_rfl) fun _ W s _=>yad (x:=.tmp 1) (t:=29) (f:=0) (by kernel_rfl) (s.b 1 (by kernel_rfl) h1) (fx0 W _))
 refine us ?_ (ya1 hz (by decide) (by kernel_rfl) fun _ W s _=>ycz (ts:=#[27]) (x:=.tmp 4) (by kernel_rfl) (fun ty=>yub W ao n ca ty) (s.u 1 4 (by kernel_rfl)))
 refine us ?_ (ya1 hz (by decide) (by kernel_rfl) fun _ W s hS=>yaf (x:=.tmp 3) (t:=27) (by kernel_rfl) (s.u 0 3 (by kernel_rfl)) (yua W _ 5 _ (hcell W hS 5 _ rfl)))
 refine us ?_ (ya1 hz (by decide) (by kernel_rfl) fun _ W s _=>yad (x:=.tmp 1) (t:=29) (f:=3) (by kernel_rfl) (s.b 1 (by kernel_rfl) h1) (fx3 W _))
 exact fun j hj=>absurd hj (Nat.not_lt_zero j)
end Go.Proofs.YtkpeklealgicpabGreatDoor
