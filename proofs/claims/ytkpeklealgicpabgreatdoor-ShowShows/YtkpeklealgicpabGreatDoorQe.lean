/-
  The document's SameCmd, of one command in memory twice.
  CheckCmd of the document: what is set.
  CheckCmd of the document: its first regions.
  CheckCmd of the document: Type and Value.
  CheckCmd of the document: how many of each.
  CheckCmd of the document: columns.
  CheckCmd of the document: values.
  CheckCmd of the document: fields.
  CheckCmd of the document: Limit, Order, Expr.
-/
import Derived.Test.YtkpeklealgicpabGreatDoorQa
import Derived.Test.YtkpeklealgicpabGreatDoorQc
import Derived.Test.YtkpeklealgicpabGreatDoorQd

set_option maxRecDepth 100000
set_option maxHeartbeats 8000000
namespace Go.Proofs.YtkpeklealgicpabGreatDoor
open Go.RowKit
section
variable {P:Program} {ops:Array Oper} {rest:List Oper} {op:Oper} {a:Act} {w:World} {Q:Exit→Act→World→Prop}
theorem yah (slot:Nat) (ty:TypeId) (x:Operand) (cs:List Value) (hd:op.dst=some slot) (hgd:op.guard=none) (ho:op.op=.box ty x) (hx:a.eval x=.agg cs.toArray)
  (h:∀ w' b,Hid (b=w.heap.size)→w'.heap[b]?=some (.cells cs.toArray ty)→Below w.heap.size w w'→wpList P ops Q rest (a.put (some slot) (.pointer (some ⟨b,0,none⟩))) w'):wpList P ops Q (op::rest) a w:=by
 refine wpList_plain hgd fun K hK=>?_
 rw [← hd] at h
 unfold Oper.wp execOp
 simp only [ho,Sem.run_bind,Instr.box,newVar,newRow,run_newObj_alloc,Sem.run_pure,Result.andThen_ok,hx]
 exact hK _ _ (h _ _ (yaa rfl) (heap_alloc_new _ _) ((Below.refl _ _).alloc (Nat.le_refl _) _))
end
theorem ykq {W:World} {b:Nat} {t:TypeId} {c:Cm} {cv vv fv ea wa:Value} (h:W.heap[b]?=some (.cells (cmL c cv vv fv ea wa).toArray t)) :
  W.cell? ⟨b,0,none⟩=some (.int .i64 c.kind)∧W.cell? ⟨b,1,none⟩=some (.string ⟨c.name.toArray⟩)∧W.cell? ⟨b,2,none⟩=some (.string ⟨c.other.toArray⟩)∧W.cell? ⟨b,3,none⟩=some (.string ⟨c.column.toArray⟩)∧W.cell? ⟨b,4,none⟩=some (cv)∧W.cell? ⟨b,5,none⟩=some (.int .i64 c.ty)∧W.cell? ⟨b,6,none⟩=some (.int .i64 c.val.k)∧W.cell? ⟨b,7,none⟩=some (.int .i64 c.val.n)∧W.cell? ⟨b,8,none⟩=some (.string ⟨c.val.s.toArray⟩)∧W.cell? ⟨b,17,none⟩=some (.bool c.all)∧W.cell? ⟨b,24,none⟩=some (.string ⟨c.order.toArray⟩)∧W.cell? ⟨b,25,none⟩=some (.int .i64 c.limit):=by
 refine ⟨?_, ?_, ?_, ?_, ?_, ?_, ?_, ?_, ?_, ?_, ?_, ?_⟩ <;> exact (Lib.cell_of_heap h _).trans rfl
theorem yo1 {W:World} {b:Nat} {t:TypeId} {c:Cm} {cv vv fv ea wa:Value} (h:W.heap[b]?=some (.cells (cmL c cv vv fv ea wa).toArray t)) :
  W.cell? ⟨b,11,none⟩=some (.int .i64 c.expr.k)∧W.cell? ⟨b,12,none⟩=some (.int .i64 c.expr.v.k)∧W.cell? ⟨b,13,none⟩=some (.int .i64 c.expr.v.n)∧W.cell? ⟨b,14,none⟩=some (.string ⟨c.expr.v.s.toArray⟩)∧W.cell? ⟨b,15,none⟩=some (.string ⟨c.expr.nm.toArray⟩)∧W.cell? ⟨b,16,none⟩=some (ea)∧W.cell? ⟨b,17,none⟩=some (.bool c.all)∧W.cell? ⟨b,18,none⟩=some (.int .i64 c.wh.k)∧W.cell? ⟨b,19,none⟩=some (.int .i64 c.wh.v.k)∧W.cell? ⟨b,20,none⟩=some (.int .i64 c.wh.v.n)∧W.cell? ⟨b,21,none⟩=some (.string ⟨c.wh.v.s.toArray⟩)∧W.cell? ⟨b,22,none⟩=some (.string ⟨c.wh.nm.toArray⟩)∧W.cell? ⟨b,23,none⟩=some (wa)∧W.cell? ⟨b,24,none⟩=some (.string ⟨c.order.toArray⟩)∧W.cell? ⟨b,25,none⟩=some (.int .i64 c.limit):=by
 refine ⟨?_, ?_, ?_, ?_, ?_, ?_, ?_, ?_, ?_, ?_, ?_, ?_, ?_, ?_, ?_⟩ <;> exact (Lib.cell_of_heap h _).trans rfl
theorem yii {W:World} {b:Nat} {t:TypeId} {c:Cm} {cv vv fv ea wa:Value} (h:W.heap[b]?=some (.cells (cmL c cv vv fv ea wa).toArray t)) :
  W.cell? ⟨b,18,none⟩=some (.int .i64 c.wh.k)∧W.cell? ⟨b,19,none⟩=some (.int .i64 c.wh.v.k)∧W.cell? ⟨b,20,none⟩=some (.int .i64 c.wh.v.n)∧W.cell? ⟨b,21,none⟩=some (.string ⟨c.wh.v.s.toArray⟩)∧W.cell? ⟨b,22,none⟩=some (.string ⟨c.wh.nm.toArray⟩)∧W.cell? ⟨b,23,none⟩=some (wa):=by
 refine ⟨?_, ?_, ?_, ?_, ?_, ?_⟩ <;> exact (Lib.cell_of_heap h _).trans rfl
theorem yed {W:World} {b:Nat} {t:TypeId} {c:Cm} {cv vv fv ea wa:Value} (h:W.heap[b]?=some (.cells (cmL c cv vv fv ea wa).toArray t)) :
  W.cell? ⟨b,4,none⟩=some (cv)∧W.cell? ⟨b,9,none⟩=some (vv)∧W.cell? ⟨b,10,none⟩=some (fv):=by
 refine ⟨?_, ?_, ?_⟩ <;> exact (Lib.cell_of_heap h _).trans rfl
theorem Tryz.fields56:(Tryz.prog.fieldsOf 56).toList.map (fun f=>(f.name,f.type,f.offset))=[("Name",9,0),("Type",3,1)]:=by kernel_rfl
theorem Tryz.under56:Tryz.prog.underlying 56=some (.struct (Tryz.prog.fieldsOf 56)):=by kernel_rfl
theorem Tryz.stood56:Tryz.prog.stoodInHeld 56=false:=by kernel_rfl
theorem yjd {l:List Field} {a b:String} {i j k m:Nat} (h:l.map (fun f=>(f.name,f.type,f.offset))=[(a,i,j),(b,k,m)]) :
  ∃ f0 f1:Field,l=[f0,f1]∧f0.name=a∧f0.type=i∧f0.offset=j∧f1.name=b∧f1.type=k∧f1.offset=m:=by
 match l,h with
 | [f0,f1],h=>simp at h;exact ⟨f0,f1,rfl,h.1.1,h.1.2.1,h.1.2.2,h.2.1,h.2.2.1,h.2.2.2⟩
def ycW (x y:Cl):Bool:=decide (x.name=y.name)&&decide (x.ty=y.ty)
theorem ysr (n n':List UInt8) (t t':Int) (w:World) :
  (binOp .neq 56 (.agg #[.string ⟨n.toArray⟩,.int .i64 t]) (.agg #[.string ⟨n'.toArray⟩,.int .i64 t'])).run Tryz.prog w=.ok (.bool (!ycW ⟨n,t⟩ ⟨n',t'⟩)) w:=by
 rw [run_neq_struct,run_equalIn_struct w 9999 56 _ _ Tryz.under56 Tryz.stood56]
 obtain ⟨f0,f1,hf,n0,t0,o0,n1,t1,o1⟩:=yjd Tryz.fields56
 rw [hf]
 simp [Op.eqFields,n0,t0,o0,n1,t1,o1,go_sem]
 unfold ycW
 by_cases h1:n=n' <;> by_cases h2:t=t' <;> simp [h1,h2]
theorem yf3 {w:World} {b off:Nat} {L:List Cl} (hc:∀ j x,(L.flatMap clC)[j]?=some x→w.cell? ⟨b,off+j,none⟩=some x) (k:Nat) (x:Cl) (hx:L[k]?=some x) :
  w.cell? ⟨b,off+k*2,none⟩=some (.string ⟨x.name.toArray⟩)∧w.cell? ⟨b,off+k*2+1,none⟩=some (.int .i64 x.ty):=by
 have g0:=ybj clC 2 (fun _=>rfl) L k x hx 0 (by decide)
 have g1:=ybj clC 2 (fun _=>rfl) L k x hx 1 (by decide)
 exact ⟨hc _ _ g0,hc _ _ g1⟩
theorem yeM {w:World} {b off:Nat} {L:List (List UInt8)} (hc:∀ j x,(L.flatMap stC)[j]?=some x→w.cell? ⟨b,off+j,none⟩=some x) (k:Nat) (x:List UInt8) (hx:L[k]?=some x) :
  w.cell? ⟨b,off+k,none⟩=some (.string ⟨x.toArray⟩):=by
 have g0:=ybj stC 1 (fun _=>rfl) L k x hx 0 (by decide)
 rw [Nat.mul_one,Nat.add_zero] at g0
 exact hc _ _ g0
theorem RowAt.spread {B:Nat} {w:World} {ao:Option Addr} {n cap:Nat} {xs:List Value} (h:RowAt B w (.slice ao n cap) n xs) (hn:0 < n):∃ g o,ao=some ⟨g,o,none⟩∧B≤g∧g < w.heap.size∧∀ j x,xs[j]?=some x→w.cell? ⟨g,o+j,none⟩=some x:=by
 rcases h with ⟨h0,-⟩|⟨b,off,cp,e,hB,hlt,hc⟩
 ·omega
 ·cases e
  exact ⟨b,off,rfl,hB,hlt,hc⟩
noncomputable def k2_R:Array Oper:=((Tryz.f13.body).bind (yas 2)).getD #[]
def yu4  (j:Nat):Value:=([.int .i64 2]:List Value).getD j undef
def k2_d:List (Option Tmp):=[some 2]
theorem yn1:k2_d.Nodup:=by unfold k2_d;decide
theorem ytY  {S:World→Prop} {a0:Act} {Q:Exit→Act→World→Prop} {w:World}  (ha:a0.tmps.size=272) (hS:S w)
  (hq:∀ a' w',S w'→a'.defers=a0.defers→a'.tmps.size=272→(∀ j d,k2_d[j]?=some (some d)→a'.tmps[d]?=some (yu4  j))→(∀ d,some d ∉ k2_d→a'.tmps[d]?=a0.tmps[d]?)→Q .normal a' w'):(Code.region 2 k2_R false).wp Tryz.prog Q a0 w:=by
 have hz:k2_R.size=1:=by kernel_rfl
 refine yaG (m:=272) hz (by kernel_rfl) yn1 (by kernel_rfl) ha ?_ hS hq
 refine us ?_ (yaO hz (by decide) (by kernel_rfl) fun _ _ _ _=>yaA (x:=.const (.int .i64 2)) (by kernel_rfl) (rfl))
 exact fun j hj=>absurd hj (Nat.not_lt_zero j)
noncomputable def k10_R:Array Oper:=((Tryz.f13.body).bind (yas 10)).getD #[]
def ytD  (j:Nat):Value:=([.int .i64 0]:List Value).getD j undef
def k10_d:List (Option Tmp):=[some 5]
theorem ylo:k10_d.Nodup:=by unfold k10_d;decide
theorem yr0  {S:World→Prop} {a0:Act} {Q:Exit→Act→World→Prop} {w:World}  (ha:a0.tmps.size=272) (hS:S w)
  (hq:∀ a' w',S w'→a'.defers=a0.defers→a'.tmps.size=272→(∀ j d,k10_d[j]?=some (some d)→a'.tmps[d]?=some (ytD  j))→(∀ d,some d ∉ k10_d→a'.tmps[d]?=a0.tmps[d]?)→Q .normal a' w'):(Code.region 10 k10_R false).wp Tryz.prog Q a0 w:=by
 have hz:k10_R.size=1:=by kernel_rfl
 refine yaG (m:=272) hz (by kernel_rfl) ylo (by kernel_rfl) ha ?_ hS hq
 refine us ?_ (yaO hz (by decide) (by kernel_rfl) fun _ _ _ _=>yaA (x:=.const (.int .i64 0)) (by kernel_rfl) (rfl))
 exact fun j hj=>absurd hj (Nat.not_lt_zero j)
noncomputable def k14_R:Array Oper:=((Tryz.f13.body).bind (yas 14)).getD #[]
def ytH  (j:Nat):Value:=([.int .i64 0]:List Value).getD j undef
def k14_d:List (Option Tmp):=[some 6]
theorem yls:k14_d.Nodup:=by unfold k14_d;decide
theorem yr4  {S:World→Prop} {a0:Act} {Q:Exit→Act→World→Prop} {w:World}  (ha:a0.tmps.size=272) (hS:S w)
  (hq:∀ a' w',S w'→a'.defers=a0.defers→a'.tmps.size=272→(∀ j d,k14_d[j]?=some (some d)→a'.tmps[d]?=some (ytH  j))→(∀ d,some d ∉ k14_d→a'.tmps[d]?=a0.tmps[d]?)→Q .normal a' w'):(Code.region 14 k14_R false).wp Tryz.prog Q a0 w:=by
 have hz:k14_R.size=1:=by kernel_rfl
 refine yaG (m:=272) hz (by kernel_rfl) yls (by kernel_rfl) ha ?_ hS hq
 refine us ?_ (yaO hz (by decide) (by kernel_rfl) fun _ _ _ _=>yaA (x:=.const (.int .i64 0)) (by kernel_rfl) (rfl))
 exact fun j hj=>absurd hj (Nat.not_lt_zero j)
noncomputable def k18_R:Array Oper:=((Tryz.f13.body).bind (yas 18)).getD #[]
def ytL  (j:Nat):Value:=([.int .i64 0]:List Value).getD j undef
def k18_d:List (Option Tmp):=[some 7]
theorem ylw:k18_d.Nodup:=by unfold k18_d;decide
theorem yr8  {S:World→Prop} {a0:Act} {Q:Exit→Act→World→Prop} {w:World}  (ha:a0.tmps.size=272) (hS:S w)
  (hq:∀ a' w',S w'→a'.defers=a0.defers→a'.tmps.size=272→(∀ j d,k18_d[j]?=some (some d)→a'.tmps[d]?=some (ytL  j))→(∀ d,some d ∉ k18_d→a'.tmps[d]?=a0.tmps[d]?)→Q .normal a' w'):(Code.region 18 k18_R false).wp Tryz.prog Q a0 w:=by
 have hz:k18_R.size=1:=by kernel_rfl
 refine yaG (m:=272) hz (by kernel_rfl) ylw (by kernel_rfl) ha ?_ hS hq
 refine us ?_ (yaO hz (by decide) (by kernel_rfl) fun _ _ _ _=>yaA (x:=.const (.int .i64 0)) (by kernel_rfl) (rfl))
 exact fun j hj=>absurd hj (Nat.not_lt_zero j)
noncomputable def k31_R:Array Oper:=((Tryz.f13.body).bind (yas 31)).getD #[]
def yt0  (j:Nat):Value:=([.int .i64 1]:List Value).getD j undef
def k31_d:List (Option Tmp):=[some 2]
theorem ylJ:k31_d.Nodup:=by unfold k31_d;decide
theorem ysl  {S:World→Prop} {a0:Act} {Q:Exit→Act→World→Prop} {w:World}  (ha:a0.tmps.size=272) (hS:S w)
  (hq:∀ a' w',S w'→a'.defers=a0.defers→a'.tmps.size=272→(∀ j d,k31_d[j]?=some (some d)→a'.tmps[d]?=some (yt0  j))→(∀ d,some d ∉ k31_d→a'.tmps[d]?=a0.tmps[d]?)→Q .normal a' w'):(Code.region 31 k31_R false).wp Tryz.prog Q a0 w:=by
 have hz:k31_R.size=1:=by kernel_rfl
 refine yaG (m:=272) hz (by kernel_rfl) ylJ (by kernel_rfl) ha ?_ hS hq
 refine us ?_ (yaO hz (by decide) (by kernel_rfl) fun _ _ _ _=>yaA (x:=.const (.int .i64 1)) (by kernel_rfl) (rfl))
 exact fun j hj=>absurd hj (Nat.not_lt_zero j)
noncomputable def k32_R:Array Oper:=((Tryz.f13.body).bind (yas 32)).getD #[]
def yt1  (j:Nat):Value:=([.int .i64 0]:List Value).getD j undef
def k32_d:List (Option Tmp):=[some 2]
theorem ylK:k32_d.Nodup:=by unfold k32_d;decide
theorem ysm  {S:World→Prop} {a0:Act} {Q:Exit→Act→World→Prop} {w:World}  (ha:a0.tmps.size=272) (hS:S w)
  (hq:∀ a' w',S w'→a'.defers=a0.defers→a'.tmps.size=272→(∀ j d,k32_d[j]?=some (some d)→a'.tmps[d]?=some (yt1  j))→(∀ d,some d ∉ k32_d→a'.tmps[d]?=a0.tmps[d]?)→Q .normal a' w'):(Code.region 32 k32_R false).wp Tryz.prog Q a0 w:=by
 have hz:k32_R.size=1:=by kernel_rfl
 refine yaG (m:=272) hz (by kernel_rfl) ylK (by kernel_rfl) ha ?_ hS hq
 refine us ?_ (yaO hz (by decide) (by kernel_rfl) fun _ _ _ _=>yaA (x:=.const (.int .i64 0)) (by kernel_rfl) (rfl))
 exact fun j hj=>absurd hj (Nat.not_lt_zero j)
noncomputable def k1_R:Array Oper:=((Tryz.f13.body).bind (yas 1)).getD #[]
def yu3 (c:Cm) (a1 a2 a3 a4 a5:Option Addr) (c1 c2 c3 c4 c5:Nat) (b:Nat) (j:Nat):Value:=([.pointer (some ⟨b,4,none⟩),.slice a1 c.cols.length c1,.int .i64 ((c.cols.length:Nat):Int),.bool (decide (5 < ((c.cols.length:Nat):Int))),.bool (decide (5 < ((c.cols.length:Nat):Int))),gw ((decide (5 < ((c.cols.length:Nat):Int))) == false) (.pointer (some ⟨b,9,none⟩)),gw ((decide (5 < ((c.cols.length:Nat):Int))) == false) (.slice a2 c.vals.length c2),gw ((decide (5 < ((c.cols.length:Nat):Int))) == false) (.int .i64 ((c.vals.length:Nat):Int)),gw ((decide (5 < ((c.cols.length:Nat):Int))) == false) (.bool (decide (5 < ((c.vals.length:Nat):Int)))),.bool ((decide (5 < ((c.cols.length:Nat):Int))) || (decide (5 < ((c.vals.length:Nat):Int)))),.bool ((decide (5 < ((c.cols.length:Nat):Int))) || (decide (5 < ((c.vals.length:Nat):Int)))),gw (((decide (5 < ((c.cols.length:Nat):Int))) || (decide (5 < ((c.vals.length:Nat):Int)))) == false) (.pointer (some ⟨b,10,none⟩)),gw (((decide (5 < ((c.cols.length:Nat):Int))) || (decide (5 < ((c.vals.length:Nat):Int)))) == false) (.slice a3 c.fields.length c3),gw (((decide (5 < ((c.cols.length:Nat):Int))) || (decide (5 < ((c.vals.length:Nat):Int)))) == false) (.int .i64 ((c.fields.length:Nat):Int)),gw (((decide (5 < ((c.cols.length:Nat):Int))) || (decide (5 < ((c.vals.length:Nat):Int)))) == false) (.bool (decide (5 < ((c.fields.length:Nat):Int)))),.bool (((decide (5 < ((c.cols.length:Nat):Int))) || (decide (5 < ((c.vals.length:Nat):Int)))) || (decide (5 < ((c.fields.length:Nat):Int)))),.bool (((decide (5 < ((c.cols.length:Nat):Int))) || (decide (5 < ((c.vals.length:Nat):Int)))) || (decide (5 < ((c.fields.length:Nat):Int)))),gw ((((decide (5 < ((c.cols.length:Nat):Int))) || (decide (5 < ((c.vals.length:Nat):Int)))) || (decide (5 < ((c.fields.length:Nat):Int)))) == false) (.pointer (some ⟨b,11,none⟩)),gw ((((decide (5 < ((c.cols.length:Nat):Int))) || (decide (5 < ((c.vals.length:Nat):Int)))) || (decide (5 < ((c.fields.length:Nat):Int)))) == false) (.agg #[.int .i64 c.expr.k,.int .i64 c.expr.v.k,.int .i64 c.expr.v.n,.string ⟨c.expr.v.s.toArray⟩,.string ⟨c.expr.nm.toArray⟩,.slice a4 c.expr.args.length c4]),gw ((((decide (5 < ((c.cols.length:Nat):Int))) || (decide (5 < ((c.vals.length:Nat):Int)))) || (decide (5 < ((c.fields.length:Nat):Int)))) == false) (.int .i64 ((min (yaQ c.expr) (15+1):Nat):Int)),gw ((((decide (5 < ((c.cols.length:Nat):Int))) || (decide (5 < ((c.vals.length:Nat):Int)))) || (decide (5 < ((c.fields.length:Nat):Int)))) == false) (.bool (decide (15 < ((min (yaQ c.expr) (15+1):Nat):Int)))),.bool ((((decide (5 < ((c.cols.length:Nat):Int))) || (decide (5 < ((c.vals.length:Nat):Int)))) || (decide (5 < ((c.fields.length:Nat):Int)))) || (decide (15 < ((min (yaQ c.expr) (15+1):Nat):Int)))),.bool ((((decide (5 < ((c.cols.length:Nat):Int))) || (decide (5 < ((c.vals.length:Nat):Int)))) || (decide (5 < ((c.fields.length:Nat):Int)))) || (decide (15 < ((min (yaQ c.expr) (15+1):Nat):Int)))),gw (((((decide (5 < ((c.cols.length:Nat):Int))) || (decide (5 < ((c.vals.length:Nat):Int)))) || (decide (5 < ((c.fields.length:Nat):Int)))) || (decide (15 < ((min (yaQ c.expr) (15+1):Nat):Int)))) == false) (.pointer (some ⟨b,18,none⟩)),gw (((((decide (5 < ((c.cols.length:Nat):Int))) || (decide (5 < ((c.vals.length:Nat):Int)))) || (decide (5 < ((c.fields.length:Nat):Int)))) || (decide (15 < ((min (yaQ c.expr) (15+1):Nat):Int)))) == false) (.agg #[.int .i64 c.wh.k,.int .i64 c.wh.v.k,.int .i64 c.wh.v.n,.string ⟨c.wh.v.s.toArray⟩,.string ⟨c.wh.nm.toArray⟩,.slice a5 c.wh.args.length c5]),gw (((((decide (5 < ((c.cols.length:Nat):Int))) || (decide (5 < ((c.vals.length:Nat):Int)))) || (decide (5 < ((c.fields.length:Nat):Int)))) || (decide (15 < ((min (yaQ c.expr) (15+1):Nat):Int)))) == false) (.int .i64 ((min (yaQ c.wh) (15+1):Nat):Int)),gw (((((decide (5 < ((c.cols.length:Nat):Int))) || (decide (5 < ((c.vals.length:Nat):Int)))) || (decide (5 < ((c.fields.length:Nat):Int)))) || (decide (15 < ((min (yaQ c.expr) (15+1):Nat):Int)))) == false) (.bool (decide (15 < ((min (yaQ c.wh) (15+1):Nat):Int)))),.bool (((((decide (5 < ((c.cols.length:Nat):Int))) || (decide (5 < ((c.vals.length:Nat):Int)))) || (decide (5 < ((c.fields.length:Nat):Int)))) || (decide (15 < ((min (yaQ c.expr) (15+1):Nat):Int)))) || (decide (15 < ((min (yaQ c.wh) (15+1):Nat):Int))))]:List Value).getD j undef
def k1_d:List (Option Tmp):=[some 8,some 9,some 10,some 11,some 12,some 13,some 14,some 15,some 16,some 17,some 18,some 19,some 20,some 21,some 22,some 23,some 24,some 25,some 26,some 27,some 28,some 29,some 30,some 31,some 32,some 33,some 34,some 35]
theorem yn0:k1_d.Nodup:=by unfold k1_d;decide
theorem ytN {c:Cm} {a1 a2 a3 a4 a5:Option Addr} {c1 c2 c3 c4 c5:Nat} {b:Nat} {S:World→Prop} {a0:Act} {Q:Exit→Act→World→Prop} {w:World} (h1:a0.tmps[1]?=some (.pointer (some ⟨b,0,none⟩))) (hcell:∀ W,S W→∀ o x,(cmL c (.slice a1 c.cols.length c1) (.slice a2 c.vals.length c2) (.slice a3 c.fields.length c3) (.slice a4 c.expr.args.length c4) (.slice a5 c.wh.args.length c5))[o]?=some x→W.cell? ⟨b,o,none⟩=some x) (q27:∀ W,S W→Calls Tryz.prog 30 #[.agg #[.int .i64 c.expr.k,.int .i64 c.expr.v.k,.int .i64 c.expr.v.n,.string ⟨c.expr.v.s.toArray⟩,.string ⟨c.expr.nm.toArray⟩,.slice a4 c.expr.args.length c4],.int .i64 15] W fun e w'=>e=.returned (.int .i64 ((min (yaQ c.expr) (15+1):Nat):Int))∧S w') (q33:∀ W,S W→Calls Tryz.prog 30 #[.agg #[.int .i64 c.wh.k,.int .i64 c.wh.v.k,.int .i64 c.wh.v.n,.string ⟨c.wh.v.s.toArray⟩,.string ⟨c.wh.nm.toArray⟩,.slice a5 c.wh.args.length c5],.int .i64 15] W fun e w'=>e=.returned (.int .i64 ((min (yaQ c.wh) (15+1):Nat):Int))∧S w') (ha:a0.tmps.size=272) (hS:S w)
  (hq:∀ a' w',S w'→a'.defers=a0.defers→a'.tmps.size=272→(∀ j d,k1_d[j]?=some (some d)→a'.tmps[d]?=some (yu3 c a1 a2 a3 a4 a5 c1 c2 c3 c4 c5 b j))→(∀ d,some d ∉ k1_d→a'.tmps[d]?=a0.tmps[d]?)→Q .normal a' w'):(Code.region 1 k1_R false).wp Tryz.prog Q a0 w:=by
 have hz:k1_R.size=28:=by kernel_rfl
 refine yaG (m:=272) hz (by kernel_rfl) yn0 (by kernel_rfl) ha ?_ hS hq
 refine us ?_ (yaO hz (by decide) (by kernel_rfl) fun _ _ s _=>yaS (G:=true) (by kernel_rfl) (s.u 22 30 (by kernel_rfl)) (s.u 26 34 (by kernel_rfl)) rfl rfl)
 refine us ?_ (yaH true 22 30 false hz (by decide) (by kernel_rfl) rfl rfl fun hG _ W s _=>yaq (u:=3) (x:=.tmp 33) (y:=.const (.int .i64 15)) (by kernel_rfl) (s.g 25 33 (by kernel_rfl) hG rfl) (rfl) (yhu W _ _ _ _))
 refine us ?_ (yfV true 22 30 false hz (by decide) (by kernel_rfl) rfl rfl (fun hG _ _ s=>ybp (ts:=#[29,3]) (x:=.tmp 32) (y:=.const (.int .i64 15)) (f:=30) yuw (by kernel_rfl) rfl (s.g 24 32 (by kernel_rfl) hG rfl) (rfl)) q33)
 refine us ?_ (yaH true 22 30 false hz (by decide) (by kernel_rfl) rfl rfl fun hG _ W s hS=>yaf (x:=.tmp 31) (t:=29) (by kernel_rfl) (s.g 23 31 (by kernel_rfl) hG rfl) (ygD W _ 18 _ _ _ _ _ _ (hcell W hS 18 _ rfl) (hcell W hS 19 _ rfl) (hcell W hS 20 _ rfl) (hcell W hS 21 _ rfl) (hcell W hS 22 _ rfl) (hcell W hS 23 _ rfl)))
 refine us ?_ (yaH true 22 30 false hz (by decide) (by kernel_rfl) rfl rfl fun _ _ W s _=>yad (x:=.tmp 1) (t:=31) (f:=11) (by kernel_rfl) (s.b 1 (by kernel_rfl) h1) (ypN W _))
 refine us ?_ (yaO hz (by decide) (by kernel_rfl) fun _ _ s _=>yac (x:=.tmp 29) (by kernel_rfl) (s.u 21 29 (by kernel_rfl)))
 refine us ?_ (yaO hz (by decide) (by kernel_rfl) fun _ _ s _=>yaS (G:=true) (by kernel_rfl) (s.u 16 24 (by kernel_rfl)) (s.u 20 28 (by kernel_rfl)) rfl rfl)
 refine us ?_ (yaH true 16 24 false hz (by decide) (by kernel_rfl) rfl rfl fun hG _ W s _=>yaq (u:=3) (x:=.tmp 27) (y:=.const (.int .i64 15)) (by kernel_rfl) (s.g 19 27 (by kernel_rfl) hG rfl) (rfl) (yhu W _ _ _ _))
 refine us ?_ (yfV true 16 24 false hz (by decide) (by kernel_rfl) rfl rfl (fun hG _ _ s=>ybp (ts:=#[29,3]) (x:=.tmp 26) (y:=.const (.int .i64 15)) (f:=30) yuw (by kernel_rfl) rfl (s.g 18 26 (by kernel_rfl) hG rfl) (rfl)) q27)
 refine us ?_ (yaH true 16 24 false hz (by decide) (by kernel_rfl) rfl rfl fun hG _ W s hS=>yaf (x:=.tmp 25) (t:=29) (by kernel_rfl) (s.g 17 25 (by kernel_rfl) hG rfl) (ygD W _ 11 _ _ _ _ _ _ (hcell W hS 11 _ rfl) (hcell W hS 12 _ rfl) (hcell W hS 13 _ rfl) (hcell W hS 14 _ rfl) (hcell W hS 15 _ rfl) (hcell W hS 16 _ rfl)))
 refine us ?_ (yaH true 16 24 false hz (by decide) (by kernel_rfl) rfl rfl fun _ _ W s _=>yad (x:=.tmp 1) (t:=31) (f:=9) (by kernel_rfl) (s.b 1 (by kernel_rfl) h1) (fa9 W _))
 refine us ?_ (yaO hz (by decide) (by kernel_rfl) fun _ _ s _=>yac (x:=.tmp 23) (by kernel_rfl) (s.u 15 23 (by kernel_rfl)))
 refine us ?_ (yaO hz (by decide) (by kernel_rfl) fun _ _ s _=>yaS (G:=true) (by kernel_rfl) (s.u 10 18 (by kernel_rfl)) (s.u 14 22 (by kernel_rfl)) rfl rfl)
 refine us ?_ (yaH true 10 18 false hz (by decide) (by kernel_rfl) rfl rfl fun hG _ W s _=>yaq (u:=3) (x:=.tmp 21) (y:=.const (.int .i64 5)) (by kernel_rfl) (s.g 13 21 (by kernel_rfl) hG rfl) (rfl) (yhu W _ _ _ _))
 refine us ?_ (yaH true 10 18 false hz (by decide) (by kernel_rfl) rfl rfl fun hG _ W s _=>ycz (ts:=#[26]) (x:=.tmp 20) (by kernel_rfl) (fun ty=>yoe W a3 c.fields.length c3 ty) (s.g 12 20 (by kernel_rfl) hG rfl))
 refine us ?_ (yaH true 10 18 false hz (by decide) (by kernel_rfl) rfl rfl fun hG _ W s hS=>yaf (x:=.tmp 19) (t:=26) (by kernel_rfl) (s.g 11 19 (by kernel_rfl) hG rfl) (yrb W _ 10 _ (hcell W hS 10 _ rfl)))
 refine us ?_ (yaH true 10 18 false hz (by decide) (by kernel_rfl) rfl rfl fun _ _ W s _=>yad (x:=.tmp 1) (t:=31) (f:=8) (by kernel_rfl) (s.b 1 (by kernel_rfl) h1) (fa8 W _))
 refine us ?_ (yaO hz (by decide) (by kernel_rfl) fun _ _ s _=>yac (x:=.tmp 17) (by kernel_rfl) (s.u 9 17 (by kernel_rfl)))
 refine us ?_ (yaO hz (by decide) (by kernel_rfl) fun _ _ s _=>yaS (G:=true) (by kernel_rfl) (s.u 4 12 (by kernel_rfl)) (s.u 8 16 (by kernel_rfl)) rfl rfl)
 refine us ?_ (yaH true 4 12 false hz (by decide) (by kernel_rfl) rfl rfl fun hG _ W s _=>yaq (u:=3) (x:=.tmp 15) (y:=.const (.int .i64 5)) (by kernel_rfl) (s.g 7 15 (by kernel_rfl) hG rfl) (rfl) (yhu W _ _ _ _))
 refine us ?_ (yaH true 4 12 false hz (by decide) (by kernel_rfl) rfl rfl fun hG _ W s _=>ycz (ts:=#[25]) (x:=.tmp 14) (by kernel_rfl) (fun ty=>yod W a2 c.vals.length c2 ty) (s.g 6 14 (by kernel_rfl) hG rfl))
 refine us ?_ (yaH true 4 12 false hz (by decide) (by kernel_rfl) rfl rfl fun hG _ W s hS=>yaf (x:=.tmp 13) (t:=25) (by kernel_rfl) (s.g 5 13 (by kernel_rfl) hG rfl) (yra W _ 9 _ (hcell W hS 9 _ rfl)))
 refine us ?_ (yaH true 4 12 false hz (by decide) (by kernel_rfl) rfl rfl fun _ _ W s _=>yad (x:=.tmp 1) (t:=31) (f:=7) (by kernel_rfl) (s.b 1 (by kernel_rfl) h1) (fa7 W _))
 refine us ?_ (yaO hz (by decide) (by kernel_rfl) fun _ _ s _=>yac (x:=.tmp 11) (by kernel_rfl) (s.u 3 11 (by kernel_rfl)))
 refine us ?_ (yaO hz (by decide) (by kernel_rfl) fun _ W s _=>yaq (u:=3) (x:=.tmp 10) (y:=.const (.int .i64 5)) (by kernel_rfl) (s.u 2 10 (by kernel_rfl)) (rfl) (yhu W _ _ _ _))
 refine us ?_ (yaO hz (by decide) (by kernel_rfl) fun _ W s _=>ycz (ts:=#[22]) (x:=.tmp 9) (by kernel_rfl) (fun ty=>yoc W a1 c.cols.length c1 ty) (s.u 1 9 (by kernel_rfl)))
 refine us ?_ (yaO hz (by decide) (by kernel_rfl) fun _ W s hS=>yaf (x:=.tmp 8) (t:=22) (by kernel_rfl) (s.u 0 8 (by kernel_rfl)) (yqt W _ 4 _ (hcell W hS 4 _ rfl)))
 refine us ?_ (yaO hz (by decide) (by kernel_rfl) fun _ W s _=>yad (x:=.tmp 1) (t:=31) (f:=4) (by kernel_rfl) (s.b 1 (by kernel_rfl) h1) (fa4 W _))
 exact fun j hj=>absurd hj (Nat.not_lt_zero j)
noncomputable def k3_R:Array Oper:=((Tryz.f13.body).bind (yas 3)).getD #[]
def yu5 (c:Cm) (b:Nat) (j:Nat):Value:=([.pointer (some ⟨b,0,none⟩),.int .i64 c.kind,.int .i64 c.kind]:List Value).getD j undef
def k3_d:List (Option Tmp):=[some 36,some 37,some 3]
theorem yn2:k3_d.Nodup:=by unfold k3_d;decide
theorem yt2 {c:Cm} {a1 a2 a3 a4 a5:Option Addr} {c1 c2 c3 c4 c5:Nat} {b:Nat} {S:World→Prop} {a0:Act} {Q:Exit→Act→World→Prop} {w:World} (h1:a0.tmps[1]?=some (.pointer (some ⟨b,0,none⟩))) (hcell:∀ W,S W→∀ o x,(cmL c (.slice a1 c.cols.length c1) (.slice a2 c.vals.length c2) (.slice a3 c.fields.length c3) (.slice a4 c.expr.args.length c4) (.slice a5 c.wh.args.length c5))[o]?=some x→W.cell? ⟨b,o,none⟩=some x) (ha:a0.tmps.size=272) (hS:S w)
  (hq:∀ a' w',S w'→a'.defers=a0.defers→a'.tmps.size=272→(∀ j d,k3_d[j]?=some (some d)→a'.tmps[d]?=some (yu5 c b j))→(∀ d,some d ∉ k3_d→a'.tmps[d]?=a0.tmps[d]?)→Q .normal a' w'):(Code.region 3 k3_R false).wp Tryz.prog Q a0 w:=by
 have hz:k3_R.size=3:=by kernel_rfl
 refine yaG (m:=272) hz (by kernel_rfl) yn2 (by kernel_rfl) ha ?_ hS hq
 refine us ?_ (yaO hz (by decide) (by kernel_rfl) fun _ _ s _=>yaA (x:=.tmp 37) (by kernel_rfl) (s.u 1 37 (by kernel_rfl)))
 refine us ?_ (yaO hz (by decide) (by kernel_rfl) fun _ W s hS=>yaf (x:=.tmp 36) (t:=3) (by kernel_rfl) (s.u 0 36 (by kernel_rfl)) (ld3 W _ 0 _ (hcell W hS 0 _ rfl)))
 refine us ?_ (yaO hz (by decide) (by kernel_rfl) fun _ W s _=>yad (x:=.tmp 1) (t:=31) (f:=0) (by kernel_rfl) (s.b 1 (by kernel_rfl) h1) (fa0 W _))
 exact fun j hj=>absurd hj (Nat.not_lt_zero j)
noncomputable def k5_R:Array Oper:=((Tryz.f13.body).bind (yas 5)).getD #[]
def yu6 (c:Cm) (j:Nat):Value:=([.int .i64 c.kind,.bool (decide (c.kind=3)),.bool (decide (c.kind=3)),gw ((decide (c.kind=3)) == false) (.int .i64 c.kind),gw ((decide (c.kind=3)) == false) (.bool (decide (c.kind=6))),.bool ((decide (c.kind=3)) || (decide (c.kind=6)))]:List Value).getD j undef
def k5_d:List (Option Tmp):=[some 77,some 78,some 79,some 80,some 81,some 82]
theorem yn3:k5_d.Nodup:=by unfold k5_d;decide
theorem yt3 {c:Cm} {S:World→Prop} {a0:Act} {Q:Exit→Act→World→Prop} {w:World} (h3:a0.tmps[3]?=some (.int .i64 c.kind)) (ha:a0.tmps.size=272) (hS:S w)
  (hq:∀ a' w',S w'→a'.defers=a0.defers→a'.tmps.size=272→(∀ j d,k5_d[j]?=some (some d)→a'.tmps[d]?=some (yu6 c j))→(∀ d,some d ∉ k5_d→a'.tmps[d]?=a0.tmps[d]?)→Q .normal a' w'):(Code.region 5 k5_R false).wp Tryz.prog Q a0 w:=by
 have hz:k5_R.size=6:=by kernel_rfl
 refine yaG (m:=272) hz (by kernel_rfl) yn3 (by kernel_rfl) ha ?_ hS hq
 refine us ?_ (yaO hz (by decide) (by kernel_rfl) fun _ _ s _=>yaS (G:=true) (by kernel_rfl) (s.u 2 79 (by kernel_rfl)) (s.u 4 81 (by kernel_rfl)) rfl rfl)
 refine us ?_ (yaH true 2 79 false hz (by decide) (by kernel_rfl) rfl rfl fun hG _ W s _=>yaq (u:=3) (x:=.tmp 80) (y:=.const (.int .i64 6)) (by kernel_rfl) (s.g 3 80 (by kernel_rfl) hG rfl) (rfl) (yee W _ _ _ _))
 refine us ?_ (yaH true 2 79 false hz (by decide) (by kernel_rfl) rfl rfl fun _ _ _ s _=>yac (x:=.tmp 3) (by kernel_rfl) (s.b 3 (by kernel_rfl) h3))
 refine us ?_ (yaO hz (by decide) (by kernel_rfl) fun _ _ s _=>yac (x:=.tmp 78) (by kernel_rfl) (s.u 1 78 (by kernel_rfl)))
 refine us ?_ (yaO hz (by decide) (by kernel_rfl) fun _ W s _=>yaq (u:=3) (x:=.tmp 77) (y:=.const (.int .i64 3)) (by kernel_rfl) (s.u 0 77 (by kernel_rfl)) (rfl) (yee W _ _ _ _))
 refine us ?_ (yaO hz (by decide) (by kernel_rfl) fun _ _ s _=>yac (x:=.tmp 3) (by kernel_rfl) (s.b 3 (by kernel_rfl) h3))
 exact fun j hj=>absurd hj (Nat.not_lt_zero j)
noncomputable def k6_R:Array Oper:=((Tryz.f13.body).bind (yas 6)).getD #[]
def yu7 (c:Cm) (b:Nat) (ok:Bool) (j:Nat):Value:=([.bool ok,.bool ok,gw (ok == true) (.pointer (some ⟨b,5,none⟩)),gw (ok == true) (.int .i64 c.ty),gw (ok == true) (.bool (yaW c.ty 1 3)),.bool (ok&&(yaW c.ty 1 3)),.bool (ok&&(yaW c.ty 1 3))]:List Value).getD j undef
def k6_d:List (Option Tmp):=[some 83,some 84,some 85,some 86,some 87,some 88,some 4]
theorem yn4:k6_d.Nodup:=by unfold k6_d;decide
theorem yt4 {c:Cm} {a1 a2 a3 a4 a5:Option Addr} {c1 c2 c3 c4 c5:Nat} {b:Nat} {ok:Bool} {S:World→Prop} {a0:Act} {Q:Exit→Act→World→Prop} {w:World} (h1:a0.tmps[1]?=some (.pointer (some ⟨b,0,none⟩))) (h4:a0.tmps[4]?=some (.bool ok)) (hcell:∀ W,S W→∀ o x,(cmL c (.slice a1 c.cols.length c1) (.slice a2 c.vals.length c2) (.slice a3 c.fields.length c3) (.slice a4 c.expr.args.length c4) (.slice a5 c.wh.args.length c5))[o]?=some x→W.cell? ⟨b,o,none⟩=some x) (q87:∀ W,S W→Calls Tryz.prog 31 #[.int .i64 c.ty,.int .i64 1,.int .i64 3] W fun e w'=>e=.returned (.bool (yaW c.ty 1 3))∧S w') (ha:a0.tmps.size=272) (hS:S w)
  (hq:∀ a' w',S w'→a'.defers=a0.defers→a'.tmps.size=272→(∀ j d,k6_d[j]?=some (some d)→a'.tmps[d]?=some (yu7 c b ok j))→(∀ d,some d ∉ k6_d→a'.tmps[d]?=a0.tmps[d]?)→Q .normal a' w'):(Code.region 6 k6_R false).wp Tryz.prog Q a0 w:=by
 have hz:k6_R.size=7:=by kernel_rfl
 refine yaG (m:=272) hz (by kernel_rfl) yn4 (by kernel_rfl) ha ?_ hS hq
 refine us ?_ (yaO hz (by decide) (by kernel_rfl) fun _ _ s _=>yaA (x:=.tmp 88) (by kernel_rfl) (s.u 5 88 (by kernel_rfl)))
 refine us ?_ (yaO hz (by decide) (by kernel_rfl) fun _ _ s _=>yav (G:=true) (by kernel_rfl) (s.u 1 84 (by kernel_rfl)) (s.u 4 87 (by kernel_rfl)) rfl rfl)
 refine us ?_ (yfV true 1 84 true hz (by decide) (by kernel_rfl) rfl rfl (fun hG _ _ s=>ycG (ts:=#[3,3,3]) (x:=.tmp 86) (y:=.const (.int .i64 1)) (z:=.const (.int .i64 3)) (f:=31) ypw (by kernel_rfl) rfl (s.g 3 86 (by kernel_rfl) hG rfl) (rfl) (rfl)) q87)
 refine us ?_ (yaH true 1 84 true hz (by decide) (by kernel_rfl) rfl rfl fun hG _ W s hS=>yaf (x:=.tmp 85) (t:=3) (by kernel_rfl) (s.g 2 85 (by kernel_rfl) hG rfl) (ld3 W _ 5 _ (hcell W hS 5 _ rfl)))
 refine us ?_ (yaH true 1 84 true hz (by decide) (by kernel_rfl) rfl rfl fun _ _ W s _=>yad (x:=.tmp 1) (t:=31) (f:=5) (by kernel_rfl) (s.b 1 (by kernel_rfl) h1) (fa5 W _))
 refine us ?_ (yaO hz (by decide) (by kernel_rfl) fun _ _ s _=>yac (x:=.tmp 83) (by kernel_rfl) (s.u 0 83 (by kernel_rfl)))
 refine us ?_ (yaO hz (by decide) (by kernel_rfl) fun _ _ s _=>yac (x:=.tmp 4) (by kernel_rfl) (s.b 4 (by kernel_rfl) h4))
 exact fun j hj=>absurd hj (Nat.not_lt_zero j)
noncomputable def k7_R:Array Oper:=((Tryz.f13.body).bind (yas 7)).getD #[]
def yu8 (c:Cm) (b:Nat) (ok:Bool) (j:Nat):Value:=([.bool ok,.bool ok,gw (ok == true) (.pointer (some ⟨b,5,none⟩)),gw (ok == true) (.int .i64 c.ty),gw (ok == true) (.bool (decide (c.ty=0))),.bool (ok&&(decide (c.ty=0))),.bool (ok&&(decide (c.ty=0)))]:List Value).getD j undef
def k7_d:List (Option Tmp):=[some 89,some 90,some 91,some 92,some 93,some 94,some 4]
theorem yn5:k7_d.Nodup:=by unfold k7_d;decide
theorem yt5 {c:Cm} {a1 a2 a3 a4 a5:Option Addr} {c1 c2 c3 c4 c5:Nat} {b:Nat} {ok:Bool} {S:World→Prop} {a0:Act} {Q:Exit→Act→World→Prop} {w:World} (h1:a0.tmps[1]?=some (.pointer (some ⟨b,0,none⟩))) (h4:a0.tmps[4]?=some (.bool ok)) (hcell:∀ W,S W→∀ o x,(cmL c (.slice a1 c.cols.length c1) (.slice a2 c.vals.length c2) (.slice a3 c.fields.length c3) (.slice a4 c.expr.args.length c4) (.slice a5 c.wh.args.length c5))[o]?=some x→W.cell? ⟨b,o,none⟩=some x) (ha:a0.tmps.size=272) (hS:S w)
  (hq:∀ a' w',S w'→a'.defers=a0.defers→a'.tmps.size=272→(∀ j d,k7_d[j]?=some (some d)→a'.tmps[d]?=some (yu8 c b ok j))→(∀ d,some d ∉ k7_d→a'.tmps[d]?=a0.tmps[d]?)→Q .normal a' w'):(Code.region 7 k7_R false).wp Tryz.prog Q a0 w:=by
 have hz:k7_R.size=7:=by kernel_rfl
 refine yaG (m:=272) hz (by kernel_rfl) yn5 (by kernel_rfl) ha ?_ hS hq
 refine us ?_ (yaO hz (by decide) (by kernel_rfl) fun _ _ s _=>yaA (x:=.tmp 94) (by kernel_rfl) (s.u 5 94 (by kernel_rfl)))
 refine us ?_ (yaO hz (by decide) (by kernel_rfl) fun _ _ s _=>yav (G:=true) (by kernel_rfl) (s.u 1 90 (by kernel_rfl)) (s.u 4 93 (by kernel_rfl)) rfl rfl)
 refine us ?_ (yaH true 1 90 true hz (by decide) (by kernel_rfl) rfl rfl fun hG _ W s _=>yaq (u:=3) (x:=.tmp 92) (y:=.const (.int .i64 0)) (by kernel_rfl) (s.g 3 92 (by kernel_rfl) hG rfl) (rfl) (yee W _ _ _ _))
 refine us ?_ (yaH true 1 90 true hz (by decide) (by kernel_rfl) rfl rfl fun hG _ W s hS=>yaf (x:=.tmp 91) (t:=3) (by kernel_rfl) (s.g 2 91 (by kernel_rfl) hG rfl) (ld3 W _ 5 _ (hcell W hS 5 _ rfl)))
 refine us ?_ (yaH true 1 90 true hz (by decide) (by kernel_rfl) rfl rfl fun _ _ W s _=>yad (x:=.tmp 1) (t:=31) (f:=5) (by kernel_rfl) (s.b 1 (by kernel_rfl) h1) (fa5 W _))
 refine us ?_ (yaO hz (by decide) (by kernel_rfl) fun _ _ s _=>yac (x:=.tmp 89) (by kernel_rfl) (s.u 0 89 (by kernel_rfl)))
 refine us ?_ (yaO hz (by decide) (by kernel_rfl) fun _ _ s _=>yac (x:=.tmp 4) (by kernel_rfl) (s.b 4 (by kernel_rfl) h4))
 exact fun j hj=>absurd hj (Nat.not_lt_zero j)
noncomputable def k8_R:Array Oper:=((Tryz.f13.body).bind (yas 8)).getD #[]
def yu9 (c:Cm) (b:Nat) (ok:Bool) (j:Nat):Value:=([.bool ok,.bool ok,gw (ok == true) (.pointer (some ⟨b,6,none⟩)),gw (ok == true) (.agg #[.int .i64 c.val.k,.int .i64 c.val.n,.string ⟨c.val.s.toArray⟩]),gw (ok == true) (.int .i64 ((ybT c.val.k c.val.n c.val.s:Nat):Int)),gw (ok == true) (.bool (decide (((ybT c.val.k c.val.n c.val.s:Nat):Int)=0))),.bool (ok&&(decide (((ybT c.val.k c.val.n c.val.s:Nat):Int)=0))),.bool (ok&&(decide (((ybT c.val.k c.val.n c.val.s:Nat):Int)=0))),gw ((ok&&(decide (((ybT c.val.k c.val.n c.val.s:Nat):Int)=0))) == true) (.int .i64 c.kind),gw ((ok&&(decide (((ybT c.val.k c.val.n c.val.s:Nat):Int)=0))) == true) (.bool (decide (c.kind=3))),gw ((ok&&(decide (((ybT c.val.k c.val.n c.val.s:Nat):Int)=0))) == true) (.bool (decide (c.kind=3))),gw (((ok&&(decide (((ybT c.val.k c.val.n c.val.s:Nat):Int)=0))) == true)&&((decide (c.kind=3)) == false)) (.pointer (some ⟨b,6,none⟩)),gw (((ok&&(decide (((ybT c.val.k c.val.n c.val.s:Nat):Int)=0))) == true)&&((decide (c.kind=3)) == false)) (.agg #[.int .i64 c.val.k,.int .i64 c.val.n,.string ⟨c.val.s.toArray⟩]),gw (((ok&&(decide (((ybT c.val.k c.val.n c.val.s:Nat):Int)=0))) == true)&&((decide (c.kind=3)) == false)) (.agg #[.int .i64 0,.int .i64 0,.string ⟨#[]⟩]),gw (((ok&&(decide (((ybT c.val.k c.val.n c.val.s:Nat):Int)=0))) == true)&&((decide (c.kind=3)) == false)) (.bool (ybu c.val)),gw ((ok&&(decide (((ybT c.val.k c.val.n c.val.s:Nat):Int)=0))) == true) (.bool ((decide (c.kind=3)) || (ybu c.val))),.bool ((ok&&(decide (((ybT c.val.k c.val.n c.val.s:Nat):Int)=0)))&&((decide (c.kind=3)) || (ybu c.val))),.bool ((ok&&(decide (((ybT c.val.k c.val.n c.val.s:Nat):Int)=0)))&&((decide (c.kind=3)) || (ybu c.val)))]:List Value).getD j undef
def k8_d:List (Option Tmp):=[some 95,some 96,some 97,some 98,some 99,some 100,some 101,some 102,some 103,some 104,some 105,some 106,some 107,some 108,some 109,some 110,some 111,some 4]
theorem yn6:k8_d.Nodup:=by unfold k8_d;decide
theorem yt6 {c:Cm} {a1 a2 a3 a4 a5:Option Addr} {c1 c2 c3 c4 c5:Nat} {b:Nat} {ok:Bool} {S:World→Prop} {a0:Act} {Q:Exit→Act→World→Prop} {w:World} (h1:a0.tmps[1]?=some (.pointer (some ⟨b,0,none⟩))) (h3:a0.tmps[3]?=some (.int .i64 c.kind)) (h4:a0.tmps[4]?=some (.bool ok)) (hcell:∀ W,S W→∀ o x,(cmL c (.slice a1 c.cols.length c1) (.slice a2 c.vals.length c2) (.slice a3 c.fields.length c3) (.slice a4 c.expr.args.length c4) (.slice a5 c.wh.args.length c5))[o]?=some x→W.cell? ⟨b,o,none⟩=some x) (q99:∀ W,S W→Calls Tryz.prog 33 #[.agg #[.int .i64 c.val.k,.int .i64 c.val.n,.string ⟨c.val.s.toArray⟩]] W fun e w'=>e=.returned (.int .i64 ((ybT c.val.k c.val.n c.val.s:Nat):Int))∧S w') (q109:∀ W,S W→Calls Tryz.prog 25 #[.agg #[.int .i64 c.val.k,.int .i64 c.val.n,.string ⟨c.val.s.toArray⟩],.agg #[.int .i64 0,.int .i64 0,.string ⟨#[]⟩]] W fun e w'=>e=.returned (.bool (ybu c.val))∧S w') (ha:a0.tmps.size=272) (hS:S w)
  (hq:∀ a' w',S w'→a'.defers=a0.defers→a'.tmps.size=272→(∀ j d,k8_d[j]?=some (some d)→a'.tmps[d]?=some (yu9 c b ok j))→(∀ d,some d ∉ k8_d→a'.tmps[d]?=a0.tmps[d]?)→Q .normal a' w'):(Code.region 8 k8_R false).wp Tryz.prog Q a0 w:=by
 have hz:k8_R.size=18:=by kernel_rfl
 refine yaG (m:=272) hz (by kernel_rfl) yn6 (by kernel_rfl) ha ?_ hS hq
 refine us ?_ (yaO hz (by decide) (by kernel_rfl) fun _ _ s _=>yaA (x:=.tmp 111) (by kernel_rfl) (s.u 16 111 (by kernel_rfl)))
 refine us ?_ (yaO hz (by decide) (by kernel_rfl) fun _ _ s _=>yav (G:=true) (by kernel_rfl) (s.u 7 102 (by kernel_rfl)) (s.u 15 110 (by kernel_rfl)) rfl rfl)
 refine us ?_ (yaH true 7 102 true hz (by decide) (by kernel_rfl) rfl rfl fun hG _ _ s _=>yaS (by kernel_rfl) (s.g 10 105 (by kernel_rfl) hG rfl) (s.u 14 109 (by kernel_rfl)) rfl hG)
 refine us ?_ (yfV _ 10 105 false hz (by decide) (by kernel_rfl) rfl rfl (fun hG _ _ s=>ybp (ts:=#[24,24]) (x:=.tmp 107) (y:=.tmp 108) (f:=25) ytd (by kernel_rfl) rfl (s.g 12 107 (by kernel_rfl) hG rfl) (s.g 13 108 (by kernel_rfl) hG rfl)) q109)
 refine us ?_ (yaH _ 10 105 false hz (by decide) (by kernel_rfl) rfl rfl fun _ _ _ _ _=>ydU (by kernel_rfl))
 refine us ?_ (yaH _ 10 105 false hz (by decide) (by kernel_rfl) rfl rfl fun hG _ W s hS=>yaf (x:=.tmp 106) (t:=24) (by kernel_rfl) (s.g 11 106 (by kernel_rfl) hG rfl) (yoa W _ 6 _ _ _ (hcell W hS 6 _ rfl) (hcell W hS 7 _ rfl) (hcell W hS 8 _ rfl)))
 refine us ?_ (yaH _ 10 105 false hz (by decide) (by kernel_rfl) rfl rfl fun _ _ W s _=>yad (x:=.tmp 1) (t:=31) (f:=6) (by kernel_rfl) (s.b 1 (by kernel_rfl) h1) (fa6 W _))
 refine us ?_ (yaH true 7 102 true hz (by decide) (by kernel_rfl) rfl rfl fun hG _ _ s _=>yac (x:=.tmp 104) (by kernel_rfl) (s.g 9 104 (by kernel_rfl) hG rfl))
 refine us ?_ (yaH true 7 102 true hz (by decide) (by kernel_rfl) rfl rfl fun hG _ W s _=>yaq (u:=3) (x:=.tmp 103) (y:=.const (.int .i64 3)) (by kernel_rfl) (s.g 8 103 (by kernel_rfl) hG rfl) (rfl) (yee W _ _ _ _))
 refine us ?_ (yaH true 7 102 true hz (by decide) (by kernel_rfl) rfl rfl fun _ _ _ s _=>yac (x:=.tmp 3) (by kernel_rfl) (s.b 3 (by kernel_rfl) h3))
 refine us ?_ (yaO hz (by decide) (by kernel_rfl) fun _ _ s _=>yac (x:=.tmp 101) (by kernel_rfl) (s.u 6 101 (by kernel_rfl)))
 refine us ?_ (yaO hz (by decide) (by kernel_rfl) fun _ _ s _=>yav (G:=true) (by kernel_rfl) (s.u 1 96 (by kernel_rfl)) (s.u 5 100 (by kernel_rfl)) rfl rfl)
 refine us ?_ (yaH true 1 96 true hz (by decide) (by kernel_rfl) rfl rfl fun hG _ W s _=>yaq (u:=32) (x:=.tmp 99) (y:=.const (.int .i64 0)) (by kernel_rfl) (s.g 4 99 (by kernel_rfl) hG rfl) (rfl) (ypK W _ _ _ _))
 refine us ?_ (yfV true 1 96 true hz (by decide) (by kernel_rfl) rfl rfl (fun hG _ _ s=>yaP (ts:=#[24]) (x:=.tmp 98) (f:=33) yux (by kernel_rfl) rfl (s.g 3 98 (by kernel_rfl) hG rfl)) q99)
 refine us ?_ (yaH true 1 96 true hz (by decide) (by kernel_rfl) rfl rfl fun hG _ W s hS=>yaf (x:=.tmp 97) (t:=24) (by kernel_rfl) (s.g 2 97 (by kernel_rfl) hG rfl) (yoa W _ 6 _ _ _ (hcell W hS 6 _ rfl) (hcell W hS 7 _ rfl) (hcell W hS 8 _ rfl)))
 refine us ?_ (yaH true 1 96 true hz (by decide) (by kernel_rfl) rfl rfl fun _ _ W s _=>yad (x:=.tmp 1) (t:=31) (f:=6) (by kernel_rfl) (s.b 1 (by kernel_rfl) h1) (fa6 W _))
 refine us ?_ (yaO hz (by decide) (by kernel_rfl) fun _ _ s _=>yac (x:=.tmp 95) (by kernel_rfl) (s.u 0 95 (by kernel_rfl)))
 refine us ?_ (yaO hz (by decide) (by kernel_rfl) fun _ _ s _=>yac (x:=.tmp 4) (by kernel_rfl) (s.b 4 (by kernel_rfl) h4))
 exact fun j hj=>absurd hj (Nat.not_lt_zero j)
noncomputable def k9_R:Array Oper:=((Tryz.f13.body).bind (yas 9)).getD #[]
def yva (c:Cm) (a1 a2 a3:Option Addr) (c1 c2 c3:Nat) (b:Nat) (ok:Bool) (j:Nat):Value:=([.bool ok,.bool ok,gw (ok == true) (.int .i64 c.kind),gw (ok == true) (.bool (decide (c.kind=1))),gw (ok == true) (.pointer (some ⟨b,4,none⟩)),gw (ok == true) (.slice a1 c.cols.length c1),gw (ok == true) (.int .i64 ((c.cols.length:Nat):Int)),gw (ok == true) (.bool (decide (0 < ((c.cols.length:Nat):Int)))),gw (ok == true) (.bool ((decide (c.kind=1)) == (decide (0 < ((c.cols.length:Nat):Int))))),.bool (ok&&((decide (c.kind=1)) == (decide (0 < ((c.cols.length:Nat):Int))))),.bool (ok&&((decide (c.kind=1)) == (decide (0 < ((c.cols.length:Nat):Int))))),gw ((ok&&((decide (c.kind=1)) == (decide (0 < ((c.cols.length:Nat):Int))))) == true) (.int .i64 c.kind),gw ((ok&&((decide (c.kind=1)) == (decide (0 < ((c.cols.length:Nat):Int))))) == true) (.bool (decide (c.kind=10))),gw ((ok&&((decide (c.kind=1)) == (decide (0 < ((c.cols.length:Nat):Int))))) == true) (.pointer (some ⟨b,9,none⟩)),gw ((ok&&((decide (c.kind=1)) == (decide (0 < ((c.cols.length:Nat):Int))))) == true) (.slice a2 c.vals.length c2),gw ((ok&&((decide (c.kind=1)) == (decide (0 < ((c.cols.length:Nat):Int))))) == true) (.int .i64 ((c.vals.length:Nat):Int)),gw ((ok&&((decide (c.kind=1)) == (decide (0 < ((c.cols.length:Nat):Int))))) == true) (.bool (decide (0 < ((c.vals.length:Nat):Int)))),gw ((ok&&((decide (c.kind=1)) == (decide (0 < ((c.cols.length:Nat):Int))))) == true) (.bool ((decide (c.kind=10)) == (decide (0 < ((c.vals.length:Nat):Int))))),.bool ((ok&&((decide (c.kind=1)) == (decide (0 < ((c.cols.length:Nat):Int)))))&&((decide (c.kind=10)) == (decide (0 < ((c.vals.length:Nat):Int))))),.bool ((ok&&((decide (c.kind=1)) == (decide (0 < ((c.cols.length:Nat):Int)))))&&((decide (c.kind=10)) == (decide (0 < ((c.vals.length:Nat):Int))))),gw (((ok&&((decide (c.kind=1)) == (decide (0 < ((c.cols.length:Nat):Int)))))&&((decide (c.kind=10)) == (decide (0 < ((c.vals.length:Nat):Int))))) == true) (.int .i64 c.kind),gw (((ok&&((decide (c.kind=1)) == (decide (0 < ((c.cols.length:Nat):Int)))))&&((decide (c.kind=10)) == (decide (0 < ((c.vals.length:Nat):Int))))) == true) (.bool (decide (c.kind=13))),gw (((ok&&((decide (c.kind=1)) == (decide (0 < ((c.cols.length:Nat):Int)))))&&((decide (c.kind=10)) == (decide (0 < ((c.vals.length:Nat):Int))))) == true) (.bool (decide (c.kind=13))),gw ((((ok&&((decide (c.kind=1)) == (decide (0 < ((c.cols.length:Nat):Int)))))&&((decide (c.kind=10)) == (decide (0 < ((c.vals.length:Nat):Int))))) == true)&&((decide (c.kind=13)) == false)) (.pointer (some ⟨b,10,none⟩)),gw ((((ok&&((decide (c.kind=1)) == (decide (0 < ((c.cols.length:Nat):Int)))))&&((decide (c.kind=10)) == (decide (0 < ((c.vals.length:Nat):Int))))) == true)&&((decide (c.kind=13)) == false)) (.slice a3 c.fields.length c3),gw ((((ok&&((decide (c.kind=1)) == (decide (0 < ((c.cols.length:Nat):Int)))))&&((decide (c.kind=10)) == (decide (0 < ((c.vals.length:Nat):Int))))) == true)&&((decide (c.kind=13)) == false)) (.int .i64 ((c.fields.length:Nat):Int)),gw ((((ok&&((decide (c.kind=1)) == (decide (0 < ((c.cols.length:Nat):Int)))))&&((decide (c.kind=10)) == (decide (0 < ((c.vals.length:Nat):Int))))) == true)&&((decide (c.kind=13)) == false)) (.bool (decide (((c.fields.length:Nat):Int)=0))),gw ((((ok&&((decide (c.kind=1)) == (decide (0 < ((c.cols.length:Nat):Int)))))&&((decide (c.kind=10)) == (decide (0 < ((c.vals.length:Nat):Int))))) == true)&&((decide (c.kind=13)) == false)) (.bool (decide (((c.fields.length:Nat):Int)=0))),gw (((((ok&&((decide (c.kind=1)) == (decide (0 < ((c.cols.length:Nat):Int)))))&&((decide (c.kind=10)) == (decide (0 < ((c.vals.length:Nat):Int))))) == true)&&((decide (c.kind=13)) == false))&&((decide (((c.fields.length:Nat):Int)=0)) == true)) (.pointer (some ⟨b,24,none⟩)),gw (((((ok&&((decide (c.kind=1)) == (decide (0 < ((c.cols.length:Nat):Int)))))&&((decide (c.kind=10)) == (decide (0 < ((c.vals.length:Nat):Int))))) == true)&&((decide (c.kind=13)) == false))&&((decide (((c.fields.length:Nat):Int)=0)) == true)) (.string ⟨c.order.toArray⟩),gw (((((ok&&((decide (c.kind=1)) == (decide (0 < ((c.cols.length:Nat):Int)))))&&((decide (c.kind=10)) == (decide (0 < ((c.vals.length:Nat):Int))))) == true)&&((decide (c.kind=13)) == false))&&((decide (((c.fields.length:Nat):Int)=0)) == true)) (.bool (decide (c.order=[]))),gw ((((ok&&((decide (c.kind=1)) == (decide (0 < ((c.cols.length:Nat):Int)))))&&((decide (c.kind=10)) == (decide (0 < ((c.vals.length:Nat):Int))))) == true)&&((decide (c.kind=13)) == false)) (.bool ((decide (((c.fields.length:Nat):Int)=0))&&(decide (c.order=[])))),gw ((((ok&&((decide (c.kind=1)) == (decide (0 < ((c.cols.length:Nat):Int)))))&&((decide (c.kind=10)) == (decide (0 < ((c.vals.length:Nat):Int))))) == true)&&((decide (c.kind=13)) == false)) (.bool ((decide (((c.fields.length:Nat):Int)=0))&&(decide (c.order=[])))),gw (((((ok&&((decide (c.kind=1)) == (decide (0 < ((c.cols.length:Nat):Int)))))&&((decide (c.kind=10)) == (decide (0 < ((c.vals.length:Nat):Int))))) == true)&&((decide (c.kind=13)) == false))&&(((decide (((c.fields.length:Nat):Int)=0))&&(decide (c.order=[]))) == true)) (.pointer (some ⟨b,25,none⟩)),gw (((((ok&&((decide (c.kind=1)) == (decide (0 < ((c.cols.length:Nat):Int)))))&&((decide (c.kind=10)) == (decide (0 < ((c.vals.length:Nat):Int))))) == true)&&((decide (c.kind=13)) == false))&&(((decide (((c.fields.length:Nat):Int)=0))&&(decide (c.order=[]))) == true)) (.int .i64 c.limit),gw (((((ok&&((decide (c.kind=1)) == (decide (0 < ((c.cols.length:Nat):Int)))))&&((decide (c.kind=10)) == (decide (0 < ((c.vals.length:Nat):Int))))) == true)&&((decide (c.kind=13)) == false))&&(((decide (((c.fields.length:Nat):Int)=0))&&(decide (c.order=[]))) == true)) (.bool (decide (c.limit=0))),gw ((((ok&&((decide (c.kind=1)) == (decide (0 < ((c.cols.length:Nat):Int)))))&&((decide (c.kind=10)) == (decide (0 < ((c.vals.length:Nat):Int))))) == true)&&((decide (c.kind=13)) == false)) (.bool (((decide (((c.fields.length:Nat):Int)=0))&&(decide (c.order=[])))&&(decide (c.limit=0)))),gw (((ok&&((decide (c.kind=1)) == (decide (0 < ((c.cols.length:Nat):Int)))))&&((decide (c.kind=10)) == (decide (0 < ((c.vals.length:Nat):Int))))) == true) (.bool ((decide (c.kind=13)) || (((decide (((c.fields.length:Nat):Int)=0))&&(decide (c.order=[])))&&(decide (c.limit=0))))),.bool (((ok&&((decide (c.kind=1)) == (decide (0 < ((c.cols.length:Nat):Int)))))&&((decide (c.kind=10)) == (decide (0 < ((c.vals.length:Nat):Int)))))&&((decide (c.kind=13)) || (((decide (((c.fields.length:Nat):Int)=0))&&(decide (c.order=[])))&&(decide (c.limit=0))))),.bool (((ok&&((decide (c.kind=1)) == (decide (0 < ((c.cols.length:Nat):Int)))))&&((decide (c.kind=10)) == (decide (0 < ((c.vals.length:Nat):Int)))))&&((decide (c.kind=13)) || (((decide (((c.fields.length:Nat):Int)=0))&&(decide (c.order=[])))&&(decide (c.limit=0)))))]:List Value).getD j undef
def k9_d:List (Option Tmp):=[some 112,some 113,some 114,some 115,some 116,some 117,some 118,some 119,some 120,some 121,some 122,some 123,some 124,some 125,some 126,some 127,some 128,some 129,some 130,some 131,some 132,some 133,some 134,some 135,some 136,some 137,some 138,some 139,some 140,some 141,some 142,some 143,some 144,some 145,some 146,some 147,some 148,some 149,some 150,some 4]
theorem yn7:k9_d.Nodup:=by unfold k9_d;decide
theorem yt7 {c:Cm} {a1 a2 a3 a4 a5:Option Addr} {c1 c2 c3 c4 c5:Nat} {b:Nat} {ok:Bool} {S:World→Prop} {a0:Act} {Q:Exit→Act→World→Prop} {w:World} (h1:a0.tmps[1]?=some (.pointer (some ⟨b,0,none⟩))) (h3:a0.tmps[3]?=some (.int .i64 c.kind)) (h4:a0.tmps[4]?=some (.bool ok)) (hcell:∀ W,S W→∀ o x,(cmL c (.slice a1 c.cols.length c1) (.slice a2 c.vals.length c2) (.slice a3 c.fields.length c3) (.slice a4 c.expr.args.length c4) (.slice a5 c.wh.args.length c5))[o]?=some x→W.cell? ⟨b,o,none⟩=some x) (ha:a0.tmps.size=272) (hS:S w)
  (hq:∀ a' w',S w'→a'.defers=a0.defers→a'.tmps.size=272→(∀ j d,k9_d[j]?=some (some d)→a'.tmps[d]?=some (yva c a1 a2 a3 c1 c2 c3 b ok j))→(∀ d,some d ∉ k9_d→a'.tmps[d]?=a0.tmps[d]?)→Q .normal a' w'):(Code.region 9 k9_R false).wp Tryz.prog Q a0 w:=by
 have hz:k9_R.size=40:=by kernel_rfl
 refine yaG (m:=272) hz (by kernel_rfl) yn7 (by kernel_rfl) ha ?_ hS hq
 refine us ?_ (yaO hz (by decide) (by kernel_rfl) fun _ _ s _=>yaA (x:=.tmp 150) (by kernel_rfl) (s.u 38 150 (by kernel_rfl)))
 refine us ?_ (yaO hz (by decide) (by kernel_rfl) fun _ _ s _=>yav (G:=true) (by kernel_rfl) (s.u 19 131 (by kernel_rfl)) (s.u 37 149 (by kernel_rfl)) rfl rfl)
 refine us ?_ (yaH true 19 131 true hz (by decide) (by kernel_rfl) rfl rfl fun hG _ _ s _=>yaS (by kernel_rfl) (s.g 22 134 (by kernel_rfl) hG rfl) (s.u 36 148 (by kernel_rfl)) rfl hG)
 refine us ?_ (yaH _ 22 134 false hz (by decide) (by kernel_rfl) rfl rfl fun hG _ _ s _=>yav (by kernel_rfl) (s.g 32 144 (by kernel_rfl) hG rfl) (s.u 35 147 (by kernel_rfl)) rfl hG)
 refine us ?_ (yaH _ 32 144 true hz (by decide) (by kernel_rfl) rfl rfl fun hG _ W s _=>yaq (u:=3) (x:=.tmp 146) (y:=.const (.int .i64 0)) (by kernel_rfl) (s.g 34 146 (by kernel_rfl) hG rfl) (rfl) (yee W _ _ _ _))
 refine us ?_ (yaH _ 32 144 true hz (by decide) (by kernel_rfl) rfl rfl fun hG _ W s hS=>yaf (x:=.tmp 145) (t:=3) (by kernel_rfl) (s.g 33 145 (by kernel_rfl) hG rfl) (ld3 W _ 25 _ (hcell W hS 25 _ rfl)))
 refine us ?_ (yaH _ 32 144 true hz (by decide) (by kernel_rfl) rfl rfl fun _ _ W s _=>yad (x:=.tmp 1) (t:=31) (f:=13) (by kernel_rfl) (s.b 1 (by kernel_rfl) h1) (ypO W _))
 refine us ?_ (yaH _ 22 134 false hz (by decide) (by kernel_rfl) rfl rfl fun hG _ _ s _=>yac (x:=.tmp 143) (by kernel_rfl) (s.g 31 143 (by kernel_rfl) hG rfl))
 refine us ?_ (yaH _ 22 134 false hz (by decide) (by kernel_rfl) rfl rfl fun hG _ _ s _=>yav (by kernel_rfl) (s.g 27 139 (by kernel_rfl) hG rfl) (s.u 30 142 (by kernel_rfl)) rfl hG)
 refine us ?_ (yaH _ 27 139 true hz (by decide) (by kernel_rfl) rfl rfl fun hG _ W s _=>yaq (u:=9) (x:=.tmp 141) (y:=.const (.string ⟨#[]⟩)) (by kernel_rfl) (s.g 29 141 (by kernel_rfl) hG rfl) (rfl) (eq9 W _ _ _))
 refine us ?_ (yaH _ 27 139 true hz (by decide) (by kernel_rfl) rfl rfl fun hG _ W s hS=>yaf (x:=.tmp 140) (t:=9) (by kernel_rfl) (s.g 28 140 (by kernel_rfl) hG rfl) (ld9 W _ 24 _ (hcell W hS 24 _ rfl)))
 refine us ?_ (yaH _ 27 139 true hz (by decide) (by kernel_rfl) rfl rfl fun _ _ W s _=>yad (x:=.tmp 1) (t:=31) (f:=12) (by kernel_rfl) (s.b 1 (by kernel_rfl) h1) (ypa W _))
 refine us ?_ (yaH _ 22 134 false hz (by decide) (by kernel_rfl) rfl rfl fun hG _ _ s _=>yac (x:=.tmp 138) (by kernel_rfl) (s.g 26 138 (by kernel_rfl) hG rfl))
 refine us ?_ (yaH _ 22 134 false hz (by decide) (by kernel_rfl) rfl rfl fun hG _ W s _=>yaq (u:=3) (x:=.tmp 137) (y:=.const (.int .i64 0)) (by kernel_rfl) (s.g 25 137 (by kernel_rfl) hG rfl) (rfl) (yee W _ _ _ _))
 refine us ?_ (yaH _ 22 134 false hz (by decide) (by kernel_rfl) rfl rfl fun hG _ W s _=>ycz (ts:=#[26]) (x:=.tmp 136) (by kernel_rfl) (fun ty=>yoe W a3 c.fields.length c3 ty) (s.g 24 136 (by kernel_rfl) hG rfl))
 refine us ?_ (yaH _ 22 134 false hz (by decide) (by kernel_rfl) rfl rfl fun hG _ W s hS=>yaf (x:=.tmp 135) (t:=26) (by kernel_rfl) (s.g 23 135 (by kernel_rfl) hG rfl) (yrb W _ 10 _ (hcell W hS 10 _ rfl)))
 refine us ?_ (yaH _ 22 134 false hz (by decide) (by kernel_rfl) rfl rfl fun _ _ W s _=>yad (x:=.tmp 1) (t:=31) (f:=8) (by kernel_rfl) (s.b 1 (by kernel_rfl) h1) (fa8 W _))
 refine us ?_ (yaH true 19 131 true hz (by decide) (by kernel_rfl) rfl rfl fun hG _ _ s _=>yac (x:=.tmp 133) (by kernel_rfl) (s.g 21 133 (by kernel_rfl) hG rfl))
 refine us ?_ (yaH true 19 131 true hz (by decide) (by kernel_rfl) rfl rfl fun hG _ W s _=>yaq (u:=3) (x:=.tmp 132) (y:=.const (.int .i64 13)) (by kernel_rfl) (s.g 20 132 (by kernel_rfl) hG rfl) (rfl) (yee W _ _ _ _))
 refine us ?_ (yaH true 19 131 true hz (by decide) (by kernel_rfl) rfl rfl fun _ _ _ s _=>yac (x:=.tmp 3) (by kernel_rfl) (s.b 3 (by kernel_rfl) h3))
 refine us ?_ (yaO hz (by decide) (by kernel_rfl) fun _ _ s _=>yac (x:=.tmp 130) (by kernel_rfl) (s.u 18 130 (by kernel_rfl)))
 refine us ?_ (yaO hz (by decide) (by kernel_rfl) fun _ _ s _=>yav (G:=true) (by kernel_rfl) (s.u 10 122 (by kernel_rfl)) (s.u 17 129 (by kernel_rfl)) rfl rfl)
 refine us ?_ (yaH true 10 122 true hz (by decide) (by kernel_rfl) rfl rfl fun hG _ W s _=>yaq (u:=4) (x:=.tmp 124) (y:=.tmp 128) (by kernel_rfl) (s.g 12 124 (by kernel_rfl) hG rfl) (s.g 16 128 (by kernel_rfl) hG rfl) (ytz W _ _ _ _))
 refine us ?_ (yaH true 10 122 true hz (by decide) (by kernel_rfl) rfl rfl fun hG _ W s _=>yaq (u:=3) (x:=.tmp 127) (y:=.const (.int .i64 0)) (by kernel_rfl) (s.g 15 127 (by kernel_rfl) hG rfl) (rfl) (yhu W _ _ _ _))
 refine us ?_ (yaH true 10 122 true hz (by decide) (by kernel_rfl) rfl rfl fun hG _ W s _=>ycz (ts:=#[25]) (x:=.tmp 126) (by kernel_rfl) (fun ty=>yod W a2 c.vals.length c2 ty) (s.g 14 126 (by kernel_rfl) hG rfl))
 refine us ?_ (yaH true 10 122 true hz (by decide) (by kernel_rfl) rfl rfl fun hG _ W s hS=>yaf (x:=.tmp 125) (t:=25) (by kernel_rfl) (s.g 13 125 (by kernel_rfl) hG rfl) (yra W _ 9 _ (hcell W hS 9 _ rfl)))
 refine us ?_ (yaH true 10 122 true hz (by decide) (by kernel_rfl) rfl rfl fun _ _ W s _=>yad (x:=.tmp 1) (t:=31) (f:=7) (by kernel_rfl) (s.b 1 (by kernel_rfl) h1) (fa7 W _))
 refine us ?_ (yaH true 10 122 true hz (by decide) (by kernel_rfl) rfl rfl fun hG _ W s _=>yaq (u:=3) (x:=.tmp 123) (y:=.const (.int .i64 10)) (by kernel_rfl) (s.g 11 123 (by kernel_rfl) hG rfl) (rfl) (yee W _ _ _ _))
 refine us ?_ (yaH true 10 122 true hz (by decide) (by kernel_rfl) rfl rfl fun _ _ _ s _=>yac (x:=.tmp 3) (by kernel_rfl) (s.b 3 (by kernel_rfl) h3))
 refine us ?_ (yaO hz (by decide) (by kernel_rfl) fun _ _ s _=>yac (x:=.tmp 121) (by kernel_rfl) (s.u 9 121 (by kernel_rfl)))
 refine us ?_ (yaO hz (by decide) (by kernel_rfl) fun _ _ s _=>yav (G:=true) (by kernel_rfl) (s.u 1 113 (by kernel_rfl)) (s.u 8 120 (by kernel_rfl)) rfl rfl)
 refine us ?_ (yaH true 1 113 true hz (by decide) (by kernel_rfl) rfl rfl fun hG _ W s _=>yaq (u:=4) (x:=.tmp 115) (y:=.tmp 119) (by kernel_rfl) (s.g 3 115 (by kernel_rfl) hG rfl) (s.g 7 119 (by kernel_rfl) hG rfl) (ytz W _ _ _ _))
 refine us ?_ (yaH true 1 113 true hz (by decide) (by kernel_rfl) rfl rfl fun hG _ W s _=>yaq (u:=3) (x:=.tmp 118) (y:=.const (.int .i64 0)) (by kernel_rfl) (s.g 6 118 (by kernel_rfl) hG rfl) (rfl) (yhu W _ _ _ _))
 refine us ?_ (yaH true 1 113 true hz (by decide) (by kernel_rfl) rfl rfl fun hG _ W s _=>ycz (ts:=#[22]) (x:=.tmp 117) (by kernel_rfl) (fun ty=>yoc W a1 c.cols.length c1 ty) (s.g 5 117 (by kernel_rfl) hG rfl))
 refine us ?_ (yaH true 1 113 true hz (by decide) (by kernel_rfl) rfl rfl fun hG _ W s hS=>yaf (x:=.tmp 116) (t:=22) (by kernel_rfl) (s.g 4 116 (by kernel_rfl) hG rfl) (yqt W _ 4 _ (hcell W hS 4 _ rfl)))
 refine us ?_ (yaH true 1 113 true hz (by decide) (by kernel_rfl) rfl rfl fun _ _ W s _=>yad (x:=.tmp 1) (t:=31) (f:=4) (by kernel_rfl) (s.b 1 (by kernel_rfl) h1) (fa4 W _))
 refine us ?_ (yaH true 1 113 true hz (by decide) (by kernel_rfl) rfl rfl fun hG _ W s _=>yaq (u:=3) (x:=.tmp 114) (y:=.const (.int .i64 1)) (by kernel_rfl) (s.g 2 114 (by kernel_rfl) hG rfl) (rfl) (yee W _ _ _ _))
 refine us ?_ (yaH true 1 113 true hz (by decide) (by kernel_rfl) rfl rfl fun _ _ _ s _=>yac (x:=.tmp 3) (by kernel_rfl) (s.b 3 (by kernel_rfl) h3))
 refine us ?_ (yaO hz (by decide) (by kernel_rfl) fun _ _ s _=>yac (x:=.tmp 112) (by kernel_rfl) (s.u 0 112 (by kernel_rfl)))
 refine us ?_ (yaO hz (by decide) (by kernel_rfl) fun _ _ s _=>yac (x:=.tmp 4) (by kernel_rfl) (s.b 4 (by kernel_rfl) h4))
 exact fun j hj=>absurd hj (Nat.not_lt_zero j)
noncomputable def k11_R:Array Oper:=((Tryz.f13.body).bind (yas 11)).getD #[]
def ytE (c:Cm) (a1:Option Addr) (c1:Nat) (b:Nat) (i:Nat) (j:Nat):Value:=([.int .i64 (i:Int),.pointer (some ⟨b,4,none⟩),.slice a1 c.cols.length c1,.int .i64 ((c.cols.length:Nat):Int),.bool (decide ((i:Int) < ((c.cols.length:Nat):Int)))]:List Value).getD j undef
def k11_d:List (Option Tmp):=[some 151,some 152,some 153,some 154,some 155]
theorem ylp:k11_d.Nodup:=by unfold k11_d;decide
theorem yr1 {c:Cm} {a1 a2 a3 a4 a5:Option Addr} {c1 c2 c3 c4 c5:Nat} {b:Nat} {i:Nat} {S:World→Prop} {a0:Act} {Q:Exit→Act→World→Prop} {w:World} (h1:a0.tmps[1]?=some (.pointer (some ⟨b,0,none⟩))) (h5:a0.tmps[5]?=some (.int .i64 (i:Int))) (hcell:∀ W,S W→∀ o x,(cmL c (.slice a1 c.cols.length c1) (.slice a2 c.vals.length c2) (.slice a3 c.fields.length c3) (.slice a4 c.expr.args.length c4) (.slice a5 c.wh.args.length c5))[o]?=some x→W.cell? ⟨b,o,none⟩=some x) (ha:a0.tmps.size=272) (hS:S w)
  (hq:∀ a' w',S w'→a'.defers=a0.defers→a'.tmps.size=272→(∀ j d,k11_d[j]?=some (some d)→a'.tmps[d]?=some (ytE c a1 c1 b i j))→(∀ d,some d ∉ k11_d→a'.tmps[d]?=a0.tmps[d]?)→Q .normal a' w'):(Code.region 11 k11_R false).wp Tryz.prog Q a0 w:=by
 have hz:k11_R.size=5:=by kernel_rfl
 refine yaG (m:=272) hz (by kernel_rfl) ylp (by kernel_rfl) ha ?_ hS hq
 refine us ?_ (yaO hz (by decide) (by kernel_rfl) fun _ W s _=>yaq (u:=3) (x:=.tmp 151) (y:=.tmp 154) (by kernel_rfl) (s.u 0 151 (by kernel_rfl)) (s.u 3 154 (by kernel_rfl)) (yqx W _ _ _ _))
 refine us ?_ (yaO hz (by decide) (by kernel_rfl) fun _ W s _=>ycz (ts:=#[22]) (x:=.tmp 153) (by kernel_rfl) (fun ty=>yoc W a1 c.cols.length c1 ty) (s.u 2 153 (by kernel_rfl)))
 refine us ?_ (yaO hz (by decide) (by kernel_rfl) fun _ W s hS=>yaf (x:=.tmp 152) (t:=22) (by kernel_rfl) (s.u 1 152 (by kernel_rfl)) (yqt W _ 4 _ (hcell W hS 4 _ rfl)))
 refine us ?_ (yaO hz (by decide) (by kernel_rfl) fun _ W s _=>yad (x:=.tmp 1) (t:=31) (f:=4) (by kernel_rfl) (s.b 1 (by kernel_rfl) h1) (fa4 W _))
 refine us ?_ (yaO hz (by decide) (by kernel_rfl) fun _ _ s _=>yac (x:=.tmp 5) (by kernel_rfl) (s.b 5 (by kernel_rfl) h5))
 exact fun j hj=>absurd hj (Nat.not_lt_zero j)
noncomputable def k13_R:Array Oper:=((Tryz.f13.body).bind (yas 13)).getD #[]
def ytG (c:Cm) (c1:Nat) (b g o i:Nat) (ok:Bool) (x:Cl) (j:Nat):Value:=([.bool ok,.bool ok,gw (ok == true) (.pointer (some ⟨b,4,none⟩)),gw (ok == true) (.slice (some ⟨g,o,none⟩) c.cols.length c1),gw (ok == true) (.int .i64 (i:Int)),gw (ok == true) (.pointer (some ⟨g,o+i*2,none⟩)),gw (ok == true) (.pointer (some ⟨g,o+i*2,none⟩)),gw (ok == true) (.string ⟨x.name.toArray⟩),gw (ok == true) (.bool (yan x.name)),.bool (ok&&(yan x.name)),.bool (ok&&(yan x.name)),gw ((ok&&(yan x.name)) == true) (.pointer (some ⟨b,4,none⟩)),gw ((ok&&(yan x.name)) == true) (.slice (some ⟨g,o,none⟩) c.cols.length c1),gw ((ok&&(yan x.name)) == true) (.int .i64 (i:Int)),gw ((ok&&(yan x.name)) == true) (.pointer (some ⟨g,o+i*2,none⟩)),gw ((ok&&(yan x.name)) == true) (.pointer (some ⟨g,o+i*2+1,none⟩)),gw ((ok&&(yan x.name)) == true) (.int .i64 x.ty),gw ((ok&&(yan x.name)) == true) (.bool (yaW x.ty 1 3)),.bool ((ok&&(yan x.name))&&(yaW x.ty 1 3)),.bool ((ok&&(yan x.name))&&(yaW x.ty 1 3))]:List Value).getD j undef
def k13_d:List (Option Tmp):=[some 158,some 159,some 160,some 161,some 162,some 163,some 164,some 165,some 166,some 167,some 168,some 169,some 170,some 171,some 172,some 173,some 174,some 175,some 176,some 4]
theorem ylr:k13_d.Nodup:=by unfold k13_d;decide
theorem yr3 {c:Cm} {a2 a3 a4 a5:Option Addr} {c1 c2 c3 c4 c5:Nat} {b g o i:Nat} {ok:Bool} {x:Cl} {S:World→Prop} {a0:Act} {Q:Exit→Act→World→Prop} {w:World} (h1:a0.tmps[1]?=some (.pointer (some ⟨b,0,none⟩))) (h4:a0.tmps[4]?=some (.bool ok)) (h5:a0.tmps[5]?=some (.int .i64 (i:Int))) (hcell:∀ W,S W→∀ p y,(cmL c (.slice (some ⟨g,o,none⟩) c.cols.length c1) (.slice a2 c.vals.length c2) (.slice a3 c.fields.length c3) (.slice a4 c.expr.args.length c4) (.slice a5 c.wh.args.length c5))[p]?=some y→W.cell? ⟨b,p,none⟩=some y) (hix:i < c.cols.length) (e0:∀ W,S W→W.cell? ⟨g,o+i*2,none⟩=some (.string ⟨x.name.toArray⟩)) (e1:∀ W,S W→W.cell? ⟨g,o+i*2+1,none⟩=some (.int .i64 x.ty)) (q166:∀ W,S W→Calls Tryz.prog 34 #[.string ⟨x.name.toArray⟩] W fun e w'=>e=.returned (.bool (yan x.name))∧S w') (q175:∀ W,S W→Calls Tryz.prog 31 #[.int .i64 x.ty,.int .i64 1,.int .i64 3] W fun e w'=>e=.returned (.bool (yaW x.ty 1 3))∧S w') (ha:a0.tmps.size=272) (hS:S w)
  (hq:∀ a' w',S w'→a'.defers=a0.defers→a'.tmps.size=272→(∀ j d,k13_d[j]?=some (some d)→a'.tmps[d]?=some (ytG c c1 b g o i ok x j))→(∀ d,some d ∉ k13_d→a'.tmps[d]?=a0.tmps[d]?)→Q .normal a' w'):(Code.region 13 k13_R false).wp Tryz.prog Q a0 w:=by
 have hz:k13_R.size=20:=by kernel_rfl
 refine yaG (m:=272) hz (by kernel_rfl) ylr (by kernel_rfl) ha ?_ hS hq
 refine us ?_ (yaO hz (by decide) (by kernel_rfl) fun _ _ s _=>yaA (x:=.tmp 176) (by kernel_rfl) (s.u 18 176 (by kernel_rfl)))
 refine us ?_ (yaO hz (by decide) (by kernel_rfl) fun _ _ s _=>yav (G:=true) (by kernel_rfl) (s.u 10 168 (by kernel_rfl)) (s.u 17 175 (by kernel_rfl)) rfl rfl)
 refine us ?_ (yfV true 10 168 true hz (by decide) (by kernel_rfl) rfl rfl (fun hG _ _ s=>ycG (ts:=#[3,3,3]) (x:=.tmp 174) (y:=.const (.int .i64 1)) (z:=.const (.int .i64 3)) (f:=31) ypw (by kernel_rfl) rfl (s.g 16 174 (by kernel_rfl) hG rfl) (rfl) (rfl)) q175)
 refine us ?_ (yaH true 10 168 true hz (by decide) (by kernel_rfl) rfl rfl fun hG _ W s hS=>yaf (x:=.tmp 173) (t:=3) (by kernel_rfl) (s.g 15 173 (by kernel_rfl) hG rfl) (ld3 W _ (o+i*2+1) _ (e1 W hS)))
 refine us ?_ (yaH true 10 168 true hz (by decide) (by kernel_rfl) rfl rfl fun hG _ W s _=>yad (x:=.tmp 172) (t:=56) (f:=1) (by kernel_rfl) (s.g 14 172 (by kernel_rfl) hG rfl) (fc1 W _ _))
 refine us ?_ (yaH true 10 168 true hz (by decide) (by kernel_rfl) rfl rfl fun hG _ W s _=>ycm (t:=22) (x:=.tmp 170) (y:=.tmp 171) (by kernel_rfl) (s.g 12 170 (by kernel_rfl) hG rfl) (s.g 13 171 (by kernel_rfl) hG rfl) (yuD W _ _ _ _ _ hix))
 refine us ?_ (yaH true 10 168 true hz (by decide) (by kernel_rfl) rfl rfl fun _ _ _ s _=>yac (x:=.tmp 5) (by kernel_rfl) (s.b 5 (by kernel_rfl) h5))
 refine us ?_ (yaH true 10 168 true hz (by decide) (by kernel_rfl) rfl rfl fun hG _ W s hS=>yaf (x:=.tmp 169) (t:=22) (by kernel_rfl) (s.g 11 169 (by kernel_rfl) hG rfl) (yqt W _ 4 _ (hcell W hS 4 _ rfl)))
 refine us ?_ (yaH true 10 168 true hz (by decide) (by kernel_rfl) rfl rfl fun _ _ W s _=>yad (x:=.tmp 1) (t:=31) (f:=4) (by kernel_rfl) (s.b 1 (by kernel_rfl) h1) (fa4 W _))
 refine us ?_ (yaO hz (by decide) (by kernel_rfl) fun _ _ s _=>yac (x:=.tmp 167) (by kernel_rfl) (s.u 9 167 (by kernel_rfl)))
 refine us ?_ (yaO hz (by decide) (by kernel_rfl) fun _ _ s _=>yav (G:=true) (by kernel_rfl) (s.u 1 159 (by kernel_rfl)) (s.u 8 166 (by kernel_rfl)) rfl rfl)
 refine us ?_ (yfV true 1 159 true hz (by decide) (by kernel_rfl) rfl rfl (fun hG _ _ s=>yaP (ts:=#[9]) (x:=.tmp 165) (f:=34) ytf (by kernel_rfl) rfl (s.g 7 165 (by kernel_rfl) hG rfl)) q166)
 refine us ?_ (yaH true 1 159 true hz (by decide) (by kernel_rfl) rfl rfl fun hG _ W s hS=>yaf (x:=.tmp 164) (t:=9) (by kernel_rfl) (s.g 6 164 (by kernel_rfl) hG rfl) (ld9 W _ (o+i*2) _ (e0 W hS)))
 refine us ?_ (yaH true 1 159 true hz (by decide) (by kernel_rfl) rfl rfl fun hG _ W s _=>yad (x:=.tmp 163) (t:=56) (f:=0) (by kernel_rfl) (s.g 5 163 (by kernel_rfl) hG rfl) (fc0 W _ _))
 refine us ?_ (yaH true 1 159 true hz (by decide) (by kernel_rfl) rfl rfl fun hG _ W s _=>ycm (t:=22) (x:=.tmp 161) (y:=.tmp 162) (by kernel_rfl) (s.g 3 161 (by kernel_rfl) hG rfl) (s.g 4 162 (by kernel_rfl) hG rfl) (yuD W _ _ _ _ _ hix))
 refine us ?_ (yaH true 1 159 true hz (by decide) (by kernel_rfl) rfl rfl fun _ _ _ s _=>yac (x:=.tmp 5) (by kernel_rfl) (s.b 5 (by kernel_rfl) h5))
 refine us ?_ (yaH true 1 159 true hz (by decide) (by kernel_rfl) rfl rfl fun hG _ W s hS=>yaf (x:=.tmp 160) (t:=22) (by kernel_rfl) (s.g 2 160 (by kernel_rfl) hG rfl) (yqt W _ 4 _ (hcell W hS 4 _ rfl)))
 refine us ?_ (yaH true 1 159 true hz (by decide) (by kernel_rfl) rfl rfl fun _ _ W s _=>yad (x:=.tmp 1) (t:=31) (f:=4) (by kernel_rfl) (s.b 1 (by kernel_rfl) h1) (fa4 W _))
 refine us ?_ (yaO hz (by decide) (by kernel_rfl) fun _ _ s _=>yac (x:=.tmp 158) (by kernel_rfl) (s.u 0 158 (by kernel_rfl)))
 refine us ?_ (yaO hz (by decide) (by kernel_rfl) fun _ _ s _=>yac (x:=.tmp 4) (by kernel_rfl) (s.b 4 (by kernel_rfl) h4))
 exact fun j hj=>absurd hj (Nat.not_lt_zero j)
noncomputable def k12_R:Array Oper:=((Tryz.f13.body).bind (yas 12)).getD #[]
def ytF (i:Nat) (j:Nat):Value:=([.int .i64 (i:Int),.int .i64 ((i+1:Nat):Int),.int .i64 ((i+1:Nat):Int)]:List Value).getD j undef
def k12_d:List (Option Tmp):=[some 156,some 157,some 5]
theorem ylq:k12_d.Nodup:=by unfold k12_d;decide
theorem yr2 {i:Nat} {S:World→Prop} {a0:Act} {Q:Exit→Act→World→Prop} {w:World} (h5:a0.tmps[5]?=some (.int .i64 (i:Int))) (hadd:i < 1000000000000001) (ha:a0.tmps.size=272) (hS:S w)
  (hq:∀ a' w',S w'→a'.defers=a0.defers→a'.tmps.size=272→(∀ j d,k12_d[j]?=some (some d)→a'.tmps[d]?=some (ytF i j))→(∀ d,some d ∉ k12_d→a'.tmps[d]?=a0.tmps[d]?)→Q .normal a' w'):(Code.region 12 k12_R false).wp Tryz.prog Q a0 w:=by
 have hz:k12_R.size=3:=by kernel_rfl
 refine yaG (m:=272) hz (by kernel_rfl) ylq (by kernel_rfl) ha ?_ hS hq
 refine us ?_ (yaO hz (by decide) (by kernel_rfl) fun _ _ s _=>yaA (x:=.tmp 157) (by kernel_rfl) (s.u 1 157 (by kernel_rfl)))
 refine us ?_ (yaO hz (by decide) (by kernel_rfl) fun _ W s _=>yaq (u:=3) (x:=.tmp 156) (y:=.const (.int .i64 1)) (by kernel_rfl) (s.u 0 156 (by kernel_rfl)) (rfl) (ypj W _ _ _ hadd))
 refine us ?_ (yaO hz (by decide) (by kernel_rfl) fun _ _ s _=>yac (x:=.tmp 5) (by kernel_rfl) (s.b 5 (by kernel_rfl) h5))
 exact fun j hj=>absurd hj (Nat.not_lt_zero j)
noncomputable def k15_R:Array Oper:=((Tryz.f13.body).bind (yas 15)).getD #[]
def ytI (c:Cm) (a2:Option Addr) (c2:Nat) (b:Nat) (i:Nat) (j:Nat):Value:=([.int .i64 (i:Int),.pointer (some ⟨b,9,none⟩),.slice a2 c.vals.length c2,.int .i64 ((c.vals.length:Nat):Int),.bool (decide ((i:Int) < ((c.vals.length:Nat):Int)))]:List Value).getD j undef
def k15_d:List (Option Tmp):=[some 177,some 178,some 179,some 180,some 181]
theorem ylt:k15_d.Nodup:=by unfold k15_d;decide
theorem yr5 {c:Cm} {a1 a2 a3 a4 a5:Option Addr} {c1 c2 c3 c4 c5:Nat} {b:Nat} {i:Nat} {S:World→Prop} {a0:Act} {Q:Exit→Act→World→Prop} {w:World} (h1:a0.tmps[1]?=some (.pointer (some ⟨b,0,none⟩))) (h6:a0.tmps[6]?=some (.int .i64 (i:Int))) (hcell:∀ W,S W→∀ o x,(cmL c (.slice a1 c.cols.length c1) (.slice a2 c.vals.length c2) (.slice a3 c.fields.length c3) (.slice a4 c.expr.args.length c4) (.slice a5 c.wh.args.length c5))[o]?=some x→W.cell? ⟨b,o,none⟩=some x) (ha:a0.tmps.size=272) (hS:S w)
  (hq:∀ a' w',S w'→a'.defers=a0.defers→a'.tmps.size=272→(∀ j d,k15_d[j]?=some (some d)→a'.tmps[d]?=some (ytI c a2 c2 b i j))→(∀ d,some d ∉ k15_d→a'.tmps[d]?=a0.tmps[d]?)→Q .normal a' w'):(Code.region 15 k15_R false).wp Tryz.prog Q a0 w:=by
 have hz:k15_R.size=5:=by kernel_rfl
 refine yaG (m:=272) hz (by kernel_rfl) ylt (by kernel_rfl) ha ?_ hS hq
 refine us ?_ (yaO hz (by decide) (by kernel_rfl) fun _ W s _=>yaq (u:=3) (x:=.tmp 177) (y:=.tmp 180) (by kernel_rfl) (s.u 0 177 (by kernel_rfl)) (s.u 3 180 (by kernel_rfl)) (yqx W _ _ _ _))
 refine us ?_ (yaO hz (by decide) (by kernel_rfl) fun _ W s _=>ycz (ts:=#[25]) (x:=.tmp 179) (by kernel_rfl) (fun ty=>yod W a2 c.vals.length c2 ty) (s.u 2 179 (by kernel_rfl)))
 refine us ?_ (yaO hz (by decide) (by kernel_rfl) fun _ W s hS=>yaf (x:=.tmp 178) (t:=25) (by kernel_rfl) (s.u 1 178 (by kernel_rfl)) (yra W _ 9 _ (hcell W hS 9 _ rfl)))
 refine us ?_ (yaO hz (by decide) (by kernel_rfl) fun _ W s _=>yad (x:=.tmp 1) (t:=31) (f:=7) (by kernel_rfl) (s.b 1 (by kernel_rfl) h1) (fa7 W _))
 refine us ?_ (yaO hz (by decide) (by kernel_rfl) fun _ _ s _=>yac (x:=.tmp 6) (by kernel_rfl) (s.b 6 (by kernel_rfl) h6))
 exact fun j hj=>absurd hj (Nat.not_lt_zero j)
noncomputable def k17_R:Array Oper:=((Tryz.f13.body).bind (yas 17)).getD #[]
def ytK (c:Cm) (c2:Nat) (b g o i:Nat) (ok:Bool) (x:Vl) (j:Nat):Value:=([.bool ok,.bool ok,gw (ok == true) (.pointer (some ⟨b,9,none⟩)),gw (ok == true) (.slice (some ⟨g,o,none⟩) c.vals.length c2),gw (ok == true) (.int .i64 (i:Int)),gw (ok == true) (.pointer (some ⟨g,o+i*3,none⟩)),gw (ok == true) (.agg #[.int .i64 x.k,.int .i64 x.n,.string ⟨x.s.toArray⟩]),gw (ok == true) (.int .i64 ((ybT x.k x.n x.s:Nat):Int)),gw (ok == true) (.bool (decide (((ybT x.k x.n x.s:Nat):Int)=0))),.bool (ok&&(decide (((ybT x.k x.n x.s:Nat):Int)=0))),.bool (ok&&(decide (((ybT x.k x.n x.s:Nat):Int)=0)))]:List Value).getD j undef
def k17_d:List (Option Tmp):=[some 184,some 185,some 186,some 187,some 188,some 189,some 190,some 191,some 192,some 193,some 4]
theorem ylv:k17_d.Nodup:=by unfold k17_d;decide
theorem yr7 {c:Cm} {a1 a3 a4 a5:Option Addr} {c1 c2 c3 c4 c5:Nat} {b g o i:Nat} {ok:Bool} {x:Vl} {S:World→Prop} {a0:Act} {Q:Exit→Act→World→Prop} {w:World} (h1:a0.tmps[1]?=some (.pointer (some ⟨b,0,none⟩))) (h4:a0.tmps[4]?=some (.bool ok)) (h6:a0.tmps[6]?=some (.int .i64 (i:Int))) (hcell:∀ W,S W→∀ p y,(cmL c (.slice a1 c.cols.length c1) (.slice (some ⟨g,o,none⟩) c.vals.length c2) (.slice a3 c.fields.length c3) (.slice a4 c.expr.args.length c4) (.slice a5 c.wh.args.length c5))[p]?=some y→W.cell? ⟨b,p,none⟩=some y) (hix:i < c.vals.length) (e0:∀ W,S W→W.cell? ⟨g,o+i*3,none⟩=some (.int .i64 x.k)) (e1:∀ W,S W→W.cell? ⟨g,o+i*3+1,none⟩=some (.int .i64 x.n)) (e2:∀ W,S W→W.cell? ⟨g,o+i*3+2,none⟩=some (.string ⟨x.s.toArray⟩)) (q191:∀ W,S W→Calls Tryz.prog 33 #[.agg #[.int .i64 x.k,.int .i64 x.n,.string ⟨x.s.toArray⟩]] W fun e w'=>e=.returned (.int .i64 ((ybT x.k x.n x.s:Nat):Int))∧S w') (ha:a0.tmps.size=272) (hS:S w)
  (hq:∀ a' w',S w'→a'.defers=a0.defers→a'.tmps.size=272→(∀ j d,k17_d[j]?=some (some d)→a'.tmps[d]?=some (ytK c c2 b g o i ok x j))→(∀ d,some d ∉ k17_d→a'.tmps[d]?=a0.tmps[d]?)→Q .normal a' w'):(Code.region 17 k17_R false).wp Tryz.prog Q a0 w:=by
 have hz:k17_R.size=11:=by kernel_rfl
 refine yaG (m:=272) hz (by kernel_rfl) ylv (by kernel_rfl) ha ?_ hS hq
 refine us ?_ (yaO hz (by decide) (by kernel_rfl) fun _ _ s _=>yaA (x:=.tmp 193) (by kernel_rfl) (s.u 9 193 (by kernel_rfl)))
 refine us ?_ (yaO hz (by decide) (by kernel_rfl) fun _ _ s _=>yav (G:=true) (by kernel_rfl) (s.u 1 185 (by kernel_rfl)) (s.u 8 192 (by kernel_rfl)) rfl rfl)
 refine us ?_ (yaH true 1 185 true hz (by decide) (by kernel_rfl) rfl rfl fun hG _ W s _=>yaq (u:=32) (x:=.tmp 191) (y:=.const (.int .i64 0)) (by kernel_rfl) (s.g 7 191 (by kernel_rfl) hG rfl) (rfl) (ypK W _ _ _ _))
 refine us ?_ (yfV true 1 185 true hz (by decide) (by kernel_rfl) rfl rfl (fun hG _ _ s=>yaP (ts:=#[24]) (x:=.tmp 190) (f:=33) yux (by kernel_rfl) rfl (s.g 6 190 (by kernel_rfl) hG rfl)) q191)
 refine us ?_ (yaH true 1 185 true hz (by decide) (by kernel_rfl) rfl rfl fun hG _ W s hS=>yaf (x:=.tmp 189) (t:=24) (by kernel_rfl) (s.g 5 189 (by kernel_rfl) hG rfl) (yoa W _ (o+i*3) _ _ _ (e0 W hS) (e1 W hS) (e2 W hS)))
 refine us ?_ (yaH true 1 185 true hz (by decide) (by kernel_rfl) rfl rfl fun hG _ W s _=>ycm (t:=25) (x:=.tmp 187) (y:=.tmp 188) (by kernel_rfl) (s.g 3 187 (by kernel_rfl) hG rfl) (s.g 4 188 (by kernel_rfl) hG rfl) (yu2 W _ _ _ _ _ hix))
 refine us ?_ (yaH true 1 185 true hz (by decide) (by kernel_rfl) rfl rfl fun _ _ _ s _=>yac (x:=.tmp 6) (by kernel_rfl) (s.b 6 (by kernel_rfl) h6))
 refine us ?_ (yaH true 1 185 true hz (by decide) (by kernel_rfl) rfl rfl fun hG _ W s hS=>yaf (x:=.tmp 186) (t:=25) (by kernel_rfl) (s.g 2 186 (by kernel_rfl) hG rfl) (yra W _ 9 _ (hcell W hS 9 _ rfl)))
 refine us ?_ (yaH true 1 185 true hz (by decide) (by kernel_rfl) rfl rfl fun _ _ W s _=>yad (x:=.tmp 1) (t:=31) (f:=7) (by kernel_rfl) (s.b 1 (by kernel_rfl) h1) (fa7 W _))
 refine us ?_ (yaO hz (by decide) (by kernel_rfl) fun _ _ s _=>yac (x:=.tmp 184) (by kernel_rfl) (s.u 0 184 (by kernel_rfl)))
 refine us ?_ (yaO hz (by decide) (by kernel_rfl) fun _ _ s _=>yac (x:=.tmp 4) (by kernel_rfl) (s.b 4 (by kernel_rfl) h4))
 exact fun j hj=>absurd hj (Nat.not_lt_zero j)
noncomputable def k16_R:Array Oper:=((Tryz.f13.body).bind (yas 16)).getD #[]
def ytJ (i:Nat) (j:Nat):Value:=([.int .i64 (i:Int),.int .i64 ((i+1:Nat):Int),.int .i64 ((i+1:Nat):Int)]:List Value).getD j undef
def k16_d:List (Option Tmp):=[some 182,some 183,some 6]
theorem ylu:k16_d.Nodup:=by unfold k16_d;decide
theorem yr6 {i:Nat} {S:World→Prop} {a0:Act} {Q:Exit→Act→World→Prop} {w:World} (h6:a0.tmps[6]?=some (.int .i64 (i:Int))) (hadd:i < 1000000000000001) (ha:a0.tmps.size=272) (hS:S w)
  (hq:∀ a' w',S w'→a'.defers=a0.defers→a'.tmps.size=272→(∀ j d,k16_d[j]?=some (some d)→a'.tmps[d]?=some (ytJ i j))→(∀ d,some d ∉ k16_d→a'.tmps[d]?=a0.tmps[d]?)→Q .normal a' w'):(Code.region 16 k16_R false).wp Tryz.prog Q a0 w:=by
 have hz:k16_R.size=3:=by kernel_rfl
 refine yaG (m:=272) hz (by kernel_rfl) ylu (by kernel_rfl) ha ?_ hS hq
 refine us ?_ (yaO hz (by decide) (by kernel_rfl) fun _ _ s _=>yaA (x:=.tmp 183) (by kernel_rfl) (s.u 1 183 (by kernel_rfl)))
 refine us ?_ (yaO hz (by decide) (by kernel_rfl) fun _ W s _=>yaq (u:=3) (x:=.tmp 182) (y:=.const (.int .i64 1)) (by kernel_rfl) (s.u 0 182 (by kernel_rfl)) (rfl) (ypj W _ _ _ hadd))
 refine us ?_ (yaO hz (by decide) (by kernel_rfl) fun _ _ s _=>yac (x:=.tmp 6) (by kernel_rfl) (s.b 6 (by kernel_rfl) h6))
 exact fun j hj=>absurd hj (Nat.not_lt_zero j)
noncomputable def k19_R:Array Oper:=((Tryz.f13.body).bind (yas 19)).getD #[]
def ytM (c:Cm) (a3:Option Addr) (c3:Nat) (b:Nat) (i:Nat) (j:Nat):Value:=([.int .i64 (i:Int),.pointer (some ⟨b,10,none⟩),.slice a3 c.fields.length c3,.int .i64 ((c.fields.length:Nat):Int),.bool (decide ((i:Int) < ((c.fields.length:Nat):Int)))]:List Value).getD j undef
def k19_d:List (Option Tmp):=[some 194,some 195,some 196,some 197,some 198]
theorem ylx:k19_d.Nodup:=by unfold k19_d;decide
theorem yr9 {c:Cm} {a1 a2 a3 a4 a5:Option Addr} {c1 c2 c3 c4 c5:Nat} {b:Nat} {i:Nat} {S:World→Prop} {a0:Act} {Q:Exit→Act→World→Prop} {w:World} (h1:a0.tmps[1]?=some (.pointer (some ⟨b,0,none⟩))) (h7:a0.tmps[7]?=some (.int .i64 (i:Int))) (hcell:∀ W,S W→∀ o x,(cmL c (.slice a1 c.cols.length c1) (.slice a2 c.vals.length c2) (.slice a3 c.fields.length c3) (.slice a4 c.expr.args.length c4) (.slice a5 c.wh.args.length c5))[o]?=some x→W.cell? ⟨b,o,none⟩=some x) (ha:a0.tmps.size=272) (hS:S w)
  (hq:∀ a' w',S w'→a'.defers=a0.defers→a'.tmps.size=272→(∀ j d,k19_d[j]?=some (some d)→a'.tmps[d]?=some (ytM c a3 c3 b i j))→(∀ d,some d ∉ k19_d→a'.tmps[d]?=a0.tmps[d]?)→Q .normal a' w'):(Code.region 19 k19_R false).wp Tryz.prog Q a0 w:=by
 have hz:k19_R.size=5:=by kernel_rfl
 refine yaG (m:=272) hz (by kernel_rfl) ylx (by kernel_rfl) ha ?_ hS hq
 refine us ?_ (yaO hz (by decide) (by kernel_rfl) fun _ W s _=>yaq (u:=3) (x:=.tmp 194) (y:=.tmp 197) (by kernel_rfl) (s.u 0 194 (by kernel_rfl)) (s.u 3 197 (by kernel_rfl)) (yqx W _ _ _ _))
 refine us ?_ (yaO hz (by decide) (by kernel_rfl) fun _ W s _=>ycz (ts:=#[26]) (x:=.tmp 196) (by kernel_rfl) (fun ty=>yoe W a3 c.fields.length c3 ty) (s.u 2 196 (by kernel_rfl)))
 refine us ?_ (yaO hz (by decide) (by kernel_rfl) fun _ W s hS=>yaf (x:=.tmp 195) (t:=26) (by kernel_rfl) (s.u 1 195 (by kernel_rfl)) (yrb W _ 10 _ (hcell W hS 10 _ rfl)))
 refine us ?_ (yaO hz (by decide) (by kernel_rfl) fun _ W s _=>yad (x:=.tmp 1) (t:=31) (f:=8) (by kernel_rfl) (s.b 1 (by kernel_rfl) h1) (fa8 W _))
 refine us ?_ (yaO hz (by decide) (by kernel_rfl) fun _ _ s _=>yac (x:=.tmp 7) (by kernel_rfl) (s.b 7 (by kernel_rfl) h7))
 exact fun j hj=>absurd hj (Nat.not_lt_zero j)
noncomputable def k21_R:Array Oper:=((Tryz.f13.body).bind (yas 21)).getD #[]
def ytP (c:Cm) (c3:Nat) (b g o i:Nat) (ok:Bool) (x:List UInt8) (j:Nat):Value:=([.bool ok,.bool ok,gw (ok == true) (.pointer (some ⟨b,10,none⟩)),gw (ok == true) (.slice (some ⟨g,o,none⟩) c.fields.length c3),gw (ok == true) (.int .i64 (i:Int)),gw (ok == true) (.pointer (some ⟨g,o+i,none⟩)),gw (ok == true) (.string ⟨x.toArray⟩),gw (ok == true) (.bool (yan x)),.bool (ok&&(yan x)),.bool (ok&&(yan x))]:List Value).getD j undef
def k21_d:List (Option Tmp):=[some 201,some 202,some 203,some 204,some 205,some 206,some 207,some 208,some 209,some 4]
theorem ylz:k21_d.Nodup:=by unfold k21_d;decide
theorem ysb {c:Cm} {a1 a2 a4 a5:Option Addr} {c1 c2 c3 c4 c5:Nat} {b g o i:Nat} {ok:Bool} {x:List UInt8} {S:World→Prop} {a0:Act} {Q:Exit→Act→World→Prop} {w:World} (h1:a0.tmps[1]?=some (.pointer (some ⟨b,0,none⟩))) (h4:a0.tmps[4]?=some (.bool ok)) (h7:a0.tmps[7]?=some (.int .i64 (i:Int))) (hcell:∀ W,S W→∀ p y,(cmL c (.slice a1 c.cols.length c1) (.slice a2 c.vals.length c2) (.slice (some ⟨g,o,none⟩) c.fields.length c3) (.slice a4 c.expr.args.length c4) (.slice a5 c.wh.args.length c5))[p]?=some y→W.cell? ⟨b,p,none⟩=some y) (hix:i < c.fields.length) (e0:∀ W,S W→W.cell? ⟨g,o+i,none⟩=some (.string ⟨x.toArray⟩)) (q208:∀ W,S W→Calls Tryz.prog 34 #[.string ⟨x.toArray⟩] W fun e w'=>e=.returned (.bool (yan x))∧S w') (ha:a0.tmps.size=272) (hS:S w)
  (hq:∀ a' w',S w'→a'.defers=a0.defers→a'.tmps.size=272→(∀ j d,k21_d[j]?=some (some d)→a'.tmps[d]?=some (ytP c c3 b g o i ok x j))→(∀ d,some d ∉ k21_d→a'.tmps[d]?=a0.tmps[d]?)→Q .normal a' w'):(Code.region 21 k21_R false).wp Tryz.prog Q a0 w:=by
 have hz:k21_R.size=10:=by kernel_rfl
 refine yaG (m:=272) hz (by kernel_rfl) ylz (by kernel_rfl) ha ?_ hS hq
 refine us ?_ (yaO hz (by decide) (by kernel_rfl) fun _ _ s _=>yaA (x:=.tmp 209) (by kernel_rfl) (s.u 8 209 (by kernel_rfl)))
 refine us ?_ (yaO hz (by decide) (by kernel_rfl) fun _ _ s _=>yav (G:=true) (by kernel_rfl) (s.u 1 202 (by kernel_rfl)) (s.u 7 208 (by kernel_rfl)) rfl rfl)
 refine us ?_ (yfV true 1 202 true hz (by decide) (by kernel_rfl) rfl rfl (fun hG _ _ s=>yaP (ts:=#[9]) (x:=.tmp 207) (f:=34) ytf (by kernel_rfl) rfl (s.g 6 207 (by kernel_rfl) hG rfl)) q208)
 refine us ?_ (yaH true 1 202 true hz (by decide) (by kernel_rfl) rfl rfl fun hG _ W s hS=>yaf (x:=.tmp 206) (t:=9) (by kernel_rfl) (s.g 5 206 (by kernel_rfl) hG rfl) (ld9 W _ (o+i) _ (e0 W hS)))
 refine us ?_ (yaH true 1 202 true hz (by decide) (by kernel_rfl) rfl rfl fun hG _ W s _=>ycm (t:=26) (x:=.tmp 204) (y:=.tmp 205) (by kernel_rfl) (s.g 3 204 (by kernel_rfl) hG rfl) (s.g 4 205 (by kernel_rfl) hG rfl) (ytC W _ _ _ _ _ hix))
 refine us ?_ (yaH true 1 202 true hz (by decide) (by kernel_rfl) rfl rfl fun _ _ _ s _=>yac (x:=.tmp 7) (by kernel_rfl) (s.b 7 (by kernel_rfl) h7))
 refine us ?_ (yaH true 1 202 true hz (by decide) (by kernel_rfl) rfl rfl fun hG _ W s hS=>yaf (x:=.tmp 203) (t:=26) (by kernel_rfl) (s.g 2 203 (by kernel_rfl) hG rfl) (yrb W _ 10 _ (hcell W hS 10 _ rfl)))
 refine us ?_ (yaH true 1 202 true hz (by decide) (by kernel_rfl) rfl rfl fun _ _ W s _=>yad (x:=.tmp 1) (t:=31) (f:=8) (by kernel_rfl) (s.b 1 (by kernel_rfl) h1) (fa8 W _))
 refine us ?_ (yaO hz (by decide) (by kernel_rfl) fun _ _ s _=>yac (x:=.tmp 201) (by kernel_rfl) (s.u 0 201 (by kernel_rfl)))
 refine us ?_ (yaO hz (by decide) (by kernel_rfl) fun _ _ s _=>yac (x:=.tmp 4) (by kernel_rfl) (s.b 4 (by kernel_rfl) h4))
 exact fun j hj=>absurd hj (Nat.not_lt_zero j)
noncomputable def k20_R:Array Oper:=((Tryz.f13.body).bind (yas 20)).getD #[]
def ytO (i:Nat) (j:Nat):Value:=([.int .i64 (i:Int),.int .i64 ((i+1:Nat):Int),.int .i64 ((i+1:Nat):Int)]:List Value).getD j undef
def k20_d:List (Option Tmp):=[some 199,some 200,some 7]
theorem yly:k20_d.Nodup:=by unfold k20_d;decide
theorem ysa {i:Nat} {S:World→Prop} {a0:Act} {Q:Exit→Act→World→Prop} {w:World} (h7:a0.tmps[7]?=some (.int .i64 (i:Int))) (hadd:i < 1000000000000001) (ha:a0.tmps.size=272) (hS:S w)
  (hq:∀ a' w',S w'→a'.defers=a0.defers→a'.tmps.size=272→(∀ j d,k20_d[j]?=some (some d)→a'.tmps[d]?=some (ytO i j))→(∀ d,some d ∉ k20_d→a'.tmps[d]?=a0.tmps[d]?)→Q .normal a' w'):(Code.region 20 k20_R false).wp Tryz.prog Q a0 w:=by
 have hz:k20_R.size=3:=by kernel_rfl
 refine yaG (m:=272) hz (by kernel_rfl) yly (by kernel_rfl) ha ?_ hS hq
 refine us ?_ (yaO hz (by decide) (by kernel_rfl) fun _ _ s _=>yaA (x:=.tmp 200) (by kernel_rfl) (s.u 1 200 (by kernel_rfl)))
 refine us ?_ (yaO hz (by decide) (by kernel_rfl) fun _ W s _=>yaq (u:=3) (x:=.tmp 199) (y:=.const (.int .i64 1)) (by kernel_rfl) (s.u 0 199 (by kernel_rfl)) (rfl) (ypj W _ _ _ hadd))
 refine us ?_ (yaO hz (by decide) (by kernel_rfl) fun _ _ s _=>yac (x:=.tmp 7) (by kernel_rfl) (s.b 7 (by kernel_rfl) h7))
 exact fun j hj=>absurd hj (Nat.not_lt_zero j)
noncomputable def k22_R:Array Oper:=((Tryz.f13.body).bind (yas 22)).getD #[]
def ytQ (c:Cm) (j:Nat):Value:=([.int .i64 c.kind,.bool (decide (c.kind=13))]:List Value).getD j undef
def k22_d:List (Option Tmp):=[some 210,some 211]
theorem ylA:k22_d.Nodup:=by unfold k22_d;decide
theorem ysc {c:Cm} {S:World→Prop} {a0:Act} {Q:Exit→Act→World→Prop} {w:World} (h3:a0.tmps[3]?=some (.int .i64 c.kind)) (ha:a0.tmps.size=272) (hS:S w)
  (hq:∀ a' w',S w'→a'.defers=a0.defers→a'.tmps.size=272→(∀ j d,k22_d[j]?=some (some d)→a'.tmps[d]?=some (ytQ c j))→(∀ d,some d ∉ k22_d→a'.tmps[d]?=a0.tmps[d]?)→Q .normal a' w'):(Code.region 22 k22_R false).wp Tryz.prog Q a0 w:=by
 have hz:k22_R.size=2:=by kernel_rfl
 refine yaG (m:=272) hz (by kernel_rfl) ylA (by kernel_rfl) ha ?_ hS hq
 refine us ?_ (yaO hz (by decide) (by kernel_rfl) fun _ W s _=>yaq (u:=3) (x:=.tmp 210) (y:=.const (.int .i64 13)) (by kernel_rfl) (s.u 0 210 (by kernel_rfl)) (rfl) (yee W _ _ _ _))
 refine us ?_ (yaO hz (by decide) (by kernel_rfl) fun _ _ s _=>yac (x:=.tmp 3) (by kernel_rfl) (s.b 3 (by kernel_rfl) h3))
 exact fun j hj=>absurd hj (Nat.not_lt_zero j)
noncomputable def k23_R:Array Oper:=((Tryz.f13.body).bind (yas 23)).getD #[]
def ytR (c:Cm) (b:Nat) (ok:Bool) (j:Nat):Value:=([.bool ok,.bool ok,gw (ok == true) (.pointer (some ⟨b,25,none⟩)),gw (ok == true) (.int .i64 c.limit),gw (ok == true) (.bool (yaW c.limit (-1) 999999999)),.bool (ok&&(yaW c.limit (-1) 999999999)),.bool (ok&&(yaW c.limit (-1) 999999999)),gw ((ok&&(yaW c.limit (-1) 999999999)) == true) (.pointer (some ⟨b,24,none⟩)),gw ((ok&&(yaW c.limit (-1) 999999999)) == true) (.string ⟨c.order.toArray⟩),gw ((ok&&(yaW c.limit (-1) 999999999)) == true) (.bool (decide (c.order=[]))),gw ((ok&&(yaW c.limit (-1) 999999999)) == true) (.bool (decide (c.order=[]))),gw (((ok&&(yaW c.limit (-1) 999999999)) == true)&&((decide (c.order=[])) == false)) (.pointer (some ⟨b,24,none⟩)),gw (((ok&&(yaW c.limit (-1) 999999999)) == true)&&((decide (c.order=[])) == false)) (.string ⟨c.order.toArray⟩),gw (((ok&&(yaW c.limit (-1) 999999999)) == true)&&((decide (c.order=[])) == false)) (.bool (yan c.order)),gw ((ok&&(yaW c.limit (-1) 999999999)) == true) (.bool ((decide (c.order=[])) || (yan c.order))),.bool ((ok&&(yaW c.limit (-1) 999999999))&&((decide (c.order=[])) || (yan c.order))),.bool ((ok&&(yaW c.limit (-1) 999999999))&&((decide (c.order=[])) || (yan c.order)))]:List Value).getD j undef
def k23_d:List (Option Tmp):=[some 212,some 213,some 214,some 215,some 216,some 217,some 218,some 219,some 220,some 221,some 222,some 223,some 224,some 225,some 226,some 227,some 4]
theorem ylB:k23_d.Nodup:=by unfold k23_d;decide
theorem ysd {c:Cm} {a1 a2 a3 a4 a5:Option Addr} {c1 c2 c3 c4 c5:Nat} {b:Nat} {ok:Bool} {S:World→Prop} {a0:Act} {Q:Exit→Act→World→Prop} {w:World} (h1:a0.tmps[1]?=some (.pointer (some ⟨b,0,none⟩))) (h4:a0.tmps[4]?=some (.bool ok)) (hcell:∀ W,S W→∀ o x,(cmL c (.slice a1 c.cols.length c1) (.slice a2 c.vals.length c2) (.slice a3 c.fields.length c3) (.slice a4 c.expr.args.length c4) (.slice a5 c.wh.args.length c5))[o]?=some x→W.cell? ⟨b,o,none⟩=some x) (q216:∀ W,S W→Calls Tryz.prog 31 #[.int .i64 c.limit,.int .i64 (-1),.int .i64 999999999] W fun e w'=>e=.returned (.bool (yaW c.limit (-1) 999999999))∧S w') (q225:∀ W,S W→Calls Tryz.prog 34 #[.string ⟨c.order.toArray⟩] W fun e w'=>e=.returned (.bool (yan c.order))∧S w') (ha:a0.tmps.size=272) (hS:S w)
  (hq:∀ a' w',S w'→a'.defers=a0.defers→a'.tmps.size=272→(∀ j d,k23_d[j]?=some (some d)→a'.tmps[d]?=some (ytR c b ok j))→(∀ d,some d ∉ k23_d→a'.tmps[d]?=a0.tmps[d]?)→Q .normal a' w'):(Code.region 23 k23_R false).wp Tryz.prog Q a0 w:=by
 have hz:k23_R.size=17:=by kernel_rfl
 refine yaG (m:=272) hz (by kernel_rfl) ylB (by kernel_rfl) ha ?_ hS hq
 refine us ?_ (yaO hz (by decide) (by kernel_rfl) fun _ _ s _=>yaA (x:=.tmp 227) (by kernel_rfl) (s.u 15 227 (by kernel_rfl)))
 refine us ?_ (yaO hz (by decide) (by kernel_rfl) fun _ _ s _=>yav (G:=true) (by kernel_rfl) (s.u 6 218 (by kernel_rfl)) (s.u 14 226 (by kernel_rfl)) rfl rfl)
 refine us ?_ (yaH true 6 218 true hz (by decide) (by kernel_rfl) rfl rfl fun hG _ _ s _=>yaS (by kernel_rfl) (s.g 10 222 (by kernel_rfl) hG rfl) (s.u 13 225 (by kernel_rfl)) rfl hG)
 refine us ?_ (yfV _ 10 222 false hz (by decide) (by kernel_rfl) rfl rfl (fun hG _ _ s=>yaP (ts:=#[9]) (x:=.tmp 224) (f:=34) ytf (by kernel_rfl) rfl (s.g 12 224 (by kernel_rfl) hG rfl)) q225)
 refine us ?_ (yaH _ 10 222 false hz (by decide) (by kernel_rfl) rfl rfl fun hG _ W s hS=>yaf (x:=.tmp 223) (t:=9) (by kernel_rfl) (s.g 11 223 (by kernel_rfl) hG rfl) (ld9 W _ 24 _ (hcell W hS 24 _ rfl)))
 refine us ?_ (yaH _ 10 222 false hz (by decide) (by kernel_rfl) rfl rfl fun _ _ W s _=>yad (x:=.tmp 1) (t:=31) (f:=12) (by kernel_rfl) (s.b 1 (by kernel_rfl) h1) (ypa W _))
 refine us ?_ (yaH true 6 218 true hz (by decide) (by kernel_rfl) rfl rfl fun hG _ _ s _=>yac (x:=.tmp 221) (by kernel_rfl) (s.g 9 221 (by kernel_rfl) hG rfl))
 refine us ?_ (yaH true 6 218 true hz (by decide) (by kernel_rfl) rfl rfl fun hG _ W s _=>yaq (u:=9) (x:=.tmp 220) (y:=.const (.string ⟨#[]⟩)) (by kernel_rfl) (s.g 8 220 (by kernel_rfl) hG rfl) (rfl) (eq9 W _ _ _))
 refine us ?_ (yaH true 6 218 true hz (by decide) (by kernel_rfl) rfl rfl fun hG _ W s hS=>yaf (x:=.tmp 219) (t:=9) (by kernel_rfl) (s.g 7 219 (by kernel_rfl) hG rfl) (ld9 W _ 24 _ (hcell W hS 24 _ rfl)))
 refine us ?_ (yaH true 6 218 true hz (by decide) (by kernel_rfl) rfl rfl fun _ _ W s _=>yad (x:=.tmp 1) (t:=31) (f:=12) (by kernel_rfl) (s.b 1 (by kernel_rfl) h1) (ypa W _))
 refine us ?_ (yaO hz (by decide) (by kernel_rfl) fun _ _ s _=>yac (x:=.tmp 217) (by kernel_rfl) (s.u 5 217 (by kernel_rfl)))
 refine us ?_ (yaO hz (by decide) (by kernel_rfl) fun _ _ s _=>yav (G:=true) (by kernel_rfl) (s.u 1 213 (by kernel_rfl)) (s.u 4 216 (by kernel_rfl)) rfl rfl)
 refine us ?_ (yfV true 1 213 true hz (by decide) (by kernel_rfl) rfl rfl (fun hG _ _ s=>ycG (ts:=#[3,3,3]) (x:=.tmp 215) (y:=.const (.int .i64 (-1))) (z:=.const (.int .i64 999999999)) (f:=31) ypw (by kernel_rfl) rfl (s.g 3 215 (by kernel_rfl) hG rfl) (rfl) (rfl)) q216)
 refine us ?_ (yaH true 1 213 true hz (by decide) (by kernel_rfl) rfl rfl fun hG _ W s hS=>yaf (x:=.tmp 214) (t:=3) (by kernel_rfl) (s.g 2 214 (by kernel_rfl) hG rfl) (ld3 W _ 25 _ (hcell W hS 25 _ rfl)))
 refine us ?_ (yaH true 1 213 true hz (by decide) (by kernel_rfl) rfl rfl fun _ _ W s _=>yad (x:=.tmp 1) (t:=31) (f:=13) (by kernel_rfl) (s.b 1 (by kernel_rfl) h1) (ypO W _))
 refine us ?_ (yaO hz (by decide) (by kernel_rfl) fun _ _ s _=>yac (x:=.tmp 212) (by kernel_rfl) (s.u 0 212 (by kernel_rfl)))
 refine us ?_ (yaO hz (by decide) (by kernel_rfl) fun _ _ s _=>yac (x:=.tmp 4) (by kernel_rfl) (s.b 4 (by kernel_rfl) h4))
 exact fun j hj=>absurd hj (Nat.not_lt_zero j)
noncomputable def k24_R:Array Oper:=((Tryz.f13.body).bind (yas 24)).getD #[]
def ytS (c:Cm) (j:Nat):Value:=([.int .i64 c.kind,.bool (decide (c.kind=12))]:List Value).getD j undef
def k24_d:List (Option Tmp):=[some 228,some 229]
theorem ylC:k24_d.Nodup:=by unfold k24_d;decide
theorem yse {c:Cm} {S:World→Prop} {a0:Act} {Q:Exit→Act→World→Prop} {w:World} (h3:a0.tmps[3]?=some (.int .i64 c.kind)) (ha:a0.tmps.size=272) (hS:S w)
  (hq:∀ a' w',S w'→a'.defers=a0.defers→a'.tmps.size=272→(∀ j d,k24_d[j]?=some (some d)→a'.tmps[d]?=some (ytS c j))→(∀ d,some d ∉ k24_d→a'.tmps[d]?=a0.tmps[d]?)→Q .normal a' w'):(Code.region 24 k24_R false).wp Tryz.prog Q a0 w:=by
 have hz:k24_R.size=2:=by kernel_rfl
 refine yaG (m:=272) hz (by kernel_rfl) ylC (by kernel_rfl) ha ?_ hS hq
 refine us ?_ (yaO hz (by decide) (by kernel_rfl) fun _ W s _=>yaq (u:=3) (x:=.tmp 228) (y:=.const (.int .i64 12)) (by kernel_rfl) (s.u 0 228 (by kernel_rfl)) (rfl) (yee W _ _ _ _))
 refine us ?_ (yaO hz (by decide) (by kernel_rfl) fun _ _ s _=>yac (x:=.tmp 3) (by kernel_rfl) (s.b 3 (by kernel_rfl) h3))
 exact fun j hj=>absurd hj (Nat.not_lt_zero j)
noncomputable def k25_R:Array Oper:=((Tryz.f13.body).bind (yas 25)).getD #[]
def ytT (c:Cm) (a4:Option Addr) (c4:Nat) (b:Nat) (ok:Bool) (j:Nat):Value:=([.bool ok,.bool ok,gw (ok == true) (.pointer (some ⟨b,11,none⟩)),gw (ok == true) (.agg #[.int .i64 c.expr.k,.int .i64 c.expr.v.k,.int .i64 c.expr.v.n,.string ⟨c.expr.v.s.toArray⟩,.string ⟨c.expr.nm.toArray⟩,.slice a4 c.expr.args.length c4]),gw (ok == true) (.bool (exR c.expr)),.bool (ok&&(exR c.expr)),.bool (ok&&(exR c.expr))]:List Value).getD j undef
def k25_d:List (Option Tmp):=[some 230,some 231,some 232,some 233,some 234,some 235,some 4]
theorem ylD:k25_d.Nodup:=by unfold k25_d;decide
theorem ysf {c:Cm} {a1 a2 a3 a4 a5:Option Addr} {c1 c2 c3 c4 c5:Nat} {b:Nat} {ok:Bool} {S:World→Prop} {a0:Act} {Q:Exit→Act→World→Prop} {w:World} (h1:a0.tmps[1]?=some (.pointer (some ⟨b,0,none⟩))) (h4:a0.tmps[4]?=some (.bool ok)) (hcell:∀ W,S W→∀ o x,(cmL c (.slice a1 c.cols.length c1) (.slice a2 c.vals.length c2) (.slice a3 c.fields.length c3) (.slice a4 c.expr.args.length c4) (.slice a5 c.wh.args.length c5))[o]?=some x→W.cell? ⟨b,o,none⟩=some x) (q234:∀ W,S W→Calls Tryz.prog 35 #[.agg #[.int .i64 c.expr.k,.int .i64 c.expr.v.k,.int .i64 c.expr.v.n,.string ⟨c.expr.v.s.toArray⟩,.string ⟨c.expr.nm.toArray⟩,.slice a4 c.expr.args.length c4]] W fun e w'=>e=.returned (.bool (exR c.expr))∧S w') (ha:a0.tmps.size=272) (hS:S w)
  (hq:∀ a' w',S w'→a'.defers=a0.defers→a'.tmps.size=272→(∀ j d,k25_d[j]?=some (some d)→a'.tmps[d]?=some (ytT c a4 c4 b ok j))→(∀ d,some d ∉ k25_d→a'.tmps[d]?=a0.tmps[d]?)→Q .normal a' w'):(Code.region 25 k25_R false).wp Tryz.prog Q a0 w:=by
 have hz:k25_R.size=7:=by kernel_rfl
 refine yaG (m:=272) hz (by kernel_rfl) ylD (by kernel_rfl) ha ?_ hS hq
 refine us ?_ (yaO hz (by decide) (by kernel_rfl) fun _ _ s _=>yaA (x:=.tmp 235) (by kernel_rfl) (s.u 5 235 (by kernel_rfl)))
 refine us ?_ (yaO hz (by decide) (by kernel_rfl) fun _ _ s _=>yav (G:=true) (by kernel_rfl) (s.u 1 231 (by kernel_rfl)) (s.u 4 234 (by kernel_rfl)) rfl rfl)
 refine us ?_ (yfV true 1 231 true hz (by decide) (by kernel_rfl) rfl rfl (fun hG _ _ s=>yaP (ts:=#[29]) (x:=.tmp 233) (f:=35) yuy (by kernel_rfl) rfl (s.g 3 233 (by kernel_rfl) hG rfl)) q234)
 refine us ?_ (yaH true 1 231 true hz (by decide) (by kernel_rfl) rfl rfl fun hG _ W s hS=>yaf (x:=.tmp 232) (t:=29) (by kernel_rfl) (s.g 2 232 (by kernel_rfl) hG rfl) (ygD W _ 11 _ _ _ _ _ _ (hcell W hS 11 _ rfl) (hcell W hS 12 _ rfl) (hcell W hS 13 _ rfl) (hcell W hS 14 _ rfl) (hcell W hS 15 _ rfl) (hcell W hS 16 _ rfl)))
 refine us ?_ (yaH true 1 231 true hz (by decide) (by kernel_rfl) rfl rfl fun _ _ W s _=>yad (x:=.tmp 1) (t:=31) (f:=9) (by kernel_rfl) (s.b 1 (by kernel_rfl) h1) (fa9 W _))
 refine us ?_ (yaO hz (by decide) (by kernel_rfl) fun _ _ s _=>yac (x:=.tmp 230) (by kernel_rfl) (s.u 0 230 (by kernel_rfl)))
 refine us ?_ (yaO hz (by decide) (by kernel_rfl) fun _ _ s _=>yac (x:=.tmp 4) (by kernel_rfl) (s.b 4 (by kernel_rfl) h4))
 exact fun j hj=>absurd hj (Nat.not_lt_zero j)
noncomputable def k26_R:Array Oper:=((Tryz.f13.body).bind (yas 26)).getD #[]
def ytU (c:Cm) (a4:Option Addr) (c4:Nat) (b:Nat) (ok:Bool) (j:Nat):Value:=([.bool ok,.bool ok,gw (ok == true) (.pointer (some ⟨b,11,none⟩)),gw (ok == true) (.agg #[.int .i64 c.expr.k,.int .i64 c.expr.v.k,.int .i64 c.expr.v.n,.string ⟨c.expr.v.s.toArray⟩,.string ⟨c.expr.nm.toArray⟩,.slice a4 c.expr.args.length c4]),gw (ok == true) (.bool (ybe c.expr)),.bool (ok&&(ybe c.expr)),.bool (ok&&(ybe c.expr))]:List Value).getD j undef
def k26_d:List (Option Tmp):=[some 236,some 237,some 238,some 239,some 240,some 241,some 4]
theorem ylE:k26_d.Nodup:=by unfold k26_d;decide
theorem ysg {c:Cm} {a1 a2 a3 a4 a5:Option Addr} {c1 c2 c3 c4 c5:Nat} {b:Nat} {ok:Bool} {S:World→Prop} {a0:Act} {Q:Exit→Act→World→Prop} {w:World} (h1:a0.tmps[1]?=some (.pointer (some ⟨b,0,none⟩))) (h4:a0.tmps[4]?=some (.bool ok)) (hcell:∀ W,S W→∀ o x,(cmL c (.slice a1 c.cols.length c1) (.slice a2 c.vals.length c2) (.slice a3 c.fields.length c3) (.slice a4 c.expr.args.length c4) (.slice a5 c.wh.args.length c5))[o]?=some x→W.cell? ⟨b,o,none⟩=some x) (q240:∀ W,S W→Calls Tryz.prog 36 #[.agg #[.int .i64 c.expr.k,.int .i64 c.expr.v.k,.int .i64 c.expr.v.n,.string ⟨c.expr.v.s.toArray⟩,.string ⟨c.expr.nm.toArray⟩,.slice a4 c.expr.args.length c4]] W fun e w'=>e=.returned (.bool (ybe c.expr))∧S w') (ha:a0.tmps.size=272) (hS:S w)
  (hq:∀ a' w',S w'→a'.defers=a0.defers→a'.tmps.size=272→(∀ j d,k26_d[j]?=some (some d)→a'.tmps[d]?=some (ytU c a4 c4 b ok j))→(∀ d,some d ∉ k26_d→a'.tmps[d]?=a0.tmps[d]?)→Q .normal a' w'):(Code.region 26 k26_R false).wp Tryz.prog Q a0 w:=by
 have hz:k26_R.size=7:=by kernel_rfl
 refine yaG (m:=272) hz (by kernel_rfl) ylE (by kernel_rfl) ha ?_ hS hq
 refine us ?_ (yaO hz (by decide) (by kernel_rfl) fun _ _ s _=>yaA (x:=.tmp 241) (by kernel_rfl) (s.u 5 241 (by kernel_rfl)))
 refine us ?_ (yaO hz (by decide) (by kernel_rfl) fun _ _ s _=>yav (G:=true) (by kernel_rfl) (s.u 1 237 (by kernel_rfl)) (s.u 4 240 (by kernel_rfl)) rfl rfl)
 refine us ?_ (yfV true 1 237 true hz (by decide) (by kernel_rfl) rfl rfl (fun hG _ _ s=>yaP (ts:=#[29]) (x:=.tmp 239) (f:=36) yuz (by kernel_rfl) rfl (s.g 3 239 (by kernel_rfl) hG rfl)) q240)
 refine us ?_ (yaH true 1 237 true hz (by decide) (by kernel_rfl) rfl rfl fun hG _ W s hS=>yaf (x:=.tmp 238) (t:=29) (by kernel_rfl) (s.g 2 238 (by kernel_rfl) hG rfl) (ygD W _ 11 _ _ _ _ _ _ (hcell W hS 11 _ rfl) (hcell W hS 12 _ rfl) (hcell W hS 13 _ rfl) (hcell W hS 14 _ rfl) (hcell W hS 15 _ rfl) (hcell W hS 16 _ rfl)))
 refine us ?_ (yaH true 1 237 true hz (by decide) (by kernel_rfl) rfl rfl fun _ _ W s _=>yad (x:=.tmp 1) (t:=31) (f:=9) (by kernel_rfl) (s.b 1 (by kernel_rfl) h1) (fa9 W _))
 refine us ?_ (yaO hz (by decide) (by kernel_rfl) fun _ _ s _=>yac (x:=.tmp 236) (by kernel_rfl) (s.u 0 236 (by kernel_rfl)))
 refine us ?_ (yaO hz (by decide) (by kernel_rfl) fun _ _ s _=>yac (x:=.tmp 4) (by kernel_rfl) (s.b 4 (by kernel_rfl) h4))
 exact fun j hj=>absurd hj (Nat.not_lt_zero j)
end Go.Proofs.YtkpeklealgicpabGreatDoor
