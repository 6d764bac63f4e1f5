/-
  'Check' of package command, out of what 'hasMany' and 'isRight' answer.
  Regions that draw their order, with calls: what each operation leaves is known beforehand; whatever the order, that is what is left.
  The region of 'isRight', and what its operations do one by one.
  What the operations of isRight's region do.
  Regions that draw their order, with guards and calls: what a program needs that writes their walks.
  A region that keeps its order, with guards and calls, on any frame; what some more operations do.
  Regions with guards and calls, an operation a row.
  The document's SameValue and SameValues, of any values in memory.
  The document's SameExpr, of any expressions in memory.
  The document's SameCmd: its two conditions.
-/
import Derived.Deep.RegionHeld3
import Derived.Test.YtkpeklealgicpabGreatDoorQa
import Derived.Test.YtkpeklealgicpabGreatDoorQc

set_option maxRecDepth 100000
set_option maxHeartbeats 8000000
namespace Go.Proofs.YtkpeklealgicpabGreatDoor
open Go.RowKit
def ybH (M R:Bool):Int:=if M=true then 2 else if R=true then 0 else 1
theorem yiY {w:World} (c:Cm) (cv vv fv ea wa:Value) (M R:Bool)
  (hm:∀ W:World,Below w.heap.size w W→Calls Tryz.prog 28 #[.agg (cmL c cv vv fv ea wa).toArray] W fun e w'=>e=.returned (.bool M)∧Below W.heap.size W w')
  (hr:∀ W:World,Below w.heap.size w W→Calls Tryz.prog 29 #[.agg (cmL c cv vv fv ea wa).toArray] W fun e w'=>e=.returned (.bool R)∧Below W.heap.size W w') :
  Calls Tryz.prog 12 #[.agg (cmL c cv vv fv ea wa).toArray] w fun e w'=>e=.returned (.int .i64 (ybH M R))∧Below w.heap.size w w':=by
 have b0:=(Below.refl w.heap.size w).alloc (Nat.le_refl _) (.cells (cmL c cv vv fv ea wa).toArray 31)
 have k0:(w.alloc (.cells (cmL c cv vv fv ea wa).toArray 31)).heap[w.heap.size]?=some (.cells (cmL c cv vv fv ea wa).toArray 31):=heap_alloc_new _ _
 have hl:(cmL c cv vv fv ea wa).length=26:=rfl
 generalize cmL c cv vv fv ea wa=cs at hm hr b0 k0 hl ⊢
 have hsz:(Tryz.prog.info? 31).map (·.size)=some cs.length:=by rw [hl];exact Tryz.size31
 cases M with
 | true =>
  go_enter Tryz.func12,Tryz.ntmps12
  go_wp2_with (refine yag 31 _ rfl rfl _ cs 31 _ rfl (by exact k0) Tryz.underlying31 rfl hsz ?_)
  refine (hm _ b0).mono ?_
  rintro e w1 ⟨rfl,b1⟩
  go_wp2
  go_ret
  exact ⟨rfl,b0.trans (b1.mono (by simp))⟩
 | false =>
  go_enter Tryz.func12,Tryz.ntmps12
  go_wp2_with (refine yag 31 _ rfl rfl _ cs 31 _ rfl (by exact k0) Tryz.underlying31 rfl hsz ?_)
  refine (hm _ b0).mono ?_
  rintro e w1 ⟨rfl,b1⟩
  have k1:=(b1.block w.heap.size (by simp)).trans k0
  have q1:Below w.heap.size w w1:=b0.trans (b1.mono (by simp))
  clear k0 b0 b1 hm
  go_wp2_with (refine yag 31 _ rfl rfl _ cs 31 _ rfl (by exact k1) Tryz.underlying31 rfl hsz ?_)
  refine (hr _ q1).mono ?_
  rintro e w2 ⟨rfl,b2⟩
  have q2:Below w.heap.size w w2:=q1.trans (b2.mono q1.size)
  cases R with
  | true =>
   go_wp2
   go_ret
   exact ⟨rfl,q2⟩
  | false =>
   go_wp2
   go_ret
   exact ⟨rfl,q2⟩
section
variable (ops:Array Oper) (L0:Array Bool) (a0:Act) (V:Nat→Value)
structure RunAt (listed:Array Bool) (a:Act):Prop where
 size:listed.size=ops.size
 defers:a.defers=a0.defers
 more:∀ j,L0.getD j true=true→listed.getD j true=true
 new:∀ j o d,ops[j]?=some o→L0.getD j true=false→listed.getD j true=true→o.dst=some d→a.tmps[d]?=some (V j)
 old:∀ d,(∀ j o,ops[j]?=some o→L0.getD j true=false→o.dst≠some d)→a.tmps[d]?=a0.tmps[d]?
 frame:a.tmps.size=a0.tmps.size
structure RunOk (P:Program) (md:Region.Mode) (Q:Exit→Act→World→Prop) (S:World→Prop):Prop where
 size:L0.size=ops.size
 back:∀ j o,ops[j]?=some o→L0.getD j true=false→∀ e ∈ o.after,e.on < j
 dst:∀ j o,ops[j]?=some o→L0.getD j true=false→∃ d,o.dst=some d∧d < a0.tmps.size
 one:∀ j k o p d,ops[j]?=some o→ops[k]?=some p→L0.getD j true=false→L0.getD k true=false→o.dst=some d→p.dst=some d→j=k
 runs:∀ j o listed a w,ops[j]?=some o→L0.getD j true=false→RunAt ops L0 a0 V listed a→(∀ e ∈ o.after,Region.binds md e=true→listed.getD e.on false=true)→S w →
  ∀ K:Act→World→Prop,(∀ w',S w'→K (a.put o.dst (V j)) w')→wpOp P ops Q j K a w
end
theorem yoy {ops:Array Oper} {L0 listed:Array Bool} {a0 a:Act} {V:Nat→Value} {md:Region.Mode} (back:∀ j o,ops[j]?=some o→L0.getD j true=false→∀ e ∈ o.after,e.on < j) (hd:RunAt ops L0 a0 V listed a) (hr:Region.ready md ops listed=[]):∀ j,j < ops.size→listed.getD j true=true:=by
 intro j
 induction j using Nat.strongRecOn with
 | _ j ih =>
  intro hj
  apply Classical.byContradiction
  intro hn
  have hn':listed.getD j true=false:=by simpa using hn
  have h0:L0.getD j true=false:=by
   cases e:L0.getD j true
   ·rfl
   ·rw [hd.more j e] at hn';cases hn'
  obtain ⟨o,ho⟩:∃ o,ops[j]?=some o:=⟨ops[j],Array.getElem?_eq_getElem hj⟩
  have hin:j ∈ Region.ready md ops listed:=by
   unfold Region.ready
   rw [List.mem_filter]
   refine ⟨List.mem_range.2 hj, ?_⟩
   rw [hn',ho]
   simp only [Bool.not_false,Bool.true_and,Option.map_some,Option.getD_some,Array.all_eq_true_iff_forall_mem]
   intro e he
   have hlt:=back j o ho h0 e he
   have hl:=ih e.on hlt (by omega)
   have hs:=hd.size
   have:listed.getD e.on false=true:=by
    simp only [Array.getD,show e.on < listed.size by omega,dif_pos] at hl ⊢
    exact hl
   rw [this];simp
  rw [hr] at hin
  cases hin
theorem yaT {P:Program} {Q:Exit→Act→World→Prop} {a:Act} {w:World} {id:Nat} {ops:Array Oper} (ops':Array Oper) {b:Bool} (e:ops=ops') (h:(Code.region id ops' b).wp P Q a w):(Code.region id ops b).wp P Q a w:=by
 rw [e];exact h
theorem ydG {P:Program} {ops:Array Oper} {Q:Exit→Act→World→Prop} {S:World→Prop} {j:Nat} {o:Oper} {v:Value} {a:Act} {w:World} {K:Act→World→Prop} (hj:ops[j]?=some o) (hy:YieldsIf P ops S o v a) (hS:S w) (hK:∀ w',S w'→K (a.put o.dst v) w'):wpOp P ops Q j K a w :=
 hy.wpOp hj hS (hK w hS)
theorem yiJ {P:Program} {ops:Array Oper} {Q:Exit→Act→World→Prop} {S:World→Prop} {j:Nat} {o:Oper} {v:Value} {a:Act} {w:World} {K:Act→World→Prop} (f:FuncId) (args:Array Value) (hj:ops[j]?=some o) (hw:Region.wanted o (yielded ops a.tmps)=true)
  (he:(execOp a.eval o).run P w=.ok (.enter f args) w) (hc:Calls P f args w fun e w'=>e=.returned v∧S w') (hK:∀ w',S w'→K (a.put o.dst v) w'):wpOp P ops Q j K a w:=by
 unfold wpOp
 rw [hj]
 simp only [hw,if_true]
 left
 unfold Oper.wp
 rw [he,Oper.upon_enter]
 refine hc.mono ?_
 rintro e w' ⟨rfl,hS⟩
 exact hK w' hS
theorem RunAt.slot {ops:Array Oper} {L0 listed:Array Bool} {a0 a:Act} {V:Nat→Value} {md:Region.Mode} {o:Oper} (hd:RunAt ops L0 a0 V listed a) (hl:∀ e ∈ o.after,Region.binds md e=true→listed.getD e.on false=true) (k s:Nat)
  (hk:o.after.any (fun e=>Region.binds md e&&e.on == k)=true) (h0:L0.getD k true=false) (hs:((ops[k]?).bind (·.dst))=some s):a.tmps[s]?=some (V k):=by
 obtain ⟨e,he,hb⟩:=Array.any_eq_true'.1 hk
 rw [Bool.and_eq_true,beq_iff_eq] at hb
 have h1:=hl e he hb.1
 rw [hb.2] at h1
 cases hp:ops[k]? with
 | none=>rw [hp] at hs;cases hs
 | some p =>
  rw [hp] at hs
  exact hd.new k p s hp h0 (yhH h1) hs
theorem RunAt.base {ops:Array Oper} {L0 listed:Array Bool} {a0 a:Act} {V:Nat→Value} (hd:RunAt ops L0 a0 V listed a) (s:Nat) (h:yjF ops L0 s=true):a.tmps[s]?=a0.tmps[s]?:=by
 refine hd.old s fun j o hj h0=>?_
 have hlt:=(ltS hj)
 have:=List.all_eq_true.1 h j (List.mem_range.2 hlt)
 rw [h0,hj] at this
 simpa using this
def yas (id:Nat):Code→Option (Array Oper)
 | .region i ops _=>if i=id then some ops else none
 | .seq a b=>(yas id a).or (yas id b)
 | .cond _ a b=>(yas id a).or (yas id b)
 | .block _ a=>yas id a
 | .loop a=>yas id a
 | .scope a=>yas id a
 | _=>none
section
variable {P:Program} {ρ:Operand→Value} {o:Oper} {W:World}
theorem yac {x:Operand} (ho:o.op=.move x) {v:Value} (hx:ρ x=v):(execOp ρ o).run P W=.ok (.value v) W:=by simp [execOp,ho,hx]
theorem yaA {x:Operand} (ho:o.op=.assign x) {v:Value} (hx:ρ x=v):(execOp ρ o).run P W=.ok (.value v) W:=by simp [execOp,ho,hx]
theorem ykH {c x y:Operand} (ho:o.op=.pick c x y) {b:Bool} (hc:ρ c=.bool b):(execOp ρ o).run P W=.ok (.value (if b=true then ρ x else ρ y)) W:=by simp [execOp,ho,hc,asBool]
theorem yaf {t:TypeId} {x:Operand} (ho:o.op=.load t x) {p v:Value} (hx:ρ x=p) (hr:(Instr.loadAt t p).run P W=.ok v W):(execOp ρ o).run P W=.ok (.value v) W:=by simp [execOp,ho,hx,hr]
theorem yaq {op:BinOp} {t u:TypeId} {x y:Operand} (ho:o.op=.binOp op t x y u) {p q v:Value} (hx:ρ x=p) (hy:ρ y=q) (hr:(do eqGuard op t x y p q;binOp op t p q:Sem Value).run P W=.ok v W):(execOp ρ o).run P W=.ok (.value v) W:=by
 have e:execOp ρ o=(do pure (.value (← (do eqGuard op t x y p q;binOp op t p q:Sem Value)))):=by simp only [execOp,ho,hx,hy]
 rw [e,Sem.run_bind,hr];rfl
theorem yhr {op:UnOp} {t:TypeId} {x:Operand} (ho:o.op=.unOp op t x) {p v:Value} (hx:ρ x=p) (hr:(Op.unary op p).run P W=.ok v W):(execOp ρ o).run P W=.ok (.value v) W:=by simp [execOp,ho,hx,hr]
end
theorem ld9 (W:World) (b o:Nat) (s:ByteArray) (h:W.cell? ⟨b,o,none⟩=some (.string s)):(Instr.loadAt 9 (.pointer (some ⟨b,o,none⟩))).run Tryz.prog W=.ok (.string s) W:=by go_simp
theorem ld3 (W:World) (b o:Nat) (n:Int) (h:W.cell? ⟨b,o,none⟩=some (.int .i64 n)):(Instr.loadAt 3 (.pointer (some ⟨b,o,none⟩))).run Tryz.prog W=.ok (.int .i64 n) W:=by go_simp
theorem ld4 (W:World) (b o:Nat) (n:Bool) (h:W.cell? ⟨b,o,none⟩=some (.bool n)):(Instr.loadAt 4 (.pointer (some ⟨b,o,none⟩))).run Tryz.prog W=.ok (.bool n) W:=by go_simp
theorem yqt (W:World) (b o:Nat) (v:Value) (h:W.cell? ⟨b,o,none⟩=some v):(Instr.loadAt 22 (.pointer (some ⟨b,o,none⟩))).run Tryz.prog W=.ok v W:=by go_simp
theorem yra (W:World) (b o:Nat) (v:Value) (h:W.cell? ⟨b,o,none⟩=some v):(Instr.loadAt 25 (.pointer (some ⟨b,o,none⟩))).run Tryz.prog W=.ok v W:=by go_simp
theorem yrb (W:World) (b o:Nat) (v:Value) (h:W.cell? ⟨b,o,none⟩=some v):(Instr.loadAt 26 (.pointer (some ⟨b,o,none⟩))).run Tryz.prog W=.ok v W:=by go_simp
theorem yoa (W:World) (b o:Nat) (x y z:Value) (h:W.cell? ⟨b,o,none⟩=some x) (h1:W.cell? ⟨b,o+1,none⟩=some y) (h2:W.cell? ⟨b,o+2,none⟩=some z):(Instr.loadAt 24 (.pointer (some ⟨b,o,none⟩))).run Tryz.prog W=.ok (.agg #[x,y,z]) W:=by go_simp
section
variable {P:Program} {ρ:Operand→Value} {o:Oper} {W:World}
theorem yad {t:TypeId} {x:Operand} {f:Nat} (ho:o.op=.fieldAddr t x f) {p v:Value} (hx:ρ x=p) (hr:(Instr.fieldAt t p f).run P W=.ok v W):(execOp ρ o).run P W=.ok (.value v) W:=by simp [execOp,ho,hx,hr]
theorem yaP {f:FuncId} (hf:∀ args W,(callFunc f args).run P W=.ok (.enter f args) W) {x:Operand} {ts:Array TypeId} (ho:o.op=.call { callee:=.value (.func f),args:=#[x],argTypes:=ts }) {p:Value} (hρ:ρ (.func f)=.func (.func f) #[] #[]) (hx:ρ x=p):(execOp ρ o).run P W=.ok (.enter f #[p]) W:=by
 simp [execOp,ho,resolve,hρ,hx,invoke,go_sem,hf]
theorem ybp {f:FuncId} (hf:∀ args W,(callFunc f args).run P W=.ok (.enter f args) W) {x y:Operand} {ts:Array TypeId} (ho:o.op=.call { callee:=.value (.func f),args:=#[x,y],argTypes:=ts }) {p q:Value} (hρ:ρ (.func f)=.func (.func f) #[] #[]) (hx:ρ x=p) (hy:ρ y=q):(execOp ρ o).run P W=.ok (.enter f #[p,q]) W:=by
 simp [execOp,ho,resolve,hρ,hx,hy,invoke,go_sem,hf]
theorem yea {f:FuncId} (hf:∀ args W,(callFunc f args).run P W=.ok (.enter f args) W) {t x y z:Operand} {ts:Array TypeId} (ho:o.op=.call { callee:=.value t,args:=#[x,y,z],argTypes:=ts }) {p q r n:Value} (ht:ρ t=.func (.func f) #[] #[n]) (hx:ρ x=p) (hy:ρ y=q) (hz:ρ z=r):(execOp ρ o).run P W=.ok (.enter f #[p,q,r,n]) W:=by
 simp [execOp,ho,resolve,ht,hx,hy,hz,invoke,go_sem,hf]
theorem ycz {x:Operand} {ts:Array TypeId} (ho:o.op=.call { callee:=.builtin .len,args:=#[x],argTypes:=ts }) {a:Option Addr} {n c:Nat} (hl:∀ ty,(Builtin.len_ ts ty #[.slice a n c]).run P W=.ok (.int .i64 (n:Int)) W) (hx:ρ x=.slice a n c):(execOp ρ o).run P W=.ok (.value (.int .i64 (n:Int))) W:=by
 simp [execOp,ho,resolve,hx,invoke,go_sem,hl]
end
theorem ybI {a:Act} {s:Nat} {v:Value} (h:a.tmps[s]?=some v):a.eval (.tmp s)=v:=by simp [Act.eval,h]
theorem ydp {o:Oper} {y:Nat→Option Bool} (h:o.guard=none):Region.wanted o y=true:=by simp [Region.wanted,h]
theorem fa1 (W:World) (b:Nat):(Instr.fieldAt 31 (.pointer (some ⟨b,0,none⟩)) 1).run Tryz.prog W=.ok (.pointer (some ⟨b,1,none⟩)) W:=by go_simp
theorem fa2 (W:World) (b:Nat):(Instr.fieldAt 31 (.pointer (some ⟨b,0,none⟩)) 2).run Tryz.prog W=.ok (.pointer (some ⟨b,2,none⟩)) W:=by go_simp
theorem fa3 (W:World) (b:Nat):(Instr.fieldAt 31 (.pointer (some ⟨b,0,none⟩)) 3).run Tryz.prog W=.ok (.pointer (some ⟨b,3,none⟩)) W:=by go_simp
theorem fa4 (W:World) (b:Nat):(Instr.fieldAt 31 (.pointer (some ⟨b,0,none⟩)) 4).run Tryz.prog W=.ok (.pointer (some ⟨b,4,none⟩)) W:=by go_simp
theorem fa5 (W:World) (b:Nat):(Instr.fieldAt 31 (.pointer (some ⟨b,0,none⟩)) 5).run Tryz.prog W=.ok (.pointer (some ⟨b,5,none⟩)) W:=by go_simp
theorem fa6 (W:World) (b:Nat):(Instr.fieldAt 31 (.pointer (some ⟨b,0,none⟩)) 6).run Tryz.prog W=.ok (.pointer (some ⟨b,6,none⟩)) W:=by go_simp
theorem fa7 (W:World) (b:Nat):(Instr.fieldAt 31 (.pointer (some ⟨b,0,none⟩)) 7).run Tryz.prog W=.ok (.pointer (some ⟨b,9,none⟩)) W:=by go_simp
theorem fa8 (W:World) (b:Nat):(Instr.fieldAt 31 (.pointer (some ⟨b,0,none⟩)) 8).run Tryz.prog W=.ok (.pointer (some ⟨b,10,none⟩)) W:=by go_simp
theorem fa9 (W:World) (b:Nat):(Instr.fieldAt 31 (.pointer (some ⟨b,0,none⟩)) 9).run Tryz.prog W=.ok (.pointer (some ⟨b,11,none⟩)) W:=by go_simp
theorem yq8 (W:World) (b:Nat):(Instr.fieldAt 31 (.pointer (some ⟨b,0,none⟩)) 10).run Tryz.prog W=.ok (.pointer (some ⟨b,17,none⟩)) W:=by go_simp
theorem ypN (W:World) (b:Nat):(Instr.fieldAt 31 (.pointer (some ⟨b,0,none⟩)) 11).run Tryz.prog W=.ok (.pointer (some ⟨b,18,none⟩)) W:=by go_simp
theorem ypa (W:World) (b:Nat):(Instr.fieldAt 31 (.pointer (some ⟨b,0,none⟩)) 12).run Tryz.prog W=.ok (.pointer (some ⟨b,24,none⟩)) W:=by go_simp
theorem ypO (W:World) (b:Nat):(Instr.fieldAt 31 (.pointer (some ⟨b,0,none⟩)) 13).run Tryz.prog W=.ok (.pointer (some ⟨b,25,none⟩)) W:=by go_simp
theorem ygD (W:World) (b o:Nat) (x0 x1 x2 x3 x4 x5:Value) (h:W.cell? ⟨b,o,none⟩=some x0) (h1:W.cell? ⟨b,o+1,none⟩=some x1) (h2:W.cell? ⟨b,o+2,none⟩=some x2) (h3:W.cell? ⟨b,o+3,none⟩=some x3) (h4:W.cell? ⟨b,o+4,none⟩=some x4) (h5:W.cell? ⟨b,o+5,none⟩=some x5):(Instr.loadAt 29 (.pointer (some ⟨b,o,none⟩))).run Tryz.prog W=.ok (.agg #[x0,x1,x2,x3,x4,x5]) W:=by go_simp
theorem eq9 (W:World) (x y:Operand) (l:List UInt8):(do eqGuard .eql 9 x y (.string ⟨l.toArray⟩) (.string ⟨#[]⟩);binOp .eql 9 (.string ⟨l.toArray⟩) (.string ⟨#[]⟩):Sem Value).run Tryz.prog W=.ok (.bool (decide (l=[]))) W:=by
 have e:l.isEmpty=decide (l=[]):=by cases l <;> simp
 rw [← e]
 go_simp
theorem yuZ (W:World) (x y:Operand) (v:Vl):(do eqGuard .eql 24 x y (.agg #[.int .i64 v.k,.int .i64 v.n,.string ⟨v.s.toArray⟩]) (.agg #[.int .i64 0,.int .i64 0,.string ⟨#[]⟩]);binOp .eql 24 (.agg #[.int .i64 v.k,.int .i64 v.n,.string ⟨v.s.toArray⟩]) (.agg #[.int .i64 0,.int .i64 0,.string ⟨#[]⟩]):Sem Value).run Tryz.prog W=.ok (.bool (ybu v)) W:=by
 unfold ybu
 go_simp
 by_cases h1:v.k=0 <;> by_cases h2:v.n=0 <;> by_cases h3:v.s=[] <;> simp [h1,h2,h3]
theorem yu1 (W:World) (x y:Operand) (n:Int):(do eqGuard .geq 3 x y (.int .i64 n) (.int .i64 (-1));binOp .geq 3 (.int .i64 n) (.int .i64 (-1)):Sem Value).run Tryz.prog W=.ok (.bool (decide (-1≤n))) W:=by go_simp
theorem yqB (W:World) (b:Bool):(Op.unary .not (.bool b)).run Tryz.prog W=.ok (.bool (!b)) W:=by go_simp
theorem ydU {ρ:Operand→Value} {o:Oper} {W:World} (ho:o.op=.build 24 #[]):(execOp ρ o).run Tryz.prog W=.ok (.value (.agg #[.int .i64 0,.int .i64 0,.string ⟨#[]⟩])) W:=by
 simp only [execOp,ho]
 go_simp
theorem yke (args:Array Value) (W:World):(callFunc 71 args).run Tryz.prog W=.ok (.enter 71 args) W:=by go_simp
theorem ys4 (args:Array Value) (W:World):(callFunc 72 args).run Tryz.prog W=.ok (.enter 72 args) W:=by go_simp
theorem yuK (args:Array Value) (W:World):(callFunc 73 args).run Tryz.prog W=.ok (.enter 73 args) W:=by go_simp
theorem yuL (args:Array Value) (W:World):(callFunc 74 args).run Tryz.prog W=.ok (.enter 74 args) W:=by go_simp
theorem yuM (args:Array Value) (W:World):(callFunc 75 args).run Tryz.prog W=.ok (.enter 75 args) W:=by go_simp
theorem yuN (args:Array Value) (W:World):(callFunc 76 args).run Tryz.prog W=.ok (.enter 76 args) W:=by go_simp
theorem yuO (args:Array Value) (W:World):(callFunc 77 args).run Tryz.prog W=.ok (.enter 77 args) W:=by go_simp
theorem yuP (args:Array Value) (W:World):(callFunc 78 args).run Tryz.prog W=.ok (.enter 78 args) W:=by go_simp
theorem yuB (args:Array Value) (W:World):(callFunc 79 args).run Tryz.prog W=.ok (.enter 79 args) W:=by go_simp
theorem yuQ (args:Array Value) (W:World):(callFunc 80 args).run Tryz.prog W=.ok (.enter 80 args) W:=by go_simp
theorem yoc (W:World) (a:Option Addr) (n c:Nat) (ty:TypeId):(Builtin.len_ #[22] ty #[.slice a n c]).run Tryz.prog W=.ok (.int .i64 (n:Int)) W:=by go_simp
theorem yod (W:World) (a:Option Addr) (n c:Nat) (ty:TypeId):(Builtin.len_ #[25] ty #[.slice a n c]).run Tryz.prog W=.ok (.int .i64 (n:Int)) W:=by go_simp
theorem yoe (W:World) (a:Option Addr) (n c:Nat) (ty:TypeId):(Builtin.len_ #[26] ty #[.slice a n c]).run Tryz.prog W=.ok (.int .i64 (n:Int)) W:=by go_simp
theorem yml {P:Program} {md:Region.Mode} {ops:Array Oper} {Q:Exit→Act→World→Prop} {S:World→Prop} {L0:Array Bool} {a0:Act} {V:Nat→Value} (hk:RunOk ops L0 a0 V P md Q S)
  (hq:∀ listed a' w',S w'→RunAt ops L0 a0 V listed a'→(∀ j,j < ops.size→listed.getD j true=true)→Q .normal a' w') :
  ∀ (fuel:Nat) (listed:Array Bool) (a:Act) (w:World),RunAt ops L0 a0 V listed a→S w→left ops listed≤fuel→wpAnyH P md ops Q S fuel listed a w:=by
 have fin:∀ listed a w,RunAt ops L0 a0 V listed a→S w→Region.ready md ops listed=[]→Q .normal a w:=by
  intro listed a w hd hS hr
  exact hq listed a w hS hd (yoy hk.back hd hr)
 intro fuel
 induction fuel with
 | zero =>
  intro listed a w hd hS hl
  have hr:Region.ready md ops listed=[]:=by
   cases hh:Region.ready md ops listed with
   | nil=>rfl
   | cons i r =>
    exfalso
    have hi:i ∈ Region.ready md ops listed:=by rw [hh];simp
    unfold Region.ready at hi
    rw [List.mem_filter] at hi
    have hu:(!listed.getD i true)=true:=by
     have:=hi.2
     rw [Bool.and_eq_true] at this
     exact this.1
    have:0 < left ops listed:=List.countP_pos_iff.2 ⟨i,hi.1,hu⟩
    omega
  exact ⟨hr,fin listed a w hd hS hr⟩
 | succ fuel ih =>
  intro listed a w hd hS hl
  refine ⟨fin listed a w hd hS,fun i hi=>?_⟩
  unfold Region.ready at hi
  rw [List.mem_filter,Bool.and_eq_true] at hi
  obtain ⟨hir,hu,hall⟩:=hi
  have hisz:=List.mem_range.1 hir
  have hu':listed.getD i true=false:=by simpa using hu
  have h0:L0.getD i true=false:=by
   cases e:L0.getD i true
   ·rfl
   ·rw [hd.more i e] at hu';cases hu'
  obtain ⟨o,ho⟩:∃ o,ops[i]?=some o:=⟨ops[i],Array.getElem?_eq_getElem hisz⟩
  rw [ho] at hall
  simp only [Option.map_some,Option.getD_some,Array.all_eq_true_iff_forall_mem] at hall
  refine hk.runs i o listed a w ho h0 hd (fun e he hb=>by
   have:=hall e he
   rw [hb] at this
   simpa using this) hS _ (fun w' hS'=>⟨hS',ih _ _ _ ?_ hS' ?_⟩)
  ·obtain ⟨d,hdst,hlt⟩:=hk.dst i o ho h0
   have hput:a.put o.dst (V i)={ a with tmps:=a.tmps.setIfInBounds d (V i) }:=by rw [hdst];rfl
   have hget:∀ j,(listed.setIfInBounds i true).getD j true=if j=i then true else listed.getD j true:=by
    intro j
    by_cases e:j=i
    ·subst e;rw [if_pos rfl];simp [Array.getD]
    ·rw [if_neg e]
     by_cases hj:j < listed.size
     ·simp [Array.getD,hj,Ne.symm e]
     ·simp [Array.getD,hj]
   rw [hput]
   refine ⟨by simpa using hd.size,hd.defers, ?_, ?_, ?_,by simpa using hd.frame⟩
   ·intro j hj
    rw [hget]
    by_cases e:j=i
    ·rw [if_pos e]
    ·rw [if_neg e];exact hd.more j hj
   ·intro j p d' hj hj0 hl hpd
    rw [hget] at hl
    by_cases e:j=i
    ·subst e
     rw [ho] at hj;cases hj
     rw [hdst] at hpd;cases hpd
     rw [Array.getElem?_setIfInBounds_self,if_pos (by rw [hd.frame];exact hlt)]
    ·rw [if_neg e] at hl
     have hne:d≠d':=by
      intro e2
      subst e2
      exact e (hk.one j i p o d hj ho hj0 h0 hpd hdst)
     rw [Array.getElem?_setIfInBounds_ne hne]
     exact hd.new j p d' hj hj0 hl hpd
   ·intro d' hd'
    have hne:d≠d':=by
     intro e2
     subst e2
     exact hd' i o ho h0 hdst
    rw [Array.getElem?_setIfInBounds_ne hne]
    exact hd.old d' hd'
  ·have hc:=yfh (fun j=>!listed.getD j true) i (by simpa using hu') (List.range ops.size) hir
   have e:left ops (listed.setIfInBounds i true)=(List.range ops.size).countP (fun j=>!listed.getD j true&&j != i):=by
    unfold left
    apply List.countP_congr
    intro j hj
    have hj':=List.mem_range.1 hj
    have hsz:=hd.size
    by_cases e:j=i
    ·subst e;simp [Array.getD,hsz,hj']
    ·simp [Array.getD,hsz,hj',Ne.symm e,e]
   unfold left at hl
   omega
def gw (p:Bool) (v:Value):Value:=if p=true then v else undef
theorem yng {p:Bool} {v:Value} (h:p=true):gw p v=v:=by rw [gw,if_pos h]
theorem ypR {p:Bool} {v:Value} (h:p=false):gw p v=undef:=by rw [gw,h];rfl
theorem yg9 {o:Oper} {ops:Array Oper} {tm:Array Value} {g d:Nat} {b G c:Bool} (h:o.guard=some (g,b)) (hd:(ops[g]?).bind (·.dst)=some d) (ht:tm[d]?=some (gw G (.bool c))):Region.wanted o (yielded ops tm)=(G&&(c == b)):=by
 cases G with
 | true =>
  rw [yng rfl] at ht
  simp only [Region.wanted,h,yielded,hd,Option.bind_some,ht]
  cases c <;> cases b <;> rfl
 | false =>
  rw [ypR rfl] at ht
  simp only [Region.wanted,h,yielded,hd,Option.bind_some,ht,undef]
  cases b <;> rfl
theorem yoo {G c x:Bool} (h:G=true):(if c=true then gw (G&&(c == true)) (.bool x) else .bool false)=(.bool (c&&x):Value):=by
 subst h;cases c <;> cases x <;> rfl
theorem yqN {G c x:Bool} (h:G=true):(if c=true then (.bool true:Value) else gw (G&&(c == false)) (.bool x))=.bool (c || x):=by
 subst h;cases c <;> cases x <;> rfl
def ObR (P:Program) (R:Array Oper) (n:Nat) (a0:Act) (V:Nat→Value) (Q:Exit→Act→World→Prop) (S:World→Prop) (j:Nat):Prop :=
 ∀ o listed a W,R[j]?=some o→RunAt R (Array.replicate n false) a0 V listed a→(∀ e ∈ o.after,Region.binds .any e=true→listed.getD e.on false=true)→S W →
  ∀ K:Act→World→Prop,(∀ w',S w'→K (a.put o.dst (V j)) w')→wpOp P R Q j K a W
theorem ymN {p:Nat→Prop} {n:Nat} (h:∀ j,j < n→p j) (hn:p n):∀ j,j < n+1→p j:=fun j hj=>by
 by_cases e:j=n
 ·exact e ▸ hn
 ·exact h j (by omega)
def ypu (ops:Array Oper) (n:Nat):Bool:=(List.range ops.size).all fun j=>match ops[j]? with
 | some o=>o.after.all (fun e=>decide (e.on < j))&&(match o.dst with|some d=>decide (d < n)|none=>false)
 | none=>true
theorem yeN {P:Program} {R:Array Oper} {n m:Nat} {dls:List (Option Tmp)} {a0:Act} {V:Nat→Value} {Q:Exit→Act→World→Prop} {S:World→Prop} (hsz:R.size=n) (hb:ypu R m=true) (hdl:R.toList.map (·.dst)=dls) (hnd:dls.Nodup) (ha:a0.tmps.size=m)
  (hob:∀ j,j < n→ObR P R n a0 V Q S j):RunOk R (Array.replicate n false) a0 V P .any Q S:=by
 have each:∀ (j:Nat) (o:Oper),R[j]?=some o→o.after.all (fun e=>decide (e.on < j))=true∧(match o.dst with|some d=>decide (d < m)|none=>false)=true:=by
  intro j o hj
  have hlt:=(ltS hj)
  have:=List.all_eq_true.1 hb j (List.mem_range.2 hlt)
  rw [hj] at this
  simpa only [Bool.and_eq_true] using this
 refine ⟨by rw [hsz];simp, ?_, ?_, ?_, ?_⟩
 ·intro j o hj _ e he
  have:=Array.all_eq_true_iff_forall_mem.1 (each j o hj).1 e he
  simpa using this
 ·intro j o hj _
  have:=(each j o hj).2
  cases hd:o.dst with
  | none=>rw [hd] at this;cases this
  | some d=>rw [hd] at this;exact ⟨d,rfl,by rw [ha];simpa using this⟩
 ·intro j k o p d hj hk _ _ hod hpd
  have at':∀ (i:Nat) (q:Oper),R[i]?=some q→dls[i]?=some q.dst:=by
   intro i q hq
   rw [← hdl,List.getElem?_map,Array.getElem?_toList,hq];rfl
  have e1:=at' j o hj
  have e2:=at' k p hk
  rw [hod] at e1
  rw [hpd] at e2
  exact (List.getElem?_inj (List.getElem?_eq_some_iff.1 e1).1 hnd).1 (e1.trans e2.symm)
 ·intro j o listed a W hj _ hd hl hS K hK
  have hlt:=(ltS hj)
  rw [hsz] at hlt
  exact hob j hlt o listed a W hj hd hl hS K hK
def ydW (T:List Value):List (Option Tmp×Value)→List Value
 | []=>T
 | (some d,v)::r=>ydW (T.set d v) r
 | (none,_)::r=>ydW T r
theorem yh3:∀ (ps:List (Option Tmp×Value)) (T:List Value),(ydW T ps).length=T.length:=by
 intro ps
 induction ps with
 | nil=>intro T;rfl
 | cons p r ih =>
  obtain ⟨d,v⟩:=p
  intro T
  cases d with
  | none=>exact ih T
  | some d=>rw [ydW,ih];simp
theorem yeh:∀ (ps:List (Option Tmp×Value)) (T:List Value) (d:Nat),(∀ p ∈ ps,p.1≠some d)→(ydW T ps)[d]?=T[d]?:=by
 intro ps
 induction ps with
 | nil=>intro T d _;rfl
 | cons p r ih =>
  obtain ⟨e,v⟩:=p
  intro T d h
  cases e with
  | none=>exact ih T d fun q hq=>h q (List.mem_cons_of_mem _ hq)
  | some e =>
   rw [ydW,ih _ d fun q hq=>h q (List.mem_cons_of_mem _ hq)]
   have:e≠d:=fun h2=>h (some e,v) List.mem_cons_self (by rw [h2])
   rw [List.getElem?_set_ne this]
theorem yiB:∀ (ps:List (Option Tmp×Value)) (T:List Value) (d:Nat) (v:Value),(ps.map (·.1)).Nodup→(some d,v) ∈ ps→d < T.length→(ydW T ps)[d]?=some v:=by
 intro ps
 induction ps with
 | nil=>intro T d v _ h;cases h
 | cons p r ih =>
  obtain ⟨e,u⟩:=p
  intro T d v hn hm hd
  rw [List.map_cons,List.nodup_cons] at hn
  rcases List.mem_cons.1 hm with h|h
  ·cases h
   rw [ydW,yeh]
   ·rw [List.getElem?_set_self hd]
   ·intro q hq hq2
    exact hn.1 (List.mem_map.2 ⟨q,hq,hq2⟩)
  ·cases e with
   | none=>exact ih T d v hn.2 h hd
   | some e=>rw [ydW];exact ih _ d v hn.2 h (by simpa using hd)
theorem ygQ {R:Array Oper} {n:Nat} {dls:List (Option Tmp)} {a0 a':Act} {V:Nat→Value} {listed:Array Bool} (hsz:R.size=n) (hdl:R.toList.map (·.dst)=dls) (hnd:dls.Nodup) (hlt:∀ d,some d ∈ dls→d < a0.tmps.size)
  (hd:RunAt R (Array.replicate n false) a0 V listed a') (hall:∀ j,j < R.size→listed.getD j true=true):a'={ tmps:=(ydW a0.tmps.toList (dls.zip ((List.range n).map V))).toArray,defers:=a0.defers }:=by
 have hdn:dls.length=n:=by rw [← hdl];simp [hsz]
 have hfst:(dls.zip ((List.range n).map V)).map (·.1)=dls:=by
  rw [List.map_fst_zip];simp [hdn]
 have h0:∀ j,j < n→(Array.replicate n false).getD j true=false:=by intro j hj;simp [Array.getD,hj]
 have ht:a'.tmps=(ydW a0.tmps.toList (dls.zip ((List.range n).map V))).toArray:=by
  apply Array.ext_getElem?
  intro i
  suffices h:a'.tmps[i]?=(ydW a0.tmps.toList (dls.zip ((List.range n).map V)))[i]? by rw [h];simp
  by_cases hi:some i ∈ dls
  ·obtain ⟨j,hj⟩:=List.getElem?_of_mem hi
   have hjn:j < n:=by have:=(List.getElem?_eq_some_iff.1 hj).1;omega
   have hjo:∃ o,R[j]?=some o:=⟨R[j],Array.getElem?_eq_getElem (by omega)⟩
   obtain ⟨o,ho⟩:=hjo
   have hod:o.dst=some i:=by
    have:dls[j]?=some o.dst:=by rw [← hdl,List.getElem?_map,Array.getElem?_toList,ho];rfl
    rw [hj] at this
    exact (Option.some.inj this).symm
   rw [hd.new j o i ho (h0 j hjn) (hall j (by omega)) hod]
   refine (yiB _ _ i (V j) (by rw [hfst];exact hnd) ?_ (by simpa using hlt i hi)).symm
   refine List.mem_of_getElem? (i:=j) ?_
   rw [List.getElem?_zip_eq_some]
   exact ⟨hj,by simp [hjn]⟩
  ·rw [hd.old i (fun j o hj _ hod=>hi ?_),yeh]
   ·rw [Array.getElem?_toList]
   ·intro p hp hpi
    exact hi (hfst ▸ List.mem_map.2 ⟨p,hp,hpi⟩)
   ·have:dls[j]?=some o.dst:=by rw [← hdl,List.getElem?_map,Array.getElem?_toList,hj];rfl
    rw [hod] at this
    exact List.mem_of_getElem? this
 cases a'
 simp only [Act.mk.injEq]
 exact ⟨ht,hd.defers⟩
theorem yd9 {P:Program} {R:Array Oper} {n m:Nat} {dls:List (Option Tmp)} {a0:Act} {V:Nat→Value} {Q:Exit→Act→World→Prop} {S:World→Prop} {id:Nat} {w:World} (hm:P.follows .mixedOrders=true) (hsz:R.size=n) (hb:ypu R m=true) (hdl:R.toList.map (·.dst)=dls) (hnd:dls.Nodup) (ha:a0.tmps.size=m)
  (hob:∀ j,j < n→ObR P R n a0 V Q S j) (hS:S w.drew)
  (hq:∀ w',S w'→Q .normal { tmps:=(ydW a0.tmps.toList (dls.zip ((List.range n).map V))).toArray,defers:=a0.defers } w'):(Code.region id R true).wp P Q a0 w:=by
 have hlt:∀ d,some d ∈ dls→d < a0.tmps.size:=by
  intro d hd
  obtain ⟨j,hj⟩:=List.getElem?_of_mem hd
  have hk:=yeN hsz hb hdl hnd ha hob
  have hjn:j < R.size:=by have:=(List.getElem?_eq_some_iff.1 hj).1;rw [← hdl] at this;simpa using this
  have ho:R[j]?=some R[j]:=Array.getElem?_eq_getElem hjn
  obtain ⟨d',h1,h2⟩:=hk.dst j _ ho (by simp [Array.getD];omega)
  have:dls[j]?=some (R[j]).dst:=by rw [← hdl,List.getElem?_map,Array.getElem?_toList,ho];rfl
  rw [hj,h1] at this
  cases this
  exact h2
 refine wp_region_held_drew (S:=S) hm hS (fun hHeld=>?_)
 rw [hsz]
 refine yml (V:=V) (yeN hsz hb hdl hnd ha hob) ?_ _ _ _ _ ⟨by rw [hsz];simp,rfl,fun _ h=>h,fun j o d _ h1 h2 _=>(by rw [h1] at h2;cases h2),fun _ _=>rfl,rfl⟩ hHeld ?_
 ·intro listed a' w' hS' hd hall
  rw [ygQ hsz hdl hnd hlt hd hall]
  exact hq w' hS'
 ·unfold left
  rw [hsz]
  exact Nat.le_trans List.countP_le_length (by simp)
theorem yio {T:List Value} {dls:List (Option Tmp)} {n:Nat} {V:Nat→Value} (hnd:dls.Nodup) (hl:dls.length=n) (j d:Nat) (hj:dls[j]?=some (some d)) (hd:d < T.length):(ydW T (dls.zip ((List.range n).map V)))[d]?=some (V j):=by
 have hfst:(dls.zip ((List.range n).map V)).map (·.1)=dls:=by
  rw [List.map_fst_zip];simp [hl]
 have hjn:j < n:=by have:=(List.getElem?_eq_some_iff.1 hj).1;omega
 refine yiB _ _ d (V j) (by rw [hfst];exact hnd) ?_ hd
 refine List.mem_of_getElem? (i:=j) ?_
 rw [List.getElem?_zip_eq_some]
 exact ⟨hj,by simp [hjn]⟩
theorem ybv {P:Program} {fn:Func} {R:Ending→World→Prop} {T:List Value} {dls:List (Option Tmp)} {n:Nat} {V:Nat→Value} {w:World} {s:Nat} (j:Nat) (hres:fn.results=#[.tmp s]) (hnd:dls.Nodup) (hl:dls.length=n) (hj:dls[j]?=some (some s)) (hs:s < T.length) (h:R (.returned (V j)) w) :
  bodyPost P fn R .ret { tmps:=(ydW T (dls.zip ((List.range n).map V))).toArray,defers:=[] } w:=by
 refine bodyPost_ret (results_tmp hres _ _ _) rfl ?_
 have e:(ydW T (dls.zip ((List.range n).map V))).toArray.getD s undef=V j:=by
  rw [Array.getD_eq_getD_getElem?]
  have:=yio (T:=T) (V:=V) hnd hl j s hj hs
  simp only [List.getElem?_toArray,this,Option.getD_some]
 show R (.returned ((ydW T (dls.zip ((List.range n).map V))).toArray.getD s undef)) w
 rw [e];exact h
theorem yee (W:World) (x y:Operand) (n m:Int):(do eqGuard .eql 3 x y (.int .i64 n) (.int .i64 m);binOp .eql 3 (.int .i64 n) (.int .i64 m):Sem Value).run Tryz.prog W=.ok (.bool (decide (n=m))) W:=by
 have e:(n == m)=decide (n=m):=by rw [Bool.eq_iff_iff];simp
 rw [← e]
 go_simp
theorem yso (W:World) (x y:Operand) (n m:Int):(do eqGuard .leq 3 x y (.int .i64 n) (.int .i64 m);binOp .leq 3 (.int .i64 n) (.int .i64 m):Sem Value).run Tryz.prog W=.ok (.bool (decide (n≤m))) W:=by go_simp
theorem ycG {P:Program} {ρ:Operand→Value} {o:Oper} {W:World} {f:FuncId} (hf:∀ args W,(callFunc f args).run P W=.ok (.enter f args) W) {x y z:Operand} {ts:Array TypeId} (ho:o.op=.call { callee:=.value (.func f),args:=#[x,y,z],argTypes:=ts }) {p q r:Value} (hρ:ρ (.func f)=.func (.func f) #[] #[]) (hx:ρ x=p) (hy:ρ y=q) (hz:ρ z=r):(execOp ρ o).run P W=.ok (.enter f #[p,q,r]) W:=by
 simp [execOp,ho,resolve,hρ,hx,hy,hz,invoke,go_sem,hf]
theorem yub (W:World) (a:Option Addr) (n c:Nat) (ty:TypeId):(Builtin.len_ #[27] ty #[.slice a n c]).run Tryz.prog W=.ok (.int .i64 (n:Int)) W:=by go_simp
theorem fx0 (W:World) (b:Nat):(Instr.fieldAt 29 (.pointer (some ⟨b,0,none⟩)) 0).run Tryz.prog W=.ok (.pointer (some ⟨b,0,none⟩)) W:=by go_simp
theorem fx1 (W:World) (b:Nat):(Instr.fieldAt 29 (.pointer (some ⟨b,0,none⟩)) 1).run Tryz.prog W=.ok (.pointer (some ⟨b,1,none⟩)) W:=by go_simp
theorem fx2 (W:World) (b:Nat):(Instr.fieldAt 29 (.pointer (some ⟨b,0,none⟩)) 2).run Tryz.prog W=.ok (.pointer (some ⟨b,4,none⟩)) W:=by go_simp
theorem fx3 (W:World) (b:Nat):(Instr.fieldAt 29 (.pointer (some ⟨b,0,none⟩)) 3).run Tryz.prog W=.ok (.pointer (some ⟨b,5,none⟩)) W:=by go_simp
theorem yua (W:World) (b o:Nat) (v:Value) (h:W.cell? ⟨b,o,none⟩=some v):(Instr.loadAt 27 (.pointer (some ⟨b,o,none⟩))).run Tryz.prog W=.ok v W:=by go_simp
theorem ytd (args:Array Value) (W:World):(callFunc 25 args).run Tryz.prog W=.ok (.enter 25 args) W:=by go_simp
theorem ypw (args:Array Value) (W:World):(callFunc 31 args).run Tryz.prog W=.ok (.enter 31 args) W:=by go_simp
theorem yte (args:Array Value) (W:World):(callFunc 32 args).run Tryz.prog W=.ok (.enter 32 args) W:=by go_simp
theorem ytc (args:Array Value) (W:World):(callFunc 130 args).run Tryz.prog W=.ok (.enter 130 args) W:=by go_simp
def yd6 (R:Array Oper) (j d:Nat):Bool:=(List.range j).all fun i=>match R[i]? with|some o=>o.dst != some d|none=>true
def ObP (P:Program) (R:Array Oper) (n:Nat) (a0:Act) (V:Nat→Value) (Q:Exit→Act→World→Prop) (S:World→Prop) (j:Nat):Prop :=
 ∀ o listed a W,R[j]?=some o→RunAt R (Array.replicate n false) a0 V listed a→(∀ i,i < j→listed.getD i true=true)→(∀ d,yd6 R j d=true→a.tmps[d]?=a0.tmps[d]?)→S W →
  ∀ K:Act→World→Prop,(∀ w',S w'→K (a.put o.dst (V j)) w')→wpOp P R Q j K a W
theorem yul {R:Array Oper} {n:Nat} {a0 a:Act} {V:Nat→Value} {listed:Array Bool} {j:Nat} (hd:RunAt R (Array.replicate n false) a0 V listed a) (hl:∀ i,i < j→listed.getD i true=true) (k s:Nat)
  (hk:k < j) (h0:(Array.replicate n false).getD k true=false) (hs:((R[k]?).bind (·.dst))=some s):a.tmps[s]?=some (V k):=by
 cases hp:R[k]? with
 | none=>rw [hp] at hs;cases hs
 | some p =>
  rw [hp] at hs
  exact hd.new k p s hp h0 (hl k hk) hs
theorem yiM (listed:Array Bool) (i j:Nat):(listed.setIfInBounds i true).getD j true=if j=i then true else listed.getD j true:=by
 by_cases e:j=i
 ·subst e;rw [if_pos rfl];simp [Array.getD]
 ·rw [if_neg e]
  by_cases hj:j < listed.size
  ·simp [Array.getD,hj,Ne.symm e]
  ·simp [Array.getD,hj]
theorem ymh {R:Array Oper} {L0 listed:Array Bool} {a0 a:Act} {V:Nat→Value} {i d:Nat} {o:Oper} (hd:RunAt R L0 a0 V listed a) (ho:R[i]?=some o) (h0:L0.getD i true=false) (hdst:o.dst=some d) (hlt:d < a0.tmps.size)
  (one:∀ j p,R[j]?=some p→L0.getD j true=false→p.dst=some d→j=i):RunAt R L0 a0 V (listed.setIfInBounds i true) (a.put o.dst (V i)):=by
 have hput:a.put o.dst (V i)={ a with tmps:=a.tmps.setIfInBounds d (V i) }:=by rw [hdst];rfl
 have hget:=yiM listed i
 rw [hput]
 refine ⟨by simpa using hd.size,hd.defers, ?_, ?_, ?_,by simpa using hd.frame⟩
 ·intro j hj
  rw [hget]
  by_cases e:j=i
  ·rw [if_pos e]
  ·rw [if_neg e];exact hd.more j hj
 ·intro j p d' hj hj0 hl hpd
  rw [hget] at hl
  by_cases e:j=i
  ·subst e
   rw [ho] at hj;cases hj
   rw [hdst] at hpd;cases hpd
   rw [Array.getElem?_setIfInBounds_self,if_pos (by rw [hd.frame];exact hlt)]
  ·rw [if_neg e] at hl
   have hne:d≠d':=by
    intro e2
    subst e2
    exact e (one j p hj hj0 hpd)
   rw [Array.getElem?_setIfInBounds_ne hne]
   exact hd.new j p d' hj hj0 hl hpd
 ·intro d' hd'
  have hne:d≠d':=by
   intro e2
   subst e2
   exact hd' i o ho h0 hdst
  rw [Array.getElem?_setIfInBounds_ne hne]
  exact hd.old d' hd'
theorem yaG {P:Program} {R:Array Oper} {n m:Nat} {dls:List (Option Tmp)} {a0:Act} {V:Nat→Value} {Q:Exit→Act→World→Prop} {S:World→Prop} {id:Nat} {w:World} (hsz:R.size=n) (hdl:R.toList.map (·.dst)=dls) (hnd:dls.Nodup)
  (hin:dls.all (fun d=>match d with|some d=>decide (d < m)|none=>false)=true) (ha:a0.tmps.size=m) (hob:∀ j,j < n→ObP P R n a0 V Q S j) (hS:S w)
  (hq:∀ a' w',S w'→a'.defers=a0.defers→a'.tmps.size=m→(∀ j d,dls[j]?=some (some d)→a'.tmps[d]?=some (V j))→(∀ d,some d ∉ dls→a'.tmps[d]?=a0.tmps[d]?)→Q .normal a' w'):(Code.region id R false).wp P Q a0 w:=by
 have at':∀ (i:Nat) (q:Oper),R[i]?=some q→dls[i]?=some q.dst:=by
  intro i q hq
  rw [← hdl,List.getElem?_map,Array.getElem?_toList,hq];rfl
 have h0:∀ j,j < n→(Array.replicate n false).getD j true=false:=by intro j hj;simp [Array.getD,hj]
 have go:∀ k,k≤n→∀ listed a W,RunAt R (Array.replicate n false) a0 V listed a→(∀ i,i < n - k→listed.getD i true=true)→(∀ d,yd6 R (n - k) d=true→a.tmps[d]?=a0.tmps[d]?)→S W→wpOps P R Q (List.range' (n - k) k) a W:=by
  intro k
  induction k with
  | zero =>
   intro _ listed a W hd hl _ hW
   refine hq a W hW hd.defers (hd.frame.trans ha) ?_ ?_
   ·intro j d hj
    have hjn:j < n:=by have:=(List.getElem?_eq_some_iff.1 hj).1;rw [← hdl] at this;simp [hsz] at this;exact this
    obtain ⟨o,ho⟩:∃ o,R[j]?=some o:=⟨R[j]'(by omega),Array.getElem?_eq_getElem (by omega)⟩
    have e1:=at' j o ho
    rw [hj] at e1
    exact hd.new j o d ho (h0 j hjn) (hl j (by omega)) (Option.some.inj e1).symm
   ·intro d hd'
    refine hd.old d fun j o hj _ hod=>hd' ?_
    have e1:=at' j o hj
    rw [hod] at e1
    exact List.mem_of_getElem? e1
  | succ k ih =>
   intro hk listed a W hd hl hb hW
   have hjn:n - (k+1) < n:=by omega
   obtain ⟨o,ho⟩:∃ o,R[n - (k+1)]?=some o:=⟨R[n - (k+1)]'(by omega),Array.getElem?_eq_getElem (by omega)⟩
   rw [List.range'_succ,wpOps_cons]
   have e1:=at' _ o ho
   obtain ⟨d,hdst,hlt⟩:∃ d,o.dst=some d∧d < m:=by
    have:=List.all_eq_true.1 hin _ (List.mem_of_getElem? e1)
    cases hod:o.dst with
    | none=>rw [hod] at this;cases this
    | some d=>rw [hod] at this;exact ⟨d,rfl,by simpa using this⟩
   refine hob _ hjn o listed a W ho hd hl hb hW _ fun w' hw'=>?_
   have e2:n - (k+1)+1=n - k:=by omega
   rw [e2]
   refine ih (by omega) _ _ w' (ymh hd ho (h0 _ hjn) hdst (by rw [ha];exact hlt) ?_) ?_ ?_ hw'
   ·intro j p hj _ hpd
    have e3:=at' j p hj
    rw [hpd] at e3
    rw [hdst] at e1
    exact (List.getElem?_inj (List.getElem?_eq_some_iff.1 e3).1 hnd).1 (e3.trans e1.symm)
   ·intro i hi
    rw [yiM]
    by_cases e:i=n - (k+1)
    ·rw [if_pos e]
    ·rw [if_neg e];exact hl i (by omega)
   ·intro d' hd'
    unfold yd6 at hd'
    rw [← e2,List.range_succ,List.all_append,Bool.and_eq_true] at hd'
    have h5:d≠d':=by
     intro e5
     have:=hd'.2
     rw [List.all_cons,Bool.and_eq_true,ho] at this
     simp [hdst,e5] at this
    have hput:(a.put o.dst (V (n - (k+1)))).tmps=a.tmps.setIfInBounds d (V (n - (k+1))):=by rw [hdst];rfl
    rw [hput,Array.getElem?_setIfInBounds_ne h5]
    exact hb d' hd'.1
 refine wp_region ?_
 rw [hsz,List.range_eq_range']
 have:=go n (Nat.le_refl n) (Array.replicate n false) a0 w ⟨by simp [hsz],rfl,fun _ h=>h,fun j o d hj h1 h2 _=>(by rw [h1] at h2;cases h2),fun _ _=>rfl,rfl⟩ (fun i hi=>by omega) (fun _ _=>rfl) hS
 rw [Nat.sub_self] at this
 exact this
theorem ycm {P:Program} {ρ:Operand→Value} {o:Oper} {W:World} {t:TypeId} {x y:Operand} (ho:o.op=.indexAddr t x y) {p q v:Value} (hx:ρ x=p) (hy:ρ y=q) (hr:(Instr.indexAt t p q).run P W=.ok v W):(execOp ρ o).run P W=.ok (.value v) W:=by simp [execOp,ho,hx,hy,hr]
theorem yhu (W:World) (x y:Operand) (n m:Int):(do eqGuard .gtr 3 x y (.int .i64 n) (.int .i64 m);binOp .gtr 3 (.int .i64 n) (.int .i64 m):Sem Value).run Tryz.prog W=.ok (.bool (decide (m < n))) W:=by go_simp
theorem yqx (W:World) (x y:Operand) (n m:Int):(do eqGuard .lss 3 x y (.int .i64 n) (.int .i64 m);binOp .lss 3 (.int .i64 n) (.int .i64 m):Sem Value).run Tryz.prog W=.ok (.bool (decide (n < m))) W:=by go_simp
theorem ypK (W:World) (x y:Operand) (n m:Int):(do eqGuard .eql 32 x y (.int .i64 n) (.int .i64 m);binOp .eql 32 (.int .i64 n) (.int .i64 m):Sem Value).run Tryz.prog W=.ok (.bool (decide (n=m))) W:=by
 have e:(n == m)=decide (n=m):=by rw [Bool.eq_iff_iff];simp
 rw [← e]
 go_simp
theorem ytz (W:World) (x y:Operand) (n m:Bool):(do eqGuard .eql 4 x y (.bool n) (.bool m);binOp .eql 4 (.bool n) (.bool m):Sem Value).run Tryz.prog W=.ok (.bool (n == m)) W:=by go_simp
theorem yuD (W:World) (g o n c i:Nat) (h:i < n):(Instr.indexAt 22 (.slice (some ⟨g,o,none⟩) n c) (.int .i64 (i:Int))).run Tryz.prog W=.ok (.pointer (some ⟨g,o+i*2,none⟩)) W:=by
 have h':(i:Int) < (n:Int):=by omega
 go_simp
theorem yu2 (W:World) (g o n c i:Nat) (h:i < n):(Instr.indexAt 25 (.slice (some ⟨g,o,none⟩) n c) (.int .i64 (i:Int))).run Tryz.prog W=.ok (.pointer (some ⟨g,o+i*3,none⟩)) W:=by
 have h':(i:Int) < (n:Int):=by omega
 go_simp
theorem ytC (W:World) (g o n c i:Nat) (h:i < n):(Instr.indexAt 26 (.slice (some ⟨g,o,none⟩) n c) (.int .i64 (i:Int))).run Tryz.prog W=.ok (.pointer (some ⟨g,o+i,none⟩)) W:=by
 have h':(i:Int) < (n:Int):=by omega
 go_simp
theorem yuE (W:World) (g o n c i:Nat) (h:i < n):(Instr.indexAt 27 (.slice (some ⟨g,o,none⟩) n c) (.int .i64 (i:Int))).run Tryz.prog W=.ok (.pointer (some ⟨g,o+i*6,none⟩)) W:=by
 have h':(i:Int) < (n:Int):=by omega
 go_simp
theorem fc0 (W:World) (b o:Nat):(Instr.fieldAt 56 (.pointer (some ⟨b,o,none⟩)) 0).run Tryz.prog W=.ok (.pointer (some ⟨b,o,none⟩)) W:=by go_simp
theorem fc1 (W:World) (b o:Nat):(Instr.fieldAt 56 (.pointer (some ⟨b,o,none⟩)) 1).run Tryz.prog W=.ok (.pointer (some ⟨b,o+1,none⟩)) W:=by go_simp
theorem fa0 (W:World) (b:Nat):(Instr.fieldAt 31 (.pointer (some ⟨b,0,none⟩)) 0).run Tryz.prog W=.ok (.pointer (some ⟨b,0,none⟩)) W:=by go_simp
theorem ypj (W:World) (x y:Operand) (n:Nat) (h:n < 1000000000000001):(do eqGuard .add 3 x y (.int .i64 (n:Int)) (.int .i64 1);binOp .add 3 (.int .i64 (n:Int)) (.int .i64 1):Sem Value).run Tryz.prog W=.ok (.int .i64 ((n+1:Nat):Int)) W:=by
 have h1:((n+1:Nat):Int)=(n:Int)+1:=by omega
 rw [h1]
 have h2:(n:Int) < 1000000000000001:=by omega
 have h3:IntKind.i64.wrap ((n:Int)+1)=(n:Int)+1:=by rw [IntKind.wrap_i64];omega
 go_simp
theorem yuw (args:Array Value) (W:World):(callFunc 30 args).run Tryz.prog W=.ok (.enter 30 args) W:=by go_simp
theorem yux (args:Array Value) (W:World):(callFunc 33 args).run Tryz.prog W=.ok (.enter 33 args) W:=by go_simp
theorem ytf (args:Array Value) (W:World):(callFunc 34 args).run Tryz.prog W=.ok (.enter 34 args) W:=by go_simp
theorem yuy (args:Array Value) (W:World):(callFunc 35 args).run Tryz.prog W=.ok (.enter 35 args) W:=by go_simp
theorem yuz (args:Array Value) (W:World):(callFunc 36 args).run Tryz.prog W=.ok (.enter 36 args) W:=by go_simp
def oAt (R:Array Oper) (j:Nat):Oper:=(R[j]?).getD ⟨none,.move (.const undef),0, "",#[],none⟩
theorem yb3 {R:Array Oper} {j n:Nat} (hz:R.size=n) (hj:j < n):R[j]?=some (oAt R j):=by
 rw [oAt,Array.getElem?_eq_getElem (by omega:j < R.size)];rfl
def slO (R:Array Oper) (D:Nat→Bool) (k t:Nat):Bool:=D k&&((R[k]?).bind (·.dst) == some t)
theorem ydg {R:Array Oper} {D:Nat→Bool} {k t:Nat} (h:slO R D k t=true):D k=true∧((R[k]?).bind (·.dst))=some t:=by
 rw [slO,Bool.and_eq_true] at h
 exact ⟨h.1,by simpa using h.2⟩
def gdO (R:Array Oper) (o:Oper) (D:Nat→Bool) (g:Nat) (b:Bool) (d:Nat):Bool:=(o.guard == some (g,b))&&slO R D g d
theorem ycN {R:Array Oper} {o:Oper} {D:Nat→Bool} {g d:Nat} {b:Bool} (h:gdO R o D g b d=true):o.guard=some (g,b)∧slO R D g d=true:=by
 rw [gdO,Bool.and_eq_true] at h
 exact ⟨by simpa using h.1,h.2⟩
theorem us {p:Nat→Prop} {n:Nat} (h:∀ j,j < n→p j) (hn:p n):∀ j,j < n+1→p j:=ymN h hn
structure Sl (R:Array Oper) (a0:Act) (V:Nat→Value) (D N:Nat→Bool) (a:Act):Prop where
 at':∀ k s,D k=true→((R[k]?).bind (·.dst))=some s→a.tmps[s]?=some (V k)
 base:∀ d,N d=true→a.tmps[d]?=a0.tmps[d]?
def yo6 (j:Nat) (k:Nat):Bool:=decide (k < j)
def yo7 (o:Oper) (n:Nat) (k:Nat):Bool:=decide (k < n)&&o.after.any (fun e=>Region.binds .any e&&e.on == k)
def yq7 (P:Program) (R:Array Oper) (a0:Act) (V:Nat→Value) (Q:Exit→Act→World→Prop) (S:World→Prop) (j:Nat) (o:Oper) (D N:Nat→Bool):Prop :=
 ∀ a W,Sl R a0 V D N a→S W→∀ K:Act→World→Prop,(∀ w',S w'→K (a.put o.dst (V j)) w')→wpOp P R Q j K a W
section
variable {P:Program} {R:Array Oper} {a0 a:Act} {V:Nat→Value} {Q:Exit→Act→World→Prop} {S:World→Prop} {j n:Nat} {o:Oper} {D N:Nat→Bool}
theorem obP (eo:R[j]?=some o) (hj:j < n) (h:yq7 P R a0 V Q S j o (yo6 j) (yd6 R j)):ObP P R n a0 V Q S j:=by
 intro o' listed a W ho hd hl hb hS K hK
 obtain rfl:o'=o:=Option.some.inj (ho.symm.trans eo)
 refine h a W ⟨fun k s hk hs=>?_,hb⟩ hS K hK
 have hk':k < j:=by simpa [yo6] using hk
 exact yul hd hl k s hk' (by simp [Array.getD];omega) hs
theorem obR (eo:R[j]?=some o) (h:yq7 P R a0 V Q S j o (yo7 o n) (yjF R (Array.replicate n false))):ObR P R n a0 V Q S j:=by
 intro o' listed a W ho hd hl hS K hK
 obtain rfl:o'=o:=Option.some.inj (ho.symm.trans eo)
 refine h a W ⟨fun k s hk hs=>?_,fun d hn=>hd.base d hn⟩ hS K hK
 rw [yo7,Bool.and_eq_true] at hk
 have hk':k < n:=by simpa using hk.1
 exact hd.slot hl k s hk.2 (by simp [Array.getD];omega) hs
theorem Sl.u (s:Sl R a0 V D N a) (k t:Nat) (h:slO R D k t=true):a.eval (.tmp t)=V k:=ybI (s.at' k t (ydg h).1 (ydg h).2)
theorem Sl.g (s:Sl R a0 V D N a) (k t:Nat) {G:Bool} {v:Value} (h:slO R D k t=true) (hG:G=true) (hV:V k=gw G v):a.eval (.tmp t)=v:=by
 rw [s.u k t h,hV,yng hG]
theorem Sl.b (s:Sl R a0 V D N a) (t:Nat) {v:Value} (h:N t=true) (hv:a0.tmps[t]?=some v):a.eval (.tmp t)=v:=ybI ((s.base t h).trans hv)
theorem yrl (eo:R[j]?=some o) (hg:o.guard=none) (h:∀ a W,Sl R a0 V D N a→S W→(execOp a.eval o).run P W=.ok (.value (V j)) W):yq7 P R a0 V Q S j o D N :=
 fun a _ s hS _ hK=>ydG eo (Or.inl ⟨ydp hg,fun W' hW'=>h a W' s hW'⟩) hS hK
theorem yri {f:FuncId} {args:Array Value} (eo:R[j]?=some o) (hg:o.guard=none) (h:∀ a W,Sl R a0 V D N a→(execOp a.eval o).run P W=.ok (.enter f args) W) (hc:∀ W,S W→Calls P f args W fun e w'=>e=.returned (V j)∧S w'):yq7 P R a0 V Q S j o D N :=
 fun a W s hS _ hK=>yiJ f args eo (ydp hg) (h a W s) (hc W hS) hK
theorem yrj {g d:Nat} {b G0 x:Bool} {v:Value} (eo:R[j]?=some o) (hg:o.guard=some (g,b)) (hd:((R[g]?).bind (·.dst))=some d) (hD:D g=true) (hV0:V g=gw G0 (.bool x)) (hV:V j=gw (G0&&(x == b)) v)
  (h:(G0&&(x == b))=true→∀ a W,Sl R a0 V D N a→S W→(execOp a.eval o).run P W=.ok (.value v) W):yq7 P R a0 V Q S j o D N:=by
 intro a W s hS K hK
 have hw:=yg9 hg hd ((s.at' g d hD hd).trans (congrArg some hV0))
 cases hG:(G0&&(x == b)) with
 | false=>rw [hG] at hw;exact ydG eo (Or.inr ⟨hw,by rw [hV];exact ypR hG⟩) hS hK
 | true =>
  rw [hG] at hw
  rw [hV,yng hG] at hK
  exact ydG eo (Or.inl ⟨hw,fun W' hW'=>h hG a W' s hW'⟩) hS hK
theorem yrk {g d:Nat} {b G0 x:Bool} {v:Value} {f:FuncId} {args:Array Value} (eo:R[j]?=some o) (hg:o.guard=some (g,b)) (hd:((R[g]?).bind (·.dst))=some d) (hD:D g=true) (hV0:V g=gw G0 (.bool x)) (hV:V j=gw (G0&&(x == b)) v)
  (h:(G0&&(x == b))=true→∀ a W,Sl R a0 V D N a→(execOp a.eval o).run P W=.ok (.enter f args) W) (hc:∀ W,S W→Calls P f args W fun e w'=>e=.returned v∧S w'):yq7 P R a0 V Q S j o D N:=by
 intro a W s hS K hK
 have hw:=yg9 hg hd ((s.at' g d hD hd).trans (congrArg some hV0))
 cases hG:(G0&&(x == b)) with
 | false=>rw [hG] at hw;exact ydG eo (Or.inr ⟨hw,by rw [hV];exact ypR hG⟩) hS hK
 | true =>
  rw [hG] at hw
  rw [hV,yng hG] at hK
  exact yiJ f args eo hw (h hG a W s) (hc W hS) hK
theorem yav {ρ:Operand→Value} {W:World} {c x:Tmp} {G C X:Bool} (ho:o.op=.pick (.tmp c) (.tmp x) (.const (.bool false))) (hc:ρ (.tmp c)=.bool C) (hx:ρ (.tmp x)=gw (G&&(C == true)) (.bool X)) (hk:ρ (.const (.bool false))=.bool false) (hG:G=true):(execOp ρ o).run P W=.ok (.value (.bool (C&&X))) W:=by
 rw [ykH ho hc,hx,hk,yoo hG]
theorem yaS {ρ:Operand→Value} {W:World} {c y:Tmp} {G C X:Bool} (ho:o.op=.pick (.tmp c) (.const (.bool true)) (.tmp y)) (hc:ρ (.tmp c)=.bool C) (hy:ρ (.tmp y)=gw (G&&(C == false)) (.bool X)) (hk:ρ (.const (.bool true))=.bool true) (hG:G=true):(execOp ρ o).run P W=.ok (.value (.bool (C || X))) W:=by
 rw [ykH ho hc,hy,hk,yqN hG]
end
section
variable {P:Program} {R:Array Oper} {a0:Act} {V:Nat→Value} {Q:Exit→Act→World→Prop} {S:World→Prop} {j n:Nat}
theorem yaO (hz:R.size=n) (hj:j < n) (hg:(oAt R j).guard=none) (h:∀ a W,Sl R a0 V (yo6 j) (yd6 R j) a→S W→(execOp a.eval (oAt R j)).run P W=.ok (.value (V j)) W):ObP P R n a0 V Q S j:=obP (yb3 hz hj) hj (yrl (yb3 hz hj) hg h)
theorem yvl {f:FuncId} {args:Array Value} (hz:R.size=n) (hj:j < n) (hg:(oAt R j).guard=none) (h:∀ a W,Sl R a0 V (yo6 j) (yd6 R j) a→(execOp a.eval (oAt R j)).run P W=.ok (.enter f args) W) (hc:∀ W,S W→Calls P f args W fun e w'=>e=.returned (V j)∧S w'):ObP P R n a0 V Q S j:=obP (yb3 hz hj) hj (yri (yb3 hz hj) hg h hc)
theorem yaH (G0:Bool) {x:Bool} {v:Value} (g d:Nat) (b:Bool) (hz:R.size=n) (hj:j < n) (hg:gdO R (oAt R j) (yo6 j) g b d=true) (hV0:V g=gw G0 (.bool x)) (hV:V j=gw (G0&&(x == b)) v)
  (h:(G0&&(x == b))=true→∀ a W,Sl R a0 V (yo6 j) (yd6 R j) a→S W→(execOp a.eval (oAt R j)).run P W=.ok (.value v) W):ObP P R n a0 V Q S j:=obP (yb3 hz hj) hj (yrj (yb3 hz hj) (ycN hg).1 (ydg (ycN hg).2).2 (ydg (ycN hg).2).1 hV0 hV h)
theorem yfV (G0:Bool) {x:Bool} {v:Value} {f:FuncId} {args:Array Value} (g d:Nat) (b:Bool) (hz:R.size=n) (hj:j < n) (hg:gdO R (oAt R j) (yo6 j) g b d=true) (hV0:V g=gw G0 (.bool x)) (hV:V j=gw (G0&&(x == b)) v)
  (h:(G0&&(x == b))=true→∀ a W,Sl R a0 V (yo6 j) (yd6 R j) a→(execOp a.eval (oAt R j)).run P W=.ok (.enter f args) W) (hc:∀ W,S W→Calls P f args W fun e w'=>e=.returned v∧S w'):ObP P R n a0 V Q S j:=obP (yb3 hz hj) hj (yrk (yb3 hz hj) (ycN hg).1 (ydg (ycN hg).2).2 (ydg (ycN hg).2).1 hV0 hV h hc)
theorem ya1 (hz:R.size=n) (hj:j < n) (hg:(oAt R j).guard=none) (h:∀ a W,Sl R a0 V (yo7 (oAt R j) n) (yjF R (Array.replicate n false)) a→S W→(execOp a.eval (oAt R j)).run P W=.ok (.value (V j)) W):ObR P R n a0 V Q S j:=obR (yb3 hz hj) (yrl (yb3 hz hj) hg h)
theorem yol {f:FuncId} {args:Array Value} (hz:R.size=n) (hj:j < n) (hg:(oAt R j).guard=none) (h:∀ a W,Sl R a0 V (yo7 (oAt R j) n) (yjF R (Array.replicate n false)) a→(execOp a.eval (oAt R j)).run P W=.ok (.enter f args) W) (hc:∀ W,S W→Calls P f args W fun e w'=>e=.returned (V j)∧S w'):ObR P R n a0 V Q S j:=obR (yb3 hz hj) (yri (yb3 hz hj) hg h hc)
theorem yaM (G0:Bool) {x:Bool} {v:Value} (g d:Nat) (b:Bool) (hz:R.size=n) (hj:j < n) (hg:gdO R (oAt R j) (yo7 (oAt R j) n) g b d=true) (hV0:V g=gw G0 (.bool x)) (hV:V j=gw (G0&&(x == b)) v)
  (h:(G0&&(x == b))=true→∀ a W,Sl R a0 V (yo7 (oAt R j) n) (yjF R (Array.replicate n false)) a→S W→(execOp a.eval (oAt R j)).run P W=.ok (.value v) W):ObR P R n a0 V Q S j:=obR (yb3 hz hj) (yrj (yb3 hz hj) (ycN hg).1 (ydg (ycN hg).2).2 (ydg (ycN hg).2).1 hV0 hV h)
theorem yc9 (G0:Bool) {x:Bool} {v:Value} {f:FuncId} {args:Array Value} (g d:Nat) (b:Bool) (hz:R.size=n) (hj:j < n) (hg:gdO R (oAt R j) (yo7 (oAt R j) n) g b d=true) (hV0:V g=gw G0 (.bool x)) (hV:V j=gw (G0&&(x == b)) v)
  (h:(G0&&(x == b))=true→∀ a W,Sl R a0 V (yo7 (oAt R j) n) (yjF R (Array.replicate n false)) a→(execOp a.eval (oAt R j)).run P W=.ok (.enter f args) W) (hc:∀ W,S W→Calls P f args W fun e w'=>e=.returned v∧S w'):ObR P R n a0 V Q S j:=obR (yb3 hz hj) (yrk (yb3 hz hj) (ycN hg).1 (ydg (ycN hg).2).2 (ydg (ycN hg).2).1 hV0 hV h hc)
end
def eqV (x y:Vl):Bool:=decide (x.k=y.k)&&decide (x.n=y.n)&&decide (x.s=y.s)
theorem ybx (x y:Vl):eqV x y=true↔x=y:=by
 obtain ⟨k,n,s⟩:=x
 obtain ⟨k',n',s'⟩:=y
 simp [eqV,and_assoc]
theorem yb7 (x y:Vl) (w:World):Calls Tryz.prog 25 #[.agg #[.int .i64 x.k,.int .i64 x.n,.string ⟨x.s.toArray⟩],.agg #[.int .i64 y.k,.int .i64 y.n,.string ⟨y.s.toArray⟩]] w fun e w'=>e=.returned (.bool (eqV x y))∧Below w.heap.size w w':=by
 obtain ⟨k,n,s⟩:=x
 obtain ⟨k',n',s'⟩:=y
 simp only [eqV]
 by_cases h1:k=k'
 ·subst h1
  by_cases h2:n=n'
  ·subst h2
   go_enter Tryz.func25,Tryz.ntmps25
   go_wp2
   go_ret
   refine ⟨yaw ?_,((Below.refl _ _).alloc (Nat.le_refl _) _).alloc (by simp) _⟩
   simp
   rw [Bool.eq_iff_iff];simp
  ·have h2':(n == n')=false:=by simpa using h2
   go_enter Tryz.func25,Tryz.ntmps25
   go_wp2
   go_ret
   exact ⟨yaw (by simp [h2]),((Below.refl _ _).alloc (Nat.le_refl _) _).alloc (by simp) _⟩
 ·have h1':(k == k')=false:=by simpa using h1
  go_enter Tryz.func25,Tryz.ntmps25
  go_wp2
  go_ret
  exact ⟨yaw (by simp [h1]),((Below.refl _ _).alloc (Nat.le_refl _) _).alloc (by simp) _⟩
theorem yt9 {w W W':World} {g o g' o':Nat} {x y z x' y' z':Value} (hg:g < w.heap.size) (hg':g' < w.heap.size)
  (h:W.cell? ⟨g,o,none⟩=some x∧W.cell? ⟨g,o+1,none⟩=some y∧W.cell? ⟨g,o+2,none⟩=some z∧W.cell? ⟨g',o',none⟩=some x'∧W.cell? ⟨g',o'+1,none⟩=some y'∧W.cell? ⟨g',o'+2,none⟩=some z'∧Below w.heap.size w W) (hb:Below W.heap.size W W') :
  W'.cell? ⟨g,o,none⟩=some x∧W'.cell? ⟨g,o+1,none⟩=some y∧W'.cell? ⟨g,o+2,none⟩=some z∧W'.cell? ⟨g',o',none⟩=some x'∧W'.cell? ⟨g',o'+1,none⟩=some y'∧W'.cell? ⟨g',o'+2,none⟩=some z'∧Below w.heap.size w W':=by
 obtain ⟨h1,h2,h3,h4,h5,h6,h7⟩:=h
 have s:=h7.size
 exact ⟨(hb.cell (p:=⟨g,_,none⟩) (by show g < _;omega)).trans h1,(hb.cell (p:=⟨g,_,none⟩) (by show g < _;omega)).trans h2,(hb.cell (p:=⟨g,_,none⟩) (by show g < _;omega)).trans h3,(hb.cell (p:=⟨g',_,none⟩) (by show g' < _;omega)).trans h4,(hb.cell (p:=⟨g',_,none⟩) (by show g' < _;omega)).trans h5,(hb.cell (p:=⟨g',_,none⟩) (by show g' < _;omega)).trans h6,h7.trans (hb.mono s)⟩
theorem yf4 {w:World} {b off:Nat} {L:List Vl} (hc:∀ j x,(L.flatMap vlC)[j]?=some x→w.cell? ⟨b,off+j,none⟩=some x) (k:Nat) (x:Vl) (hx:L[k]?=some x) :
  w.cell? ⟨b,off+k*3,none⟩=some (.int .i64 x.k)∧w.cell? ⟨b,off+k*3+1,none⟩=some (.int .i64 x.n)∧w.cell? ⟨b,off+k*3+2,none⟩=some (.string ⟨x.s.toArray⟩):=by
 have g0:=ybj vlC 3 (fun _=>rfl) L k x hx 0 (by decide)
 have g1:=ybj vlC 3 (fun _=>rfl) L k x hx 1 (by decide)
 have g2:=ybj vlC 3 (fun _=>rfl) L k x hx 2 (by decide)
 exact ⟨hc _ _ g0,hc _ _ g1,hc _ _ g2⟩
theorem yjT (L M:List Vl) (u v:Value) (w:World) (h:RowAt 0 w u L.length (L.flatMap vlC)) (h':RowAt 0 w v M.length (M.flatMap vlC)) (hL:L.length≤1000000000000000) :
  Calls Tryz.prog 27 #[u,v] w fun e w'=>(∃ b,e=.returned (.bool b)∧(b=true↔L=M))∧Below w.heap.size w w':=by
 obtain ⟨ao,cap,hu⟩:=h.form
 obtain ⟨ao',cap',hv⟩:=h'.form
 by_cases hn:L.length=M.length
 ·have H3:Hid (∀ k x y,L[k]?=some x→M[k]?=some y→∃ g o g' o',ao=some ⟨g,o,none⟩∧ao'=some ⟨g',o',none⟩∧g < w.heap.size∧g' < w.heap.size∧(w.cell? ⟨g,o+k*3,none⟩=some (.int .i64 x.k)∧w.cell? ⟨g,o+k*3+1,none⟩=some (.int .i64 x.n)∧w.cell? ⟨g,o+k*3+2,none⟩=some (.string ⟨x.s.toArray⟩))∧(w.cell? ⟨g',o'+k*3,none⟩=some (.int .i64 y.k)∧w.cell? ⟨g',o'+k*3+1,none⟩=some (.int .i64 y.n)∧w.cell? ⟨g',o'+k*3+2,none⟩=some (.string ⟨y.s.toArray⟩))):=by
   intro k x y hx hy
   rcases h with ⟨h0,-⟩|⟨b,off,cp,e,-,hlt,hc⟩
   ·exfalso;have:=(List.getElem?_eq_some_iff.1 hx).1;omega
   rcases h' with ⟨h0,-⟩|⟨b',off',cp',e',-,hlt',hc'⟩
   ·exfalso;have:=(List.getElem?_eq_some_iff.1 hy).1;omega
   rw [hu] at e
   rw [hv] at e'
   cases e
   cases e'
   exact ⟨b,off,b',off',rfl,rfl,hlt,hlt',yf4 hc k x hx,yf4 hc' k y hy⟩
  rw [hu,hv,← hn]
  have HN:=yaa hn
  clear h h' hu hv
  obtain ⟨n,hN⟩:∃ n,L.length=n:=⟨_,rfl⟩
  rw [hN] at hL ⊢
  go_enter Tryz.func27,Tryz.ntmps27
  go_wp2
  go_loopw [5] (fun i wl=>∃ k:Nat,k≤n∧i=.int .i64 k∧Below w.heap.size w wl∧Hid (∀ j,j < k→L[j]?=M[j]?)) (fun i _=>n - (intOf i).toNat)
  case atStart=>exact ⟨0,Nat.zero_le _,rfl,Below.refl _ _,fun j hj=>absurd hj (Nat.not_lt_zero _)⟩
  case round =>
   obtain ⟨k,hk,rfl,hnx,HA⟩:=hrel
   by_cases hlt:k < n
   ·obtain ⟨x,hx⟩:∃ x,L[k]?=some x:=⟨L[k],List.getElem?_eq_getElem (by omega)⟩
    obtain ⟨y,hy⟩:∃ y,M[k]?=some y:=⟨M[k]'(by have:=HN.out;omega),List.getElem?_eq_getElem (by have:=HN.out;omega)⟩
    obtain ⟨g,o,g',o',rfl,rfl,hg,hg',⟨a0,a1,a2⟩,d0,d1,d2⟩:=H3.out k x y hx hy
    have c0:=(hnx.cell (p:=⟨g,o+k*3,none⟩) hg).trans a0
    have c1:=(hnx.cell (p:=⟨g,o+k*3+1,none⟩) hg).trans a1
    have c2:=(hnx.cell (p:=⟨g,o+k*3+2,none⟩) hg).trans a2
    have f0:=(hnx.cell (p:=⟨g',o'+k*3,none⟩) hg').trans d0
    have f1:=(hnx.cell (p:=⟨g',o'+k*3+1,none⟩) hg').trans d1
    have f2:=(hnx.cell (p:=⟨g',o'+k*3+2,none⟩) hg').trans d2
    have hlt':(k:Int) < (n:Int):=by omega
    have HX:=yaa hx
    have HY:=yaa hy
    have HQ:=yaa (ybx x y)
    have hsv:=yb7 x y
    clear a0 a1 a2 d0 d1 d2 hx hy H3
    generalize eqV x y=q at hsv HQ
    go_wp2_with fail
    go_region_held3 (fun w'=>w'.cell? ⟨g,o+k*3,none⟩=some (.int .i64 x.k)∧w'.cell? ⟨g,o+k*3+1,none⟩=some (.int .i64 x.n)∧w'.cell? ⟨g,o+k*3+2,none⟩=some (.string ⟨x.s.toArray⟩)∧w'.cell? ⟨g',o'+k*3,none⟩=some (.int .i64 y.k)∧w'.cell? ⟨g',o'+k*3+1,none⟩=some (.int .i64 y.n)∧w'.cell? ⟨g',o'+k*3+2,none⟩=some (.string ⟨y.s.toArray⟩)∧Below w.heap.size w w') (first|exact ⟨c0,c1,c2,f0,f1,f2,hnx.drew⟩|exact yt9 hg hg' (by assumption) (by assumption)) (first|(go_at_call 25;refine (hsv _).mono ?_;rintro e w' ⟨rfl,hb⟩))
    rename_i hH
    have q8:=hH.2.2.2.2.2.2
    clear hH c0 c1 c2 f0 f1 f2 hsv
    cases q with
    | true =>
     go_wp2
     go_roundw
     case rel =>
      refine ⟨k+1,by omega,by go_num,q8,fun j hj=>?_⟩
      rcases Nat.lt_or_ge j k with hjk|hjk
      ·exact HA.out j hjk
      ·rw [show j=k by omega,HX.out,HY.out,HQ.out.1 rfl]
     case measure=>simp [intOf];omega
    | false =>
     go_wp2
     go_ret
     refine ⟨⟨false,rfl,⟨fun e=>Bool.noConfusion e,fun e=>?_⟩⟩,q8⟩
     have h1:=HX.out
     rw [e,HY.out] at h1
     cases h1
     exact HQ.out.2 rfl
   ·clear H3
    go_wp2
    go_ret
    refine ⟨⟨true,rfl,⟨fun _=>List.ext_getElem? fun j=>?_,fun _=>rfl⟩⟩,hnx⟩
    rcases Nat.lt_or_ge j k with hjk|hjk
    ·exact HA.out j hjk
    ·have:=HN.out
     rw [List.getElem?_eq_none (by omega),List.getElem?_eq_none (by omega)]
 ·have hn':((L.length:Int) == (M.length:Int))=false:=by rw [beq_eq_false_iff_ne];omega
  rw [hu,hv]
  have HN:=yaa hn
  clear h h' hu hv hn
  go_enter Tryz.func27,Tryz.ntmps27
  go_wp2
  go_ret
  exact ⟨⟨false,rfl,⟨fun e=>Bool.noConfusion e,fun e=>absurd (congrArg List.length e) HN.out⟩⟩,Below.refl _ _⟩
theorem ycJ {a b:List UInt8} (h:a≠b):((⟨a.toArray⟩:ByteArray).toList == (⟨b.toArray⟩:ByteArray).toList)=false:=by
 rw [Lib.toList_data,Lib.toList_data,beq_eq_false_iff_ne];simpa using h
theorem yoG (k k':Int) (x x':Vl) (nm nm':List UInt8) (ao ao':Option Addr) (n n' ca ca':Nat) (w:World) (hne:¬ (k=k'∧nm=nm'∧x=x'∧n=n')) :
  Calls Tryz.prog 26 #[exV k x nm (.slice ao n ca),exV k' x' nm' (.slice ao' n' ca')] w fun e w'=>e=.returned (.bool false)∧Below w.heap.size w w':=by
 have bb:∀ (o o':Obj),Below w.heap.size w ((w.alloc o).alloc o'):=fun o o'=>((Below.refl _ _).alloc (Nat.le_refl _) _).alloc (by simp) _
 have hsv:=yb7 x x'
 have HQ:=yaa (ybx x x')
 generalize eqV x x'=q at hsv HQ
 unfold exV
 by_cases h1:k=k'
 ·subst h1
  by_cases h2:nm=nm'
  ·subst h2
   cases q with
   | false =>
    go_enter Tryz.func26,Tryz.ntmps26
    go_wp2_with (go_at_call 25;refine (hsv _).mono ?_;rintro e w1 ⟨rfl,b1⟩)
    go_ret
    exact ⟨rfl,(bb _ _).trans (b1.mono (by simp;omega))⟩
   | true =>
    have h3:¬ n=n':=fun e=>hne ⟨rfl,rfl,HQ.out.1 rfl,e⟩
    have h3':((n:Int) == (n':Int))=false:=by rw [beq_eq_false_iff_ne];omega
    clear hne
    go_enter Tryz.func26,Tryz.ntmps26
    go_wp2_with fail
    refine (hsv _).mono ?_
    rintro e w1 ⟨rfl,b1⟩
    have c0:=b1.cell (p:=⟨w.heap.size,5,none⟩) (by simp;omega)
    have c1:=b1.cell (p:=⟨w.heap.size+1,5,none⟩) (by simp)
    simp at c0 c1
    go_wp2
    go_ret
    exact ⟨rfl,(bb _ _).trans (b1.mono (by simp;omega))⟩
  ·have h2':=ycJ h2
   clear hne
   go_enter Tryz.func26,Tryz.ntmps26
   go_wp2
   go_ret
   exact ⟨rfl,bb _ _⟩
 ·have h1':(k == k')=false:=by simpa using h1
  clear hne
  go_enter Tryz.func26,Tryz.ntmps26
  go_wp2
  go_ret
  exact ⟨rfl,bb _ _⟩
theorem ypi {w W W':World} {g o:Nat} {x0 x1 x2 x3 x4 x5:Value} (hg:g < w.heap.size) (hw:Below w.heap.size w W) (hb:Below W.heap.size W W')
  (h:W.cell? ⟨g,o,none⟩=some x0∧W.cell? ⟨g,o+1,none⟩=some x1∧W.cell? ⟨g,o+2,none⟩=some x2∧W.cell? ⟨g,o+3,none⟩=some x3∧W.cell? ⟨g,o+4,none⟩=some x4∧W.cell? ⟨g,o+5,none⟩=some x5) :
  W'.cell? ⟨g,o,none⟩=some x0∧W'.cell? ⟨g,o+1,none⟩=some x1∧W'.cell? ⟨g,o+2,none⟩=some x2∧W'.cell? ⟨g,o+3,none⟩=some x3∧W'.cell? ⟨g,o+4,none⟩=some x4∧W'.cell? ⟨g,o+5,none⟩=some x5:=by
 obtain ⟨h0,h1,h2,h3,h4,h5⟩:=h
 have s:=hw.size
 have up:∀ o,W'.cell? ⟨g,o,none⟩=W.cell? ⟨g,o,none⟩:=fun o=>hb.cell (p:=⟨g,o,none⟩) (by show g < _;omega)
 exact ⟨(up _).trans h0,(up _).trans h1,(up _).trans h2,(up _).trans h3,(up _).trans h4,(up _).trans h5⟩
theorem yt8 {w W W':World} {g o g' o':Nat} {x0 x1 x2 x3 x4 x5 y0 y1 y2 y3 y4 y5 a b:Value} (hg:g < w.heap.size) (hg':g' < w.heap.size)
  (h:(W.cell? ⟨g,o,none⟩=some x0∧W.cell? ⟨g,o+1,none⟩=some x1∧W.cell? ⟨g,o+2,none⟩=some x2∧W.cell? ⟨g,o+3,none⟩=some x3∧W.cell? ⟨g,o+4,none⟩=some x4∧W.cell? ⟨g,o+5,none⟩=some x5)∧(W.cell? ⟨g',o',none⟩=some y0∧W.cell? ⟨g',o'+1,none⟩=some y1∧W.cell? ⟨g',o'+2,none⟩=some y2∧W.cell? ⟨g',o'+3,none⟩=some y3∧W.cell? ⟨g',o'+4,none⟩=some y4∧W.cell? ⟨g',o'+5,none⟩=some y5)∧W.cell? ⟨w.heap.size,5,none⟩=some a∧W.cell? ⟨w.heap.size+1,5,none⟩=some b∧Below w.heap.size w W∧w.heap.size+2≤W.heap.size) (hb:Below W.heap.size W W') :
  (W'.cell? ⟨g,o,none⟩=some x0∧W'.cell? ⟨g,o+1,none⟩=some x1∧W'.cell? ⟨g,o+2,none⟩=some x2∧W'.cell? ⟨g,o+3,none⟩=some x3∧W'.cell? ⟨g,o+4,none⟩=some x4∧W'.cell? ⟨g,o+5,none⟩=some x5)∧(W'.cell? ⟨g',o',none⟩=some y0∧W'.cell? ⟨g',o'+1,none⟩=some y1∧W'.cell? ⟨g',o'+2,none⟩=some y2∧W'.cell? ⟨g',o'+3,none⟩=some y3∧W'.cell? ⟨g',o'+4,none⟩=some y4∧W'.cell? ⟨g',o'+5,none⟩=some y5)∧W'.cell? ⟨w.heap.size,5,none⟩=some a∧W'.cell? ⟨w.heap.size+1,5,none⟩=some b∧Below w.heap.size w W'∧w.heap.size+2≤W'.heap.size:=by
 obtain ⟨h1,h2,h3,h4,h5,h6⟩:=h
 exact ⟨ypi hg h5 hb h1,ypi hg' h5 hb h2,(hb.cell (p:=⟨w.heap.size,5,none⟩) (by show w.heap.size < _;omega)).trans h3,(hb.cell (p:=⟨w.heap.size+1,5,none⟩) (by show w.heap.size+1 < _;omega)).trans h4,h5.trans (hb.mono h5.size),Nat.le_trans h6 hb.size⟩
theorem ofS {A B C D E F:Prop} (h:A∧B∧C∧D∧E∧F):E:=h.2.2.2.2.1
theorem ylm (P:Prop):∃ b:Bool,(b=true↔P):=by
 by_cases h:P
 ·exact ⟨true,by simp [h]⟩
 ·exact ⟨false,by simp [h]⟩
theorem ymo (k:Int) (x:Vl) (nm:List UInt8) (ao ao':Option Addr) (n ca ca':Nat) (xs ys:List Ex) (us vs:Nat→Value) (w:World) (hx:xs.length=n) (hy:ys.length=n) (hn:n≤1000000000000000)
  (h1:0 < n→∃ g o g' o',ao=some ⟨g,o,none⟩∧ao'=some ⟨g',o',none⟩∧g < w.heap.size∧g' < w.heap.size∧(∀ i,i < n→Six w g (o+6*i) (us i))∧(∀ i,i < n→Six w g' (o'+6*i) (vs i)))
  (hc:∀ i y z,xs[i]?=some y→ys[i]?=some z→∀ b:Bool,(b=true↔y=z)→∀ W,Below w.heap.size w W→Calls Tryz.prog 26 #[us i,vs i] W fun e w'=>e=.returned (.bool b)∧Below W.heap.size W w') :
  Calls Tryz.prog 26 #[exV k x nm (.slice ao n ca),exV k x nm (.slice ao' n ca')] w fun e w'=>(∃ b,e=.returned (.bool b)∧(b=true↔xs=ys))∧Below w.heap.size w w':=by
 have bb:∀ (o o':Obj),Below w.heap.size w ((w.alloc o).alloc o'):=fun o o'=>((Below.refl _ _).alloc (Nat.le_refl _) _).alloc (by simp) _
 have hsv:=yb7 x x
 have hq:eqV x x=true:=(ybx x x).2 rfl
 rw [hq] at hsv
 have H1:=yaa h1
 have HC:=yaa hc
 clear hq h1 hc
 unfold exV
 go_enter Tryz.func26,Tryz.ntmps26
 go_wp2_with fail
 refine (hsv _).mono ?_
 rintro e w1 ⟨rfl,b1⟩
 have c0:=b1.cell (p:=⟨w.heap.size,5,none⟩) (by simp;omega)
 have c1:=b1.cell (p:=⟨w.heap.size+1,5,none⟩) (by simp)
 simp at c0 c1
 have q1:Below w.heap.size w w1:=(bb _ _).trans (b1.mono (by simp;omega))
 have s1:w.heap.size+2≤w1.heap.size:=by have:=b1.size;simp at this;omega
 clear b1 hsv bb
 go_wp2
 go_loopw [5] (fun i wl=>∃ k:Nat,k≤n∧i=.int .i64 k∧wl.cell? ⟨w.heap.size,5,none⟩=some (.slice ao n ca)∧wl.cell? ⟨w.heap.size+1,5,none⟩=some (.slice ao' n ca')∧Below w.heap.size w wl∧w.heap.size+2≤wl.heap.size∧Hid (∀ j,j < k→xs[j]?=ys[j]?)) (fun i _=>n - (intOf i).toNat)
 case atStart=>exact ⟨0,Nat.zero_le _,rfl,c0,c1,q1,s1,fun j hj=>absurd hj (Nat.not_lt_zero _)⟩
 case round =>
  obtain ⟨i,hi,rfl,d0,d1,hnx,hsz,HA⟩:=hrel
  clear c0 c1 q1 s1
  by_cases hlt:i < n
  ·obtain ⟨y,hy1⟩:∃ y,xs[i]?=some y:=⟨xs[i]'(by omega),List.getElem?_eq_getElem (by omega)⟩
   obtain ⟨z,hz1⟩:∃ z,ys[i]?=some z:=⟨ys[i]'(by omega),List.getElem?_eq_getElem (by omega)⟩
   obtain ⟨g,o,g',o',rfl,rfl,hg,hg',f1,f2⟩:=H1.out (by omega)
   obtain ⟨q,hq⟩:=ylm (y=z)
   have kc:=HC.out i y z hy1 hz1 q hq
   obtain ⟨ky,vy,ny,ay,ey,s0,s1,s2,s3,s4,s5⟩:=f1 i hlt
   obtain ⟨kz,vz,nz,az,ez,t0,t1,t2,t3,t4,t5⟩:=f2 i hlt
   rw [ey,ez] at kc
   unfold exV at kc
   have up:∀ b o,b < w.heap.size→wr.cell? ⟨b,o,none⟩=w.cell? ⟨b,o,none⟩:=fun b o hb=>hnx.cell (p:=⟨b,o,none⟩) hb
   have e0:=(up _ _ hg).trans s0
   have e1:=(up _ _ hg).trans s1
   have e2:=(up _ _ hg).trans s2
   have e3:=(up _ _ hg).trans s3
   have e4:=(up _ _ hg).trans s4
   have e5:=(up _ _ hg).trans s5
   have f0:=(up _ _ hg').trans t0
   have f1:=(up _ _ hg').trans t1
   have f2:=(up _ _ hg').trans t2
   have f3:=(up _ _ hg').trans t3
   have f4:=(up _ _ hg').trans t4
   have f5:=(up _ _ hg').trans t5
   have HX:=yaa hy1
   have HY:=yaa hz1
   have HQ:=yaa hq
   have hlt':(i:Int) < (n:Int):=by omega
   rw [Nat.mul_comm 6 i] at e0 e1 e2 e3 e4 e5 f0 f1 f2 f3 f4 f5
   clear s0 s1 s2 s3 s4 s5 t0 t1 t2 t3 t4 t5 hy1 hz1 H1 HC up ey ez hq
   go_wp2_with fail
   go_region_held3 (fun w'=>(w'.cell? ⟨g,o+i*6,none⟩=some (.int .i64 ky)∧w'.cell? ⟨g,o+i*6+1,none⟩=some (.int .i64 vy.k)∧w'.cell? ⟨g,o+i*6+2,none⟩=some (.int .i64 vy.n)∧w'.cell? ⟨g,o+i*6+3,none⟩=some (.string ⟨vy.s.toArray⟩)∧w'.cell? ⟨g,o+i*6+4,none⟩=some (.string ⟨ny.toArray⟩)∧w'.cell? ⟨g,o+i*6+5,none⟩=some ay)∧(w'.cell? ⟨g',o'+i*6,none⟩=some (.int .i64 kz)∧w'.cell? ⟨g',o'+i*6+1,none⟩=some (.int .i64 vz.k)∧w'.cell? ⟨g',o'+i*6+2,none⟩=some (.int .i64 vz.n)∧w'.cell? ⟨g',o'+i*6+3,none⟩=some (.string ⟨vz.s.toArray⟩)∧w'.cell? ⟨g',o'+i*6+4,none⟩=some (.string ⟨nz.toArray⟩)∧w'.cell? ⟨g',o'+i*6+5,none⟩=some az)∧w'.cell? ⟨w.heap.size,5,none⟩=some (.slice (some ⟨g,o,none⟩) n ca)∧w'.cell? ⟨w.heap.size+1,5,none⟩=some (.slice (some ⟨g',o',none⟩) n ca')∧Below w.heap.size w w'∧w.heap.size+2≤w'.heap.size) (first|exact ⟨⟨e0,e1,e2,e3,e4,e5⟩,⟨f0,f1,f2,f3,f4,f5⟩,d0,d1,hnx.drew,hsz⟩|exact yt8 hg hg' (by assumption) (by assumption)) (first|(go_at_call 26;refine (kc _ (ofS (by assumption))).mono ?_;rintro e w' ⟨rfl,hb⟩))
   rename_i hH
   obtain ⟨-,-,z0,z1,q8,q9⟩:=hH
   clear e0 e1 e2 e3 e4 e5 f0 f1 f2 f3 f4 f5 kc
   cases q with
   | true =>
    go_wp2
    go_roundw
    case rel =>
     refine ⟨i+1,by omega,by go_num,z0,z1,q8,q9,fun j hj=>?_⟩
     rcases Nat.lt_or_ge j i with hjk|hjk
     ·exact HA.out j hjk
     ·rw [show j=i by omega,HX.out,HY.out,HQ.out.1 rfl]
    case measure=>simp [intOf];omega
   | false =>
    go_wp2
    go_ret
    refine ⟨⟨false,rfl,⟨fun e=>Bool.noConfusion e,fun e=>?_⟩⟩,q8⟩
    have h1:=HX.out
    rw [e,HY.out] at h1
    cases h1
    exact HQ.out.2 rfl
  ·clear H1 HC
   go_wp2
   go_ret
   refine ⟨⟨true,rfl,⟨fun _=>List.ext_getElem? fun j=>?_,fun _=>rfl⟩⟩,hnx⟩
   rcases Nat.lt_or_ge j i with hjk|hjk
   ·exact HA.out j hjk
   ·rw [List.getElem?_eq_none (by omega),List.getElem?_eq_none (by omega)]
theorem ExAt.spread {B:Nat} {w:World} {u:Value} {x:Ex} (h:ExAt B w u x):∃ (ao:Option Addr) (ca:Nat) (us:Nat→Value),u=exV x.k x.v x.nm (.slice ao x.args.length ca) ∧
  (0 < x.args.length→∃ g o,ao=some ⟨g,o,none⟩∧B≤g∧g < w.heap.size∧(∀ i,i < x.args.length→Six w g (o+6*i) (us i))∧∀ i y,x.args[i]?=some y→ExAt B w (us i) y):=by
 cases h with
 | nil k x nm ao cap hz=>exact ⟨ao,cap,fun _=>.pointer none,rfl,fun hh=>absurd hh (Nat.lt_irrefl 0)⟩
 | args k x nm b off cap xs us hx hB hs hc h=>exact ⟨_,cap,us,rfl,fun _=>⟨b,off,rfl,hB,hs,hc,h⟩⟩
theorem ex_ext {x y:Ex}:x=y↔x.k=y.k∧x.nm=y.nm∧x.v=y.v∧x.args=y.args:=by
 obtain ⟨k,v,nm,a⟩:=x
 obtain ⟨k',v',nm',a'⟩:=y
 simp only [Ex.mk.injEq,Ex.k,Ex.v,Ex.nm,Ex.args]
 constructor
 ·rintro ⟨h1,h2,h3,h4⟩;exact ⟨h1,h3,h2,h4⟩
 ·rintro ⟨h1,h2,h3,h4⟩;exact ⟨h1,h3,h2,h4⟩
theorem Fit.few {x:Ex} (h:Fit x):x.args.length≤1000000000000000:=by
 cases h with
 | mk k v nm args hv hn ha hh=>show args.length≤_;omega
theorem Fit.arg {x y:Ex} (h:Fit x) {i:Nat} (hy:x.args[i]?=some y):Fit y:=by
 cases h with
 | mk k v nm args hv hn ha hh=>exact hh y (List.mem_of_getElem? hy)
theorem yei {x y:Ex} {i:Nat} (hy:x.args[i]?=some y):yaQ y < yaQ x:=by
 rw [ydZ x]
 have go:∀ (l:List Ex) (i:Nat),l[i]?=some y→yaQ y≤ybl l:=by
  intro l
  induction l with
  | nil=>intro i h;simp at h
  | cons z r ih =>
   intro i h
   rw [ybl]
   cases i with
   | zero=>simp at h;subst h;omega
   | succ i=>have:=ih i (by simpa using h);omega
 have:=go _ _ hy
 omega
theorem ydN (n:Nat):∀ (x y:Ex) (u v:Value) (w0:World),yaQ x≤n→ExAt 0 w0 u x→ExAt 0 w0 v y→Fit x→∀ b:Bool,(b=true↔x=y)→∀ W,Below w0.heap.size w0 W →
  Calls Tryz.prog 26 #[u,v] W fun e w'=>e=.returned (.bool b)∧Below W.heap.size W w':=by
 induction n with
 | zero=>intro x y u v w0 h;have:=ycZ x;omega
 | succ n ih =>
  intro x y u v w0 hs hx hy hf b hb W hW
  obtain ⟨ao,ca,us,rfl,h1⟩:=hx.spread
  obtain ⟨ao',ca',vs,rfl,h2⟩:=hy.spread
  by_cases hh:x.k=y.k∧x.nm=y.nm∧x.v=y.v∧x.args.length=y.args.length
  ·obtain ⟨e1,e2,e3,e4⟩:=hh
   rw [← e1,← e2,← e3,← e4]
   have keep:∀ {g o:Nat} {u:Value},g < w0.heap.size→Six w0 g o u→Six W g o u:=fun hg h=>h.keep (hW.block _ hg)
   refine (ymo x.k x.v x.nm ao ao' x.args.length ca ca' x.args y.args us vs W rfl e4.symm hf.few ?_ ?_).mono ?_
   ·intro h0
    obtain ⟨g,o,rfl,-,hg,hc,-⟩:=h1 h0
    obtain ⟨g',o',rfl,-,hg',hc',-⟩:=h2 (by omega)
    exact ⟨g,o,g',o',rfl,rfl,Nat.lt_of_lt_of_le hg hW.size,Nat.lt_of_lt_of_le hg' hW.size,fun i hi=>keep hg (hc i hi),fun i hi=>keep hg' (hc' i (by omega))⟩
   ·intro i y' z' hy' hz' b' hb' W' hW'
    have h0:0 < x.args.length:=by have:=(List.getElem?_eq_some_iff.1 hy').1;omega
    obtain ⟨g,o,-,-,-,-,he⟩:=h1 h0
    obtain ⟨g',o',-,-,-,-,he'⟩:=h2 (by omega)
    exact ih y' z' (us i) (vs i) w0 (by have:=yei hy';omega) (he i y' hy') (he' i z' hz') (hf.arg hy') b' hb' W' (hW.trans (hW'.mono hW.size))
   ·rintro e w' ⟨⟨b',rfl,hb'⟩,bel⟩
    refine ⟨yaw ?_,bel⟩
    rw [Bool.eq_iff_iff,hb',hb,ex_ext]
    exact ⟨fun h=>⟨e1,e2,e3,h⟩,fun h=>h.2.2.2⟩
  ·refine (yoG x.k y.k x.v y.v x.nm y.nm ao ao' x.args.length y.args.length ca ca' W hh).mono ?_
   rintro e w' ⟨rfl,bel⟩
   refine ⟨yaw ?_,bel⟩
   cases b with
   | false=>rfl
   | true =>
    have:=ex_ext.1 (hb.1 rfl)
    exact absurd ⟨this.1,this.2.1,this.2.2.1,congrArg List.length this.2.2.2⟩ hh
theorem yud (W:World) (x y:Operand) (n m:Int):(do eqGuard .neq 3 x y (.int .i64 n) (.int .i64 m);binOp .neq 3 (.int .i64 n) (.int .i64 m):Sem Value).run Tryz.prog W=.ok (.bool (!decide (n=m))) W:=by
 by_cases h:n=m
 ·subst h;go_simp
 ·have h':(n == m)=false:=by simpa using h
  go_simp
theorem ys5 (W:World) (x y:Operand) (n m:List UInt8):(do eqGuard .neq 9 x y (.string ⟨n.toArray⟩) (.string ⟨m.toArray⟩);binOp .neq 9 (.string ⟨n.toArray⟩) (.string ⟨m.toArray⟩):Sem Value).run Tryz.prog W=.ok (.bool (!decide (n=m))) W:=by
 by_cases h:n=m
 ·subst h;go_simp
 ·have h1:=ycJ h
  have h2:(n == m)=false:=beq_eq_false_iff_ne.2 h
  go_simp
theorem yvg (W:World) (x y:Operand) (n m:Bool):(do eqGuard .neq 4 x y (.bool n) (.bool m);binOp .neq 4 (.bool n) (.bool m):Sem Value).run Tryz.prog W=.ok (.bool (!(n == m))) W:=by
 cases n <;> cases m <;> go_simp
theorem yuv (args:Array Value) (W:World):(callFunc 26 args).run Tryz.prog W=.ok (.enter 26 args) W:=by go_simp
def ydH (c y:Cm):Bool:=((!decide (c.kind=y.kind)) || (!decide (c.name=y.name)))
def ydI (c y:Cm):Bool:=((ydH c y) || (!decide (c.other=y.other)))
def ydJ (c y:Cm):Bool:=((ydI c y) || (!decide (c.column=y.column)))
def ydd (c y:Cm):Bool:=((ydJ c y) || (!decide (c.ty=y.ty)))
def ydK (c y:Cm):Bool:=((ydd c y) || (!(eqV c.val y.val)))
def ydL (c y:Cm):Bool:=((ydK c y) || (!(c.all == y.all)))
def ydM (c y:Cm):Bool:=((ydL c y) || (!decide (c.order=y.order)))
def yde (c y:Cm):Bool:=((ydM c y) || (!decide (c.limit=y.limit)))
def ydf (c y:Cm) (sx:Bool):Bool:=((yde c y) || (!sx))
def ygR (c y:Cm) (sx sy:Bool):Bool:=((ydf c y sx) || (!sy))
noncomputable def s1_R:Array Oper:=((Tryz.f11.body).bind (yas 1)).getD #[]
def yvq (c:Cm) (y:Cm) (ea:Value) (wa:Value) (ea':Value) (wa':Value) (rb:Nat) (sb:Nat) (sx:Bool) (sy:Bool) (j:Nat):Value:=([.pointer (some ⟨rb,0,none⟩),.int .i64 c.kind,.pointer (some ⟨sb,0,none⟩),.int .i64 y.kind,.bool (!decide (c.kind=y.kind)),.bool (!decide (c.kind=y.kind)),gw ((!decide (c.kind=y.kind)) == false) (.pointer (some ⟨rb,1,none⟩)),gw ((!decide (c.kind=y.kind)) == false) (.string ⟨c.name.toArray⟩),gw ((!decide (c.kind=y.kind)) == false) (.pointer (some ⟨sb,1,none⟩)),gw ((!decide (c.kind=y.kind)) == false) (.string ⟨y.name.toArray⟩),gw ((!decide (c.kind=y.kind)) == false) (.bool (!decide (c.name=y.name))),.bool (ydH c y),.bool (ydH c y),gw ((ydH c y) == false) (.pointer (some ⟨rb,2,none⟩)),gw ((ydH c y) == false) (.string ⟨c.other.toArray⟩),gw ((ydH c y) == false) (.pointer (some ⟨sb,2,none⟩)),gw ((ydH c y) == false) (.string ⟨y.other.toArray⟩),gw ((ydH c y) == false) (.bool (!decide (c.other=y.other))),.bool (ydI c y),.bool (ydI c y),gw ((ydI c y) == false) (.pointer (some ⟨rb,3,none⟩)),gw ((ydI c y) == false) (.string ⟨c.column.toArray⟩),gw ((ydI c y) == false) (.pointer (some ⟨sb,3,none⟩)),gw ((ydI c y) == false) (.string ⟨y.column.toArray⟩),gw ((ydI c y) == false) (.bool (!decide (c.column=y.column))),.bool (ydJ c y),.bool (ydJ c y),gw ((ydJ c y) == false) (.pointer (some ⟨rb,5,none⟩)),gw ((ydJ c y) == false) (.int .i64 c.ty),gw ((ydJ c y) == false) (.pointer (some ⟨sb,5,none⟩)),gw ((ydJ c y) == false) (.int .i64 y.ty),gw ((ydJ c y) == false) (.bool (!decide (c.ty=y.ty))),.bool (ydd c y),.bool (ydd c y),gw ((ydd c y) == false) (.pointer (some ⟨rb,6,none⟩)),gw ((ydd c y) == false) (.agg #[.int .i64 c.val.k,.int .i64 c.val.n,.string ⟨c.val.s.toArray⟩]),gw ((ydd c y) == false) (.pointer (some ⟨sb,6,none⟩)),gw ((ydd c y) == false) (.agg #[.int .i64 y.val.k,.int .i64 y.val.n,.string ⟨y.val.s.toArray⟩]),gw ((ydd c y) == false) (.bool (eqV c.val y.val)),gw ((ydd c y) == false) (.bool (!(eqV c.val y.val))),.bool (ydK c y),.bool (ydK c y),gw ((ydK c y) == false) (.pointer (some ⟨rb,17,none⟩)),gw ((ydK c y) == false) (.bool c.all),gw ((ydK c y) == false) (.pointer (some ⟨sb,17,none⟩)),gw ((ydK c y) == false) (.bool y.all),gw ((ydK c y) == false) (.bool (!(c.all == y.all))),.bool (ydL c y),.bool (ydL c y),gw ((ydL c y) == false) (.pointer (some ⟨rb,24,none⟩)),gw ((ydL c y) == false) (.string ⟨c.order.toArray⟩),gw ((ydL c y) == false) (.pointer (some ⟨sb,24,none⟩)),gw ((ydL c y) == false) (.string ⟨y.order.toArray⟩),gw ((ydL c y) == false) (.bool (!decide (c.order=y.order))),.bool (ydM c y),.bool (ydM c y),gw ((ydM c y) == false) (.pointer (some ⟨rb,25,none⟩)),gw ((ydM c y) == false) (.int .i64 c.limit),gw ((ydM c y) == false) (.pointer (some ⟨sb,25,none⟩)),gw ((ydM c y) == false) (.int .i64 y.limit),gw ((ydM c y) == false) (.bool (!decide (c.limit=y.limit))),.bool (yde c y),.bool (yde c y),gw ((yde c y) == false) (.pointer (some ⟨rb,11,none⟩)),gw ((yde c y) == false) (.agg #[.int .i64 c.expr.k,.int .i64 c.expr.v.k,.int .i64 c.expr.v.n,.string ⟨c.expr.v.s.toArray⟩,.string ⟨c.expr.nm.toArray⟩,ea]),gw ((yde c y) == false) (.pointer (some ⟨sb,11,none⟩)),gw ((yde c y) == false) (.agg #[.int .i64 y.expr.k,.int .i64 y.expr.v.k,.int .i64 y.expr.v.n,.string ⟨y.expr.v.s.toArray⟩,.string ⟨y.expr.nm.toArray⟩,ea']),gw ((yde c y) == false) (.bool sx),gw ((yde c y) == false) (.bool (!sx)),.bool (ydf c y sx),.bool (ydf c y sx),gw ((ydf c y sx) == false) (.pointer (some ⟨rb,18,none⟩)),gw ((ydf c y sx) == false) (.agg #[.int .i64 c.wh.k,.int .i64 c.wh.v.k,.int .i64 c.wh.v.n,.string ⟨c.wh.v.s.toArray⟩,.string ⟨c.wh.nm.toArray⟩,wa]),gw ((ydf c y sx) == false) (.pointer (some ⟨sb,18,none⟩)),gw ((ydf c y sx) == false) (.agg #[.int .i64 y.wh.k,.int .i64 y.wh.v.k,.int .i64 y.wh.v.n,.string ⟨y.wh.v.s.toArray⟩,.string ⟨y.wh.nm.toArray⟩,wa']),gw ((ydf c y sx) == false) (.bool sy),gw ((ydf c y sx) == false) (.bool (!sy)),.bool (ygR c y sx sy)]:List Value).getD j undef
def s1_d:List (Option Tmp):=[some 7,some 8,some 9,some 10,some 11,some 12,some 13,some 14,some 15,some 16,some 17,some 18,some 19,some 20,some 21,some 22,some 23,some 24,some 25,some 26,some 27,some 28,some 29,some 30,some 31,some 32,some 33,some 34,some 35,some 36,some 37,some 38,some 39,some 40,some 41,some 42,some 43,some 44,some 45,some 46,some 47,some 48,some 49,some 50,some 51,some 52,some 53,some 54,some 55,some 56,some 57,some 58,some 59,some 60,some 61,some 62,some 63,some 64,some 65,some 66,some 67,some 68,some 69,some 70,some 71,some 72,some 73,some 74,some 75,some 76,some 77,some 78,some 79,some 80,some 81,some 82,some 83,some 84]
theorem yoE:s1_d.Nodup:=by unfold s1_d;decide
theorem yui {c y:Cm} {a1 a2 a3 a1' a2' a3':Option Addr} {c1 c2 c3 c1' c2' c3':Nat} {ea wa ea' wa':Value} {rb sb:Nat} {sx sy:Bool} {S:World→Prop} {a0:Act} {Q:Exit→Act→World→Prop} {w:World} (h2:a0.tmps[2]?=some (.pointer (some ⟨rb,0,none⟩))) (h3:a0.tmps[3]?=some (.pointer (some ⟨sb,0,none⟩))) (hc:∀ W,S W→∀ o x,(cmL c (.slice a1 c.cols.length c1) (.slice a2 c.vals.length c2) (.slice a3 c.fields.length c3) ea wa)[o]?=some x→W.cell? ⟨rb,o,none⟩=some x) (hd:∀ W,S W→∀ o x,(cmL y (.slice a1' y.cols.length c1') (.slice a2' y.vals.length c2') (.slice a3' y.fields.length c3') ea' wa')[o]?=some x→W.cell? ⟨sb,o,none⟩=some x) (q45:∀ W,S W→Calls Tryz.prog 25 #[.agg #[.int .i64 c.val.k,.int .i64 c.val.n,.string ⟨c.val.s.toArray⟩],.agg #[.int .i64 y.val.k,.int .i64 y.val.n,.string ⟨y.val.s.toArray⟩]] W fun e w'=>e=.returned (.bool (eqV c.val y.val))∧S w') (q74:∀ W,S W→Calls Tryz.prog 26 #[.agg #[.int .i64 c.expr.k,.int .i64 c.expr.v.k,.int .i64 c.expr.v.n,.string ⟨c.expr.v.s.toArray⟩,.string ⟨c.expr.nm.toArray⟩,ea],.agg #[.int .i64 y.expr.k,.int .i64 y.expr.v.k,.int .i64 y.expr.v.n,.string ⟨y.expr.v.s.toArray⟩,.string ⟨y.expr.nm.toArray⟩,ea']] W fun e w'=>e=.returned (.bool sx)∧S w') (q82:∀ W,S W→Calls Tryz.prog 26 #[.agg #[.int .i64 c.wh.k,.int .i64 c.wh.v.k,.int .i64 c.wh.v.n,.string ⟨c.wh.v.s.toArray⟩,.string ⟨c.wh.nm.toArray⟩,wa],.agg #[.int .i64 y.wh.k,.int .i64 y.wh.v.k,.int .i64 y.wh.v.n,.string ⟨y.wh.v.s.toArray⟩,.string ⟨y.wh.nm.toArray⟩,wa']] W fun e w'=>e=.returned (.bool sy)∧S w') (ha:a0.tmps.size=145) (hS:S w)
  (hq:∀ a' w',S w'→a'.defers=a0.defers→a'.tmps.size=145→(∀ j d,s1_d[j]?=some (some d)→a'.tmps[d]?=some (yvq c y ea wa ea' wa' rb sb sx sy j))→(∀ d,some d ∉ s1_d→a'.tmps[d]?=a0.tmps[d]?)→Q .normal a' w'):(Code.region 1 s1_R false).wp Tryz.prog Q a0 w:=by
 have hz:s1_R.size=78:=by kernel_rfl
 refine yaG (m:=145) hz (by kernel_rfl) yoE (by kernel_rfl) ha ?_ hS hq
 refine us ?_ (yaO hz (by decide) (by kernel_rfl) fun _ _ s _=>yaS (G:=true) (by kernel_rfl) (s.u 70 77 (by kernel_rfl)) (s.u 76 83 (by kernel_rfl)) rfl rfl)
 refine us ?_ (yaH true 70 77 false hz (by decide) (by kernel_rfl) rfl rfl fun hG _ W s _=>yhr (x:=.tmp 82) (t:=4) (op:=.not) (by kernel_rfl) (s.g 75 82 (by kernel_rfl) hG rfl) (yqB W _))
 refine us ?_ (yfV true 70 77 false hz (by decide) (by kernel_rfl) rfl rfl (fun hG _ _ s=>ybp (ts:=#[29,29]) (x:=.tmp 79) (y:=.tmp 81) (f:=26) yuv (by kernel_rfl) rfl (s.g 72 79 (by kernel_rfl) hG rfl) (s.g 74 81 (by kernel_rfl) hG rfl)) q82)
 refine us ?_ (yaH true 70 77 false hz (by decide) (by kernel_rfl) rfl rfl fun hG _ W s hS=>yaf (x:=.tmp 80) (t:=29) (by kernel_rfl) (s.g 73 80 (by kernel_rfl) hG rfl) (ygD W _ 18 _ _ _ _ _ _ ((hd W hS 18 _ rfl)) ((hd W hS 19 _ rfl)) ((hd W hS 20 _ rfl)) ((hd W hS 21 _ rfl)) ((hd W hS 22 _ rfl)) ((hd W hS 23 _ rfl))))
 refine us ?_ (yaH true 70 77 false hz (by decide) (by kernel_rfl) rfl rfl fun _ _ W s _=>yad (x:=.tmp 3) (t:=31) (f:=11) (by kernel_rfl) (s.b 3 (by kernel_rfl) h3) (ypN W _))
 refine us ?_ (yaH true 70 77 false hz (by decide) (by kernel_rfl) rfl rfl fun hG _ W s hS=>yaf (x:=.tmp 78) (t:=29) (by kernel_rfl) (s.g 71 78 (by kernel_rfl) hG rfl) (ygD W _ 18 _ _ _ _ _ _ ((hc W hS 18 _ rfl)) ((hc W hS 19 _ rfl)) ((hc W hS 20 _ rfl)) ((hc W hS 21 _ rfl)) ((hc W hS 22 _ rfl)) ((hc W hS 23 _ rfl))))
 refine us ?_ (yaH true 70 77 false hz (by decide) (by kernel_rfl) rfl rfl fun _ _ W s _=>yad (x:=.tmp 2) (t:=31) (f:=11) (by kernel_rfl) (s.b 2 (by kernel_rfl) h2) (ypN W _))
 refine us ?_ (yaO hz (by decide) (by kernel_rfl) fun _ _ s _=>yac (x:=.tmp 76) (by kernel_rfl) (s.u 69 76 (by kernel_rfl)))
 refine us ?_ (yaO hz (by decide) (by kernel_rfl) fun _ _ s _=>yaS (G:=true) (by kernel_rfl) (s.u 62 69 (by kernel_rfl)) (s.u 68 75 (by kernel_rfl)) rfl rfl)
 refine us ?_ (yaH true 62 69 false hz (by decide) (by kernel_rfl) rfl rfl fun hG _ W s _=>yhr (x:=.tmp 74) (t:=4) (op:=.not) (by kernel_rfl) (s.g 67 74 (by kernel_rfl) hG rfl) (yqB W _))
 refine us ?_ (yfV true 62 69 false hz (by decide) (by kernel_rfl) rfl rfl (fun hG _ _ s=>ybp (ts:=#[29,29]) (x:=.tmp 71) (y:=.tmp 73) (f:=26) yuv (by kernel_rfl) rfl (s.g 64 71 (by kernel_rfl) hG rfl) (s.g 66 73 (by kernel_rfl) hG rfl)) q74)
 refine us ?_ (yaH true 62 69 false hz (by decide) (by kernel_rfl) rfl rfl fun hG _ W s hS=>yaf (x:=.tmp 72) (t:=29) (by kernel_rfl) (s.g 65 72 (by kernel_rfl) hG rfl) (ygD W _ 11 _ _ _ _ _ _ ((hd W hS 11 _ rfl)) ((hd W hS 12 _ rfl)) ((hd W hS 13 _ rfl)) ((hd W hS 14 _ rfl)) ((hd W hS 15 _ rfl)) ((hd W hS 16 _ rfl))))
 refine us ?_ (yaH true 62 69 false hz (by decide) (by kernel_rfl) rfl rfl fun _ _ W s _=>yad (x:=.tmp 3) (t:=31) (f:=9) (by kernel_rfl) (s.b 3 (by kernel_rfl) h3) (fa9 W _))
 refine us ?_ (yaH true 62 69 false hz (by decide) (by kernel_rfl) rfl rfl fun hG _ W s hS=>yaf (x:=.tmp 70) (t:=29) (by kernel_rfl) (s.g 63 70 (by kernel_rfl) hG rfl) (ygD W _ 11 _ _ _ _ _ _ ((hc W hS 11 _ rfl)) ((hc W hS 12 _ rfl)) ((hc W hS 13 _ rfl)) ((hc W hS 14 _ rfl)) ((hc W hS 15 _ rfl)) ((hc W hS 16 _ rfl))))
 refine us ?_ (yaH true 62 69 false hz (by decide) (by kernel_rfl) rfl rfl fun _ _ W s _=>yad (x:=.tmp 2) (t:=31) (f:=9) (by kernel_rfl) (s.b 2 (by kernel_rfl) h2) (fa9 W _))
 refine us ?_ (yaO hz (by decide) (by kernel_rfl) fun _ _ s _=>yac (x:=.tmp 68) (by kernel_rfl) (s.u 61 68 (by kernel_rfl)))
 refine us ?_ (yaO hz (by decide) (by kernel_rfl) fun _ _ s _=>yaS (G:=true) (by kernel_rfl) (s.u 55 62 (by kernel_rfl)) (s.u 60 67 (by kernel_rfl)) rfl rfl)
 refine us ?_ (yaH true 55 62 false hz (by decide) (by kernel_rfl) rfl rfl fun hG _ W s _=>yaq (u:=3) (x:=.tmp 64) (y:=.tmp 66) (by kernel_rfl) (s.g 57 64 (by kernel_rfl) hG rfl) (s.g 59 66 (by kernel_rfl) hG rfl) (yud W _ _ _ _))
 refine us ?_ (yaH true 55 62 false hz (by decide) (by kernel_rfl) rfl rfl fun hG _ W s hS=>yaf (x:=.tmp 65) (t:=3) (by kernel_rfl) (s.g 58 65 (by kernel_rfl) hG rfl) (ld3 W _ 25 _ ((hd W hS 25 _ rfl))))
 refine us ?_ (yaH true 55 62 false hz (by decide) (by kernel_rfl) rfl rfl fun _ _ W s _=>yad (x:=.tmp 3) (t:=31) (f:=13) (by kernel_rfl) (s.b 3 (by kernel_rfl) h3) (ypO W _))
 refine us ?_ (yaH true 55 62 false hz (by decide) (by kernel_rfl) rfl rfl fun hG _ W s hS=>yaf (x:=.tmp 63) (t:=3) (by kernel_rfl) (s.g 56 63 (by kernel_rfl) hG rfl) (ld3 W _ 25 _ ((hc W hS 25 _ rfl))))
 refine us ?_ (yaH true 55 62 false hz (by decide) (by kernel_rfl) rfl rfl fun _ _ W s _=>yad (x:=.tmp 2) (t:=31) (f:=13) (by kernel_rfl) (s.b 2 (by kernel_rfl) h2) (ypO W _))
 refine us ?_ (yaO hz (by decide) (by kernel_rfl) fun _ _ s _=>yac (x:=.tmp 61) (by kernel_rfl) (s.u 54 61 (by kernel_rfl)))
 refine us ?_ (yaO hz (by decide) (by kernel_rfl) fun _ _ s _=>yaS (G:=true) (by kernel_rfl) (s.u 48 55 (by kernel_rfl)) (s.u 53 60 (by kernel_rfl)) rfl rfl)
 refine us ?_ (yaH true 48 55 false hz (by decide) (by kernel_rfl) rfl rfl fun hG _ W s _=>yaq (u:=9) (x:=.tmp 57) (y:=.tmp 59) (by kernel_rfl) (s.g 50 57 (by kernel_rfl) hG rfl) (s.g 52 59 (by kernel_rfl) hG rfl) (ys5 W _ _ _ _))
 refine us ?_ (yaH true 48 55 false hz (by decide) (by kernel_rfl) rfl rfl fun hG _ W s hS=>yaf (x:=.tmp 58) (t:=9) (by kernel_rfl) (s.g 51 58 (by kernel_rfl) hG rfl) (ld9 W _ 24 _ ((hd W hS 24 _ rfl))))
 refine us ?_ (yaH true 48 55 false hz (by decide) (by kernel_rfl) rfl rfl fun _ _ W s _=>yad (x:=.tmp 3) (t:=31) (f:=12) (by kernel_rfl) (s.b 3 (by kernel_rfl) h3) (ypa W _))
 refine us ?_ (yaH true 48 55 false hz (by decide) (by kernel_rfl) rfl rfl fun hG _ W s hS=>yaf (x:=.tmp 56) (t:=9) (by kernel_rfl) (s.g 49 56 (by kernel_rfl) hG rfl) (ld9 W _ 24 _ ((hc W hS 24 _ rfl))))
 refine us ?_ (yaH true 48 55 false hz (by decide) (by kernel_rfl) rfl rfl fun _ _ W s _=>yad (x:=.tmp 2) (t:=31) (f:=12) (by kernel_rfl) (s.b 2 (by kernel_rfl) h2) (ypa W _))
 refine us ?_ (yaO hz (by decide) (by kernel_rfl) fun _ _ s _=>yac (x:=.tmp 54) (by kernel_rfl) (s.u 47 54 (by kernel_rfl)))
 refine us ?_ (yaO hz (by decide) (by kernel_rfl) fun _ _ s _=>yaS (G:=true) (by kernel_rfl) (s.u 41 48 (by kernel_rfl)) (s.u 46 53 (by kernel_rfl)) rfl rfl)
 refine us ?_ (yaH true 41 48 false hz (by decide) (by kernel_rfl) rfl rfl fun hG _ W s _=>yaq (u:=4) (x:=.tmp 50) (y:=.tmp 52) (by kernel_rfl) (s.g 43 50 (by kernel_rfl) hG rfl) (s.g 45 52 (by kernel_rfl) hG rfl) (yvg W _ _ _ _))
 refine us ?_ (yaH true 41 48 false hz (by decide) (by kernel_rfl) rfl rfl fun hG _ W s hS=>yaf (x:=.tmp 51) (t:=4) (by kernel_rfl) (s.g 44 51 (by kernel_rfl) hG rfl) (ld4 W _ 17 _ ((hd W hS 17 _ rfl))))
 refine us ?_ (yaH true 41 48 false hz (by decide) (by kernel_rfl) rfl rfl fun _ _ W s _=>yad (x:=.tmp 3) (t:=31) (f:=10) (by kernel_rfl) (s.b 3 (by kernel_rfl) h3) (yq8 W _))
 refine us ?_ (yaH true 41 48 false hz (by decide) (by kernel_rfl) rfl rfl fun hG _ W s hS=>yaf (x:=.tmp 49) (t:=4) (by kernel_rfl) (s.g 42 49 (by kernel_rfl) hG rfl) (ld4 W _ 17 _ ((hc W hS 17 _ rfl))))
 refine us ?_ (yaH true 41 48 false hz (by decide) (by kernel_rfl) rfl rfl fun _ _ W s _=>yad (x:=.tmp 2) (t:=31) (f:=10) (by kernel_rfl) (s.b 2 (by kernel_rfl) h2) (yq8 W _))
 refine us ?_ (yaO hz (by decide) (by kernel_rfl) fun _ _ s _=>yac (x:=.tmp 47) (by kernel_rfl) (s.u 40 47 (by kernel_rfl)))
 refine us ?_ (yaO hz (by decide) (by kernel_rfl) fun _ _ s _=>yaS (G:=true) (by kernel_rfl) (s.u 33 40 (by kernel_rfl)) (s.u 39 46 (by kernel_rfl)) rfl rfl)
 refine us ?_ (yaH true 33 40 false hz (by decide) (by kernel_rfl) rfl rfl fun hG _ W s _=>yhr (x:=.tmp 45) (t:=4) (op:=.not) (by kernel_rfl) (s.g 38 45 (by kernel_rfl) hG rfl) (yqB W _))
 refine us ?_ (yfV true 33 40 false hz (by decide) (by kernel_rfl) rfl rfl (fun hG _ _ s=>ybp (ts:=#[24,24]) (x:=.tmp 42) (y:=.tmp 44) (f:=25) ytd (by kernel_rfl) rfl (s.g 35 42 (by kernel_rfl) hG rfl) (s.g 37 44 (by kernel_rfl) hG rfl)) q45)
 refine us ?_ (yaH true 33 40 false hz (by decide) (by kernel_rfl) rfl rfl fun hG _ W s hS=>yaf (x:=.tmp 43) (t:=24) (by kernel_rfl) (s.g 36 43 (by kernel_rfl) hG rfl) (yoa W _ 6 _ _ _ ((hd W hS 6 _ rfl)) ((hd W hS 7 _ rfl)) ((hd W hS 8 _ rfl))))
 refine us ?_ (yaH true 33 40 false hz (by decide) (by kernel_rfl) rfl rfl fun _ _ W s _=>yad (x:=.tmp 3) (t:=31) (f:=6) (by kernel_rfl) (s.b 3 (by kernel_rfl) h3) (fa6 W _))
 refine us ?_ (yaH true 33 40 false hz (by decide) (by kernel_rfl) rfl rfl fun hG _ W s hS=>yaf (x:=.tmp 41) (t:=24) (by kernel_rfl) (s.g 34 41 (by kernel_rfl) hG rfl) (yoa W _ 6 _ _ _ ((hc W hS 6 _ rfl)) ((hc W hS 7 _ rfl)) ((hc W hS 8 _ rfl))))
 refine us ?_ (yaH true 33 40 false hz (by decide) (by kernel_rfl) rfl rfl fun _ _ W s _=>yad (x:=.tmp 2) (t:=31) (f:=6) (by kernel_rfl) (s.b 2 (by kernel_rfl) h2) (fa6 W _))
 refine us ?_ (yaO hz (by decide) (by kernel_rfl) fun _ _ s _=>yac (x:=.tmp 39) (by kernel_rfl) (s.u 32 39 (by kernel_rfl)))
 refine us ?_ (yaO hz (by decide) (by kernel_rfl) fun _ _ s _=>yaS (G:=true) (by kernel_rfl) (s.u 26 33 (by kernel_rfl)) (s.u 31 38 (by kernel_rfl)) rfl rfl)
 refine us ?_ (yaH true 26 33 false hz (by decide) (by kernel_rfl) rfl rfl fun hG _ W s _=>yaq (u:=3) (x:=.tmp 35) (y:=.tmp 37) (by kernel_rfl) (s.g 28 35 (by kernel_rfl) hG rfl) (s.g 30 37 (by kernel_rfl) hG rfl) (yud W _ _ _ _))
 refine us ?_ (yaH true 26 33 false hz (by decide) (by kernel_rfl) rfl rfl fun hG _ W s hS=>yaf (x:=.tmp 36) (t:=3) (by kernel_rfl) (s.g 29 36 (by kernel_rfl) hG rfl) (ld3 W _ 5 _ ((hd W hS 5 _ rfl))))
 refine us ?_ (yaH true 26 33 false hz (by decide) (by kernel_rfl) rfl rfl fun _ _ W s _=>yad (x:=.tmp 3) (t:=31) (f:=5) (by kernel_rfl) (s.b 3 (by kernel_rfl) h3) (fa5 W _))
 refine us ?_ (yaH true 26 33 false hz (by decide) (by kernel_rfl) rfl rfl fun hG _ W s hS=>yaf (x:=.tmp 34) (t:=3) (by kernel_rfl) (s.g 27 34 (by kernel_rfl) hG rfl) (ld3 W _ 5 _ ((hc W hS 5 _ rfl))))
 refine us ?_ (yaH true 26 33 false hz (by decide) (by kernel_rfl) rfl rfl fun _ _ W s _=>yad (x:=.tmp 2) (t:=31) (f:=5) (by kernel_rfl) (s.b 2 (by kernel_rfl) h2) (fa5 W _))
 refine us ?_ (yaO hz (by decide) (by kernel_rfl) fun _ _ s _=>yac (x:=.tmp 32) (by kernel_rfl) (s.u 25 32 (by kernel_rfl)))
 refine us ?_ (yaO hz (by decide) (by kernel_rfl) fun _ _ s _=>yaS (G:=true) (by kernel_rfl) (s.u 19 26 (by kernel_rfl)) (s.u 24 31 (by kernel_rfl)) rfl rfl)
 refine us ?_ (yaH true 19 26 false hz (by decide) (by kernel_rfl) rfl rfl fun hG _ W s _=>yaq (u:=9) (x:=.tmp 28) (y:=.tmp 30) (by kernel_rfl) (s.g 21 28 (by kernel_rfl) hG rfl) (s.g 23 30 (by kernel_rfl) hG rfl) (ys5 W _ _ _ _))
 refine us ?_ (yaH true 19 26 false hz (by decide) (by kernel_rfl) rfl rfl fun hG _ W s hS=>yaf (x:=.tmp 29) (t:=9) (by kernel_rfl) (s.g 22 29 (by kernel_rfl) hG rfl) (ld9 W _ 3 _ ((hd W hS 3 _ rfl))))
 refine us ?_ (yaH true 19 26 false hz (by decide) (by kernel_rfl) rfl rfl fun _ _ W s _=>yad (x:=.tmp 3) (t:=31) (f:=3) (by kernel_rfl) (s.b 3 (by kernel_rfl) h3) (fa3 W _))
 refine us ?_ (yaH true 19 26 false hz (by decide) (by kernel_rfl) rfl rfl fun hG _ W s hS=>yaf (x:=.tmp 27) (t:=9) (by kernel_rfl) (s.g 20 27 (by kernel_rfl) hG rfl) (ld9 W _ 3 _ ((hc W hS 3 _ rfl))))
 refine us ?_ (yaH true 19 26 false hz (by decide) (by kernel_rfl) rfl rfl fun _ _ W s _=>yad (x:=.tmp 2) (t:=31) (f:=3) (by kernel_rfl) (s.b 2 (by kernel_rfl) h2) (fa3 W _))
 refine us ?_ (yaO hz (by decide) (by kernel_rfl) fun _ _ s _=>yac (x:=.tmp 25) (by kernel_rfl) (s.u 18 25 (by kernel_rfl)))
 refine us ?_ (yaO hz (by decide) (by kernel_rfl) fun _ _ s _=>yaS (G:=true) (by kernel_rfl) (s.u 12 19 (by kernel_rfl)) (s.u 17 24 (by kernel_rfl)) rfl rfl)
 refine us ?_ (yaH true 12 19 false hz (by decide) (by kernel_rfl) rfl rfl fun hG _ W s _=>yaq (u:=9) (x:=.tmp 21) (y:=.tmp 23) (by kernel_rfl) (s.g 14 21 (by kernel_rfl) hG rfl) (s.g 16 23 (by kernel_rfl) hG rfl) (ys5 W _ _ _ _))
 refine us ?_ (yaH true 12 19 false hz (by decide) (by kernel_rfl) rfl rfl fun hG _ W s hS=>yaf (x:=.tmp 22) (t:=9) (by kernel_rfl) (s.g 15 22 (by kernel_rfl) hG rfl) (ld9 W _ 2 _ ((hd W hS 2 _ rfl))))
 refine us ?_ (yaH true 12 19 false hz (by decide) (by kernel_rfl) rfl rfl fun _ _ W s _=>yad (x:=.tmp 3) (t:=31) (f:=2) (by kernel_rfl) (s.b 3 (by kernel_rfl) h3) (fa2 W _))
 refine us ?_ (yaH true 12 19 false hz (by decide) (by kernel_rfl) rfl rfl fun hG _ W s hS=>yaf (x:=.tmp 20) (t:=9) (by kernel_rfl) (s.g 13 20 (by kernel_rfl) hG rfl) (ld9 W _ 2 _ ((hc W hS 2 _ rfl))))
 refine us ?_ (yaH true 12 19 false hz (by decide) (by kernel_rfl) rfl rfl fun _ _ W s _=>yad (x:=.tmp 2) (t:=31) (f:=2) (by kernel_rfl) (s.b 2 (by kernel_rfl) h2) (fa2 W _))
 refine us ?_ (yaO hz (by decide) (by kernel_rfl) fun _ _ s _=>yac (x:=.tmp 18) (by kernel_rfl) (s.u 11 18 (by kernel_rfl)))
 refine us ?_ (yaO hz (by decide) (by kernel_rfl) fun _ _ s _=>yaS (G:=true) (by kernel_rfl) (s.u 5 12 (by kernel_rfl)) (s.u 10 17 (by kernel_rfl)) rfl rfl)
 refine us ?_ (yaH true 5 12 false hz (by decide) (by kernel_rfl) rfl rfl fun hG _ W s _=>yaq (u:=9) (x:=.tmp 14) (y:=.tmp 16) (by kernel_rfl) (s.g 7 14 (by kernel_rfl) hG rfl) (s.g 9 16 (by kernel_rfl) hG rfl) (ys5 W _ _ _ _))
 refine us ?_ (yaH true 5 12 false hz (by decide) (by kernel_rfl) rfl rfl fun hG _ W s hS=>yaf (x:=.tmp 15) (t:=9) (by kernel_rfl) (s.g 8 15 (by kernel_rfl) hG rfl) (ld9 W _ 1 _ ((hd W hS 1 _ rfl))))
 refine us ?_ (yaH true 5 12 false hz (by decide) (by kernel_rfl) rfl rfl fun _ _ W s _=>yad (x:=.tmp 3) (t:=31) (f:=1) (by kernel_rfl) (s.b 3 (by kernel_rfl) h3) (fa1 W _))
 refine us ?_ (yaH true 5 12 false hz (by decide) (by kernel_rfl) rfl rfl fun hG _ W s hS=>yaf (x:=.tmp 13) (t:=9) (by kernel_rfl) (s.g 6 13 (by kernel_rfl) hG rfl) (ld9 W _ 1 _ ((hc W hS 1 _ rfl))))
 refine us ?_ (yaH true 5 12 false hz (by decide) (by kernel_rfl) rfl rfl fun _ _ W s _=>yad (x:=.tmp 2) (t:=31) (f:=1) (by kernel_rfl) (s.b 2 (by kernel_rfl) h2) (fa1 W _))
 refine us ?_ (yaO hz (by decide) (by kernel_rfl) fun _ _ s _=>yac (x:=.tmp 11) (by kernel_rfl) (s.u 4 11 (by kernel_rfl)))
 refine us ?_ (yaO hz (by decide) (by kernel_rfl) fun _ W s _=>yaq (u:=3) (x:=.tmp 8) (y:=.tmp 10) (by kernel_rfl) (s.u 1 8 (by kernel_rfl)) (s.u 3 10 (by kernel_rfl)) (yud W _ _ _ _))
 refine us ?_ (yaO hz (by decide) (by kernel_rfl) fun _ W s hS=>yaf (x:=.tmp 9) (t:=3) (by kernel_rfl) (s.u 2 9 (by kernel_rfl)) (ld3 W _ 0 _ ((hd W hS 0 _ rfl))))
 refine us ?_ (yaO hz (by decide) (by kernel_rfl) fun _ W s _=>yad (x:=.tmp 3) (t:=31) (f:=0) (by kernel_rfl) (s.b 3 (by kernel_rfl) h3) (fa0 W _))
 refine us ?_ (yaO hz (by decide) (by kernel_rfl) fun _ W s hS=>yaf (x:=.tmp 7) (t:=3) (by kernel_rfl) (s.u 0 7 (by kernel_rfl)) (ld3 W _ 0 _ ((hc W hS 0 _ rfl))))
 refine us ?_ (yaO hz (by decide) (by kernel_rfl) fun _ W s _=>yad (x:=.tmp 2) (t:=31) (f:=0) (by kernel_rfl) (s.b 2 (by kernel_rfl) h2) (fa0 W _))
 exact fun j hj=>absurd hj (Nat.not_lt_zero j)
noncomputable def s2_R:Array Oper:=((Tryz.f11.body).bind (yas 2)).getD #[]
def yvr  (j:Nat):Value:=([.bool false]:List Value).getD j undef
def s2_d:List (Option Tmp):=[some 4]
theorem yoF:s2_d.Nodup:=by unfold s2_d;decide
theorem yuj  {S:World→Prop} {a0:Act} {Q:Exit→Act→World→Prop} {w:World}  (ha:a0.tmps.size=145) (hS:S w)
  (hq:∀ a' w',S w'→a'.defers=a0.defers→a'.tmps.size=145→(∀ j d,s2_d[j]?=some (some d)→a'.tmps[d]?=some (yvr  j))→(∀ d,some d ∉ s2_d→a'.tmps[d]?=a0.tmps[d]?)→Q .normal a' w'):(Code.region 2 s2_R false).wp Tryz.prog Q a0 w:=by
 have hz:s2_R.size=1:=by kernel_rfl
 refine yaG (m:=145) hz (by kernel_rfl) yoF (by kernel_rfl) ha ?_ hS hq
 refine us ?_ (yaO hz (by decide) (by kernel_rfl) fun _ _ _ _=>yaA (x:=.const (.bool false)) (by kernel_rfl) (rfl))
 exact fun j hj=>absurd hj (Nat.not_lt_zero j)
end Go.Proofs.YtkpeklealgicpabGreatDoor
