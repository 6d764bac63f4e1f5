/-
  Regions that draw their order, with guards and calls: what a program needs that writes their walks.
  A region that keeps its order, with guards and calls, on any frame; what some more operations do.
  Regions with guards and calls, an operation a row.
  isRight: its region.
  isRight, of any kind.
  Check, whole: 2 where a count is past its limit, 0 where the command is right, else 1.
  What is true of every token that is scanned.
  The document's reader, without memory.
  The program's parser is the document's reader, on whatever is scanned.
-/
import Derived.Test.YtkpeklealgicpabGreatDoorQa
import Derived.Test.YtkpeklealgicpabGreatDoorQg

set_option maxRecDepth 100000
set_option maxHeartbeats 8000000
namespace Go.Proofs.YtkpeklealgicpabGreatDoor
open Go.RowKit
theorem ym8 {P:Program} {md:Region.Mode} {ops:Array Oper} {Q:Exit→Act→World→Prop} {S:World→Prop} {L0:Array Bool} {a0:Act} {V:Nat→Value} (hk:RunOk ops L0 a0 V P md Q S)
  (hq:∀ listed a' w',S w'→RunAt ops L0 a0 V listed a'→(∀ j,j < ops.size→listed.getD j true=true)→Q .normal a' w') :
  ∀ (fuel:Nat) (listed:Array Bool) (a:Act) (w:World),RunAt ops L0 a0 V listed a→S w→left ops listed≤fuel→wpAnyH P md ops Q S fuel listed a w:=by
 have fin:∀ listed a w,RunAt ops L0 a0 V listed a→S w→Region.ready md ops listed=[]→Q .normal a w:=by
  intro listed a w hd hS hr
  exact hq listed a w hS hd (ypr hk.back hd hr)
 intro fuel
 induction fuel with
 | zero =>
  intro listed a w hd hS hl
  have hr:Region.ready md ops listed=[]:=by
   cases hh:Region.ready md ops listed with
   | nil=>rfl
   | cons i r =>
    exfalso
    have hi:i ∈ Region.ready md ops listed:=by rw [hh];simp
    unfold Region.ready at hi
    rw [List.mem_filter] at hi
    have hu:(!listed.getD i true)=true:=by
     have:=hi.2
     rw [Bool.and_eq_true] at this
     exact this.1
    have:0 < left ops listed:=List.countP_pos_iff.2 ⟨i,hi.1,hu⟩
    omega
  exact ⟨hr,fin listed a w hd hS hr⟩
 | succ fuel ih =>
  intro listed a w hd hS hl
  refine ⟨fin listed a w hd hS,fun i hi=>?_⟩
  unfold Region.ready at hi
  rw [List.mem_filter,Bool.and_eq_true] at hi
  obtain ⟨hir,hu,hall⟩:=hi
  have hisz:=List.mem_range.1 hir
  have hu':listed.getD i true=false:=by simpa using hu
  have h0:L0.getD i true=false:=by
   cases e:L0.getD i true
   ·rfl
   ·rw [hd.more i e] at hu';cases hu'
  obtain ⟨o,ho⟩:∃ o,ops[i]?=some o:=⟨ops[i],Array.getElem?_eq_getElem hisz⟩
  rw [ho] at hall
  simp only [Option.map_some,Option.getD_some,Array.all_eq_true_iff_forall_mem] at hall
  refine hk.runs i o listed a w ho h0 hd (fun e he hb=>by
   have:=hall e he
   rw [hb] at this
   simpa using this) hS _ (fun w' hS'=>⟨hS',ih _ _ _ ?_ hS' ?_⟩)
  ·obtain ⟨d,hdst,hlt⟩:=hk.dst i o ho h0
   have hput:a.put o.dst (V i)={ a with tmps:=a.tmps.setIfInBounds d (V i) }:=by rw [hdst];rfl
   have hget:∀ j,(listed.setIfInBounds i true).getD j true=if j=i then true else listed.getD j true:=by
    intro j
    by_cases e:j=i
    ·subst e;rw [if_pos rfl];simp [Array.getD]
    ·rw [if_neg e]
     by_cases hj:j < listed.size
     ·simp [Array.getD,hj,Ne.symm e]
     ·simp [Array.getD,hj]
   rw [hput]
   refine ⟨by simpa using hd.size,hd.defers, ?_, ?_, ?_,by simpa using hd.frame⟩
   ·intro j hj
    rw [hget]
    by_cases e:j=i
    ·rw [if_pos e]
    ·rw [if_neg e];exact hd.more j hj
   ·intro j p d' hj hj0 hl hpd
    rw [hget] at hl
    by_cases e:j=i
    ·subst e
     rw [ho] at hj;cases hj
     rw [hdst] at hpd;cases hpd
     rw [Array.getElem?_setIfInBounds_self,if_pos (by rw [hd.frame];exact hlt)]
    ·rw [if_neg e] at hl
     have hne:d≠d':=by
      intro e2
      subst e2
      exact e (hk.one j i p o d hj ho hj0 h0 hpd hdst)
     rw [Array.getElem?_setIfInBounds_ne hne]
     exact hd.new j p d' hj hj0 hl hpd
   ·intro d' hd'
    have hne:d≠d':=by
     intro e2
     subst e2
     exact hd' i o ho h0 hdst
    rw [Array.getElem?_setIfInBounds_ne hne]
    exact hd.old d' hd'
  ·have hc:=yjH (fun j=>!listed.getD j true) i (by simpa using hu') (List.range ops.size) hir
   have e:left ops (listed.setIfInBounds i true)=(List.range ops.size).countP (fun j=>!listed.getD j true&&j != i):=by
    unfold left
    apply List.countP_congr
    intro j hj
    have hj':=List.mem_range.1 hj
    have hsz:=hd.size
    by_cases e:j=i
    ·subst e;simp [Array.getD,hsz,hj']
    ·simp [Array.getD,hsz,hj',Ne.symm e,e]
   unfold left at hl
   omega
def gw (p:Bool) (v:Value):Value:=if p=true then v else undef
theorem yn4 {p:Bool} {v:Value} (h:p=true):gw p v=v:=by rw [gw,if_pos h]
theorem yqx {p:Bool} {v:Value} (h:p=false):gw p v=undef:=by rw [gw,h];rfl
theorem yhP {o:Oper} {ops:Array Oper} {tm:Array Value} {g d:Nat} {b G c:Bool} (h:o.guard=some (g,b)) (hd:(ops[g]?).bind (·.dst)=some d) (ht:tm[d]?=some (gw G (.bool c))):Region.wanted o (yielded ops tm)=(G&&(c == b)):=by
 cases G with
 | true =>
  rw [yn4 rfl] at ht
  simp only [Region.wanted,h,yielded,hd,Option.bind_some,ht]
  cases c <;> cases b <;> rfl
 | false =>
  rw [yqx rfl] at ht
  simp only [Region.wanted,h,yielded,hd,Option.bind_some,ht,undef]
  cases b <;> rfl
theorem yph {G c x:Bool} (h:G=true):(if c=true then gw (G&&(c == true)) (.bool x) else .bool false)=(.bool (c&&x):Value):=by
 subst h;cases c <;> cases x <;> rfl
theorem yru {G c x:Bool} (h:G=true):(if c=true then (.bool true:Value) else gw (G&&(c == false)) (.bool x))=.bool (c || x):=by
 subst h;cases c <;> cases x <;> rfl
def ObR (P:Program) (R:Array Oper) (n:Nat) (a0:Act) (V:Nat→Value) (Q:Exit→Act→World→Prop) (S:World→Prop) (j:Nat):Prop :=
 ∀ o listed a W,R[j]?=some o→RunAt R (Array.replicate n false) a0 V listed a→(∀ e ∈ o.after,Region.binds .any e=true→listed.getD e.on false=true)→S W →
  ∀ K:Act→World→Prop,(∀ w',S w'→K (a.put o.dst (V j)) w')→wpOp P R Q j K a W
theorem ynA {p:Nat→Prop} {n:Nat} (h:∀ j,j < n→p j) (hn:p n):∀ j,j < n+1→p j:=fun j hj=>by
 by_cases e:j=n
 ·exact e ▸ hn
 ·exact h j (by omega)
def yrO (ops:Array Oper) (n:Nat):Bool:=(List.range ops.size).all fun j=>match ops[j]? with
 | some o=>o.after.all (fun e=>decide (e.on < j))&&(match o.dst with|some d=>decide (d < n)|none=>false)
 | none=>true
theorem yhz {P:Program} {R:Array Oper} {n m:Nat} {dls:List (Option Tmp)} {a0:Act} {V:Nat→Value} {Q:Exit→Act→World→Prop} {S:World→Prop} (hsz:R.size=n) (hb:yrO R m=true) (hdl:R.toList.map (·.dst)=dls) (hnd:dls.Nodup) (ha:a0.tmps.size=m)
  (hob:∀ j,j < n→ObR P R n a0 V Q S j):RunOk R (Array.replicate n false) a0 V P .any Q S:=by
 have each:∀ (j:Nat) (o:Oper),R[j]?=some o→o.after.all (fun e=>decide (e.on < j))=true∧(match o.dst with|some d=>decide (d < m)|none=>false)=true:=by
  intro j o hj
  have hlt:=(ltS hj)
  have:=List.all_eq_true.1 hb j (List.mem_range.2 hlt)
  rw [hj] at this
  simpa only [Bool.and_eq_true] using this
 refine ⟨by rw [hsz];simp, ?_, ?_, ?_, ?_⟩
 ·intro j o hj _ e he
  have:=Array.all_eq_true_iff_forall_mem.1 (each j o hj).1 e he
  simpa using this
 ·intro j o hj _
  have:=(each j o hj).2
  cases hd:o.dst with
  | none=>rw [hd] at this;cases this
  | some d=>rw [hd] at this;exact ⟨d,rfl,by rw [ha];simpa using this⟩
 ·intro j k o p d hj hk _ _ hod hpd
  have at':∀ (i:Nat) (q:Oper),R[i]?=some q→dls[i]?=some q.dst:=by
   intro i q hq
   rw [← hdl,List.getElem?_map,Array.getElem?_toList,hq];rfl
  have e1:=at' j o hj
  have e2:=at' k p hk
  rw [hod] at e1
  rw [hpd] at e2
  exact (List.getElem?_inj (List.getElem?_eq_some_iff.1 e1).1 hnd).1 (e1.trans e2.symm)
 ·intro j o listed a W hj _ hd hl hS K hK
  have hlt:=(ltS hj)
  rw [hsz] at hlt
  exact hob j hlt o listed a W hj hd hl hS K hK
def ygh (T:List Value):List (Option Tmp×Value)→List Value
 | []=>T
 | (some d,v)::r=>ygh (T.set d v) r
 | (none,_)::r=>ygh T r
theorem yiO:∀ (ps:List (Option Tmp×Value)) (T:List Value),(ygh T ps).length=T.length:=by
 intro ps
 induction ps with
 | nil=>intro T;rfl
 | cons p r ih =>
  obtain ⟨d,v⟩:=p
  intro T
  cases d with
  | none=>exact ih T
  | some d=>rw [ygh,ih];simp
theorem ye7:∀ (ps:List (Option Tmp×Value)) (T:List Value) (d:Nat),(∀ p ∈ ps,p.1≠some d)→(ygh T ps)[d]?=T[d]?:=by
 intro ps
 induction ps with
 | nil=>intro T d _;rfl
 | cons p r ih =>
  obtain ⟨e,v⟩:=p
  intro T d h
  cases e with
  | none=>exact ih T d fun q hq=>h q (List.mem_cons_of_mem _ hq)
  | some e =>
   rw [ygh,ih _ d fun q hq=>h q (List.mem_cons_of_mem _ hq)]
   have:e≠d:=fun h2=>h (some e,v) List.mem_cons_self (by rw [h2])
   rw [List.getElem?_set_ne this]
theorem yjm:∀ (ps:List (Option Tmp×Value)) (T:List Value) (d:Nat) (v:Value),(ps.map (·.1)).Nodup→(some d,v) ∈ ps→d < T.length→(ygh T ps)[d]?=some v:=by
 intro ps
 induction ps with
 | nil=>intro T d v _ h;cases h
 | cons p r ih =>
  obtain ⟨e,u⟩:=p
  intro T d v hn hm hd
  rw [List.map_cons,List.nodup_cons] at hn
  rcases List.mem_cons.1 hm with h|h
  ·cases h
   rw [ygh,ye7]
   ·rw [List.getElem?_set_self hd]
   ·intro q hq hq2
    exact hn.1 (List.mem_map.2 ⟨q,hq,hq2⟩)
  ·cases e with
   | none=>exact ih T d v hn.2 h hd
   | some e=>rw [ygh];exact ih _ d v hn.2 h (by simpa using hd)
theorem ym7 {R:Array Oper} {n:Nat} {dls:List (Option Tmp)} {a0 a':Act} {V:Nat→Value} {listed:Array Bool} (hsz:R.size=n) (hdl:R.toList.map (·.dst)=dls) (hnd:dls.Nodup) (hlt:∀ d,some d ∈ dls→d < a0.tmps.size)
  (hd:RunAt R (Array.replicate n false) a0 V listed a') (hall:∀ j,j < R.size→listed.getD j true=true):a'={ tmps:=(ygh a0.tmps.toList (dls.zip ((List.range n).map V))).toArray,defers:=a0.defers }:=by
 have hdn:dls.length=n:=by rw [← hdl];simp [hsz]
 have hfst:(dls.zip ((List.range n).map V)).map (·.1)=dls:=by
  rw [List.map_fst_zip];simp [hdn]
 have h0:∀ j,j < n→(Array.replicate n false).getD j true=false:=by intro j hj;simp [Array.getD,hj]
 have ht:a'.tmps=(ygh a0.tmps.toList (dls.zip ((List.range n).map V))).toArray:=by
  apply Array.ext_getElem?
  intro i
  suffices h:a'.tmps[i]?=(ygh a0.tmps.toList (dls.zip ((List.range n).map V)))[i]? by rw [h];simp
  by_cases hi:some i ∈ dls
  ·obtain ⟨j,hj⟩:=List.getElem?_of_mem hi
   have hjn:j < n:=by have:=(List.getElem?_eq_some_iff.1 hj).1;omega
   have hjo:∃ o,R[j]?=some o:=⟨R[j],Array.getElem?_eq_getElem (by omega)⟩
   obtain ⟨o,ho⟩:=hjo
   have hod:o.dst=some i:=by
    have:dls[j]?=some o.dst:=by rw [← hdl,List.getElem?_map,Array.getElem?_toList,ho];rfl
    rw [hj] at this
    exact (Option.some.inj this).symm
   rw [hd.new j o i ho (h0 j hjn) (hall j (by omega)) hod]
   refine (yjm _ _ i (V j) (by rw [hfst];exact hnd) ?_ (by simpa using hlt i hi)).symm
   refine List.mem_of_getElem? (i:=j) ?_
   rw [List.getElem?_zip_eq_some]
   exact ⟨hj,by simp [hjn]⟩
  ·rw [hd.old i (fun j o hj _ hod=>hi ?_),ye7]
   ·rw [Array.getElem?_toList]
   ·intro p hp hpi
    exact hi (hfst ▸ List.mem_map.2 ⟨p,hp,hpi⟩)
   ·have:dls[j]?=some o.dst:=by rw [← hdl,List.getElem?_map,Array.getElem?_toList,hj];rfl
    rw [hod] at this
    exact List.mem_of_getElem? this
 cases a'
 simp only [Act.mk.injEq]
 exact ⟨ht,hd.defers⟩
theorem ynG {P:Program} {R:Array Oper} {n m:Nat} {dls:List (Option Tmp)} {a0:Act} {V:Nat→Value} {Q:Exit→Act→World→Prop} {S:World→Prop} {id:Nat} {w:World} (hm:P.follows .mixedOrders=true) (hsz:R.size=n) (hb:yrO R m=true) (hdl:R.toList.map (·.dst)=dls) (hnd:dls.Nodup) (ha:a0.tmps.size=m)
  (hob:∀ j,j < n→ObR P R n a0 V Q S j) (hS:S w.drew)
  (hq:∀ w',S w'→Q .normal { tmps:=(ygh a0.tmps.toList (dls.zip ((List.range n).map V))).toArray,defers:=a0.defers } w'):(Code.region id R true).wp P Q a0 w:=by
 have hlt:∀ d,some d ∈ dls→d < a0.tmps.size:=by
  intro d hd
  obtain ⟨j,hj⟩:=List.getElem?_of_mem hd
  have hk:=yhz hsz hb hdl hnd ha hob
  have hjn:j < R.size:=by have:=(List.getElem?_eq_some_iff.1 hj).1;rw [← hdl] at this;simpa using this
  have ho:R[j]?=some R[j]:=Array.getElem?_eq_getElem hjn
  obtain ⟨d',h1,h2⟩:=hk.dst j _ ho (by simp [Array.getD];omega)
  have:dls[j]?=some (R[j]).dst:=by rw [← hdl,List.getElem?_map,Array.getElem?_toList,ho];rfl
  rw [hj,h1] at this
  cases this
  exact h2
 refine wp_region_held_drew (S:=S) hm hS (fun hHeld=>?_)
 rw [hsz]
 refine ym8 (V:=V) (yhz hsz hb hdl hnd ha hob) ?_ _ _ _ _ ⟨by rw [hsz];simp,rfl,fun _ h=>h,fun j o d _ h1 h2 _=>(by rw [h1] at h2;cases h2),fun _ _=>rfl,rfl⟩ hHeld ?_
 ·intro listed a' w' hS' hd hall
  rw [ym7 hsz hdl hnd hlt hd hall]
  exact hq w' hS'
 ·unfold left
  rw [hsz]
  exact Nat.le_trans List.countP_le_length (by simp)
theorem yja {T:List Value} {dls:List (Option Tmp)} {n:Nat} {V:Nat→Value} (hnd:dls.Nodup) (hl:dls.length=n) (j d:Nat) (hj:dls[j]?=some (some d)) (hd:d < T.length):(ygh T (dls.zip ((List.range n).map V)))[d]?=some (V j):=by
 have hfst:(dls.zip ((List.range n).map V)).map (·.1)=dls:=by
  rw [List.map_fst_zip];simp [hl]
 have hjn:j < n:=by have:=(List.getElem?_eq_some_iff.1 hj).1;omega
 refine yjm _ _ d (V j) (by rw [hfst];exact hnd) ?_ hd
 refine List.mem_of_getElem? (i:=j) ?_
 rw [List.getElem?_zip_eq_some]
 exact ⟨hj,by simp [hjn]⟩
theorem ygg {P:Program} {fn:Func} {R:Ending→World→Prop} {T:List Value} {dls:List (Option Tmp)} {n:Nat} {V:Nat→Value} {w:World} {s:Nat} (j:Nat) (hres:fn.results=#[.tmp s]) (hnd:dls.Nodup) (hl:dls.length=n) (hj:dls[j]?=some (some s)) (hs:s < T.length) (h:R (.returned (V j)) w) :
  bodyPost P fn R .ret { tmps:=(ygh T (dls.zip ((List.range n).map V))).toArray,defers:=[] } w:=by
 refine bodyPost_ret (results_tmp hres _ _ _) rfl ?_
 have e:(ygh T (dls.zip ((List.range n).map V))).toArray.getD s undef=V j:=by
  rw [Array.getD_eq_getD_getElem?]
  have:=yja (T:=T) (V:=V) hnd hl j s hj hs
  simp only [List.getElem?_toArray,this,Option.getD_some]
 show R (.returned ((ygh T (dls.zip ((List.range n).map V))).toArray.getD s undef)) w
 rw [e];exact h
theorem ye0 (W:World) (x y:Operand) (n m:Int):(do eqGuard .eql 3 x y (.int .i64 n) (.int .i64 m);binOp .eql 3 (.int .i64 n) (.int .i64 m):Sem Value).run Tryz.prog W=.ok (.bool (decide (n=m))) W:=by
 have e:(n == m)=decide (n=m):=by rw [Bool.eq_iff_iff];simp
 rw [← e]
 go_simp
theorem ysS (W:World) (x y:Operand) (n m:Int):(do eqGuard .leq 3 x y (.int .i64 n) (.int .i64 m);binOp .leq 3 (.int .i64 n) (.int .i64 m):Sem Value).run Tryz.prog W=.ok (.bool (decide (n≤m))) W:=by go_simp
theorem ydm {P:Program} {ρ:Operand→Value} {o:Oper} {W:World} {f:FuncId} (hf:∀ args W,(callFunc f args).run P W=.ok (.enter f args) W) {x y z:Operand} {ts:Array TypeId} (ho:o.op=.call { callee:=.value (.func f),args:=#[x,y,z],argTypes:=ts }) {p q r:Value} (hρ:ρ (.func f)=.func (.func f) #[] #[]) (hx:ρ x=p) (hy:ρ y=q) (hz:ρ z=r):(execOp ρ o).run P W=.ok (.enter f #[p,q,r]) W:=by
 simp [execOp,ho,resolve,hρ,hx,hy,hz,invoke,go_sem,hf]
theorem yuf (W:World) (a:Option Addr) (n c:Nat) (ty:TypeId):(Builtin.len_ #[27] ty #[.slice a n c]).run Tryz.prog W=.ok (.int .i64 (n:Int)) W:=by go_simp
theorem fx0 (W:World) (b:Nat):(Instr.fieldAt 29 (.pointer (some ⟨b,0,none⟩)) 0).run Tryz.prog W=.ok (.pointer (some ⟨b,0,none⟩)) W:=by go_simp
theorem fx1 (W:World) (b:Nat):(Instr.fieldAt 29 (.pointer (some ⟨b,0,none⟩)) 1).run Tryz.prog W=.ok (.pointer (some ⟨b,1,none⟩)) W:=by go_simp
theorem fx2 (W:World) (b:Nat):(Instr.fieldAt 29 (.pointer (some ⟨b,0,none⟩)) 2).run Tryz.prog W=.ok (.pointer (some ⟨b,4,none⟩)) W:=by go_simp
theorem fx3 (W:World) (b:Nat):(Instr.fieldAt 29 (.pointer (some ⟨b,0,none⟩)) 3).run Tryz.prog W=.ok (.pointer (some ⟨b,5,none⟩)) W:=by go_simp
theorem yu9 (W:World) (b o:Nat) (v:Value) (h:W.cell? ⟨b,o,none⟩=some v):(Instr.loadAt 27 (.pointer (some ⟨b,o,none⟩))).run Tryz.prog W=.ok v W:=by go_simp
theorem yuy (args:Array Value) (W:World):(callFunc 25 args).run Tryz.prog W=.ok (.enter 25 args) W:=by go_simp
theorem yql (args:Array Value) (W:World):(callFunc 31 args).run Tryz.prog W=.ok (.enter 31 args) W:=by go_simp
theorem ytx (args:Array Value) (W:World):(callFunc 32 args).run Tryz.prog W=.ok (.enter 32 args) W:=by go_simp
theorem ytw (args:Array Value) (W:World):(callFunc 130 args).run Tryz.prog W=.ok (.enter 130 args) W:=by go_simp
def yeV (R:Array Oper) (j d:Nat):Bool:=(List.range j).all fun i=>match R[i]? with|some o=>o.dst != some d|none=>true
def ObP (P:Program) (R:Array Oper) (n:Nat) (a0:Act) (V:Nat→Value) (Q:Exit→Act→World→Prop) (S:World→Prop) (j:Nat):Prop :=
 ∀ o listed a W,R[j]?=some o→RunAt R (Array.replicate n false) a0 V listed a→(∀ i,i < j→listed.getD i true=true)→(∀ d,yeV R j d=true→a.tmps[d]?=a0.tmps[d]?)→S W →
  ∀ K:Act→World→Prop,(∀ w',S w'→K (a.put o.dst (V j)) w')→wpOp P R Q j K a W
theorem yup {R:Array Oper} {n:Nat} {a0 a:Act} {V:Nat→Value} {listed:Array Bool} {j:Nat} (hd:RunAt R (Array.replicate n false) a0 V listed a) (hl:∀ i,i < j→listed.getD i true=true) (k s:Nat)
  (hk:k < j) (h0:(Array.replicate n false).getD k true=false) (hs:((R[k]?).bind (·.dst))=some s):a.tmps[s]?=some (V k):=by
 cases hp:R[k]? with
 | none=>rw [hp] at hs;cases hs
 | some p =>
  rw [hp] at hs
  exact hd.new k p s hp h0 (hl k hk) hs
theorem yjv (listed:Array Bool) (i j:Nat):(listed.setIfInBounds i true).getD j true=if j=i then true else listed.getD j true:=by
 by_cases e:j=i
 ·subst e;rw [if_pos rfl];simp [Array.getD]
 ·rw [if_neg e]
  by_cases hj:j < listed.size
  ·simp [Array.getD,hj,Ne.symm e]
  ·simp [Array.getD,hj]
theorem ym3 {R:Array Oper} {L0 listed:Array Bool} {a0 a:Act} {V:Nat→Value} {i d:Nat} {o:Oper} (hd:RunAt R L0 a0 V listed a) (ho:R[i]?=some o) (h0:L0.getD i true=false) (hdst:o.dst=some d) (hlt:d < a0.tmps.size)
  (one:∀ j p,R[j]?=some p→L0.getD j true=false→p.dst=some d→j=i):RunAt R L0 a0 V (listed.setIfInBounds i true) (a.put o.dst (V i)):=by
 have hput:a.put o.dst (V i)={ a with tmps:=a.tmps.setIfInBounds d (V i) }:=by rw [hdst];rfl
 have hget:=yjv listed i
 rw [hput]
 refine ⟨by simpa using hd.size,hd.defers, ?_, ?_, ?_,by simpa using hd.frame⟩
 ·intro j hj
  rw [hget]
  by_cases e:j=i
  ·rw [if_pos e]
  ·rw [if_neg e];exact hd.more j hj
 ·intro j p d' hj hj0 hl hpd
  rw [hget] at hl
  by_cases e:j=i
  ·subst e
   rw [ho] at hj;cases hj
   rw [hdst] at hpd;cases hpd
   rw [Array.getElem?_setIfInBounds_self,if_pos (by rw [hd.frame];exact hlt)]
  ·rw [if_neg e] at hl
   have hne:d≠d':=by
    intro e2
    subst e2
    exact e (one j p hj hj0 hpd)
   rw [Array.getElem?_setIfInBounds_ne hne]
   exact hd.new j p d' hj hj0 hl hpd
 ·intro d' hd'
  have hne:d≠d':=by
   intro e2
   subst e2
   exact hd' i o ho h0 hdst
  rw [Array.getElem?_setIfInBounds_ne hne]
  exact hd.old d' hd'
theorem yaT {P:Program} {R:Array Oper} {n m:Nat} {dls:List (Option Tmp)} {a0:Act} {V:Nat→Value} {Q:Exit→Act→World→Prop} {S:World→Prop} {id:Nat} {w:World} (hsz:R.size=n) (hdl:R.toList.map (·.dst)=dls) (hnd:dls.Nodup)
  (hin:dls.all (fun d=>match d with|some d=>decide (d < m)|none=>false)=true) (ha:a0.tmps.size=m) (hob:∀ j,j < n→ObP P R n a0 V Q S j) (hS:S w)
  (hq:∀ a' w',S w'→a'.defers=a0.defers→a'.tmps.size=m→(∀ j d,dls[j]?=some (some d)→a'.tmps[d]?=some (V j))→(∀ d,some d ∉ dls→a'.tmps[d]?=a0.tmps[d]?)→Q .normal a' w'):(Code.region id R false).wp P Q a0 w:=by
 have at':∀ (i:Nat) (q:Oper),R[i]?=some q→dls[i]?=some q.dst:=by
  intro i q hq
  rw [← hdl,List.getElem?_map,Array.getElem?_toList,hq];rfl
 have h0:∀ j,j < n→(Array.replicate n false).getD j true=false:=by intro j hj;simp [Array.getD,hj]
 have go:∀ k,k≤n→∀ listed a W,RunAt R (Array.replicate n false) a0 V listed a→(∀ i,i < n - k→listed.getD i true=true)→(∀ d,yeV R (n - k) d=true→a.tmps[d]?=a0.tmps[d]?)→S W→wpOps P R Q (List.range' (n - k) k) a W:=by
  intro k
  induction k with
  | zero =>
   intro _ listed a W hd hl _ hW
   refine hq a W hW hd.defers (hd.frame.trans ha) ?_ ?_
   ·intro j d hj
    have hjn:j < n:=by have:=(List.getElem?_eq_some_iff.1 hj).1;rw [← hdl] at this;simp [hsz] at this;exact this
    obtain ⟨o,ho⟩:∃ o,R[j]?=some o:=⟨R[j]'(by omega),Array.getElem?_eq_getElem (by omega)⟩
    have e1:=at' j o ho
    rw [hj] at e1
    exact hd.new j o d ho (h0 j hjn) (hl j (by omega)) (Option.some.inj e1).symm
   ·intro d hd'
    refine hd.old d fun j o hj _ hod=>hd' ?_
    have e1:=at' j o hj
    rw [hod] at e1
    exact List.mem_of_getElem? e1
  | succ k ih =>
   intro hk listed a W hd hl hb hW
   have hjn:n - (k+1) < n:=by omega
   obtain ⟨o,ho⟩:∃ o,R[n - (k+1)]?=some o:=⟨R[n - (k+1)]'(by omega),Array.getElem?_eq_getElem (by omega)⟩
   rw [List.range'_succ,wpOps_cons]
   have e1:=at' _ o ho
   obtain ⟨d,hdst,hlt⟩:∃ d,o.dst=some d∧d < m:=by
    have:=List.all_eq_true.1 hin _ (List.mem_of_getElem? e1)
    cases hod:o.dst with
    | none=>rw [hod] at this;cases this
    | some d=>rw [hod] at this;exact ⟨d,rfl,by simpa using this⟩
   refine hob _ hjn o listed a W ho hd hl hb hW _ fun w' hw'=>?_
   have e2:n - (k+1)+1=n - k:=by omega
   rw [e2]
   refine ih (by omega) _ _ w' (ym3 hd ho (h0 _ hjn) hdst (by rw [ha];exact hlt) ?_) ?_ ?_ hw'
   ·intro j p hj _ hpd
    have e3:=at' j p hj
    rw [hpd] at e3
    rw [hdst] at e1
    exact (List.getElem?_inj (List.getElem?_eq_some_iff.1 e3).1 hnd).1 (e3.trans e1.symm)
   ·intro i hi
    rw [yjv]
    by_cases e:i=n - (k+1)
    ·rw [if_pos e]
    ·rw [if_neg e];exact hl i (by omega)
   ·intro d' hd'
    unfold yeV at hd'
    rw [← e2,List.range_succ,List.all_append,Bool.and_eq_true] at hd'
    have h5:d≠d':=by
     intro e5
     have:=hd'.2
     rw [List.all_cons,Bool.and_eq_true,ho] at this
     simp [hdst,e5] at this
    have hput:(a.put o.dst (V (n - (k+1)))).tmps=a.tmps.setIfInBounds d (V (n - (k+1))):=by rw [hdst];rfl
    rw [hput,Array.getElem?_setIfInBounds_ne h5]
    exact hb d' hd'.1
 refine wp_region ?_
 rw [hsz,List.range_eq_range']
 have:=go n (Nat.le_refl n) (Array.replicate n false) a0 w ⟨by simp [hsz],rfl,fun _ h=>h,fun j o d hj h1 h2 _=>(by rw [h1] at h2;cases h2),fun _ _=>rfl,rfl⟩ (fun i hi=>by omega) (fun _ _=>rfl) hS
 rw [Nat.sub_self] at this
 exact this
theorem ye2 {P:Program} {ρ:Operand→Value} {o:Oper} {W:World} {t:TypeId} {x y:Operand} (ho:o.op=.indexAddr t x y) {p q v:Value} (hx:ρ x=p) (hy:ρ y=q) (hr:(Instr.indexAt t p q).run P W=.ok v W):(execOp ρ o).run P W=.ok (.value v) W:=by simp [execOp,ho,hx,hy,hr]
theorem yib (W:World) (x y:Operand) (n m:Int):(do eqGuard .gtr 3 x y (.int .i64 n) (.int .i64 m);binOp .gtr 3 (.int .i64 n) (.int .i64 m):Sem Value).run Tryz.prog W=.ok (.bool (decide (m < n))) W:=by go_simp
theorem yre (W:World) (x y:Operand) (n m:Int):(do eqGuard .lss 3 x y (.int .i64 n) (.int .i64 m);binOp .lss 3 (.int .i64 n) (.int .i64 m):Sem Value).run Tryz.prog W=.ok (.bool (decide (n < m))) W:=by go_simp
theorem yrV (W:World) (x y:Operand) (n m:Int):(do eqGuard .eql 32 x y (.int .i64 n) (.int .i64 m);binOp .eql 32 (.int .i64 n) (.int .i64 m):Sem Value).run Tryz.prog W=.ok (.bool (decide (n=m))) W:=by
 have e:(n == m)=decide (n=m):=by rw [Bool.eq_iff_iff];simp
 rw [← e]
 go_simp
theorem yuE (W:World) (x y:Operand) (n m:Bool):(do eqGuard .eql 4 x y (.bool n) (.bool m);binOp .eql 4 (.bool n) (.bool m):Sem Value).run Tryz.prog W=.ok (.bool (n == m)) W:=by go_simp
theorem yuG (W:World) (g o n c i:Nat) (h:i < n):(Instr.indexAt 22 (.slice (some ⟨g,o,none⟩) n c) (.int .i64 (i:Int))).run Tryz.prog W=.ok (.pointer (some ⟨g,o+i*2,none⟩)) W:=by
 have h':(i:Int) < (n:Int):=by omega
 go_simp
theorem yuZ (W:World) (g o n c i:Nat) (h:i < n):(Instr.indexAt 25 (.slice (some ⟨g,o,none⟩) n c) (.int .i64 (i:Int))).run Tryz.prog W=.ok (.pointer (some ⟨g,o+i*3,none⟩)) W:=by
 have h':(i:Int) < (n:Int):=by omega
 go_simp
theorem yu0 (W:World) (g o n c i:Nat) (h:i < n):(Instr.indexAt 26 (.slice (some ⟨g,o,none⟩) n c) (.int .i64 (i:Int))).run Tryz.prog W=.ok (.pointer (some ⟨g,o+i,none⟩)) W:=by
 have h':(i:Int) < (n:Int):=by omega
 go_simp
theorem fc0 (W:World) (b o:Nat):(Instr.fieldAt 56 (.pointer (some ⟨b,o,none⟩)) 0).run Tryz.prog W=.ok (.pointer (some ⟨b,o,none⟩)) W:=by go_simp
theorem fc1 (W:World) (b o:Nat):(Instr.fieldAt 56 (.pointer (some ⟨b,o,none⟩)) 1).run Tryz.prog W=.ok (.pointer (some ⟨b,o+1,none⟩)) W:=by go_simp
theorem fa0 (W:World) (b:Nat):(Instr.fieldAt 31 (.pointer (some ⟨b,0,none⟩)) 0).run Tryz.prog W=.ok (.pointer (some ⟨b,0,none⟩)) W:=by go_simp
theorem yp0 (W:World) (x y:Operand) (n:Nat) (h:n < 1000000000000001):(do eqGuard .add 3 x y (.int .i64 (n:Int)) (.int .i64 1);binOp .add 3 (.int .i64 (n:Int)) (.int .i64 1):Sem Value).run Tryz.prog W=.ok (.int .i64 ((n+1:Nat):Int)) W:=by
 have h1:((n+1:Nat):Int)=(n:Int)+1:=by omega
 rw [h1]
 have h2:(n:Int) < 1000000000000001:=by omega
 have h3:IntKind.i64.wrap ((n:Int)+1)=(n:Int)+1:=by rw [IntKind.wrap_i64];omega
 go_simp
theorem yuz (args:Array Value) (W:World):(callFunc 30 args).run Tryz.prog W=.ok (.enter 30 args) W:=by go_simp
theorem yuA (args:Array Value) (W:World):(callFunc 33 args).run Tryz.prog W=.ok (.enter 33 args) W:=by go_simp
theorem yty (args:Array Value) (W:World):(callFunc 34 args).run Tryz.prog W=.ok (.enter 34 args) W:=by go_simp
theorem yuB (args:Array Value) (W:World):(callFunc 35 args).run Tryz.prog W=.ok (.enter 35 args) W:=by go_simp
theorem yuC (args:Array Value) (W:World):(callFunc 36 args).run Tryz.prog W=.ok (.enter 36 args) W:=by go_simp
def oAt (R:Array Oper) (j:Nat):Oper:=(R[j]?).getD ⟨none,.move (.const undef),0, "",#[],none⟩
theorem ycS {R:Array Oper} {j n:Nat} (hz:R.size=n) (hj:j < n):R[j]?=some (oAt R j):=by
 rw [oAt,Array.getElem?_eq_getElem (by omega:j < R.size)];rfl
def slO (R:Array Oper) (D:Nat→Bool) (k t:Nat):Bool:=D k&&((R[k]?).bind (·.dst) == some t)
theorem yd1 {R:Array Oper} {D:Nat→Bool} {k t:Nat} (h:slO R D k t=true):D k=true∧((R[k]?).bind (·.dst))=some t:=by
 rw [slO,Bool.and_eq_true] at h
 exact ⟨h.1,by simpa using h.2⟩
def gdO (R:Array Oper) (o:Oper) (D:Nat→Bool) (g:Nat) (b:Bool) (d:Nat):Bool:=(o.guard == some (g,b))&&slO R D g d
theorem ydt {R:Array Oper} {o:Oper} {D:Nat→Bool} {g d:Nat} {b:Bool} (h:gdO R o D g b d=true):o.guard=some (g,b)∧slO R D g d=true:=by
 rw [gdO,Bool.and_eq_true] at h
 exact ⟨by simpa using h.1,h.2⟩
theorem us {p:Nat→Prop} {n:Nat} (h:∀ j,j < n→p j) (hn:p n):∀ j,j < n+1→p j:=ynA h hn
structure Sl (R:Array Oper) (a0:Act) (V:Nat→Value) (D N:Nat→Bool) (a:Act):Prop where
 at':∀ k s,D k=true→((R[k]?).bind (·.dst))=some s→a.tmps[s]?=some (V k)
 base:∀ d,N d=true→a.tmps[d]?=a0.tmps[d]?
def ypP (j:Nat) (k:Nat):Bool:=decide (k < j)
def ypQ (o:Oper) (n:Nat) (k:Nat):Bool:=decide (k < n)&&o.after.any (fun e=>Region.binds .any e&&e.on == k)
def yrI (P:Program) (R:Array Oper) (a0:Act) (V:Nat→Value) (Q:Exit→Act→World→Prop) (S:World→Prop) (j:Nat) (o:Oper) (D N:Nat→Bool):Prop :=
 ∀ a W,Sl R a0 V D N a→S W→∀ K:Act→World→Prop,(∀ w',S w'→K (a.put o.dst (V j)) w')→wpOp P R Q j K a W
section
variable {P:Program} {R:Array Oper} {a0 a:Act} {V:Nat→Value} {Q:Exit→Act→World→Prop} {S:World→Prop} {j n:Nat} {o:Oper} {D N:Nat→Bool}
theorem obP (eo:R[j]?=some o) (hj:j < n) (h:yrI P R a0 V Q S j o (ypP j) (yeV R j)):ObP P R n a0 V Q S j:=by
 intro o' listed a W ho hd hl hb hS K hK
 obtain rfl:o'=o:=Option.some.inj (ho.symm.trans eo)
 refine h a W ⟨fun k s hk hs=>?_,hb⟩ hS K hK
 have hk':k < j:=by simpa [ypP] using hk
 exact yup hd hl k s hk' (by simp [Array.getD];omega) hs
theorem obR (eo:R[j]?=some o) (h:yrI P R a0 V Q S j o (ypQ o n) (ykp R (Array.replicate n false))):ObR P R n a0 V Q S j:=by
 intro o' listed a W ho hd hl hS K hK
 obtain rfl:o'=o:=Option.some.inj (ho.symm.trans eo)
 refine h a W ⟨fun k s hk hs=>?_,fun d hn=>hd.base d hn⟩ hS K hK
 rw [ypQ,Bool.and_eq_true] at hk
 have hk':k < n:=by simpa using hk.1
 exact hd.slot hl k s hk.2 (by simp [Array.getD];omega) hs
theorem Sl.u (s:Sl R a0 V D N a) (k t:Nat) (h:slO R D k t=true):a.eval (.tmp t)=V k:=ycn (s.at' k t (yd1 h).1 (yd1 h).2)
theorem Sl.g (s:Sl R a0 V D N a) (k t:Nat) {G:Bool} {v:Value} (h:slO R D k t=true) (hG:G=true) (hV:V k=gw G v):a.eval (.tmp t)=v:=by
 rw [s.u k t h,hV,yn4 hG]
theorem Sl.b (s:Sl R a0 V D N a) (t:Nat) {v:Value} (h:N t=true) (hv:a0.tmps[t]?=some v):a.eval (.tmp t)=v:=ycn ((s.base t h).trans hv)
theorem yrU (eo:R[j]?=some o) (hg:o.guard=none) (h:∀ a W,Sl R a0 V D N a→S W→(execOp a.eval o).run P W=.ok (.value (V j)) W):yrI P R a0 V Q S j o D N :=
 fun a _ s hS _ hK=>yer eo (Or.inl ⟨yfK hg,fun W' hW'=>h a W' s hW'⟩) hS hK
theorem yrR {f:FuncId} {args:Array Value} (eo:R[j]?=some o) (hg:o.guard=none) (h:∀ a W,Sl R a0 V D N a→(execOp a.eval o).run P W=.ok (.enter f args) W) (hc:∀ W,S W→Calls P f args W fun e w'=>e=.returned (V j)∧S w'):yrI P R a0 V Q S j o D N :=
 fun a W s hS _ hK=>yjt f args eo (yfK hg) (h a W s) (hc W hS) hK
theorem yrS {g d:Nat} {b G0 x:Bool} {v:Value} (eo:R[j]?=some o) (hg:o.guard=some (g,b)) (hd:((R[g]?).bind (·.dst))=some d) (hD:D g=true) (hV0:V g=gw G0 (.bool x)) (hV:V j=gw (G0&&(x == b)) v)
  (h:(G0&&(x == b))=true→∀ a W,Sl R a0 V D N a→S W→(execOp a.eval o).run P W=.ok (.value v) W):yrI P R a0 V Q S j o D N:=by
 intro a W s hS K hK
 have hw:=yhP hg hd ((s.at' g d hD hd).trans (congrArg some hV0))
 cases hG:(G0&&(x == b)) with
 | false=>rw [hG] at hw;exact yer eo (Or.inr ⟨hw,by rw [hV];exact yqx hG⟩) hS hK
 | true =>
  rw [hG] at hw
  rw [hV,yn4 hG] at hK
  exact yer eo (Or.inl ⟨hw,fun W' hW'=>h hG a W' s hW'⟩) hS hK
theorem yrT {g d:Nat} {b G0 x:Bool} {v:Value} {f:FuncId} {args:Array Value} (eo:R[j]?=some o) (hg:o.guard=some (g,b)) (hd:((R[g]?).bind (·.dst))=some d) (hD:D g=true) (hV0:V g=gw G0 (.bool x)) (hV:V j=gw (G0&&(x == b)) v)
  (h:(G0&&(x == b))=true→∀ a W,Sl R a0 V D N a→(execOp a.eval o).run P W=.ok (.enter f args) W) (hc:∀ W,S W→Calls P f args W fun e w'=>e=.returned v∧S w'):yrI P R a0 V Q S j o D N:=by
 intro a W s hS K hK
 have hw:=yhP hg hd ((s.at' g d hD hd).trans (congrArg some hV0))
 cases hG:(G0&&(x == b)) with
 | false=>rw [hG] at hw;exact yer eo (Or.inr ⟨hw,by rw [hV];exact yqx hG⟩) hS hK
 | true =>
  rw [hG] at hw
  rw [hV,yn4 hG] at hK
  exact yjt f args eo hw (h hG a W s) (hc W hS) hK
theorem yaE {ρ:Operand→Value} {W:World} {c x:Tmp} {G C X:Bool} (ho:o.op=.pick (.tmp c) (.tmp x) (.const (.bool false))) (hc:ρ (.tmp c)=.bool C) (hx:ρ (.tmp x)=gw (G&&(C == true)) (.bool X)) (hk:ρ (.const (.bool false))=.bool false) (hG:G=true):(execOp ρ o).run P W=.ok (.value (.bool (C&&X))) W:=by
 rw [ylp ho hc,hx,hk,yph hG]
theorem ybI {ρ:Operand→Value} {W:World} {c y:Tmp} {G C X:Bool} (ho:o.op=.pick (.tmp c) (.const (.bool true)) (.tmp y)) (hc:ρ (.tmp c)=.bool C) (hy:ρ (.tmp y)=gw (G&&(C == false)) (.bool X)) (hk:ρ (.const (.bool true))=.bool true) (hG:G=true):(execOp ρ o).run P W=.ok (.value (.bool (C || X))) W:=by
 rw [ylp ho hc,hy,hk,yru hG]
end
section
variable {P:Program} {R:Array Oper} {a0:Act} {V:Nat→Value} {Q:Exit→Act→World→Prop} {S:World→Prop} {j n:Nat}
theorem ybf (hz:R.size=n) (hj:j < n) (hg:(oAt R j).guard=none) (h:∀ a W,Sl R a0 V (ypP j) (yeV R j) a→S W→(execOp a.eval (oAt R j)).run P W=.ok (.value (V j)) W):ObP P R n a0 V Q S j:=obP (ycS hz hj) hj (yrU (ycS hz hj) hg h)
theorem yvj {f:FuncId} {args:Array Value} (hz:R.size=n) (hj:j < n) (hg:(oAt R j).guard=none) (h:∀ a W,Sl R a0 V (ypP j) (yeV R j) a→(execOp a.eval (oAt R j)).run P W=.ok (.enter f args) W) (hc:∀ W,S W→Calls P f args W fun e w'=>e=.returned (V j)∧S w'):ObP P R n a0 V Q S j:=obP (ycS hz hj) hj (yrR (ycS hz hj) hg h hc)
theorem ybi (G0:Bool) {x:Bool} {v:Value} (g d:Nat) (b:Bool) (hz:R.size=n) (hj:j < n) (hg:gdO R (oAt R j) (ypP j) g b d=true) (hV0:V g=gw G0 (.bool x)) (hV:V j=gw (G0&&(x == b)) v)
  (h:(G0&&(x == b))=true→∀ a W,Sl R a0 V (ypP j) (yeV R j) a→S W→(execOp a.eval (oAt R j)).run P W=.ok (.value v) W):ObP P R n a0 V Q S j:=obP (ycS hz hj) hj (yrS (ycS hz hj) (ydt hg).1 (yd1 (ydt hg).2).2 (yd1 (ydt hg).2).1 hV0 hV h)
theorem yhV (G0:Bool) {x:Bool} {v:Value} {f:FuncId} {args:Array Value} (g d:Nat) (b:Bool) (hz:R.size=n) (hj:j < n) (hg:gdO R (oAt R j) (ypP j) g b d=true) (hV0:V g=gw G0 (.bool x)) (hV:V j=gw (G0&&(x == b)) v)
  (h:(G0&&(x == b))=true→∀ a W,Sl R a0 V (ypP j) (yeV R j) a→(execOp a.eval (oAt R j)).run P W=.ok (.enter f args) W) (hc:∀ W,S W→Calls P f args W fun e w'=>e=.returned v∧S w'):ObP P R n a0 V Q S j:=obP (ycS hz hj) hj (yrT (ycS hz hj) (ydt hg).1 (yd1 (ydt hg).2).2 (yd1 (ydt hg).2).1 hV0 hV h hc)
theorem yc5 (hz:R.size=n) (hj:j < n) (hg:(oAt R j).guard=none) (h:∀ a W,Sl R a0 V (ypQ (oAt R j) n) (ykp R (Array.replicate n false)) a→S W→(execOp a.eval (oAt R j)).run P W=.ok (.value (V j)) W):ObR P R n a0 V Q S j:=obR (ycS hz hj) (yrU (ycS hz hj) hg h)
theorem yuH {f:FuncId} {args:Array Value} (hz:R.size=n) (hj:j < n) (hg:(oAt R j).guard=none) (h:∀ a W,Sl R a0 V (ypQ (oAt R j) n) (ykp R (Array.replicate n false)) a→(execOp a.eval (oAt R j)).run P W=.ok (.enter f args) W) (hc:∀ W,S W→Calls P f args W fun e w'=>e=.returned (V j)∧S w'):ObR P R n a0 V Q S j:=obR (ycS hz hj) (yrR (ycS hz hj) hg h hc)
theorem ya5 (G0:Bool) {x:Bool} {v:Value} (g d:Nat) (b:Bool) (hz:R.size=n) (hj:j < n) (hg:gdO R (oAt R j) (ypQ (oAt R j) n) g b d=true) (hV0:V g=gw G0 (.bool x)) (hV:V j=gw (G0&&(x == b)) v)
  (h:(G0&&(x == b))=true→∀ a W,Sl R a0 V (ypQ (oAt R j) n) (ykp R (Array.replicate n false)) a→S W→(execOp a.eval (oAt R j)).run P W=.ok (.value v) W):ObR P R n a0 V Q S j:=obR (ycS hz hj) (yrS (ycS hz hj) (ydt hg).1 (yd1 (ydt hg).2).2 (yd1 (ydt hg).2).1 hV0 hV h)
theorem yd8 (G0:Bool) {x:Bool} {v:Value} {f:FuncId} {args:Array Value} (g d:Nat) (b:Bool) (hz:R.size=n) (hj:j < n) (hg:gdO R (oAt R j) (ypQ (oAt R j) n) g b d=true) (hV0:V g=gw G0 (.bool x)) (hV:V j=gw (G0&&(x == b)) v)
  (h:(G0&&(x == b))=true→∀ a W,Sl R a0 V (ypQ (oAt R j) n) (ykp R (Array.replicate n false)) a→(execOp a.eval (oAt R j)).run P W=.ok (.enter f args) W) (hc:∀ W,S W→Calls P f args W fun e w'=>e=.returned v∧S w'):ObR P R n a0 V Q S j:=obR (ycS hz hj) (yrT (ycS hz hj) (ydt hg).1 (yd1 (ydt hg).2).2 (yd1 (ydt hg).2).1 hV0 hV h hc)
end
def Xs (m o:Int) (r e:Bool):Bool:=if ya1 m o=true then r else e
def ycB (c:Cm) (m:Int) (kd:Bool):Bool:=(kd&&(Xs m 1 (yap c.name) (decide (c.name=[]))))
def ycC (c:Cm) (m:Int) (kd:Bool):Bool:=((ycB c m kd)&&(Xs m 2 (yap c.other) (decide (c.other=[]))))
def ycs (c:Cm) (m:Int) (kd:Bool):Bool:=((ycC c m kd)&&(Xs m 4 (yap c.column) (decide (c.column=[]))))
def ycD (c:Cm) (m:Int) (kd:Bool):Bool:=((ycs c m kd)&&(Xs m 8 (ydv c.cols) (decide (((c.cols.length:Nat):Int)=0))))
def yct (c:Cm) (m:Int) (kd:Bool):Bool:=((ycD c m kd)&&(Xs m 16 (yfG c.ty) (decide (c.ty=0))))
def ycu (c:Cm) (m:Int) (kd:Bool):Bool:=((yct c m kd)&&(Xs m 32 (ycm c.val) (ybU c.val)))
def ycv (c:Cm) (m:Int) (kd:Bool):Bool:=((ycu c m kd)&&(Xs m 64 (ydw c.vals) (decide (((c.vals.length:Nat):Int)=0))))
def ycE (c:Cm) (m:Int) (kd:Bool):Bool:=((ycv c m kd)&&(Xs m 128 (c.fields.all yap) (decide (((c.fields.length:Nat):Int)=0))))
def ybq (c:Cm) (m:Int) (kd:Bool):Bool:=((ycE c m kd)&&(Xs m 256 (ycL c.expr) (ybw c.expr)))
def ybA (c:Cm) (m:Int) (kd:Bool):Bool:=((ybq c m kd)&&(Xs m 512 (yey c.all c.wh) ((!c.all)&&(ybw c.wh))))
def ybB (c:Cm) (m:Int) (kd:Bool):Bool:=((ybA c m kd)&&(Xs m 1024 ((decide (c.order=[])) || (yap c.order)) (decide (c.order=[]))))
def ydp (c:Cm) (m:Int) (kd:Bool):Bool:=((ybB c m kd)&&(Xs m 2048 ((decide (-1≤c.limit))&&(decide (c.limit≤999999999))) (decide (c.limit=0))))
noncomputable def ris_R:Array Oper:=((Tryz.f29.body).bind (yaC 3)).getD #[]
def yun (c:Cm) (a1 a2 a3:Option Addr) (c1 c2 c3:Nat) (ea wa:Value) (m:Int) (kd:Bool) (b:Nat) (j:Nat):Value:=([.bool kd,.bool kd,gw (kd == true) (.func (.func 71) #[] #[.pointer (some ⟨b+1,0,none⟩)]),gw (kd == true) (.pointer (some ⟨b,1,none⟩)),gw (kd == true) (.string ⟨c.name.toArray⟩),gw (kd == true) (.bool (yap c.name)),gw (kd == true) (.pointer (some ⟨b,1,none⟩)),gw (kd == true) (.string ⟨c.name.toArray⟩),gw (kd == true) (.bool (decide (c.name=[]))),gw (kd == true) (.bool (Xs m 1 (yap c.name) (decide (c.name=[])))),.bool (ycB c m kd),.bool (ycB c m kd),gw ((ycB c m kd) == true) (.func (.func 71) #[] #[.pointer (some ⟨b+1,0,none⟩)]),gw ((ycB c m kd) == true) (.pointer (some ⟨b,2,none⟩)),gw ((ycB c m kd) == true) (.string ⟨c.other.toArray⟩),gw ((ycB c m kd) == true) (.bool (yap c.other)),gw ((ycB c m kd) == true) (.pointer (some ⟨b,2,none⟩)),gw ((ycB c m kd) == true) (.string ⟨c.other.toArray⟩),gw ((ycB c m kd) == true) (.bool (decide (c.other=[]))),gw ((ycB c m kd) == true) (.bool (Xs m 2 (yap c.other) (decide (c.other=[])))),.bool (ycC c m kd),.bool (ycC c m kd),gw ((ycC c m kd) == true) (.func (.func 71) #[] #[.pointer (some ⟨b+1,0,none⟩)]),gw ((ycC c m kd) == true) (.pointer (some ⟨b,3,none⟩)),gw ((ycC c m kd) == true) (.string ⟨c.column.toArray⟩),gw ((ycC c m kd) == true) (.bool (yap c.column)),gw ((ycC c m kd) == true) (.pointer (some ⟨b,3,none⟩)),gw ((ycC c m kd) == true) (.string ⟨c.column.toArray⟩),gw ((ycC c m kd) == true) (.bool (decide (c.column=[]))),gw ((ycC c m kd) == true) (.bool (Xs m 4 (yap c.column) (decide (c.column=[])))),.bool (ycs c m kd),.bool (ycs c m kd),gw ((ycs c m kd) == true) (.func (.func 71) #[] #[.pointer (some ⟨b+1,0,none⟩)]),gw ((ycs c m kd) == true) (.pointer (some ⟨b,4,none⟩)),gw ((ycs c m kd) == true) (.slice a1 c.cols.length c1),gw ((ycs c m kd) == true) (.bool (ydv c.cols)),gw ((ycs c m kd) == true) (.pointer (some ⟨b,4,none⟩)),gw ((ycs c m kd) == true) (.slice a1 c.cols.length c1),gw ((ycs c m kd) == true) (.int .i64 ((c.cols.length:Nat):Int)),gw ((ycs c m kd) == true) (.bool (decide (((c.cols.length:Nat):Int)=0))),gw ((ycs c m kd) == true) (.bool (Xs m 8 (ydv c.cols) (decide (((c.cols.length:Nat):Int)=0)))),.bool (ycD c m kd),.bool (ycD c m kd),gw ((ycD c m kd) == true) (.func (.func 71) #[] #[.pointer (some ⟨b+1,0,none⟩)]),gw ((ycD c m kd) == true) (.pointer (some ⟨b,5,none⟩)),gw ((ycD c m kd) == true) (.int .i64 c.ty),gw ((ycD c m kd) == true) (.bool (yfG c.ty)),gw ((ycD c m kd) == true) (.pointer (some ⟨b,5,none⟩)),gw ((ycD c m kd) == true) (.int .i64 c.ty),gw ((ycD c m kd) == true) (.bool (decide (c.ty=0))),gw ((ycD c m kd) == true) (.bool (Xs m 16 (yfG c.ty) (decide (c.ty=0)))),.bool (yct c m kd),.bool (yct c m kd),gw ((yct c m kd) == true) (.func (.func 71) #[] #[.pointer (some ⟨b+1,0,none⟩)]),gw ((yct c m kd) == true) (.pointer (some ⟨b,6,none⟩)),gw ((yct c m kd) == true) (.agg #[.int .i64 c.val.k,.int .i64 c.val.n,.string ⟨c.val.s.toArray⟩]),gw ((yct c m kd) == true) (.bool (ycm c.val)),gw ((yct c m kd) == true) (.pointer (some ⟨b,6,none⟩)),gw ((yct c m kd) == true) (.agg #[.int .i64 c.val.k,.int .i64 c.val.n,.string ⟨c.val.s.toArray⟩]),gw ((yct c m kd) == true) (.agg #[.int .i64 0,.int .i64 0,.string ⟨#[]⟩]),gw ((yct c m kd) == true) (.bool (ybU c.val)),gw ((yct c m kd) == true) (.bool (Xs m 32 (ycm c.val) (ybU c.val))),.bool (ycu c m kd),.bool (ycu c m kd),gw ((ycu c m kd) == true) (.func (.func 71) #[] #[.pointer (some ⟨b+1,0,none⟩)]),gw ((ycu c m kd) == true) (.pointer (some ⟨b,9,none⟩)),gw ((ycu c m kd) == true) (.slice a2 c.vals.length c2),gw ((ycu c m kd) == true) (.bool (ydw c.vals)),gw ((ycu c m kd) == true) (.pointer (some ⟨b,9,none⟩)),gw ((ycu c m kd) == true) (.slice a2 c.vals.length c2),gw ((ycu c m kd) == true) (.int .i64 ((c.vals.length:Nat):Int)),gw ((ycu c m kd) == true) (.bool (decide (((c.vals.length:Nat):Int)=0))),gw ((ycu c m kd) == true) (.bool (Xs m 64 (ydw c.vals) (decide (((c.vals.length:Nat):Int)=0)))),.bool (ycv c m kd),.bool (ycv c m kd),gw ((ycv c m kd) == true) (.func (.func 71) #[] #[.pointer (some ⟨b+1,0,none⟩)]),gw ((ycv c m kd) == true) (.pointer (some ⟨b,10,none⟩)),gw ((ycv c m kd) == true) (.slice a3 c.fields.length c3),gw ((ycv c m kd) == true) (.bool (c.fields.all yap)),gw ((ycv c m kd) == true) (.pointer (some ⟨b,10,none⟩)),gw ((ycv c m kd) == true) (.slice a3 c.fields.length c3),gw ((ycv c m kd) == true) (.int .i64 ((c.fields.length:Nat):Int)),gw ((ycv c m kd) == true) (.bool (decide (((c.fields.length:Nat):Int)=0))),gw ((ycv c m kd) == true) (.bool (Xs m 128 (c.fields.all yap) (decide (((c.fields.length:Nat):Int)=0)))),.bool (ycE c m kd),.bool (ycE c m kd),gw ((ycE c m kd) == true) (.func (.func 71) #[] #[.pointer (some ⟨b+1,0,none⟩)]),gw ((ycE c m kd) == true) (.pointer (some ⟨b,11,none⟩)),gw ((ycE c m kd) == true) (.agg #[.int .i64 c.expr.k,.int .i64 c.expr.v.k,.int .i64 c.expr.v.n,.string ⟨c.expr.v.s.toArray⟩,.string ⟨c.expr.nm.toArray⟩,ea]),gw ((ycE c m kd) == true) (.bool (ycL c.expr)),gw ((ycE c m kd) == true) (.pointer (some ⟨b,11,none⟩)),gw ((ycE c m kd) == true) (.agg #[.int .i64 c.expr.k,.int .i64 c.expr.v.k,.int .i64 c.expr.v.n,.string ⟨c.expr.v.s.toArray⟩,.string ⟨c.expr.nm.toArray⟩,ea]),gw ((ycE c m kd) == true) (.bool (ybw c.expr)),gw ((ycE c m kd) == true) (.bool (Xs m 256 (ycL c.expr) (ybw c.expr))),.bool (ybq c m kd),.bool (ybq c m kd),gw ((ybq c m kd) == true) (.func (.func 71) #[] #[.pointer (some ⟨b+1,0,none⟩)]),gw ((ybq c m kd) == true) (.pointer (some ⟨b,17,none⟩)),gw ((ybq c m kd) == true) (.bool c.all),gw ((ybq c m kd) == true) (.pointer (some ⟨b,18,none⟩)),gw ((ybq c m kd) == true) (.agg #[.int .i64 c.wh.k,.int .i64 c.wh.v.k,.int .i64 c.wh.v.n,.string ⟨c.wh.v.s.toArray⟩,.string ⟨c.wh.nm.toArray⟩,wa]),gw ((ybq c m kd) == true) (.bool (yey c.all c.wh)),gw ((ybq c m kd) == true) (.pointer (some ⟨b,17,none⟩)),gw ((ybq c m kd) == true) (.bool c.all),gw ((ybq c m kd) == true) (.bool (!c.all)),gw ((ybq c m kd) == true) (.bool (!c.all)),gw (((ybq c m kd) == true)&&((!c.all) == true)) (.pointer (some ⟨b,18,none⟩)),gw (((ybq c m kd) == true)&&((!c.all) == true)) (.agg #[.int .i64 c.wh.k,.int .i64 c.wh.v.k,.int .i64 c.wh.v.n,.string ⟨c.wh.v.s.toArray⟩,.string ⟨c.wh.nm.toArray⟩,wa]),gw (((ybq c m kd) == true)&&((!c.all) == true)) (.bool (ybw c.wh)),gw ((ybq c m kd) == true) (.bool ((!c.all)&&(ybw c.wh))),gw ((ybq c m kd) == true) (.bool (Xs m 512 (yey c.all c.wh) ((!c.all)&&(ybw c.wh)))),.bool (ybA c m kd),.bool (ybA c m kd),gw ((ybA c m kd) == true) (.func (.func 71) #[] #[.pointer (some ⟨b+1,0,none⟩)]),gw ((ybA c m kd) == true) (.pointer (some ⟨b,24,none⟩)),gw ((ybA c m kd) == true) (.string ⟨c.order.toArray⟩),gw ((ybA c m kd) == true) (.bool (decide (c.order=[]))),gw ((ybA c m kd) == true) (.bool (decide (c.order=[]))),gw (((ybA c m kd) == true)&&((decide (c.order=[])) == false)) (.pointer (some ⟨b,24,none⟩)),gw (((ybA c m kd) == true)&&((decide (c.order=[])) == false)) (.string ⟨c.order.toArray⟩),gw (((ybA c m kd) == true)&&((decide (c.order=[])) == false)) (.bool (yap c.order)),gw ((ybA c m kd) == true) (.bool ((decide (c.order=[])) || (yap c.order))),gw ((ybA c m kd) == true) (.pointer (some ⟨b,24,none⟩)),gw ((ybA c m kd) == true) (.string ⟨c.order.toArray⟩),gw ((ybA c m kd) == true) (.bool (decide (c.order=[]))),gw ((ybA c m kd) == true) (.bool (Xs m 1024 ((decide (c.order=[])) || (yap c.order)) (decide (c.order=[])))),.bool (ybB c m kd),.bool (ybB c m kd),gw ((ybB c m kd) == true) (.func (.func 71) #[] #[.pointer (some ⟨b+1,0,none⟩)]),gw ((ybB c m kd) == true) (.pointer (some ⟨b,25,none⟩)),gw ((ybB c m kd) == true) (.int .i64 c.limit),gw ((ybB c m kd) == true) (.bool (decide (-1≤c.limit))),gw ((ybB c m kd) == true) (.bool (decide (-1≤c.limit))),gw (((ybB c m kd) == true)&&((decide (-1≤c.limit)) == true)) (.pointer (some ⟨b,25,none⟩)),gw (((ybB c m kd) == true)&&((decide (-1≤c.limit)) == true)) (.int .i64 c.limit),gw (((ybB c m kd) == true)&&((decide (-1≤c.limit)) == true)) (.bool (decide (c.limit≤999999999))),gw ((ybB c m kd) == true) (.bool ((decide (-1≤c.limit))&&(decide (c.limit≤999999999)))),gw ((ybB c m kd) == true) (.pointer (some ⟨b,25,none⟩)),gw ((ybB c m kd) == true) (.int .i64 c.limit),gw ((ybB c m kd) == true) (.bool (decide (c.limit=0))),gw ((ybB c m kd) == true) (.bool (Xs m 2048 ((decide (-1≤c.limit))&&(decide (c.limit≤999999999))) (decide (c.limit=0)))),.bool (ydp c m kd),.bool (ydp c m kd)]:List Value).getD j undef
def ris_d:List (Option Tmp):=[some 13,some 14,some 15,some 16,some 17,some 18,some 19,some 20,some 21,some 22,some 23,some 24,some 25,some 26,some 27,some 28,some 29,some 30,some 31,some 32,some 33,some 34,some 35,some 36,some 37,some 38,some 39,some 40,some 41,some 42,some 43,some 44,some 45,some 46,some 47,some 48,some 49,some 50,some 51,some 52,some 53,some 54,some 55,some 56,some 57,some 58,some 59,some 60,some 61,some 62,some 63,some 64,some 65,some 66,some 67,some 68,some 69,some 70,some 71,some 72,some 73,some 74,some 75,some 76,some 77,some 78,some 79,some 80,some 81,some 82,some 83,some 84,some 85,some 86,some 87,some 88,some 89,some 90,some 91,some 92,some 93,some 94,some 95,some 96,some 97,some 98,some 99,some 100,some 101,some 102,some 103,some 104,some 105,some 106,some 107,some 108,some 109,some 110,some 111,some 112,some 113,some 114,some 115,some 116,some 117,some 118,some 119,some 120,some 121,some 122,some 123,some 124,some 125,some 126,some 127,some 128,some 129,some 130,some 131,some 132,some 133,some 134,some 135,some 136,some 137,some 138,some 139,some 140,some 141,some 142,some 143,some 144,some 145,some 146,some 147,some 148,some 149,some 150,some 151,some 152,some 153,some 154,some 2]
theorem yhw:ris_d.Nodup:=by unfold ris_d;decide
theorem ytf {c:Cm} {a1 a2 a3:Option Addr} {c1 c2 c3:Nat} {ea wa:Value} {m:Int} {kd:Bool} {b:Nat} {S:World→Prop} {a0:Act} {Q:Exit→Act→World→Prop} {w:World} (h1:a0.tmps[1]?=some (.pointer (some ⟨b,0,none⟩))) (h4:a0.tmps[4]?=some (.bool kd)) (h5:a0.tmps[5]?=some (.func (.func 71) #[] #[.pointer (some ⟨b+1,0,none⟩)])) (hcell:∀ W,S W→∀ o x,(cmL c (.slice a1 c.cols.length c1) (.slice a2 c.vals.length c2) (.slice a3 c.fields.length c3) ea wa)[o]?=some x→W.cell? ⟨b,o,none⟩=some x) (qis:∀ (o:Int) (r e:Bool) W,S W→Calls Tryz.prog 71 #[.int .i64 o,.bool r,.bool e,.pointer (some ⟨b+1,0,none⟩)] W fun x w'=>x=.returned (.bool (Xs m o r e))∧S w') (q18:∀ W,S W→Calls Tryz.prog 72 #[.string ⟨c.name.toArray⟩] W fun e w'=>e=.returned (.bool (yap c.name))∧S w') (q28:∀ W,S W→Calls Tryz.prog 72 #[.string ⟨c.other.toArray⟩] W fun e w'=>e=.returned (.bool (yap c.other))∧S w') (q38:∀ W,S W→Calls Tryz.prog 72 #[.string ⟨c.column.toArray⟩] W fun e w'=>e=.returned (.bool (yap c.column))∧S w') (q48:∀ W,S W→Calls Tryz.prog 73 #[.slice a1 c.cols.length c1] W fun e w'=>e=.returned (.bool (ydv c.cols))∧S w') (q59:∀ W,S W→Calls Tryz.prog 74 #[.int .i64 c.ty] W fun e w'=>e=.returned (.bool (yfG c.ty))∧S w') (q69:∀ W,S W→Calls Tryz.prog 75 #[.agg #[.int .i64 c.val.k,.int .i64 c.val.n,.string ⟨c.val.s.toArray⟩]] W fun e w'=>e=.returned (.bool (ycm c.val))∧S w') (q80:∀ W,S W→Calls Tryz.prog 76 #[.slice a2 c.vals.length c2] W fun e w'=>e=.returned (.bool (ydw c.vals))∧S w') (q91:∀ W,S W→Calls Tryz.prog 77 #[.slice a3 c.fields.length c3,.func (.func 72) #[] #[]] W fun e w'=>e=.returned (.bool (c.fields.all yap))∧S w') (q102:∀ W,S W→Calls Tryz.prog 78 #[.agg #[.int .i64 c.expr.k,.int .i64 c.expr.v.k,.int .i64 c.expr.v.n,.string ⟨c.expr.v.s.toArray⟩,.string ⟨c.expr.nm.toArray⟩,ea]] W fun e w'=>e=.returned (.bool (ycL c.expr))∧S w') (q105:∀ W,S W→Calls Tryz.prog 79 #[.agg #[.int .i64 c.expr.k,.int .i64 c.expr.v.k,.int .i64 c.expr.v.n,.string ⟨c.expr.v.s.toArray⟩,.string ⟨c.expr.nm.toArray⟩,ea]] W fun e w'=>e=.returned (.bool (ybw c.expr))∧S w') (q114:∀ W,S W→Calls Tryz.prog 80 #[.bool c.all,.agg #[.int .i64 c.wh.k,.int .i64 c.wh.v.k,.int .i64 c.wh.v.n,.string ⟨c.wh.v.s.toArray⟩,.string ⟨c.wh.nm.toArray⟩,wa]] W fun e w'=>e=.returned (.bool (yey c.all c.wh))∧S w') (q121:∀ W,S W→Calls Tryz.prog 79 #[.agg #[.int .i64 c.wh.k,.int .i64 c.wh.v.k,.int .i64 c.wh.v.n,.string ⟨c.wh.v.s.toArray⟩,.string ⟨c.wh.nm.toArray⟩,wa]] W fun e w'=>e=.returned (.bool (ybw c.wh))∧S w') (q133:∀ W,S W→Calls Tryz.prog 72 #[.string ⟨c.order.toArray⟩] W fun e w'=>e=.returned (.bool (yap c.order))∧S w') (ha:a0.tmps.size=155) (hS:S w.drew)
  (hq:∀ w',S w'→Q .normal { tmps:=(ygh a0.tmps.toList (ris_d.zip ((List.range 143).map (yun c a1 a2 a3 c1 c2 c3 ea wa m kd b)))).toArray,defers:=a0.defers } w'):(Code.region 3 ris_R true).wp Tryz.prog Q a0 w:=by
 have hz:ris_R.size=143:=by kernel_rfl
 refine ynG (m:=155) (by kernel_rfl) hz (by kernel_rfl) (by kernel_rfl) yhw ha ?_ hS hq
 refine us ?_ (yc5 hz (by decide) (by kernel_rfl) fun _ _ s _=>yaV (x:=.tmp 154) (by kernel_rfl) (s.u 141 154 (by kernel_rfl)))
 refine us ?_ (yc5 hz (by decide) (by kernel_rfl) fun _ _ s _=>yaE (G:=true) (by kernel_rfl) (s.u 127 140 (by kernel_rfl)) (s.u 140 153 (by kernel_rfl)) rfl rfl)
 refine us ?_ (yd8 true 127 140 true hz (by decide) (by kernel_rfl) rfl rfl (fun hG _ _ s=>yeY (ts:=#[3,4,4]) (t:=.tmp 141) (x:=.const (.int .i64 2048)) (y:=.tmp 149) (z:=.tmp 152) (f:=71) yk0 (by kernel_rfl) (s.g 128 141 (by kernel_rfl) hG rfl) (rfl) (s.g 136 149 (by kernel_rfl) hG rfl) (s.g 139 152 (by kernel_rfl) hG rfl)) (qis _ _ _))
 refine us ?_ (ya5 true 127 140 true hz (by decide) (by kernel_rfl) rfl rfl fun hG _ W s _=>yaR (u:=3) (x:=.tmp 151) (y:=.const (.int .i64 0)) (by kernel_rfl) (s.g 138 151 (by kernel_rfl) hG rfl) (rfl) (ye0 W _ _ _ _))
 refine us ?_ (ya5 true 127 140 true hz (by decide) (by kernel_rfl) rfl rfl fun hG _ W s hS=>yas (x:=.tmp 150) (t:=3) (by kernel_rfl) (s.g 137 150 (by kernel_rfl) hG rfl) (ld3 W _ 25 _ (hcell W hS 25 _ rfl)))
 refine us ?_ (ya5 true 127 140 true hz (by decide) (by kernel_rfl) rfl rfl fun _ _ W s _=>yal (x:=.tmp 1) (t:=31) (f:=13) (by kernel_rfl) (s.b 1 (by kernel_rfl) h1) (yrY W _))
 refine us ?_ (ya5 true 127 140 true hz (by decide) (by kernel_rfl) rfl rfl fun hG _ _ s _=>yaE (by kernel_rfl) (s.g 132 145 (by kernel_rfl) hG rfl) (s.u 135 148 (by kernel_rfl)) rfl hG)
 refine us ?_ (ya5 _ 132 145 true hz (by decide) (by kernel_rfl) rfl rfl fun hG _ W s _=>yaR (u:=3) (x:=.tmp 147) (y:=.const (.int .i64 999999999)) (by kernel_rfl) (s.g 134 147 (by kernel_rfl) hG rfl) (rfl) (ysS W _ _ _ _))
 refine us ?_ (ya5 _ 132 145 true hz (by decide) (by kernel_rfl) rfl rfl fun hG _ W s hS=>yas (x:=.tmp 146) (t:=3) (by kernel_rfl) (s.g 133 146 (by kernel_rfl) hG rfl) (ld3 W _ 25 _ (hcell W hS 25 _ rfl)))
 refine us ?_ (ya5 _ 132 145 true hz (by decide) (by kernel_rfl) rfl rfl fun _ _ W s _=>yal (x:=.tmp 1) (t:=31) (f:=13) (by kernel_rfl) (s.b 1 (by kernel_rfl) h1) (yrY W _))
 refine us ?_ (ya5 true 127 140 true hz (by decide) (by kernel_rfl) rfl rfl fun hG _ _ s _=>yai (x:=.tmp 144) (by kernel_rfl) (s.g 131 144 (by kernel_rfl) hG rfl))
 refine us ?_ (ya5 true 127 140 true hz (by decide) (by kernel_rfl) rfl rfl fun hG _ W s _=>yaR (u:=3) (x:=.tmp 143) (y:=.const (.int .i64 (-1))) (by kernel_rfl) (s.g 130 143 (by kernel_rfl) hG rfl) (rfl) (yuY W _ _ _))
 refine us ?_ (ya5 true 127 140 true hz (by decide) (by kernel_rfl) rfl rfl fun hG _ W s hS=>yas (x:=.tmp 142) (t:=3) (by kernel_rfl) (s.g 129 142 (by kernel_rfl) hG rfl) (ld3 W _ 25 _ (hcell W hS 25 _ rfl)))
 refine us ?_ (ya5 true 127 140 true hz (by decide) (by kernel_rfl) rfl rfl fun _ _ W s _=>yal (x:=.tmp 1) (t:=31) (f:=13) (by kernel_rfl) (s.b 1 (by kernel_rfl) h1) (yrY W _))
 refine us ?_ (ya5 true 127 140 true hz (by decide) (by kernel_rfl) rfl rfl fun _ _ _ s _=>yai (x:=.tmp 5) (by kernel_rfl) (s.b 5 (by kernel_rfl) h5))
 refine us ?_ (yc5 hz (by decide) (by kernel_rfl) fun _ _ s _=>yai (x:=.tmp 139) (by kernel_rfl) (s.u 126 139 (by kernel_rfl)))
 refine us ?_ (yc5 hz (by decide) (by kernel_rfl) fun _ _ s _=>yaE (G:=true) (by kernel_rfl) (s.u 112 125 (by kernel_rfl)) (s.u 125 138 (by kernel_rfl)) rfl rfl)
 refine us ?_ (yd8 true 112 125 true hz (by decide) (by kernel_rfl) rfl rfl (fun hG _ _ s=>yeY (ts:=#[3,4,4]) (t:=.tmp 126) (x:=.const (.int .i64 1024)) (y:=.tmp 134) (z:=.tmp 137) (f:=71) yk0 (by kernel_rfl) (s.g 113 126 (by kernel_rfl) hG rfl) (rfl) (s.g 121 134 (by kernel_rfl) hG rfl) (s.g 124 137 (by kernel_rfl) hG rfl)) (qis _ _ _))
 refine us ?_ (ya5 true 112 125 true hz (by decide) (by kernel_rfl) rfl rfl fun hG _ W s _=>yaR (u:=9) (x:=.tmp 136) (y:=.const (.string ⟨#[]⟩)) (by kernel_rfl) (s.g 123 136 (by kernel_rfl) hG rfl) (rfl) (eq9 W _ _ _))
 refine us ?_ (ya5 true 112 125 true hz (by decide) (by kernel_rfl) rfl rfl fun hG _ W s hS=>yas (x:=.tmp 135) (t:=9) (by kernel_rfl) (s.g 122 135 (by kernel_rfl) hG rfl) (ld9 W _ 24 _ (hcell W hS 24 _ rfl)))
 refine us ?_ (ya5 true 112 125 true hz (by decide) (by kernel_rfl) rfl rfl fun _ _ W s _=>yal (x:=.tmp 1) (t:=31) (f:=12) (by kernel_rfl) (s.b 1 (by kernel_rfl) h1) (yrJ W _))
 refine us ?_ (ya5 true 112 125 true hz (by decide) (by kernel_rfl) rfl rfl fun hG _ _ s _=>ybI (by kernel_rfl) (s.g 117 130 (by kernel_rfl) hG rfl) (s.u 120 133 (by kernel_rfl)) rfl hG)
 refine us ?_ (yd8 _ 117 130 false hz (by decide) (by kernel_rfl) rfl rfl (fun hG _ _ s=>ybm (ts:=#[9]) (x:=.tmp 132) (f:=72) ytm (by kernel_rfl) rfl (s.g 119 132 (by kernel_rfl) hG rfl)) q133)
 refine us ?_ (ya5 _ 117 130 false hz (by decide) (by kernel_rfl) rfl rfl fun hG _ W s hS=>yas (x:=.tmp 131) (t:=9) (by kernel_rfl) (s.g 118 131 (by kernel_rfl) hG rfl) (ld9 W _ 24 _ (hcell W hS 24 _ rfl)))
 refine us ?_ (ya5 _ 117 130 false hz (by decide) (by kernel_rfl) rfl rfl fun _ _ W s _=>yal (x:=.tmp 1) (t:=31) (f:=12) (by kernel_rfl) (s.b 1 (by kernel_rfl) h1) (yrJ W _))
 refine us ?_ (ya5 true 112 125 true hz (by decide) (by kernel_rfl) rfl rfl fun hG _ _ s _=>yai (x:=.tmp 129) (by kernel_rfl) (s.g 116 129 (by kernel_rfl) hG rfl))
 refine us ?_ (ya5 true 112 125 true hz (by decide) (by kernel_rfl) rfl rfl fun hG _ W s _=>yaR (u:=9) (x:=.tmp 128) (y:=.const (.string ⟨#[]⟩)) (by kernel_rfl) (s.g 115 128 (by kernel_rfl) hG rfl) (rfl) (eq9 W _ _ _))
 refine us ?_ (ya5 true 112 125 true hz (by decide) (by kernel_rfl) rfl rfl fun hG _ W s hS=>yas (x:=.tmp 127) (t:=9) (by kernel_rfl) (s.g 114 127 (by kernel_rfl) hG rfl) (ld9 W _ 24 _ (hcell W hS 24 _ rfl)))
 refine us ?_ (ya5 true 112 125 true hz (by decide) (by kernel_rfl) rfl rfl fun _ _ W s _=>yal (x:=.tmp 1) (t:=31) (f:=12) (by kernel_rfl) (s.b 1 (by kernel_rfl) h1) (yrJ W _))
 refine us ?_ (ya5 true 112 125 true hz (by decide) (by kernel_rfl) rfl rfl fun _ _ _ s _=>yai (x:=.tmp 5) (by kernel_rfl) (s.b 5 (by kernel_rfl) h5))
 refine us ?_ (yc5 hz (by decide) (by kernel_rfl) fun _ _ s _=>yai (x:=.tmp 124) (by kernel_rfl) (s.u 111 124 (by kernel_rfl)))
 refine us ?_ (yc5 hz (by decide) (by kernel_rfl) fun _ _ s _=>yaE (G:=true) (by kernel_rfl) (s.u 95 108 (by kernel_rfl)) (s.u 110 123 (by kernel_rfl)) rfl rfl)
 refine us ?_ (yd8 true 95 108 true hz (by decide) (by kernel_rfl) rfl rfl (fun hG _ _ s=>yeY (ts:=#[3,4,4]) (t:=.tmp 109) (x:=.const (.int .i64 512)) (y:=.tmp 114) (z:=.tmp 122) (f:=71) yk0 (by kernel_rfl) (s.g 96 109 (by kernel_rfl) hG rfl) (rfl) (s.g 101 114 (by kernel_rfl) hG rfl) (s.g 109 122 (by kernel_rfl) hG rfl)) (qis _ _ _))
 refine us ?_ (ya5 true 95 108 true hz (by decide) (by kernel_rfl) rfl rfl fun hG _ _ s _=>yaE (by kernel_rfl) (s.g 105 118 (by kernel_rfl) hG rfl) (s.u 108 121 (by kernel_rfl)) rfl hG)
 refine us ?_ (yd8 _ 105 118 true hz (by decide) (by kernel_rfl) rfl rfl (fun hG _ _ s=>ybm (ts:=#[29]) (x:=.tmp 120) (f:=79) yuD (by kernel_rfl) rfl (s.g 107 120 (by kernel_rfl) hG rfl)) q121)
 refine us ?_ (ya5 _ 105 118 true hz (by decide) (by kernel_rfl) rfl rfl fun hG _ W s hS=>yas (x:=.tmp 119) (t:=29) (by kernel_rfl) (s.g 106 119 (by kernel_rfl) hG rfl) (ynK W _ 18 _ _ _ _ _ _ (hcell W hS 18 _ rfl) (hcell W hS 19 _ rfl) (hcell W hS 20 _ rfl) (hcell W hS 21 _ rfl) (hcell W hS 22 _ rfl) (hcell W hS 23 _ rfl)))
 refine us ?_ (ya5 _ 105 118 true hz (by decide) (by kernel_rfl) rfl rfl fun _ _ W s _=>yal (x:=.tmp 1) (t:=31) (f:=11) (by kernel_rfl) (s.b 1 (by kernel_rfl) h1) (yrX W _))
 refine us ?_ (ya5 true 95 108 true hz (by decide) (by kernel_rfl) rfl rfl fun hG _ _ s _=>yai (x:=.tmp 117) (by kernel_rfl) (s.g 104 117 (by kernel_rfl) hG rfl))
 refine us ?_ (ya5 true 95 108 true hz (by decide) (by kernel_rfl) rfl rfl fun hG _ W s _=>ynX (x:=.tmp 116) (t:=4) (op:=.not) (by kernel_rfl) (s.g 103 116 (by kernel_rfl) hG rfl) (ytp W _))
 refine us ?_ (ya5 true 95 108 true hz (by decide) (by kernel_rfl) rfl rfl fun hG _ W s hS=>yas (x:=.tmp 115) (t:=4) (by kernel_rfl) (s.g 102 115 (by kernel_rfl) hG rfl) (ld4 W _ 17 _ (hcell W hS 17 _ rfl)))
 refine us ?_ (ya5 true 95 108 true hz (by decide) (by kernel_rfl) rfl rfl fun _ _ W s _=>yal (x:=.tmp 1) (t:=31) (f:=10) (by kernel_rfl) (s.b 1 (by kernel_rfl) h1) (ytn W _))
 refine us ?_ (yd8 true 95 108 true hz (by decide) (by kernel_rfl) rfl rfl (fun hG _ _ s=>ycT (ts:=#[4,29]) (x:=.tmp 111) (y:=.tmp 113) (f:=80) yuW (by kernel_rfl) rfl (s.g 98 111 (by kernel_rfl) hG rfl) (s.g 100 113 (by kernel_rfl) hG rfl)) q114)
 refine us ?_ (ya5 true 95 108 true hz (by decide) (by kernel_rfl) rfl rfl fun hG _ W s hS=>yas (x:=.tmp 112) (t:=29) (by kernel_rfl) (s.g 99 112 (by kernel_rfl) hG rfl) (ynK W _ 18 _ _ _ _ _ _ (hcell W hS 18 _ rfl) (hcell W hS 19 _ rfl) (hcell W hS 20 _ rfl) (hcell W hS 21 _ rfl) (hcell W hS 22 _ rfl) (hcell W hS 23 _ rfl)))
 refine us ?_ (ya5 true 95 108 true hz (by decide) (by kernel_rfl) rfl rfl fun _ _ W s _=>yal (x:=.tmp 1) (t:=31) (f:=11) (by kernel_rfl) (s.b 1 (by kernel_rfl) h1) (yrX W _))
 refine us ?_ (ya5 true 95 108 true hz (by decide) (by kernel_rfl) rfl rfl fun hG _ W s hS=>yas (x:=.tmp 110) (t:=4) (by kernel_rfl) (s.g 97 110 (by kernel_rfl) hG rfl) (ld4 W _ 17 _ (hcell W hS 17 _ rfl)))
 refine us ?_ (ya5 true 95 108 true hz (by decide) (by kernel_rfl) rfl rfl fun _ _ W s _=>yal (x:=.tmp 1) (t:=31) (f:=10) (by kernel_rfl) (s.b 1 (by kernel_rfl) h1) (ytn W _))
 refine us ?_ (ya5 true 95 108 true hz (by decide) (by kernel_rfl) rfl rfl fun _ _ _ s _=>yai (x:=.tmp 5) (by kernel_rfl) (s.b 5 (by kernel_rfl) h5))
 refine us ?_ (yc5 hz (by decide) (by kernel_rfl) fun _ _ s _=>yai (x:=.tmp 107) (by kernel_rfl) (s.u 94 107 (by kernel_rfl)))
 refine us ?_ (yc5 hz (by decide) (by kernel_rfl) fun _ _ s _=>yaE (G:=true) (by kernel_rfl) (s.u 85 98 (by kernel_rfl)) (s.u 93 106 (by kernel_rfl)) rfl rfl)
 refine us ?_ (yd8 true 85 98 true hz (by decide) (by kernel_rfl) rfl rfl (fun hG _ _ s=>yeY (ts:=#[3,4,4]) (t:=.tmp 99) (x:=.const (.int .i64 256)) (y:=.tmp 102) (z:=.tmp 105) (f:=71) yk0 (by kernel_rfl) (s.g 86 99 (by kernel_rfl) hG rfl) (rfl) (s.g 89 102 (by kernel_rfl) hG rfl) (s.g 92 105 (by kernel_rfl) hG rfl)) (qis _ _ _))
 refine us ?_ (yd8 true 85 98 true hz (by decide) (by kernel_rfl) rfl rfl (fun hG _ _ s=>ybm (ts:=#[29]) (x:=.tmp 104) (f:=79) yuD (by kernel_rfl) rfl (s.g 91 104 (by kernel_rfl) hG rfl)) q105)
 refine us ?_ (ya5 true 85 98 true hz (by decide) (by kernel_rfl) rfl rfl fun hG _ W s hS=>yas (x:=.tmp 103) (t:=29) (by kernel_rfl) (s.g 90 103 (by kernel_rfl) hG rfl) (ynK W _ 11 _ _ _ _ _ _ (hcell W hS 11 _ rfl) (hcell W hS 12 _ rfl) (hcell W hS 13 _ rfl) (hcell W hS 14 _ rfl) (hcell W hS 15 _ rfl) (hcell W hS 16 _ rfl)))
 refine us ?_ (ya5 true 85 98 true hz (by decide) (by kernel_rfl) rfl rfl fun _ _ W s _=>yal (x:=.tmp 1) (t:=31) (f:=9) (by kernel_rfl) (s.b 1 (by kernel_rfl) h1) (fa9 W _))
 refine us ?_ (yd8 true 85 98 true hz (by decide) (by kernel_rfl) rfl rfl (fun hG _ _ s=>ybm (ts:=#[29]) (x:=.tmp 101) (f:=78) yuV (by kernel_rfl) rfl (s.g 88 101 (by kernel_rfl) hG rfl)) q102)
 refine us ?_ (ya5 true 85 98 true hz (by decide) (by kernel_rfl) rfl rfl fun hG _ W s hS=>yas (x:=.tmp 100) (t:=29) (by kernel_rfl) (s.g 87 100 (by kernel_rfl) hG rfl) (ynK W _ 11 _ _ _ _ _ _ (hcell W hS 11 _ rfl) (hcell W hS 12 _ rfl) (hcell W hS 13 _ rfl) (hcell W hS 14 _ rfl) (hcell W hS 15 _ rfl) (hcell W hS 16 _ rfl)))
 refine us ?_ (ya5 true 85 98 true hz (by decide) (by kernel_rfl) rfl rfl fun _ _ W s _=>yal (x:=.tmp 1) (t:=31) (f:=9) (by kernel_rfl) (s.b 1 (by kernel_rfl) h1) (fa9 W _))
 refine us ?_ (ya5 true 85 98 true hz (by decide) (by kernel_rfl) rfl rfl fun _ _ _ s _=>yai (x:=.tmp 5) (by kernel_rfl) (s.b 5 (by kernel_rfl) h5))
 refine us ?_ (yc5 hz (by decide) (by kernel_rfl) fun _ _ s _=>yai (x:=.tmp 97) (by kernel_rfl) (s.u 84 97 (by kernel_rfl)))
 refine us ?_ (yc5 hz (by decide) (by kernel_rfl) fun _ _ s _=>yaE (G:=true) (by kernel_rfl) (s.u 74 87 (by kernel_rfl)) (s.u 83 96 (by kernel_rfl)) rfl rfl)
 refine us ?_ (yd8 true 74 87 true hz (by decide) (by kernel_rfl) rfl rfl (fun hG _ _ s=>yeY (ts:=#[3,4,4]) (t:=.tmp 88) (x:=.const (.int .i64 128)) (y:=.tmp 91) (z:=.tmp 95) (f:=71) yk0 (by kernel_rfl) (s.g 75 88 (by kernel_rfl) hG rfl) (rfl) (s.g 78 91 (by kernel_rfl) hG rfl) (s.g 82 95 (by kernel_rfl) hG rfl)) (qis _ _ _))
 refine us ?_ (ya5 true 74 87 true hz (by decide) (by kernel_rfl) rfl rfl fun hG _ W s _=>yaR (u:=3) (x:=.tmp 94) (y:=.const (.int .i64 0)) (by kernel_rfl) (s.g 81 94 (by kernel_rfl) hG rfl) (rfl) (ye0 W _ _ _ _))
 refine us ?_ (ya5 true 74 87 true hz (by decide) (by kernel_rfl) rfl rfl fun hG _ W s _=>ydh (ts:=#[26]) (x:=.tmp 93) (by kernel_rfl) (fun ty=>yo4 W a3 c.fields.length c3 ty) (s.g 80 93 (by kernel_rfl) hG rfl))
 refine us ?_ (ya5 true 74 87 true hz (by decide) (by kernel_rfl) rfl rfl fun hG _ W s hS=>yas (x:=.tmp 92) (t:=26) (by kernel_rfl) (s.g 79 92 (by kernel_rfl) hG rfl) (yrN W _ 10 _ (hcell W hS 10 _ rfl)))
 refine us ?_ (ya5 true 74 87 true hz (by decide) (by kernel_rfl) rfl rfl fun _ _ W s _=>yal (x:=.tmp 1) (t:=31) (f:=8) (by kernel_rfl) (s.b 1 (by kernel_rfl) h1) (fa8 W _))
 refine us ?_ (yd8 true 74 87 true hz (by decide) (by kernel_rfl) rfl rfl (fun hG _ _ s=>ycT (ts:=#[26,37]) (x:=.tmp 90) (y:=.func 72) (f:=77) yuU (by kernel_rfl) rfl (s.g 77 90 (by kernel_rfl) hG rfl) (rfl)) q91)
 refine us ?_ (ya5 true 74 87 true hz (by decide) (by kernel_rfl) rfl rfl fun hG _ W s hS=>yas (x:=.tmp 89) (t:=26) (by kernel_rfl) (s.g 76 89 (by kernel_rfl) hG rfl) (yrN W _ 10 _ (hcell W hS 10 _ rfl)))
 refine us ?_ (ya5 true 74 87 true hz (by decide) (by kernel_rfl) rfl rfl fun _ _ W s _=>yal (x:=.tmp 1) (t:=31) (f:=8) (by kernel_rfl) (s.b 1 (by kernel_rfl) h1) (fa8 W _))
 refine us ?_ (ya5 true 74 87 true hz (by decide) (by kernel_rfl) rfl rfl fun _ _ _ s _=>yai (x:=.tmp 5) (by kernel_rfl) (s.b 5 (by kernel_rfl) h5))
 refine us ?_ (yc5 hz (by decide) (by kernel_rfl) fun _ _ s _=>yai (x:=.tmp 86) (by kernel_rfl) (s.u 73 86 (by kernel_rfl)))
 refine us ?_ (yc5 hz (by decide) (by kernel_rfl) fun _ _ s _=>yaE (G:=true) (by kernel_rfl) (s.u 63 76 (by kernel_rfl)) (s.u 72 85 (by kernel_rfl)) rfl rfl)
 refine us ?_ (yd8 true 63 76 true hz (by decide) (by kernel_rfl) rfl rfl (fun hG _ _ s=>yeY (ts:=#[3,4,4]) (t:=.tmp 77) (x:=.const (.int .i64 64)) (y:=.tmp 80) (z:=.tmp 84) (f:=71) yk0 (by kernel_rfl) (s.g 64 77 (by kernel_rfl) hG rfl) (rfl) (s.g 67 80 (by kernel_rfl) hG rfl) (s.g 71 84 (by kernel_rfl) hG rfl)) (qis _ _ _))
 refine us ?_ (ya5 true 63 76 true hz (by decide) (by kernel_rfl) rfl rfl fun hG _ W s _=>yaR (u:=3) (x:=.tmp 83) (y:=.const (.int .i64 0)) (by kernel_rfl) (s.g 70 83 (by kernel_rfl) hG rfl) (rfl) (ye0 W _ _ _ _))
 refine us ?_ (ya5 true 63 76 true hz (by decide) (by kernel_rfl) rfl rfl fun hG _ W s _=>ydh (ts:=#[25]) (x:=.tmp 82) (by kernel_rfl) (fun ty=>yo3 W a2 c.vals.length c2 ty) (s.g 69 82 (by kernel_rfl) hG rfl))
 refine us ?_ (ya5 true 63 76 true hz (by decide) (by kernel_rfl) rfl rfl fun hG _ W s hS=>yas (x:=.tmp 81) (t:=25) (by kernel_rfl) (s.g 68 81 (by kernel_rfl) hG rfl) (yrM W _ 9 _ (hcell W hS 9 _ rfl)))
 refine us ?_ (ya5 true 63 76 true hz (by decide) (by kernel_rfl) rfl rfl fun _ _ W s _=>yal (x:=.tmp 1) (t:=31) (f:=7) (by kernel_rfl) (s.b 1 (by kernel_rfl) h1) (fa7 W _))
 refine us ?_ (yd8 true 63 76 true hz (by decide) (by kernel_rfl) rfl rfl (fun hG _ _ s=>ybm (ts:=#[25]) (x:=.tmp 79) (f:=76) yuT (by kernel_rfl) rfl (s.g 66 79 (by kernel_rfl) hG rfl)) q80)
 refine us ?_ (ya5 true 63 76 true hz (by decide) (by kernel_rfl) rfl rfl fun hG _ W s hS=>yas (x:=.tmp 78) (t:=25) (by kernel_rfl) (s.g 65 78 (by kernel_rfl) hG rfl) (yrM W _ 9 _ (hcell W hS 9 _ rfl)))
 refine us ?_ (ya5 true 63 76 true hz (by decide) (by kernel_rfl) rfl rfl fun _ _ W s _=>yal (x:=.tmp 1) (t:=31) (f:=7) (by kernel_rfl) (s.b 1 (by kernel_rfl) h1) (fa7 W _))
 refine us ?_ (ya5 true 63 76 true hz (by decide) (by kernel_rfl) rfl rfl fun _ _ _ s _=>yai (x:=.tmp 5) (by kernel_rfl) (s.b 5 (by kernel_rfl) h5))
 refine us ?_ (yc5 hz (by decide) (by kernel_rfl) fun _ _ s _=>yai (x:=.tmp 75) (by kernel_rfl) (s.u 62 75 (by kernel_rfl)))
 refine us ?_ (yc5 hz (by decide) (by kernel_rfl) fun _ _ s _=>yaE (G:=true) (by kernel_rfl) (s.u 52 65 (by kernel_rfl)) (s.u 61 74 (by kernel_rfl)) rfl rfl)
 refine us ?_ (yd8 true 52 65 true hz (by decide) (by kernel_rfl) rfl rfl (fun hG _ _ s=>yeY (ts:=#[3,4,4]) (t:=.tmp 66) (x:=.const (.int .i64 32)) (y:=.tmp 69) (z:=.tmp 73) (f:=71) yk0 (by kernel_rfl) (s.g 53 66 (by kernel_rfl) hG rfl) (rfl) (s.g 56 69 (by kernel_rfl) hG rfl) (s.g 60 73 (by kernel_rfl) hG rfl)) (qis _ _ _))
 refine us ?_ (ya5 true 52 65 true hz (by decide) (by kernel_rfl) rfl rfl fun hG _ W s _=>yaR (u:=24) (x:=.tmp 71) (y:=.tmp 72) (by kernel_rfl) (s.g 58 71 (by kernel_rfl) hG rfl) (s.g 59 72 (by kernel_rfl) hG rfl) (yuX W _ _ c.val))
 refine us ?_ (ya5 true 52 65 true hz (by decide) (by kernel_rfl) rfl rfl fun _ _ _ _ _=>yeE (by kernel_rfl))
 refine us ?_ (ya5 true 52 65 true hz (by decide) (by kernel_rfl) rfl rfl fun hG _ W s hS=>yas (x:=.tmp 70) (t:=24) (by kernel_rfl) (s.g 57 70 (by kernel_rfl) hG rfl) (yrL W _ 6 _ _ _ (hcell W hS 6 _ rfl) (hcell W hS 7 _ rfl) (hcell W hS 8 _ rfl)))
 refine us ?_ (ya5 true 52 65 true hz (by decide) (by kernel_rfl) rfl rfl fun _ _ W s _=>yal (x:=.tmp 1) (t:=31) (f:=6) (by kernel_rfl) (s.b 1 (by kernel_rfl) h1) (fa6 W _))
 refine us ?_ (yd8 true 52 65 true hz (by decide) (by kernel_rfl) rfl rfl (fun hG _ _ s=>ybm (ts:=#[24]) (x:=.tmp 68) (f:=75) yuS (by kernel_rfl) rfl (s.g 55 68 (by kernel_rfl) hG rfl)) q69)
 refine us ?_ (ya5 true 52 65 true hz (by decide) (by kernel_rfl) rfl rfl fun hG _ W s hS=>yas (x:=.tmp 67) (t:=24) (by kernel_rfl) (s.g 54 67 (by kernel_rfl) hG rfl) (yrL W _ 6 _ _ _ (hcell W hS 6 _ rfl) (hcell W hS 7 _ rfl) (hcell W hS 8 _ rfl)))
 refine us ?_ (ya5 true 52 65 true hz (by decide) (by kernel_rfl) rfl rfl fun _ _ W s _=>yal (x:=.tmp 1) (t:=31) (f:=6) (by kernel_rfl) (s.b 1 (by kernel_rfl) h1) (fa6 W _))
 refine us ?_ (ya5 true 52 65 true hz (by decide) (by kernel_rfl) rfl rfl fun _ _ _ s _=>yai (x:=.tmp 5) (by kernel_rfl) (s.b 5 (by kernel_rfl) h5))
 refine us ?_ (yc5 hz (by decide) (by kernel_rfl) fun _ _ s _=>yai (x:=.tmp 64) (by kernel_rfl) (s.u 51 64 (by kernel_rfl)))
 refine us ?_ (yc5 hz (by decide) (by kernel_rfl) fun _ _ s _=>yaE (G:=true) (by kernel_rfl) (s.u 42 55 (by kernel_rfl)) (s.u 50 63 (by kernel_rfl)) rfl rfl)
 refine us ?_ (yd8 true 42 55 true hz (by decide) (by kernel_rfl) rfl rfl (fun hG _ _ s=>yeY (ts:=#[3,4,4]) (t:=.tmp 56) (x:=.const (.int .i64 16)) (y:=.tmp 59) (z:=.tmp 62) (f:=71) yk0 (by kernel_rfl) (s.g 43 56 (by kernel_rfl) hG rfl) (rfl) (s.g 46 59 (by kernel_rfl) hG rfl) (s.g 49 62 (by kernel_rfl) hG rfl)) (qis _ _ _))
 refine us ?_ (ya5 true 42 55 true hz (by decide) (by kernel_rfl) rfl rfl fun hG _ W s _=>yaR (u:=3) (x:=.tmp 61) (y:=.const (.int .i64 0)) (by kernel_rfl) (s.g 48 61 (by kernel_rfl) hG rfl) (rfl) (ye0 W _ _ _ _))
 refine us ?_ (ya5 true 42 55 true hz (by decide) (by kernel_rfl) rfl rfl fun hG _ W s hS=>yas (x:=.tmp 60) (t:=3) (by kernel_rfl) (s.g 47 60 (by kernel_rfl) hG rfl) (ld3 W _ 5 _ (hcell W hS 5 _ rfl)))
 refine us ?_ (ya5 true 42 55 true hz (by decide) (by kernel_rfl) rfl rfl fun _ _ W s _=>yal (x:=.tmp 1) (t:=31) (f:=5) (by kernel_rfl) (s.b 1 (by kernel_rfl) h1) (fa5 W _))
 refine us ?_ (yd8 true 42 55 true hz (by decide) (by kernel_rfl) rfl rfl (fun hG _ _ s=>ybm (ts:=#[3]) (x:=.tmp 58) (f:=74) yuR (by kernel_rfl) rfl (s.g 45 58 (by kernel_rfl) hG rfl)) q59)
 refine us ?_ (ya5 true 42 55 true hz (by decide) (by kernel_rfl) rfl rfl fun hG _ W s hS=>yas (x:=.tmp 57) (t:=3) (by kernel_rfl) (s.g 44 57 (by kernel_rfl) hG rfl) (ld3 W _ 5 _ (hcell W hS 5 _ rfl)))
 refine us ?_ (ya5 true 42 55 true hz (by decide) (by kernel_rfl) rfl rfl fun _ _ W s _=>yal (x:=.tmp 1) (t:=31) (f:=5) (by kernel_rfl) (s.b 1 (by kernel_rfl) h1) (fa5 W _))
 refine us ?_ (ya5 true 42 55 true hz (by decide) (by kernel_rfl) rfl rfl fun _ _ _ s _=>yai (x:=.tmp 5) (by kernel_rfl) (s.b 5 (by kernel_rfl) h5))
 refine us ?_ (yc5 hz (by decide) (by kernel_rfl) fun _ _ s _=>yai (x:=.tmp 54) (by kernel_rfl) (s.u 41 54 (by kernel_rfl)))
 refine us ?_ (yc5 hz (by decide) (by kernel_rfl) fun _ _ s _=>yaE (G:=true) (by kernel_rfl) (s.u 31 44 (by kernel_rfl)) (s.u 40 53 (by kernel_rfl)) rfl rfl)
 refine us ?_ (yd8 true 31 44 true hz (by decide) (by kernel_rfl) rfl rfl (fun hG _ _ s=>yeY (ts:=#[3,4,4]) (t:=.tmp 45) (x:=.const (.int .i64 8)) (y:=.tmp 48) (z:=.tmp 52) (f:=71) yk0 (by kernel_rfl) (s.g 32 45 (by kernel_rfl) hG rfl) (rfl) (s.g 35 48 (by kernel_rfl) hG rfl) (s.g 39 52 (by kernel_rfl) hG rfl)) (qis _ _ _))
 refine us ?_ (ya5 true 31 44 true hz (by decide) (by kernel_rfl) rfl rfl fun hG _ W s _=>yaR (u:=3) (x:=.tmp 51) (y:=.const (.int .i64 0)) (by kernel_rfl) (s.g 38 51 (by kernel_rfl) hG rfl) (rfl) (ye0 W _ _ _ _))
 refine us ?_ (ya5 true 31 44 true hz (by decide) (by kernel_rfl) rfl rfl fun hG _ W s _=>ydh (ts:=#[22]) (x:=.tmp 50) (by kernel_rfl) (fun ty=>yo2 W a1 c.cols.length c1 ty) (s.g 37 50 (by kernel_rfl) hG rfl))
 refine us ?_ (ya5 true 31 44 true hz (by decide) (by kernel_rfl) rfl rfl fun hG _ W s hS=>yas (x:=.tmp 49) (t:=22) (by kernel_rfl) (s.g 36 49 (by kernel_rfl) hG rfl) (yrb W _ 4 _ (hcell W hS 4 _ rfl)))
 refine us ?_ (ya5 true 31 44 true hz (by decide) (by kernel_rfl) rfl rfl fun _ _ W s _=>yal (x:=.tmp 1) (t:=31) (f:=4) (by kernel_rfl) (s.b 1 (by kernel_rfl) h1) (fa4 W _))
 refine us ?_ (yd8 true 31 44 true hz (by decide) (by kernel_rfl) rfl rfl (fun hG _ _ s=>ybm (ts:=#[22]) (x:=.tmp 47) (f:=73) yuQ (by kernel_rfl) rfl (s.g 34 47 (by kernel_rfl) hG rfl)) q48)
 refine us ?_ (ya5 true 31 44 true hz (by decide) (by kernel_rfl) rfl rfl fun hG _ W s hS=>yas (x:=.tmp 46) (t:=22) (by kernel_rfl) (s.g 33 46 (by kernel_rfl) hG rfl) (yrb W _ 4 _ (hcell W hS 4 _ rfl)))
 refine us ?_ (ya5 true 31 44 true hz (by decide) (by kernel_rfl) rfl rfl fun _ _ W s _=>yal (x:=.tmp 1) (t:=31) (f:=4) (by kernel_rfl) (s.b 1 (by kernel_rfl) h1) (fa4 W _))
 refine us ?_ (ya5 true 31 44 true hz (by decide) (by kernel_rfl) rfl rfl fun _ _ _ s _=>yai (x:=.tmp 5) (by kernel_rfl) (s.b 5 (by kernel_rfl) h5))
 refine us ?_ (yc5 hz (by decide) (by kernel_rfl) fun _ _ s _=>yai (x:=.tmp 43) (by kernel_rfl) (s.u 30 43 (by kernel_rfl)))
 refine us ?_ (yc5 hz (by decide) (by kernel_rfl) fun _ _ s _=>yaE (G:=true) (by kernel_rfl) (s.u 21 34 (by kernel_rfl)) (s.u 29 42 (by kernel_rfl)) rfl rfl)
 refine us ?_ (yd8 true 21 34 true hz (by decide) (by kernel_rfl) rfl rfl (fun hG _ _ s=>yeY (ts:=#[3,4,4]) (t:=.tmp 35) (x:=.const (.int .i64 4)) (y:=.tmp 38) (z:=.tmp 41) (f:=71) yk0 (by kernel_rfl) (s.g 22 35 (by kernel_rfl) hG rfl) (rfl) (s.g 25 38 (by kernel_rfl) hG rfl) (s.g 28 41 (by kernel_rfl) hG rfl)) (qis _ _ _))
 refine us ?_ (ya5 true 21 34 true hz (by decide) (by kernel_rfl) rfl rfl fun hG _ W s _=>yaR (u:=9) (x:=.tmp 40) (y:=.const (.string ⟨#[]⟩)) (by kernel_rfl) (s.g 27 40 (by kernel_rfl) hG rfl) (rfl) (eq9 W _ _ _))
 refine us ?_ (ya5 true 21 34 true hz (by decide) (by kernel_rfl) rfl rfl fun hG _ W s hS=>yas (x:=.tmp 39) (t:=9) (by kernel_rfl) (s.g 26 39 (by kernel_rfl) hG rfl) (ld9 W _ 3 _ (hcell W hS 3 _ rfl)))
 refine us ?_ (ya5 true 21 34 true hz (by decide) (by kernel_rfl) rfl rfl fun _ _ W s _=>yal (x:=.tmp 1) (t:=31) (f:=3) (by kernel_rfl) (s.b 1 (by kernel_rfl) h1) (fa3 W _))
 refine us ?_ (yd8 true 21 34 true hz (by decide) (by kernel_rfl) rfl rfl (fun hG _ _ s=>ybm (ts:=#[9]) (x:=.tmp 37) (f:=72) ytm (by kernel_rfl) rfl (s.g 24 37 (by kernel_rfl) hG rfl)) q38)
 refine us ?_ (ya5 true 21 34 true hz (by decide) (by kernel_rfl) rfl rfl fun hG _ W s hS=>yas (x:=.tmp 36) (t:=9) (by kernel_rfl) (s.g 23 36 (by kernel_rfl) hG rfl) (ld9 W _ 3 _ (hcell W hS 3 _ rfl)))
 refine us ?_ (ya5 true 21 34 true hz (by decide) (by kernel_rfl) rfl rfl fun _ _ W s _=>yal (x:=.tmp 1) (t:=31) (f:=3) (by kernel_rfl) (s.b 1 (by kernel_rfl) h1) (fa3 W _))
 refine us ?_ (ya5 true 21 34 true hz (by decide) (by kernel_rfl) rfl rfl fun _ _ _ s _=>yai (x:=.tmp 5) (by kernel_rfl) (s.b 5 (by kernel_rfl) h5))
 refine us ?_ (yc5 hz (by decide) (by kernel_rfl) fun _ _ s _=>yai (x:=.tmp 33) (by kernel_rfl) (s.u 20 33 (by kernel_rfl)))
 refine us ?_ (yc5 hz (by decide) (by kernel_rfl) fun _ _ s _=>yaE (G:=true) (by kernel_rfl) (s.u 11 24 (by kernel_rfl)) (s.u 19 32 (by kernel_rfl)) rfl rfl)
 refine us ?_ (yd8 true 11 24 true hz (by decide) (by kernel_rfl) rfl rfl (fun hG _ _ s=>yeY (ts:=#[3,4,4]) (t:=.tmp 25) (x:=.const (.int .i64 2)) (y:=.tmp 28) (z:=.tmp 31) (f:=71) yk0 (by kernel_rfl) (s.g 12 25 (by kernel_rfl) hG rfl) (rfl) (s.g 15 28 (by kernel_rfl) hG rfl) (s.g 18 31 (by kernel_rfl) hG rfl)) (qis _ _ _))
 refine us ?_ (ya5 true 11 24 true hz (by decide) (by kernel_rfl) rfl rfl fun hG _ W s _=>yaR (u:=9) (x:=.tmp 30) (y:=.const (.string ⟨#[]⟩)) (by kernel_rfl) (s.g 17 30 (by kernel_rfl) hG rfl) (rfl) (eq9 W _ _ _))
 refine us ?_ (ya5 true 11 24 true hz (by decide) (by kernel_rfl) rfl rfl fun hG _ W s hS=>yas (x:=.tmp 29) (t:=9) (by kernel_rfl) (s.g 16 29 (by kernel_rfl) hG rfl) (ld9 W _ 2 _ (hcell W hS 2 _ rfl)))
 refine us ?_ (ya5 true 11 24 true hz (by decide) (by kernel_rfl) rfl rfl fun _ _ W s _=>yal (x:=.tmp 1) (t:=31) (f:=2) (by kernel_rfl) (s.b 1 (by kernel_rfl) h1) (fa2 W _))
 refine us ?_ (yd8 true 11 24 true hz (by decide) (by kernel_rfl) rfl rfl (fun hG _ _ s=>ybm (ts:=#[9]) (x:=.tmp 27) (f:=72) ytm (by kernel_rfl) rfl (s.g 14 27 (by kernel_rfl) hG rfl)) q28)
 refine us ?_ (ya5 true 11 24 true hz (by decide) (by kernel_rfl) rfl rfl fun hG _ W s hS=>yas (x:=.tmp 26) (t:=9) (by kernel_rfl) (s.g 13 26 (by kernel_rfl) hG rfl) (ld9 W _ 2 _ (hcell W hS 2 _ rfl)))
 refine us ?_ (ya5 true 11 24 true hz (by decide) (by kernel_rfl) rfl rfl fun _ _ W s _=>yal (x:=.tmp 1) (t:=31) (f:=2) (by kernel_rfl) (s.b 1 (by kernel_rfl) h1) (fa2 W _))
 refine us ?_ (ya5 true 11 24 true hz (by decide) (by kernel_rfl) rfl rfl fun _ _ _ s _=>yai (x:=.tmp 5) (by kernel_rfl) (s.b 5 (by kernel_rfl) h5))
 refine us ?_ (yc5 hz (by decide) (by kernel_rfl) fun _ _ s _=>yai (x:=.tmp 23) (by kernel_rfl) (s.u 10 23 (by kernel_rfl)))
 refine us ?_ (yc5 hz (by decide) (by kernel_rfl) fun _ _ s _=>yaE (G:=true) (by kernel_rfl) (s.u 1 14 (by kernel_rfl)) (s.u 9 22 (by kernel_rfl)) rfl rfl)
 refine us ?_ (yd8 true 1 14 true hz (by decide) (by kernel_rfl) rfl rfl (fun hG _ _ s=>yeY (ts:=#[3,4,4]) (t:=.tmp 15) (x:=.const (.int .i64 1)) (y:=.tmp 18) (z:=.tmp 21) (f:=71) yk0 (by kernel_rfl) (s.g 2 15 (by kernel_rfl) hG rfl) (rfl) (s.g 5 18 (by kernel_rfl) hG rfl) (s.g 8 21 (by kernel_rfl) hG rfl)) (qis _ _ _))
 refine us ?_ (ya5 true 1 14 true hz (by decide) (by kernel_rfl) rfl rfl fun hG _ W s _=>yaR (u:=9) (x:=.tmp 20) (y:=.const (.string ⟨#[]⟩)) (by kernel_rfl) (s.g 7 20 (by kernel_rfl) hG rfl) (rfl) (eq9 W _ _ _))
 refine us ?_ (ya5 true 1 14 true hz (by decide) (by kernel_rfl) rfl rfl fun hG _ W s hS=>yas (x:=.tmp 19) (t:=9) (by kernel_rfl) (s.g 6 19 (by kernel_rfl) hG rfl) (ld9 W _ 1 _ (hcell W hS 1 _ rfl)))
 refine us ?_ (ya5 true 1 14 true hz (by decide) (by kernel_rfl) rfl rfl fun _ _ W s _=>yal (x:=.tmp 1) (t:=31) (f:=1) (by kernel_rfl) (s.b 1 (by kernel_rfl) h1) (fa1 W _))
 refine us ?_ (yd8 true 1 14 true hz (by decide) (by kernel_rfl) rfl rfl (fun hG _ _ s=>ybm (ts:=#[9]) (x:=.tmp 17) (f:=72) ytm (by kernel_rfl) rfl (s.g 4 17 (by kernel_rfl) hG rfl)) q18)
 refine us ?_ (ya5 true 1 14 true hz (by decide) (by kernel_rfl) rfl rfl fun hG _ W s hS=>yas (x:=.tmp 16) (t:=9) (by kernel_rfl) (s.g 3 16 (by kernel_rfl) hG rfl) (ld9 W _ 1 _ (hcell W hS 1 _ rfl)))
 refine us ?_ (ya5 true 1 14 true hz (by decide) (by kernel_rfl) rfl rfl fun _ _ W s _=>yal (x:=.tmp 1) (t:=31) (f:=1) (by kernel_rfl) (s.b 1 (by kernel_rfl) h1) (fa1 W _))
 refine us ?_ (ya5 true 1 14 true hz (by decide) (by kernel_rfl) rfl rfl fun _ _ _ s _=>yai (x:=.tmp 5) (by kernel_rfl) (s.b 5 (by kernel_rfl) h5))
 refine us ?_ (yc5 hz (by decide) (by kernel_rfl) fun _ _ s _=>yai (x:=.tmp 13) (by kernel_rfl) (s.u 0 13 (by kernel_rfl)))
 refine us ?_ (yc5 hz (by decide) (by kernel_rfl) fun _ _ s _=>yai (x:=.tmp 4) (by kernel_rfl) (s.b 4 (by kernel_rfl) h4))
 exact fun j hj=>absurd hj (Nat.not_lt_zero j)
theorem Held.drew {w:World} {c:Cm} {cv vv fv ea wa:Value} {m:Int} {W:World} (h:Held w c cv vv fv ea wa m W):Held w c cv vv fv ea wa m W.drew:=⟨h.1,h.2.1,h.2.2.1.drew,h.2.2.2⟩
theorem yeM {B:Nat} {w:World} {u:Value} {n:Nat} {xs:List Value} (h:RowAt B w u n xs):∃ ao ca,u=.slice ao n ca:=by
 rcases h with ⟨rfl,ao,ca,h⟩|⟨b,off,cap,h,-⟩
 ·exact ⟨ao,ca,h⟩
 ·exact ⟨_,_,h⟩
theorem ymX (c:Cm):yc2 c=ydp c (ydn c.kind:Nat) (ygz c.kind):=by
 have d4:decide (((c.cols.length:Nat):Int)=0)=decide (c.cols.length=0):=by rw [decide_eq_decide];omega
 have d7:decide (((c.vals.length:Nat):Int)=0)=decide (c.vals.length=0):=by rw [decide_eq_decide];omega
 have d8:decide (((c.fields.length:Nat):Int)=0)=decide (c.fields.length=0):=by rw [decide_eq_decide];omega
 have d12:(decide (-1≤c.limit)&&decide (c.limit≤999999999))=decide (-1≤c.limit∧c.limit≤999999999):=by rw [Bool.decide_and]
 simp only [yc2,ycB,ycC,ycs,ycD,yct,ycu,ycv,ycE,ybq,ybA,ybB,ydp,Xs,d4,d7,d8,d12,yju,Bool.and_assoc]
theorem yf6 {w:World} (c:Cm) (cv vv fv ea wa:Value) (m:Int) (kd:Bool) (hnb:∀ W,Calls Tryz.prog 70 #[.int .i64 c.kind] W fun e w'=>e=.returned (.tuple #[.int .i64 m,.bool kd])∧w'=W) (hi:CmIn 0 w c cv vv fv ea wa) (hf:CmFit c) (hl:Laid w) :
  Calls Tryz.prog 29 #[.agg (cmL c cv vv fv ea wa).toArray] w fun e w'=>e=.returned (.bool (ydp c m kd))∧Below w.heap.size w w':=by
 obtain ⟨a1,c1,rfl⟩:=yeM hi.cols
 obtain ⟨a2,c2,rfl⟩:=yeM hi.vals
 obtain ⟨a3,c3,rfl⟩:=yeM hi.fields
 have H0:=yae (Held.start w c (.slice a1 c.cols.length c1) (.slice a2 c.vals.length c2) (.slice a3 c.fields.length c3) ea wa m)
 have up:∀ W,(Held w c (.slice a1 c.cols.length c1) (.slice a2 c.vals.length c2) (.slice a3 c.fields.length c3) ea wa m) W→CmIn 0 W c (.slice a1 c.cols.length c1) (.slice a2 c.vals.length c2) (.slice a3 c.fields.length c3) ea wa∧Laid W:=fun W h=>⟨hi.keep h.2.2.1.size fun b _ hb=>h.2.2.1.block b hb,hl.below h.2.2.1⟩
 have nn:∀ (x:Ex) (a:Value) (W:World),ExAt 0 W (exV x.k x.v x.nm a) x→Calls Tryz.prog 79 #[exV x.k x.v x.nm a] W fun e w'=>e=.returned (.bool (ybw x))∧Below W.heap.size W w':=by
  intro x a W h
  obtain ⟨ao,ca,e⟩:=h.len
  rw [e]
  exact yf5 x ao ca W
 have lift:∀ {f:FuncId} {args:Array Value} {v:Value},(∀ W,(Held w c (.slice a1 c.cols.length c1) (.slice a2 c.vals.length c2) (.slice a3 c.fields.length c3) ea wa m) W→Calls Tryz.prog f args W fun e w'=>e=.returned v∧Below W.heap.size W w')→Hid (∀ W,(Held w c (.slice a1 c.cols.length c1) (.slice a2 c.vals.length c2) (.slice a3 c.fields.length c3) ea wa m) W→Calls Tryz.prog f args W fun e w'=>e=.returned v∧(Held w c (.slice a1 c.cols.length c1) (.slice a2 c.vals.length c2) (.slice a3 c.fields.length c3) ea wa m) w') :=
  fun h=>yae fun W hW=>(h W hW).mono fun e w' q=>⟨q.1,hW.below q.2⟩
 have r1:=lift fun W h=>yec _ hf.name (up W h).2
 have r2:=lift fun W h=>yec _ hf.other (up W h).2
 have r3:=lift fun W h=>yec _ hf.column (up W h).2
 have r4:=lift fun W h=>ynQ _ W (up W h).1.cols hf.cols hf.colsN (up W h).2
 have r5:=lift fun W _=>yf7 c.ty W
 have r6:=lift fun W _=>yd4 c.val W hf.val
 have r7:=lift fun W h=>ypG _ W (up W h).1.vals hf.vals hf.valsN
 have r8:=lift fun W h=>yjV c _ (up W h).1.fields hf.fields hf.fieldsN (up W h).2
 have r9:=lift fun W h=>yf3 (up W h).1.expr hf.expr W (Below.refl _ _) (up W h).2
 have n9:=lift fun W h=>nn _ _ W (up W h).1.expr
 have r10:=lift fun W h=>yin c.all (up W h).1.wh hf.wh (up W h).2
 have n10:=lift fun W h=>nn _ _ W (up W h).1.wh
 have r11:=lift fun W h=>yec _ hf.order (up W h).2
 have ri:=yae (show ∀ (o:Int) (r e:Bool) W,(Held w c (.slice a1 c.cols.length c1) (.slice a2 c.vals.length c2) (.slice a3 c.fields.length c3) ea wa m) W→Calls Tryz.prog 71 #[.int .i64 o,.bool r,.bool e,.pointer (some ⟨w.heap.size+1,0,none⟩)] W fun x w'=>x=.returned (.bool (Xs m o r e))∧(Held w c (.slice a1 c.cols.length c1) (.slice a2 c.vals.length c2) (.slice a3 c.fields.length c3) ea wa m) w' from
  fun o r e W h=>(ysr m o r e _ W h.2.1).mono fun x w' q=>⟨q.1,by rw [q.2];exact h⟩)
 have d0:(w.alloc (.cells (cmL c (.slice a1 c.cols.length c1) (.slice a2 c.vals.length c2) (.slice a3 c.fields.length c3) ea wa).toArray 31)).cell? ⟨w.heap.size,0,none⟩=some (.int .i64 c.kind):=by
  rw [Lib.cell_of_heap (heap_alloc_new w _)];rfl
 clear hi hf hl up nn lift
 go_enter Tryz.func29,Tryz.ntmps29
 go_wp2_with fail
 refine (hnb _).mono ?_
 rintro e w' ⟨rfl,hw'⟩
 obtain rfl:=hw'.symm
 clear hw' hnb d0
 go_wp2_with fail
 refine ydd ris_R (by kernel_rfl) ?_
 refine ytf (c:=c) (a1:=a1) (a2:=a2) (a3:=a3) (c1:=c1) (c2:=c2) (c3:=c3) (ea:=ea) (wa:=wa) (m:=m) (kd:=kd) (b:=w.heap.size) (S:=(Held w c (.slice a1 c.cols.length c1) (.slice a2 c.vals.length c2) (.slice a3 c.fields.length c3) ea wa m)) rfl rfl rfl (fun W h=>h.1) ri.out r1.out r2.out r3.out r4.out r5.out r6.out r7.out r8.out r9.out n9.out r10.out n10.out r11.out rfl H0.out.drew ?_
 intro w' hS
 refine ‹∀ (a:Act) (w:World),Code.wp _ _ _ a w→_› _ _ ?_
 refine wp_ret ?_
 exact ygg 142 rfl yhw rfl rfl (by simp) ⟨rfl,hS.2.2.1⟩
theorem yjs (c:Cm) (m:Int):ydp c m false=false:=by simp only [ycB,ycC,ycs,ycD,yct,ycu,ycv,ycE,ybq,ybA,ybB,ydp,Bool.false_and]
theorem yik {w:World} (c:Cm) (cv vv fv ea wa:Value) (hi:CmIn 0 w c cv vv fv ea wa) (hf:CmFit c) (hl:Laid w) :
  Calls Tryz.prog 29 #[.agg (cmL c cv vv fv ea wa).toArray] w fun e w'=>e=.returned (.bool (yc2 c))∧Below w.heap.size w w':=by
 rw [ymX]
 by_cases hk:1≤c.kind∧c.kind≤16
 ·have e0:ygz c.kind=true:=by rw [ygz,decide_eq_true hk]
  rw [e0]
  refine yf6 c cv vv fv ea wa _ true (fun W=>?_) hi hf hl
  have e:((c.kind.toNat:Nat):Int)=c.kind:=by omega
  have:=yko W c.kind.toNat (by omega) (by omega)
  rwa [e] at this
 ·have e0:ygz c.kind=false:=by rw [ygz,decide_eq_false hk]
  rw [e0,yjs,← yjs c 0]
  exact yf6 c cv vv fv ea wa 0 false (fun W=>yiv W c.kind hk) hi hf hl
theorem ylc {w:World} {x:Ex} {a:Value} (h:ExAt 0 w (exV x.k x.v x.nm a) x):∃ ao ca,a=.slice ao x.args.length ca:=by
 obtain ⟨ao,ca,ps,e,-⟩:=h.pairs
 exact ⟨ao,ca,e⟩
theorem yo9 {w:World} (c:Cm) (cv vv fv ea wa:Value) (hi:CmIn 0 w c cv vv fv ea wa) (hf:CmFit c) :
  Calls Tryz.prog 28 #[.agg (cmL c cv vv fv ea wa).toArray] w fun e w'=>e=.returned (.bool (ybQ c))∧Below w.heap.size w w':=by
 obtain ⟨a1,c1,rfl⟩:=yeM hi.cols
 obtain ⟨a2,c2,rfl⟩:=yeM hi.vals
 obtain ⟨a3,c3,rfl⟩:=yeM hi.fields
 obtain ⟨a4,c4,rfl⟩:=ylc hi.expr
 obtain ⟨a5,c5,rfl⟩:=ylc hi.wh
 exact yic c a1 a2 a3 a4 a5 c1 c2 c3 c4 c5 hi.expr hi.wh hf.expr hf.wh
theorem yea {w:World} (c:Cm) (cv vv fv ea wa:Value) (hi:CmIn 0 w c cv vv fv ea wa) (hf:CmFit c) (hl:Laid w) :
  Calls Tryz.prog 12 #[.agg (cmL c cv vv fv ea wa).toArray] w fun e w'=>e=.returned (.int .i64 (yeb (ybQ c) (yc2 c)))∧Below w.heap.size w w':=by
 have up:∀ W,Below w.heap.size w W→CmIn 0 W c cv vv fv ea wa∧Laid W:=fun W h=>⟨hi.keep h.size fun b _ hb=>h.block b hb,hl.below h⟩
 exact yjE c cv vv fv ea wa (ybQ c) (yc2 c) (fun W h=>yo9 c cv vv fv ea wa (up W h).1 hf) (fun W h=>yik c cv vv fv ea wa (up W h).1 hf (up W h).2)
theorem ylj {w:World} (c:Cm) (cv vv fv ea wa:Value) (hi:CmIn 0 w c cv vv fv ea wa) (hf:CmFit c) (hl:Laid w) :
  Calls Tryz.prog 12 #[.agg (cmL c cv vv fv ea wa).toArray] w fun e w'=>e=.returned (.int .i64 (yeb (ybQ c) (yeJ c)))∧Below w.heap.size w w':=by
 rw [← yeK]
 exact yea c cv vv fv ea wa hi hf hl
theorem yiU {p:Tk→Prop} (hp:∀ (a:Nat) (c:UInt8) (r:List UInt8),yaD (yba (c::r)).1 ((c::r).take (yba (c::r)).2)=0→p ⟨((yba (c::r)).1:Nat),(a:Nat),(c::r).take (yba (c::r)).2⟩) (f:Nat) :
  ∀ (a:Nat) (l:List UInt8) (acc:List Tk),(∀ x ∈ acc,p x)→∀ x ∈ (yb1 f a l acc).1,p x:=by
 induction f with
 | zero=>intro a l acc h;exact h
 | succ f ih =>
  intro a l acc h
  cases l with
  | nil=>exact h
  | cons c r =>
   rw [yb1]
   split
   ·exact ih _ _ _ h
   ·split
    ·rename_i hw
     apply ih
     intro x hx
     rcases List.mem_append.1 hx with hx|hx
     ·exact h x hx
     ·rw [List.mem_singleton] at hx
      rw [hx]
      exact hp a c r hw
    ·intro x hx;cases hx
theorem ygn {p:Tk→Prop} (hp:∀ (a:Nat) (c:UInt8) (r:List UInt8),yaD (yba (c::r)).1 ((c::r).take (yba (c::r)).2)=0→p ⟨((yba (c::r)).1:Nat),(a:Nat),(c::r).take (yba (c::r)).2⟩) (s:List UInt8):∀ x ∈ (yaH s).1,p x:=by
 unfold yaH
 split
 ·intro x hx;cases hx
 ·exact yiU hp _ _ _ _ (by intro x hx;cases hx)
theorem ykG (f:Nat):∀ (a:Nat) (l:List UInt8) (acc:List Tk),(yb1 f a l acc).1.length≤acc.length+l.length:=by
 induction f with
 | zero=>intro a l acc;simp [yb1]
 | succ f ih =>
  intro a l acc
  cases l with
  | nil=>simp [yb1]
  | cons c r =>
   rw [yb1]
   split
   ·have:=ih (a+1) r acc
    simp only [List.length_cons];omega
   ·split
    ·rename_i hw
     have hz:=ydr c r (ycf hw)
     have:=ih (a+(yba (c::r)).2) ((c::r).drop (yba (c::r)).2) (acc++[⟨((yba (c::r)).1:Nat),(a:Nat),(c::r).take (yba (c::r)).2⟩])
     simp only [List.length_append,List.length_drop,List.length_cons,List.length_nil] at this ⊢
     omega
    ·simp
theorem yfC (s:List UInt8):(yaH s).1.length≤2000:=by
 unfold yaH
 split
 ·simp
 ·have:=ykG (s.length+1) 0 s []
  simp only [List.length_nil] at this
  unfold ya7
  omega
theorem ym4 (p:UInt8→Bool) (l:List UInt8):∀ c ∈ l.take (ycN p l),p c=true:=by
 induction l with
 | nil=>intro c hc;simp [ycN] at hc
 | cons d r ih =>
  intro c hc
  rw [yby] at hc
  split at hc
  ·rename_i hd
   rw [List.take_succ_cons] at hc
   rcases List.mem_cons.1 hc with e|e
   ·rw [e];exact hd
   ·exact ih c e
  ·simp at hc
theorem ypD (c:UInt8) (r:List UInt8) (h:(yba (c::r)).1=2):isD c=true∧yba (c::r)=(2,ycN isD r+1):=by
 revert h
 rw [yba]
 repeat' split
 all_goals simp_all
theorem ykS (c:UInt8) (r:List UInt8) (h:(yba (c::r)).1=3):c=39∧yba (c::r)=(3,ycN isQ r+2)∧r[ycN isQ r]?=some 39:=by
 revert h
 rw [yba]
 repeat' split
 all_goals simp_all
theorem yeN (s:List UInt8):∀ x ∈ (yaH s).1,TokOk x:=by
 have hs:∀ x ∈ (yaH s).1,x.t.length≤22:=by
  unfold yaH
  split
  ·intro y hy;cases hy
  ·exact ygm _ _ _ _ (by intro y hy;cases hy)
 have hr:∀ x ∈ (yaH s).1,(x.k=2→x.t≠[]∧x.t.length≤9∧∀ c ∈ x.t,isD c=true)∧(x.k=3→2≤x.t.length):=by
  refine ygn (fun a c r hw=>⟨fun h2=>?_,fun h3=>?_⟩) s
  ·have h2':(yba (c::r)).1=2:=by simp only at h2;omega
   obtain ⟨hd,ht⟩:=ypD c r h2'
   rw [ht] at hw ⊢
   simp only [List.take_succ_cons] at hw ⊢
   refine ⟨by simp, ?_, ?_⟩
   ·apply Classical.byContradiction
    intro hn
    rw [yaD,if_neg (by decide),if_pos (by right;left;exact ⟨rfl,by omega⟩)] at hw
    cases hw
   ·intro d hdm
    rcases List.mem_cons.1 hdm with e|e
    ·rw [e];exact hd
    ·exact ym4 isD r d e
  ·have h3':(yba (c::r)).1=3:=by simp only at h3;omega
   obtain ⟨-,ht,hq⟩:=ykS c r h3'
   rw [ht]
   have:=(List.getElem?_eq_some_iff.1 hq).1
   simp only [List.length_take,List.length_cons]
   omega
 exact fun x hx=>⟨hs x hx,(hr x hx).1,(hr x hx).2⟩
theorem yfF {w:World} {base:Nat} {v:Value} {s:List UInt8} (h:w.ownsRow base 63 3 v (yaH s).1.length (ybM (yaH s).1)):Tks w base v (yaH s).1:=⟨h,yfC s,yeN s⟩
def yde (p:UInt8→Bool) (s:List UInt8):Bool:=match s with|[]=>false|c::_=>p c
structure TokIs (x:Tk):Prop where
 num:x.k=2↔yde isD x.t=true
 txt:x.k=3↔yde (fun c=>decide (c=39)) x.t=true
def yfn (s:List UInt8):Bool:=decide (s=yb9) || decide (s=ybH) || decide (s=w_null) || decide (s=[45]) || yde (fun c=>isD c || decide (c=39)) s
theorem yrE {T:List Tk} {i:Nat} (h:tx T i≠[]):∃ x,T[i]?=some x∧tx T i=x.t∧kd T i=x.k:=by
 unfold tx at h
 cases e:T[i]? with
 | none=>rw [e] at h;exact absurd rfl h
 | some x=>exact ⟨x,rfl,by simp [tx,e],by simp [kd,e]⟩
theorem yq5 {c:UInt8} (h:isL c=true):isD c=false∧c≠39:=by
 simp only [isL,isD,Bool.and_eq_true,decide_eq_true_eq] at *
 refine ⟨?_, ?_⟩
 ·rw [Bool.and_eq_false_iff,decide_eq_false_iff_not,decide_eq_false_iff_not];omega
 ·intro e;subst e;simp at h
theorem yrA (c:UInt8) (r:List UInt8) (hz:(yba (c::r)).1≠0):((yba (c::r)).1=2↔isD c=true)∧((yba (c::r)).1=3↔c=39):=by
 revert hz
 rw [yba]
 by_cases h1:isL c=true
 ·have:=yq5 h1
  simp [h1,this.1,this.2]
 ·by_cases h2:isD c=true
  ·have:c≠39:=by intro e;subst e;simp [isD] at h2
   simp [h1,h2,this]
  ·by_cases h3:c=39
   ·subst h3
    have:isD 39=false:=by decide
    rw [if_neg h1,if_neg h2,if_pos rfl]
    split <;> simp [this]
   ·rw [if_neg h1,if_neg h2,if_neg h3]
    split
    ·simp [h2,h3]
    ·split <;> simp [h2,h3]
theorem ykJ (s:List UInt8):∀ x ∈ (yaH s).1,TokIs x:=by
 refine ygn (fun a c r hw=>?_) s
 have hz:=ycf hw
 have hp:=ydr c r hz
 obtain ⟨h2,h3⟩:=yrA c r hz
 obtain ⟨n,hn⟩:∃ n,(yba (c::r)).2=n+1:=⟨(yba (c::r)).2 - 1,by omega⟩
 rw [hn,List.take_succ_cons]
 refine ⟨?_, ?_⟩
 ·show (((yba (c::r)).1:Nat):Int)=2↔isD c=true
  rw [← h2];omega
 ·show (((yba (c::r)).1:Nat):Int)=3↔decide (c=39)=true
  rw [decide_eq_true_eq,← h3];omega
end Go.Proofs.YtkpeklealgicpabGreatDoor
