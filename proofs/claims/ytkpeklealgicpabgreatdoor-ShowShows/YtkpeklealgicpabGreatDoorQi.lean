/-
  What is parsed is never long.
  The document's reader in memory: its small methods.
  The document's own small functions (package overhaulref), as ValueTells calls them.
  'CheckValue' of package overhaulref.
  The document's small functions of commands: ArgsOf, nameIs, NoExpr, PlainExpr.
  The document's PlainExpr, and PartsOf.
  The document's isExpr, of any expression in memory.
  CheckCmd of the document, of any command in memory.
  Parse, all cases in one; the laws' first look, commandBegun.
  The law CommandChecks: its call.
  Words that are printed, and scanned again.
  The printer's text: a Builder that lies in a struct of three cells; what is written to it.
  'put' of the printer's text.
  What is shown of a command; values are read back.
-/
import Derived.Deep.Cut
import Derived.Test.YtkpeklealgicpabGreatDoorQa
import Derived.Test.YtkpeklealgicpabGreatDoorQc
import Derived.Test.YtkpeklealgicpabGreatDoorQd
import Derived.Test.YtkpeklealgicpabGreatDoorQe
import Derived.Test.YtkpeklealgicpabGreatDoorQf
import Derived.Test.YtkpeklealgicpabGreatDoorQg
import Derived.Test.YtkpeklealgicpabGreatDoorQh

set_option maxRecDepth 100000
set_option maxHeartbeats 8000000
namespace Go.Proofs.YtkpeklealgicpabGreatDoor
open Go.RowKit
def Rs.all {α:Type} (p:α→Prop):Rs α→Prop
 | .ok a _=>p a
 | .bad _=>True
theorem Rs.all_then {α β:Type} {p:α→Prop} {q:β→Prop} {r:Rs α} {f:α→Nat→Rs β} (h:r.all p) (hf:∀ a j,p a→(f a j).all q):(r.then f).all q:=by
 cases r with
 | ok a j=>exact hf a j h
 | bad j=>trivial
theorem Rs.all_any {α β:Type} {q:β→Prop} {r:Rs α} {f:α→Nat→Rs β} (hf:∀ a j,(f a j).all q):(r.then f).all q:=by
 cases r with
 | ok a j=>exact hf a j
 | bad j=>trivial
def Sh (s:List UInt8):Prop:=s.length≤22
theorem Sh.up {s:List UInt8} (h:Sh s):s.length≤140737488355328:=by unfold Sh at h;omega
section
variable {T:List Tk} (hT:∀ x ∈ T,TokOk x)
include hT
theorem yq0 (i:Nat):Sh (tx T i):=by
 unfold tx
 split
 ·rename_i t h;exact (hT t (List.mem_of_getElem? h)).short
 ·simp [Sh]
theorem yby (i:Nat):(ycA T i).all Sh:=by
 unfold ycA
 split
 ·exact yq0 hT i
 ·trivial
theorem yep (i:Nat):(yfN T i).all fun x=>Sh x.name :=
 Rs.all_then (yby hT i) fun _ _ h=>Rs.all_any fun _ _=>h
theorem ygg (i:Nat):(yg8 T i).all fun x=>Sh x.s:=by
 unfold yg8
 split
 ·exact Rs.all_any fun _ _=>by simp [Rs.all,Sh]
 ·split
  ·have:=yq0 hT i
   simp only [Rs.all,Sh,List.length_take,List.length_drop] at this ⊢
   omega
  ·refine Rs.all_any fun s j=>?_
   split
   ·exact Rs.all_any fun _ _=>by simp [Rs.all,Sh]
   ·split
    ·simp [Rs.all,Sh]
    ·split <;> simp [Rs.all,Sh,vl0]
theorem yit (i:Nat):(yob T i).all Fit:=by
 unfold yob
 split
 ·exact .mk _ _ _ _ (by simp [vl0]) (yq0 hT i).up (by simp) (by intro y hy;cases hy)
 ·exact Rs.all_then (ygg hT i) fun v _ h=>.mk _ _ _ _ h.up (by simp) (by simp) (by intro y hy;cases hy)
theorem yin (f:Nat):∀ i,(yi7 T f i).all Fit:=by
 induction f with
 | zero=>exact yit hT
 | succ f ih =>
  intro i
  rw [yi7]
  split
  ·exact Rs.all_then (ih _) fun a _ h=>.mk _ _ _ _ (by simp [vl0]) (by simp) (by simp) (by intro y hy;rw [List.mem_singleton] at hy;rw [hy];exact h)
  ·split
   ·unfold yo2
    refine Rs.all_then (ih _) fun a _ h=>Rs.all_any fun b _=>?_
    split
    ·exact .mk _ _ _ _ (by simp [vl0]) (by simp) (by simp) (by intro y hy;rw [List.mem_singleton] at hy;rw [hy];exact h)
    ·exact Rs.all_any fun k _=>Rs.all_then (ih _) fun b _ h2=>Rs.all_any fun _ _=>.mk _ _ _ _ (by simp [vl0]) (by simp) (by simp) (by
      intro y hy
      rcases List.mem_cons.1 hy with e|e
      ·rw [e];exact h
      ·rw [List.mem_singleton] at e;rw [e];exact h2)
   ·exact yit hT i
end
theorem yjA {α:Type} {p:α→Prop} {T:List Tk} {one:Nat→Rs α} (h1:∀ i,(one i).all p) (f:Nat):∀ (l:List α) (i:Nat),(∀ x ∈ l,p x)→(yfu T one f l i).all fun r=>r.length≤l.length+f∧∀ x ∈ r,p x:=by
 induction f with
 | zero=>intro l i h;exact ⟨Nat.le_refl _,h⟩
 | succ f ih =>
  intro l i h
  rw [yfu]
  split
  ·refine Rs.all_then (h1 _) fun x j hx=>?_
   have:=ih (l++[x]) j (fun y hy=>by
    rcases List.mem_append.1 hy with e|e
    ·exact h y e
    ·rw [List.mem_singleton] at e;rw [e];exact hx)
   generalize yfu T one f (l++[x]) j=r at *
   cases r with
   | bad=>trivial
   | ok r k =>
    have h2:=this.1
    simp only [List.length_append,List.length_cons,List.length_nil] at h2
    exact ⟨by omega,this.2⟩
  ·exact ⟨by omega,h⟩
theorem ygE {α:Type} {p:α→Prop} {T:List Tk} {one:Nat→Rs α} (hn:T.length≤2000) (h1:∀ i,(one i).all p) (i:Nat):(yqv T one i).all fun r=>r.length≤1000000000000000∧∀ x ∈ r,p x:=by
 refine Rs.all_then (h1 i) fun x j hx=>?_
 have:=yjA (T:=T) h1 (T.length+1) [x] j (fun y hy=>by rw [List.mem_singleton] at hy;rw [hy];exact hx)
 generalize yfu T one (T.length+1) [x] j=r at *
 cases r with
 | bad=>trivial
 | ok r k =>
  have h2:=this.1
  simp only [List.length_cons,List.length_nil] at h2
  exact ⟨by omega,this.2⟩
theorem yip {α:Type} {p:α→Prop} {T:List Tk} {one:Nat→Rs α} (hn:T.length≤2000) (h1:∀ i,(one i).all p) (i:Nat):(yqm T one i).all fun r=>r.length≤1000000000000000∧∀ x ∈ r,p x :=
 Rs.all_any fun _ _=>Rs.all_then (ygE hn h1 _) fun _ _ h=>Rs.all_any fun _ _=>h
theorem ygs:CmFit cm0:=by
 have he:Fit (.mk 0 vl0 [] []):=.mk _ _ _ _ (by simp [vl0]) (by simp) (by simp) (by intro y hy;cases hy)
 refine ⟨?_, ?_, ?_, ?_, ?_, ?_, ?_, ?_, ?_, ?_, ?_,he,he⟩ <;> simp [cm0,vl0]
section
variable {T:List Tk} (hT:∀ x ∈ T,TokOk x) (hn:T.length≤2000)
include hT
theorem yeZ {c:Cm} (h:CmFit c) (i:Nat):(yiQ T c i).all CmFit:=by
 refine Rs.all_any fun b j=>?_
 split
 ·exact Rs.all_then (yin hT 60 j) fun e _ he=>{ h with wh:=he }
 ·exact { h with }
theorem yjN {c:Cm} (h:CmFit c) (i:Nat):(ymb T c i).all CmFit:=by
 refine Rs.all_any fun b j=>?_
 split
 ·exact Rs.all_then (yby hT j) fun o _ ho=>{ h with other:=ho.up }
 ·exact Rs.all_then (yby hT j) fun l _ hl=>Rs.all_any fun _ _=>Rs.all_then (yby hT _) fun o _ ho=>{ h with column:=hl.up,other:=ho.up }
theorem ym9 (i:Nat):(yrw T i).all CmFit:=Rs.all_any fun _ j=>Rs.all_then (yby hT j) fun _ _ h=>{ ygs with name:=h.up }
theorem ykl (i:Nat):(yoZ T i).all CmFit:=by
 refine Rs.all_any fun _ j=>Rs.all_then (yby hT j) fun n _ h=>Rs.all_any fun s j=>?_
 split
 ·exact Rs.all_then (yep hT j) fun c _ hc=>Rs.all_any fun _ j=>Rs.all_then (ygg hT j) fun v _ hv=>{ ygs with name:=h.up,column:=hc.up,val:=hv.up }
 ·split
  ·exact Rs.all_then (yby hT j) fun c _ hc=>{ ygs with name:=h.up,column:=hc.up }
  ·split
   ·exact yjN hT (c:={ cm0 with name:=n }) { ygs with name:=h.up } j
   ·exact Rs.all_then (yep hT j) fun c _ hc=>{ ygs with name:=h.up,column:=hc.up }
theorem yi2 (i:Nat):(ykC T i).all CmFit:=Rs.all_any fun _ j=>Rs.all_then (yby hT j) fun n j h=>yeZ hT (c:={ cm0 with kind:=11,name:=n }) { ygs with name:=h.up } j
theorem yj9 (i:Nat):(ymM T i).all CmFit :=
 Rs.all_then (yby hT i) fun n _ h=>Rs.all_any fun _ j=>Rs.all_then (yby hT j) fun l _ hc=>Rs.all_any fun _ j=>Rs.all_then (yin hT 60 j) fun e j he=>yeZ hT (c:={ cm0 with kind:=12,name:=n,column:=l,expr:=e }) { ygs with name:=h.up,column:=hc.up,expr:=he } j
theorem yl0 {c:Cm} (h:CmFit c) (i:Nat):(ypf T c i).all CmFit:=by
 refine Rs.all_any fun b j=>?_
 split
 ·exact Rs.all_then (yby hT j) fun o _ ho=>{ h with order:=ho.up }
 ·exact h
omit hT in
theorem ylM {c:Cm} (h:CmFit c) (i:Nat):(ypc T c i).all CmFit:=by
 refine Rs.all_any fun b j=>?_
 split
 ·exact Rs.all_any fun n _=>{ h with }
 ·exact h
include hn
theorem yi0 (i:Nat):(ykz T i).all CmFit:=by
 refine Rs.all_any fun s j=>?_
 split
 ·exact Rs.all_then (yby hT j) fun n j h=>Rs.all_then (yip hn (yep hT) j) fun l _ hl=>{ ygs with name:=h.up,cols:=hl.1,colsN:=fun x hx=>(hl.2 x hx).up }
 ·exact Rs.all_then (yby hT j) fun n j h=>Rs.all_any fun _ j=>Rs.all_then (yby hT j) fun o j ho=>Rs.all_any fun _ j=>Rs.all_then (yby hT j) fun c j hc=>Rs.all_any fun _ j=>{ ygs with name:=h.up,other:=ho.up,column:=hc.up }
theorem yjv (i:Nat):(ylh T i).all CmFit :=
 Rs.all_any fun _ j=>Rs.all_then (yby hT j) fun _ _ h=>Rs.all_any fun _ j=>Rs.all_then (yip hn (ygg hT) j) fun _ _ hl=>{ ygs with name:=h.up,vals:=hl.1,valsN:=fun x hx=>(hl.2 x hx).up }
theorem yiZ (i:Nat):(ykw T i).all CmFit:=by
 have hf:∀ i,(ykK T i).all fun r=>r.length≤1000000000000000∧∀ x ∈ r,Sh x:=by
  intro i
  refine Rs.all_any fun b j=>?_
  split
  ·exact ⟨by simp,by intro x hx;cases hx⟩
  ·exact ygE hn (yby hT) j
 exact Rs.all_then (hf i) fun l _ hl=>Rs.all_any fun _ j=>Rs.all_then (yby hT j) fun n j h =>
  Rs.all_then (yeZ hT (c:={ cm0 with kind:=13,limit:=-1,fields:=l,name:=n }) { ygs with name:=h.up,fields:=hl.1,fieldsN:=fun x hx=>(hl.2 x hx).up } j) fun c j hc=>Rs.all_then (yl0 hT hc j) fun c j hc=>ylM hc j
theorem yhn (i:Nat):(yik T i).all CmFit:=by
 refine Rs.all_any fun s j=>?_
 repeat' split
 ·exact yi0 hT hn j
 ·exact ym9 hT j
 ·exact ykl hT j
 ·exact yjv hT hn j
 ·exact yi2 hT j
 ·exact yj9 hT j
 ·exact yiZ hT hn j
 ·exact { ygs with }
 ·exact { ygs with }
 ·exact { ygs with }
theorem ymS {c:Cm} {j:Nat} (h:yiR T=.ok c j):CmFit c:=by
 have:(yiR T).all CmFit:=Rs.all_then (yhn hT hn 0) fun c j hc=>by
  split
  ·trivial
  ·exact hc
 rw [h] at this
 exact this
end
theorem yic {s:List UInt8} {c:Cm} {j:Nat} (h:yiR (yaU s).1=.ok c j):CmFit c:=ymS (yfE s) (ygW s) h
structure Rd (w:World) (base rb:Nat) (v:Value) (T:List Tk) (en:Int) (s:Sx) (cs:List Value):Prop where
 blk:w.heap[rb]?=some (.cells (v::.int .i64 ((s.1:Nat):Int)::.int .i64 en::.bool s.2::cs).toArray 50)
 own:w.ownsRow base 63 3 v T.length (ybA T)
 lt:∀ g,v.ownBlock=some g→g < rb
 le:s.1≤T.length
 few:T.length≤2000
 toks:∀ x ∈ T,TokOk x
 ist:∀ x ∈ T,TokIs x
theorem rd4 {W:World} {rb:Nat} {v:Value} {i en:Int} {F:Bool} {cs:List Value} (h:W.heap[rb]?=some (.cells (v::.int .i64 i::.int .i64 en::.bool F::cs).toArray 50)) :
  (W.cell? ⟨rb,0,none⟩=some v∧W.cell? ⟨rb,1,none⟩=some (.int .i64 i)∧W.cell? ⟨rb,2,none⟩=some (.int .i64 en)∧W.cell? ⟨rb,3,none⟩=some (.bool F))∧(W.frozen? ⟨rb,1,none⟩=false∧W.frozen? ⟨rb,3,none⟩=false):=by
 refine ⟨⟨?_, ?_, ?_, ?_⟩,Lib.frozen_of_heap h 1,Lib.frozen_of_heap h 3⟩
 all_goals (rw [Lib.cell_of_heap h];simp)
theorem Rd.rb_lt {w:World} {base rb:Nat} {v:Value} {T:List Tk} {en:Int} {s:Sx} {cs:List Value} (h:Rd w base rb v T en s cs):rb < w.heap.size:=(ltS h.blk)
theorem Rd.ne {w:World} {base rb:Nat} {v:Value} {T:List Tk} {en:Int} {s:Sx} {cs:List Value} (h:Rd w base rb v T en s cs):v.ownBlock≠some rb:=fun e=>absurd (h.lt rb e) (Nat.lt_irrefl _)
theorem Rd.below {w w':World} {base rb:Nat} {v:Value} {T:List Tk} {en:Int} {s:Sx} {cs:List Value} (h:Rd w base rb v T en s cs) (hb:Below w.heap.size w w'):Rd w' base rb v T en s cs :=
 ⟨(hb.block rb h.rb_lt).trans h.blk,ycB h.own hb,h.lt,h.le,h.few,h.toks,h.ist⟩
theorem yuo (w:World) (rb:Nat) (c3:w.cell? ⟨rb,3,none⟩=some (.bool true)) :
  Calls Tryz.prog 115 #[.pointer (some ⟨rb,0,none⟩)] w fun e w'=>e=.returned (.string ⟨#[]⟩)∧Below w.heap.size w w':=by
 go_enter Tryz.func115,Tryz.ntmps115
 go_wp2
 go_quiet (fail)
 go_wp2
 go_ret
 exact ⟨rfl,below_drewN (Below.refl _ _) _⟩
theorem yun (w:World) (rb n cap:Nat) (ao:Option Addr) (c0:w.cell? ⟨rb,0,none⟩=some (.slice ao n cap)) (c1:w.cell? ⟨rb,1,none⟩=some (.int .i64 (n:Int))) (c3:w.cell? ⟨rb,3,none⟩=some (.bool false)) :
  Calls Tryz.prog 115 #[.pointer (some ⟨rb,0,none⟩)] w fun e w'=>e=.returned (.string ⟨#[]⟩)∧Below w.heap.size w w':=by
 go_enter Tryz.func115,Tryz.ntmps115
 go_wp2
 go_quiet (fail)
 go_wp2
 go_ret
 exact ⟨rfl,below_drewN (Below.refl _ _) _⟩
theorem yup (w:World) (rb n cap g i:Nat) (t:ByteArray) (c0:w.cell? ⟨rb,0,none⟩=some (.slice (some ⟨g,0,none⟩) n cap)) (c1:w.cell? ⟨rb,1,none⟩=some (.int .i64 (i:Int))) (c3:w.cell? ⟨rb,3,none⟩=some (.bool false))
  (hi:(i:Int) < (n:Int)) (e2:w.cell? ⟨g,i*3+2,none⟩=some (.string t)) :
  Calls Tryz.prog 115 #[.pointer (some ⟨rb,0,none⟩)] w fun e w'=>e=.returned (.string t)∧Below w.heap.size w w':=by
 have hge:¬ ((n:Int)≤(i:Int)):=by omega
 go_enter Tryz.func115,Tryz.ntmps115
 go_wp2
 go_quiet (fail)
 go_wp2
 go_quiet (fail)
 go_wp2
 go_ret
 exact ⟨rfl,below_drewN (below_drewN (Below.refl _ _) _) _⟩
theorem ya6 {w:World} {base rb:Nat} {v:Value} {T:List Tk} {en:Int} {s:Sx} {cs:List Value} (h:Rd w base rb v T en s cs) :
  Calls Tryz.prog 115 #[.pointer (some ⟨rb,0,none⟩)] w fun e w'=>e=.returned (.string ⟨(txS T s).toArray⟩)∧Below w.heap.size w w':=by
 obtain ⟨i,F⟩:=s
 obtain ⟨⟨c0,c1,c2,c3⟩,-⟩:=rd4 h.blk
 cases F with
 | true=>exact yuo w rb c3
 | false =>
  have e0:txS T (i,false)=tx T i:=by simp [txS]
  rw [e0]
  by_cases hi:i=T.length
  ·obtain ⟨ao,cap,hv⟩:=ycC h.own
   subst hi
   rw [hv] at c0
   have e3:tx T T.length=[]:=by simp [tx]
   rw [e3]
   exact yun w rb T.length cap ao c0 c1 c3
  ·have hlt:i < T.length:=by have:=h.le;simp only at this;omega
   obtain ⟨g,cap,hv,hg1,hg2⟩:=yeH h.own (by omega)
   have ho:=h.own
   rw [hv] at c0 ho
   have hx:T[i]?=some T[i]:=List.getElem?_eq_getElem hlt
   obtain ⟨a0,a1,a2⟩:=yks T i _ hx
   have e3:tx T i=T[i].t:=by simp [tx,hx]
   rw [e3]
   exact yup w rb T.length cap g i _ c0 c1 c3 (by omega) (yiA ho _ _ a2)
theorem Rd.step {w:World} {base rb:Nat} {v:Value} {T:List Tk} {en:Int} {i:Nat} {F:Bool} {cs:List Value} (h:Rd w base rb v T en (i,F) cs) (j:Nat) (hj:j≤T.length) :
  Rd (w.setCell ⟨rb,1,none⟩ (.int .i64 (j:Int))) base rb v T en (j,F) cs:=by
 refine ⟨?_,h.own.kept (yaE w rb 1 _) (.inr h.ne),h.lt,hj,h.few,h.toks,h.ist⟩
 have:=heap_setCell_same _ rb 1 _ 50 (.int .i64 (j:Int)) h.blk
 simpa using this
theorem Rd.fail {w:World} {base rb:Nat} {v:Value} {T:List Tk} {en:Int} {i:Nat} {F:Bool} {cs:List Value} (h:Rd w base rb v T en (i,F) cs) :
  Rd (w.setCell ⟨rb,3,none⟩ (.bool true)) base rb v T en (i,true) cs:=by
 refine ⟨?_,h.own.kept (yaE w rb 3 _) (.inr h.ne),h.lt,h.le,h.few,h.toks,h.ist⟩
 have:=heap_setCell_same _ rb 3 _ 50 (.bool true) h.blk
 simpa using this
theorem ymJ {T:List Tk} {i:Nat} (h:tx T i≠[]):i+1≤T.length:=by
 apply Classical.byContradiction
 intro hn
 exact h (by unfold tx;rw [List.getElem?_eq_none (by omega)])
theorem yek {w:World} {base rb:Nat} {v:Value} {T:List Tk} {en:Int} {s:Sx} {cs:List Value} (h:Rd w base rb v T en s cs) (W:List UInt8) (hW:W≠[]) :
  Calls Tryz.prog 60 #[.pointer (some ⟨rb,0,none⟩),.string ⟨W.toArray⟩] w fun e w'=>e=.returned (.bool (ybm T W s).1)∧Rd w' base rb v T en (ybm T W s).2 cs∧w.grownBy w' (some rb):=by
 obtain ⟨i,F⟩:=s
 have ht:=ya6 h
 have H:=yaa h
 obtain ⟨⟨c0,c1,c2,c3⟩,f1,f3⟩:=rd4 h.blk
 have hlt:=h.rb_lt
 have hle:=h.le
 have hfew:=h.few
 cases F with
 | true =>
  have e0:ybm T W (i,true)=(false,(i,true)):=by simp [ybm]
  rw [e0]
  clear h ht
  go_enter Tryz.func60,Tryz.ntmps60
  go_wp2
  go_ret
  exact ⟨rfl,H.out,yjf _ _⟩
 | false =>
  have e1:txS T (i,false)=tx T i:=by simp [txS]
  rw [e1] at ht
  by_cases he:tx T i=W
  ·have e0:ybm T W (i,false)=(true,(i+1,false)):=by simp [ybm,he]
   have hm:=ymJ (T:=T) (i:=i) (by rw [he];exact hW)
   rw [e0]
   rw [he] at ht
   have HM:=yaa hm
   clear h he hm
   go_enter Tryz.func60,Tryz.ntmps60
   go_wp2_with (go_at_call 115;refine ht.mono ?_;rintro e w1 ⟨rfl,b1⟩;have d1:=(b1.cell (p:=⟨rb,1,none⟩) hlt).trans c1;have R1:=yaa (H.out.below b1);have g1:=(rd4 R1.out.blk).2.1)
   go_ret
   have R2:=R1.out.step (i+1) HM.out
   have e2:(((i+1:Nat):Nat):Int)=(i:Int)+1:=by omega
   rw [e2] at R2
   exact ⟨rfl,R2,yab (yae b1 _) (yaE _ rb 1 _)⟩
  ·have e0:ybm T W (i,false)=(false,(i,false)):=by simp [ybm,he]
   rw [e0]
   have hne:(tx T i == W)=false:=by simpa using he
   clear h he
   go_enter Tryz.func60,Tryz.ntmps60
   go_wp2_with (go_at_call 115;refine ht.mono ?_;rintro e w1 ⟨rfl,b1⟩)
   go_ret
   exact ⟨rfl,H.out.below b1,yae b1 _⟩
theorem ydA {w:World} {base rb:Nat} {v:Value} {T:List Tk} {en:Int} {s:Sx} {cs:List Value} (h:Rd w base rb v T en s cs) (W:List UInt8) (hW:W≠[]) :
  Calls Tryz.prog 62 #[.pointer (some ⟨rb,0,none⟩),.string ⟨W.toArray⟩] w fun e w'=>e=.returned (.tuple #[])∧Rd w' base rb v T en (ycl T W s).2 cs∧w.grownBy w' (some rb):=by
 obtain ⟨i,F⟩:=s
 have ht:=yek h W hW
 have e0:(ycl T W (i,F)).2=if (ybm T W (i,F)).1=true then (ybm T W (i,F)).2 else (i,true):=by unfold ycl;split <;> rfl
 rw [e0]
 have e1:(ybm T W (i,F)).1=false→(ybm T W (i,F)).2=(i,F):=by
  unfold ybm;split
  ·intro h;cases h
  ·intro _;rfl
 generalize ybm T W (i,F)=p at ht e1
 obtain ⟨b,s2⟩:=p
 cases b with
 | true =>
  clear h e1
  go_enter Tryz.func62,Tryz.ntmps62
  go_wp2_with (go_at_call 60;refine ht.mono ?_;rintro e w1 ⟨rfl,R1,g1⟩)
  go_end0
  exact ⟨rfl,by simpa using R1,g1⟩
 | false =>
  have e2:=e1 rfl
  simp only at e2
  subst e2
  clear h e1
  go_enter Tryz.func62,Tryz.ntmps62
  go_wp2_with (go_at_call 60;refine ht.mono ?_;rintro e w1 ⟨rfl,R1,g1⟩;obtain ⟨⟨c0,c1,c2,c3⟩,f1,f3⟩:=rd4 R1.blk)
  go_end0
  exact ⟨rfl,by simpa using R1.fail,yab g1 (yaE _ rb 3 _)⟩
theorem ylk (K:Int) (t:ByteArray) (w:World) (hm:t.size≤9223372036854775000) :
  Calls Tryz.prog 83 #[.int .i64 K,.string t] w fun e w'=>e=.returned (.bool (ya5 K t.data.toList))∧w'=w:=by
 rw [ycV]
 have hl:t.data.toList.length=t.size:=by simp
 have hem:t.toList.isEmpty=decide (t.data.toList=[]):=by rw [Lib.toList_data];cases t.data.toList <;> simp
 by_cases h0:t.data.toList=[]
 ·rw [show ybt K t.data.toList=false by simp [ybt,h0]]
  exact yhE K t w (by rw [hem];simp [h0])
 have he:t.toList.isEmpty=false:=by rw [hem];simp [h0]
 by_cases h1:2000 < t.size
 ·rw [show ybt K t.data.toList=false by simp only [ybt,decide_eq_false_iff_not];omega]
  exact yjy K t w he h1 hm
 have hpos:0 < t.size:=by rw [← hl];exact List.length_pos_iff.2 h0
 obtain ⟨k,N,hp⟩:∃ k N,ya2 t.data.toList=(k,N):=⟨_,_,rfl⟩
 have hk4:=(yc1 t.data.toList).1
 rw [hp] at hk4
 cases hk:(K == 0)
 ·have e:ybt K t.data.toList=(((k:Int) == K)&&((N:Int) == (t.size:Int))&&(((yay k t.data.toList:Nat):Int) == 0)):=by
   rw [Bool.eq_iff_iff]
   simp only [ybt,hp,decide_eq_true_eq,Bool.and_eq_true,beq_iff_eq]
   constructor
   ·rintro ⟨_,_,a,b,c⟩;exact ⟨⟨a,by omega⟩,by omega⟩
   ·rintro ⟨⟨a,b⟩,c⟩;exact ⟨h0,by omega,a,by omega,by omega⟩
  rw [e]
  exact ynY K t w he hpos (by omega) hk k N _ hp hk4 rfl
 ·have hk0:K=0:=eq_of_beq hk
  rw [show ybt K t.data.toList=false by
   simp only [ybt,hp,decide_eq_false_iff_not]
   rintro ⟨_,_,a,_,c⟩
   have:k=0:=by omega
   subst this;simp [yay] at c]
  exact yhF K t w he (by omega) hk
theorem yjz (s:ByteArray) (w:World):Calls Tryz.prog 84 #[.string s] w fun e w'=>e=.returned (.bool (takenL.contains s.data.toList))∧Below w.heap.size w w':=by
 go_enter Tryz.func84,Tryz.ntmps84
 go_wp2
 go_loopw [4] (fun i wl=>∃ k:Nat,k≤36∧i=.int .i64 k∧Below w.heap.size w wl∧Hid (∀ j x,takenL[j]?=some x→wl.cell? ⟨w.heap.size,j,none⟩=some (.string ⟨x.toArray⟩))∧Hid (∀ j,j < k→takenL[j]?≠some s.data.toList)) (fun i _=>36 - (intOf i).toNat)
 case atStart =>
  refine ⟨0,by decide,rfl,(Below.refl _ _).alloc (Nat.le_refl _) _,fun j x hx=>?_,fun j hj=>absurd hj (Nat.not_lt_zero _)⟩
  have h1:=Lib.cell_of_heap (heap_alloc_new w (.cells (takenL.map fun x=>Value.string ⟨x.toArray⟩).toArray 9)) j
  refine h1.trans ?_
  simp [hx]
 case round =>
  obtain ⟨k,hk,rfl,hnx,HC,HA⟩:=hrel
  by_cases hlt:k < 36
  ·obtain ⟨x,hx⟩:∃ x,takenL[k]?=some x:=⟨takenL[k]'(by simpa [takenL] using hlt),List.getElem?_eq_getElem _⟩
   have c0:=HC.out k x hx
   have HX:=yaa hx
   have hlt':(k:Int) < 36:=by omega
   by_cases he:x=s.data.toList
   ·have e1:s=⟨x.toArray⟩:=by rw [he]
    have HE:=yaa he
    clear he hx
    subst e1
    go_wp2
    go_ret
    refine ⟨yaw ?_,hnx⟩
    have:x ∈ takenL:=List.mem_of_getElem? HX.out
    simp [this]
   ·have e1:(x == s.toList)=false:=by rw [Lib.toList_data];simpa using he
    have HE:=yaa he
    clear he hx
    go_wp2
    go_roundw
    case rel =>
     refine ⟨k+1,by omega,by go_num,hnx,HC,fun j hj=>?_⟩
     rcases Nat.lt_or_ge j k with hjk|hjk
     ·exact HA.out j hjk
     ·rw [show j=k by omega,HX.out]
      intro e;cases e;exact HE.out rfl
    case measure=>simp [intOf];omega
  ·have hk36:¬ (k:Int) < 36:=by omega
   go_wp2
   go_ret
   refine ⟨yaw ?_,hnx⟩
   symm
   rw [Bool.eq_false_iff]
   intro h
   have hm:s.data.toList ∈ takenL:=by simpa using h
   obtain ⟨j,hj⟩:=List.getElem?_of_mem hm
   have:=(List.getElem?_eq_some_iff.1 hj).1
   exact HA.out j (by simp [takenL] at this;omega) hj
theorem ydF (s:ByteArray) (w:World) (hm:s.size≤9223372036854775000):Calls Tryz.prog 34 #[.string s] w fun e w'=>e=.returned (.bool (yan s.data.toList))∧Below w.heap.size w w':=by
 have h1:=ylk 1 s w hm
 have h2:=yjz s w
 unfold yan
 generalize ya5 1 s.data.toList=a at *
 generalize takenL.contains s.data.toList=b at *
 cases a with
 | false =>
  go_enter Tryz.func34,Tryz.ntmps34
  go_wp2_with (first|(go_at_call 83;refine h1.mono ?_;rintro e w' ⟨rfl,hw'⟩;obtain rfl:=hw'.symm;clear hw'))
  go_ret
  exact ⟨rfl,Below.refl _ _⟩
 | true =>
  go_enter Tryz.func34,Tryz.ntmps34
  go_wp2_with (first|(go_at_call 83;refine h1.mono ?_;rintro e w' ⟨rfl,hw'⟩;obtain rfl:=hw'.symm;clear hw')|(go_at_call 84;refine h2.mono ?_;rintro e w2 ⟨rfl,b2⟩))
  go_ret
  exact ⟨yaw (by simp),b2⟩
theorem yaC {n a b:Int} {r:Bool} (h:(decide (a≤n)&&decide (n≤b))=r) (w:World) :
  Calls Tryz.prog 31 #[.int .i64 n,.int .i64 a,.int .i64 b] w fun e w'=>e=.returned (.bool r)∧w'=w:=by
 rw [← h];exact ybK n a b w
theorem yos (n:Int) (w:World):Calls Tryz.prog 81 #[.int .i64 n] w fun e w'=>e=.returned (.bool (ye7 n))∧w'=w:=by
 go_enter Tryz.func81,Tryz.ntmps81
 go_wp2_with (go_at_call 31;refine (ybK _ _ _ _).mono ?_;rintro e w' ⟨rfl,rfl⟩)
 go_ret
 exact ⟨yaw (by rfl),rfl⟩
theorem yoY (s:ByteArray):s.data.toList.all isQ=true↔∀ j (h:j < s.size),isQ s[j]=true:=by
 rw [List.all_eq_true]
 constructor
 ·intro h j hj
  exact h _ (by
   have:s[j]=s.data[j]:=rfl
   rw [this]
   exact Array.mem_toList_iff.2 (Array.getElem_mem _))
 ·intro h c hc
  obtain ⟨j,hj,rfl⟩:=List.getElem_of_mem hc
  have hj':j < s.size:=by
   have:s.data.toList.length=s.size:=Array.length_toList
   omega
  have:=h j hj'
  rw [Array.getElem_toList]
  exact this
theorem ypB (K N:Int) (s:ByteArray) (w:World) (hK:(decide (0≤K)&&decide (K≤3))=false) :
  Calls Tryz.prog 33 #[.agg #[.int .i64 K,.int .i64 N,.string s]] w fun e w'=>e=.returned (.int .i64 7)∧Below w.heap.size w w':=by
 have hb:=yaC hK
 clear hK
 go_enter Tryz.func33,Tryz.ntmps33
 go_wp2_with (go_at_call 31;refine (hb _).mono ?_;rintro e w' ⟨rfl,hw'⟩;obtain rfl:=hw'.symm;clear hw')
 go_ret
 exact ⟨rfl,(Below.refl _ _).alloc (Nat.le_refl _) _⟩
def yrx (b:Bool):Int:=if b=true then 0 else 3
theorem ytj (N:Int) (s:ByteArray) (w:World) (b d:Bool) (hN:(N == 0)=b) (hS:s.toList.isEmpty=d) :
  Calls Tryz.prog 33 #[.agg #[.int .i64 0,.int .i64 N,.string s]] w fun e w'=>e=.returned (.int .i64 (yrx (b&&d)))∧Below w.heap.size w w':=by
 have hb:=yaC (n:=0) (a:=0) (b:=3) (r:=true) (by decide)
 cases b <;> cases d
 all_goals
  go_enter Tryz.func33,Tryz.ntmps33
  go_wp2_with (go_at_call 31;refine (hb _).mono ?_;rintro e w' ⟨rfl,hw'⟩;obtain rfl:=hw'.symm;clear hw')
  go_ret
  exact ⟨rfl,(Below.refl _ _).alloc (Nat.le_refl _) _⟩
theorem ytk (N:Int) (s:ByteArray) (w:World) (b d:Bool) (hN:ye7 N=b) (hS:s.toList.isEmpty=d) :
  Calls Tryz.prog 33 #[.agg #[.int .i64 1,.int .i64 N,.string s]] w fun e w'=>e=.returned (.int .i64 (yrx (b&&d)))∧Below w.heap.size w w':=by
 have hb:=yaC (n:=1) (a:=0) (b:=3) (r:=true) (by decide)
 have hi:=fun W=>yos N W
 rw [hN] at hi
 clear hN
 cases b <;> cases d
 all_goals
  go_enter Tryz.func33,Tryz.ntmps33
  go_wp2_with (first|(go_at_call 31;refine (hb _).mono ?_;rintro e w' ⟨rfl,hw'⟩;obtain rfl:=hw'.symm;clear hw')|(go_at_call 81;refine (hi _).mono ?_;rintro e w' ⟨rfl,hw'⟩;obtain rfl:=hw'.symm;clear hw'))
  go_ret
  exact ⟨rfl,(Below.refl _ _).alloc (Nat.le_refl _) _⟩
theorem ytl (N:Int) (s:ByteArray) (w:World) (b d:Bool) (hN:(decide (0≤N)&&decide (N≤1))=b) (hS:s.toList.isEmpty=d) :
  Calls Tryz.prog 33 #[.agg #[.int .i64 3,.int .i64 N,.string s]] w fun e w'=>e=.returned (.int .i64 (yrx (b&&d)))∧Below w.heap.size w w':=by
 have hb:=yaC (n:=3) (a:=0) (b:=3) (r:=true) (by decide)
 have hi:=yaC hN
 clear hN
 cases b <;> cases d
 all_goals
  go_enter Tryz.func33,Tryz.ntmps33
  go_wp2_with fail
  refine (hb _).mono ?_
  rintro e w' ⟨rfl,hw'⟩
  obtain rfl:=hw'.symm
  clear hw' hb
  go_wp2_with fail
  refine (hi _).mono ?_
  rintro e w' ⟨rfl,hw'⟩
  obtain rfl:=hw'.symm
  clear hw' hi
  go_wp2
  go_ret
  exact ⟨rfl,(Below.refl _ _).alloc (Nat.le_refl _) _⟩
theorem yo4 (N:Int) (s:ByteArray) (w:World) (h:(N == 0)=false∨((N == 0)=true∧20 < s.size)) (hs:s.size≤140737488355328) :
  Calls Tryz.prog 33 #[.agg #[.int .i64 2,.int .i64 N,.string s]] w fun e w'=>e=.returned (.int .i64 3)∧Below w.heap.size w w':=by
 have hb:=yaC (n:=2) (a:=0) (b:=3) (r:=true) (by decide)
 rcases h with h|⟨h,h'⟩
 all_goals
  go_enter Tryz.func33,Tryz.ntmps33
  go_wp2_with (go_at_call 31;refine (hb _).mono ?_;rintro e w' ⟨rfl,hw'⟩;obtain rfl:=hw'.symm;clear hw')
  clear hb
  go_loop [3,4] (fun o i=>o=.bool false∧i=.int .i64 0) (fun _ _=>0)
  case atStart=>exact ⟨by first|rfl|(rw [decide_eq_false (by omega)]),rfl⟩
  case round =>
   obtain ⟨rfl,rfl⟩:=hrel
   go_wp2
   all_goals go_ret
   all_goals exact ⟨rfl,(Below.refl _ _).alloc (Nat.le_refl _) _⟩
theorem yrh (s:ByteArray) (w:World) (hz:s.size≤20) (r:Bool) (Hr:Hid (s.data.toList.all isQ=r)) :
  Calls Tryz.prog 33 #[.agg #[.int .i64 2,.int .i64 0,.string s]] w fun e w'=>e=.returned (.int .i64 (yrx r))∧Below w.heap.size w w':=by
 have hb:=yaC (n:=2) (a:=0) (b:=3) (r:=true) (by decide)
 go_enter Tryz.func33,Tryz.ntmps33
 go_wp2_with (go_at_call 31;refine (hb _).mono ?_;rintro e w' ⟨rfl,hw'⟩;obtain rfl:=hw'.symm;clear hw')
 clear hb
 go_loop [3,4] (fun o i=>∃ (n:Nat) (b:Bool),n≤s.size∧i=.int .i64 n∧o=.bool b∧Hid ((b=true→∀ j (h:j < s.size),j < n→isQ s[j]=true)∧(b=false→∃ j,∃ h:j < s.size,isQ s[j]=false))) (fun _ i=>s.size - (intOf i).toNat)
 case atStart=>exact ⟨0,true,by omega,rfl,by rw [decide_eq_true (by omega)],⟨fun _ j _ h=>absurd h (by omega),fun h=>by cases h⟩⟩
 case round =>
  obtain ⟨n,b,hn,rfl,rfl,HE⟩:=hrel
  cases b with
  | false =>
   have HF:Hid (s.data.toList.all isQ=false):=by
    obtain ⟨j,hj,hq⟩:=HE.out.2 rfl
    rw [Hid,Bool.eq_false_iff]
    intro h
    have:=(yoY s).1 h j hj
    rw [hq] at this
    cases this
   clear HE
   go_wp2
   all_goals go_ret
   all_goals exact ⟨by rw [show r=false from Hr.out.symm.trans HF.out];rfl,(Below.refl _ _).alloc (Nat.le_refl _) _⟩
  | true =>
   by_cases hlt:n < s.size
   ·have hq:=fun W=>yiE s[n] W
    have HG:Hid ((isQ s[n]=true→∀ j (h:j < s.size),j < n+1→isQ s[j]=true)∧(isQ s[n]=false→∃ j,∃ h:j < s.size,isQ s[j]=false)):=by
     refine ⟨fun h j hj hj'=>?_,fun h=>⟨n,hlt,h⟩⟩
     by_cases e:j=n
     ·subst e;exact h
     ·exact HE.out.1 rfl j hj (by omega)
    generalize isQ s[n]=q at hq HG
    clear HE
    go_wp2_with (go_at_call 82;refine (hq _).mono ?_;rintro e w' ⟨rfl,hw'⟩;obtain rfl:=hw'.symm;clear hw')
    go_round
    case rel=>exact ⟨n+1,q,by omega,by go_num,rfl,HG⟩
    case measure=>simp [intOf];omega
   ·have HF:Hid (s.data.toList.all isQ=true):=(yoY s).2 fun j hj=>HE.out.1 rfl j hj (by omega)
    clear HE
    go_wp2
    all_goals go_ret
    all_goals exact ⟨by rw [show r=true from Hr.out.symm.trans HF.out];rfl,(Below.refl _ _).alloc (Nat.le_refl _) _⟩
theorem yef (b:Bool):yrx b=((if b=true then 0 else 3:Nat):Int):=by cases b <;> rfl
theorem yky (K N:Int) (s:ByteArray) (w:World) (hs:s.size≤140737488355328) :
  Calls Tryz.prog 33 #[.agg #[.int .i64 K,.int .i64 N,.string s]] w fun e w'=>e=.returned (.int .i64 (ybT K N s.data.toList:Nat))∧Below w.heap.size w w':=by
 have hS:=ydv s
 by_cases h0:K=0
 ·subst h0
  have e:ybT 0 N s.data.toList=if ((N == 0)&&decide (s.data.toList=[]))=true then 0 else 3:=by simp [ybT]
  rw [e,← yef]
  exact ytj N s w _ _ rfl hS
 by_cases h1:K=1
 ·subst h1
  have e:ybT 1 N s.data.toList=if (ye7 N&&decide (s.data.toList=[]))=true then 0 else 3:=by simp [ybT]
  rw [e,← yef]
  exact ytk N s w _ _ rfl hS
 by_cases h3:K=3
 ·subst h3
  have e:ybT 3 N s.data.toList=if ((decide (0≤N)&&decide (N≤1))&&decide (s.data.toList=[]))=true then 0 else 3:=by
   have:(N=0∨N=1)↔(0≤N∧N≤1):=by omega
   simp [ybT,this]
  rw [e,← yef]
  exact ytl N s w _ _ rfl hS
 by_cases h2:K=2
 ·subst h2
  have hl:s.data.toList.length=s.size:=Array.length_toList
  by_cases hN:N=0
  ·subst hN
   by_cases hz:s.size≤20
   ·have e:ybT 2 0 s.data.toList=if (s.data.toList.all isQ)=true then 0 else 3:=by
     simp only [ybT,yda,hl]
     simp [hz]
    rw [e,← yef]
    exact yrh s w hz _ rfl
   ·have e:ybT 2 0 s.data.toList=3:=by
     simp only [ybT,yda,hl]
     simp [hz]
    rw [e]
    exact yo4 0 s w (Or.inr ⟨rfl,by omega⟩) hs
  ·have e:ybT 2 N s.data.toList=3:=by simp [ybT,hN]
   rw [e]
   exact yo4 N s w (Or.inl (by simpa using hN)) hs
 have e:ybT K N s.data.toList=7:=by simp [ybT,h0,h1,h2,h3]
 rw [e]
 refine ypB K N s w ?_
 rw [Bool.and_eq_false_iff,decide_eq_false_iff_not,decide_eq_false_iff_not]
 omega
theorem ymZ (k:Int) (w:World):Calls Tryz.prog 130 #[.int .i64 k] w fun e w'=>e=.returned (.int .i64 (ybz k))∧Below w.heap.size w w':=by
 by_cases hk:k < 1∨11 < k
 ·have hb:(decide (1≤k)&&decide (k≤11))=false:=by
   rcases hk with h|h
   ·have:¬ 1≤k:=by omega
    simp [this]
   ·have:¬ k≤11:=by omega
    simp [this]
  have e:ybz k = -1:=by rw [ybz,if_pos hk]
  rw [e]
  have hbt:=yaC hb
  clear e hk hb
  go_enter Tryz.func130,Tryz.ntmps130
  go_wp2_with (go_at_call 31;refine (hbt _).mono ?_;rintro e w' ⟨rfl,hw'⟩;obtain rfl:=hw'.symm;clear hw')
  go_ret
  exact ⟨rfl,Below.refl _ _⟩
 ·have hb:(decide (1≤k)&&decide (k≤11))=true:=by
   have h1:1≤k:=by omega
   have h2:k≤11:=by omega
   simp [h1,h2]
  have hc:k=1∨k=2∨k=3∨k=4∨k=5∨k=6∨k=7∨k=8∨k=9∨k=10∨k=11:=by omega
  rcases hc with rfl|rfl|rfl|rfl|rfl|rfl|rfl|rfl|rfl|rfl|rfl
  all_goals
   have hbt:=yaC hb
   clear hb hk
   go_enter Tryz.func130,Tryz.ntmps130
   go_wp2_with (go_at_call 31;refine (hbt _).mono ?_;rintro e w' ⟨rfl,hw'⟩;obtain rfl:=hw'.symm;clear hw')
   go_ret
   exact ⟨rfl,(Below.refl _ _).alloc (Nat.le_refl _) _⟩
theorem yjC (s:List UInt8) (b:Bool) (w:World) (hs:s.length≤140737488355328):Calls Tryz.prog 32 #[.string ⟨s.toArray⟩,.bool b] w fun e w'=>e=.returned (.bool (yax s b))∧Below w.heap.size w w':=by
 have hn:=ydF ⟨s.toArray⟩ w (by rw [yam];omega)
 have e0:(⟨s.toArray⟩:ByteArray).data.toList=s:=by simp
 rw [e0] at hn
 cases b with
 | true =>
  show Calls _ _ _ _ fun e w'=>e=.returned (.bool (yan s))∧_
  generalize yan s=r at hn ⊢
  go_enter Tryz.func32,Tryz.ntmps32
  go_wp2_with (go_at_call 34;refine hn.mono ?_;rintro e w' ⟨rfl,b1⟩)
  go_ret
  exact ⟨rfl,b1⟩
 | false =>
  have e1:yax s false=s.isEmpty:=by unfold yax;cases s <;> simp
  rw [e1]
  clear hn
  go_enter Tryz.func32,Tryz.ntmps32
  go_wp2
  go_ret
  exact ⟨yaw (by simp),Below.refl _ _⟩
theorem ynb (x:Vl):eqV x ⟨0,0,[]⟩=ybu x:=rfl
theorem ylW (x:Ex) (ao:Option Addr) (ca:Nat) (w:World) :
  Calls Tryz.prog 36 #[.agg #[.int .i64 x.k,.int .i64 x.v.k,.int .i64 x.v.n,.string ⟨x.v.s.toArray⟩,.string ⟨x.nm.toArray⟩,.slice ao x.args.length ca]] w fun e w'=>e=.returned (.bool (ybe x))∧Below w.heap.size w w':=by
 have hsv:=fun W=>yb7 x.v ⟨0,0,[]⟩ W
 rw [ynb] at hsv
 unfold ybe
 generalize ybu x.v=B at hsv ⊢
 have hk:(x.k == 0)=decide (x.k=0):=by rw [Bool.eq_iff_iff];simp
 have hn:x.nm.isEmpty=decide (x.nm=[]):=by cases x.nm <;> simp
 have ha:((x.args.length:Int) == 0)=decide (x.args=[]):=by rw [Bool.eq_iff_iff];cases x.args <;> simp;omega
 generalize decide (x.k=0)=K at hk ⊢
 generalize decide (x.nm=[])=M at hn ⊢
 generalize decide (x.args=[])=A at ha ⊢
 have b0:∀ o,Below w.heap.size w (w.alloc o):=fun o=>(Below.refl _ _).alloc (Nat.le_refl _) o
 cases K <;> cases M <;> cases A
 all_goals
  go_enter Tryz.func36,Tryz.ntmps36
  go_wp2_with (go_at_call 25;refine (hsv _).mono ?_;rintro e w1 ⟨rfl,b1⟩)
  go_ret
  first|exact ⟨yaw (by simp),b0 _⟩|exact ⟨yaw (by simp),(b0 _).trans (b1.mono (by simp))⟩
def HeldX (w:World) (k:Int) (v:Vl) (nm:List UInt8) (a:Value) (W:World):Prop :=
 (∀ o x,([.int .i64 k,.int .i64 v.k,.int .i64 v.n,.string ⟨v.s.toArray⟩,.string ⟨nm.toArray⟩,a]:List Value)[o]?=some x→W.cell? ⟨w.heap.size,o,none⟩=some x)∧Below w.heap.size w W∧w.heap.size+1≤W.heap.size
theorem HeldX.start (w:World) (k:Int) (v:Vl) (nm:List UInt8) (a:Value):HeldX w k v nm a (w.alloc (.cells #[.int .i64 k,.int .i64 v.k,.int .i64 v.n,.string ⟨v.s.toArray⟩,.string ⟨nm.toArray⟩,a] 29)):=by
 refine ⟨fun o x hx=>?_,(Below.refl _ _).alloc (Nat.le_refl _) _,by simp⟩
 rw [Lib.cell_of_heap (heap_alloc_new w _)];simpa using hx
theorem HeldX.below {w:World} {k:Int} {v:Vl} {nm:List UInt8} {a:Value} {W W':World} (h:HeldX w k v nm a W) (hb:Below W.heap.size W W'):HeldX w k v nm a W':=by
 obtain ⟨h1,h3,h4⟩:=h
 exact ⟨fun o x hx=>(hb.cell (p:=⟨w.heap.size,o,none⟩) (by show w.heap.size < _;omega)).trans (h1 o x hx),h3.trans (hb.mono h3.size),Nat.le_trans h4 hb.size⟩
theorem HeldX.drew {w:World} {k:Int} {v:Vl} {nm:List UInt8} {a:Value} {W:World} (h:HeldX w k v nm a W):HeldX w k v nm a W.drew:=⟨h.1,h.2.1.drew,h.2.2⟩
theorem yl6 (k:Int) (v:Vl) (nm:List UInt8) (ao:Option Addr) (n ca:Nat) (w:World) :
  Calls Tryz.prog 85 #[exV k v nm (.slice ao n ca)] w fun e w'=>e=.returned (.bool (yeK k v nm n))∧Below w.heap.size w w':=by
 have H0:=yaa (HeldX.start w k v nm (.slice ao n ca))
 have hq1:=yaa (ymZ k)
 have hq2:=yaa (fun W=>yb7 v ⟨0,0,[]⟩ W)
 unfold exV
 go_enter Tryz.func85,Tryz.ntmps85
 go_wp2_with fail
 refine yaT pln_R (by kernel_rfl) ?_
 refine ysH (k:=k) (v:=v) (nm:=nm) (ao:=ao) (n:=n) (ca:=ca) (b:=w.heap.size) (S:=HeldX w k v nm (.slice ao n ca)) rfl (fun W h=>h.1) (fun W h=>(hq1.out W).mono fun e w' q=>⟨q.1,h.below q.2⟩) (fun W h=>(hq2.out W).mono fun e w' q=>⟨q.1,h.below q.2⟩) rfl H0.out.drew ?_
 intro w' hS
 refine ‹∀ (a:Act) (w:World),Code.wp _ _ _ a w→_› _ _ ?_
 refine wp_ret ?_
 exact ybv 28 rfl ygM rfl rfl (by simp) ⟨rfl,hS.2.1⟩
theorem yoh (n s e:Nat) (h:n≤e):n+min s (e - n+1)=min (n+s) (e+1):=by omega
theorem yj3 (l:List Ex) (i:Nat) (y:Ex) (h:l[i]?=some y):ybl (l.take (i+1))=ybl (l.take i)+yaQ y:=by
 induction l generalizing i with
 | nil=>simp at h
 | cons z r ih =>
  cases i with
  | zero=>simp at h;subst h;simp [ybl]
  | succ i =>
   have:=ih i (by simpa using h)
   simp only [List.take_succ_cons,ybl]
   omega
theorem ymF (l:List Ex) (i:Nat):ybl (l.take i)≤ybl l:=by
 induction l generalizing i with
 | nil=>simp
 | cons z r ih =>
  cases i with
  | zero=>simp [ybl]
  | succ i=>have:=ih i;simp only [List.take_succ_cons,ybl];omega
theorem ygI (k:Int) (x:Vl) (nm:List UInt8) (ao:Option Addr) (n ca e:Nat) (xs:List Ex) (us:Nat→Value) (w:World) (hx:xs.length=n) (he:e≤15)
  (h1:0 < n→∃ g o,ao=some ⟨g,o,none⟩∧g < w.heap.size∧(∀ i,i < n→Six w g (o+6*i) (us i))) (hn:n≤1000000000000000)
  (hc:∀ i y,xs[i]?=some y→∀ e:Nat,e≤15→∀ W,Below w.heap.size w W→Calls Tryz.prog 30 #[us i,.int .i64 (e:Nat)] W fun r w'=>r=.returned (.int .i64 ((min (yaQ y) (e+1):Nat)))∧Below W.heap.size W w') :
  Calls Tryz.prog 30 #[exV k x nm (.slice ao n ca),.int .i64 (e:Nat)] w fun r w'=>r=.returned (.int .i64 ((min (1+ybl xs) (e+1):Nat)))∧Below w.heap.size w w':=by
 have b0:∀ o,Below w.heap.size w (w.alloc o):=fun o=>(Below.refl _ _).alloc (Nat.le_refl _) o
 have H1:=yaa h1
 have HC:=yaa hc
 clear h1 hc
 unfold exV
 go_enter Tryz.func30,Tryz.ntmps30
 go_wp2
 go_loopw [5,6] (fun r i wl=>∃ (m k:Nat),r=.int .i64 (m:Nat)∧i=.int .i64 (k:Nat)∧k≤n∧m=min (1+ybl (xs.take k)) (e+1)∧m≤16∧wl.cell? ⟨w.heap.size,5,none⟩=some (.slice ao n ca)∧Below w.heap.size w wl∧w.heap.size+1≤wl.heap.size) (fun _ i _=>n - (intOf i).toNat)
 case atStart=>exact ⟨1,0,rfl,rfl,Nat.zero_le _,by simp [ybl],by omega,by simp,b0 _,by simp⟩
 case round =>
  obtain ⟨m,i,rfl,rfl,hi,hm,hm16,d0,hnx,hsz⟩:=hrel
  have HM:=yaa hm
  clear hm
  by_cases hlt:i < n
  ·by_cases hme:m≤e
   ·obtain ⟨y,hy1⟩:∃ y,xs[i]?=some y:=⟨xs[i]'(by omega),List.getElem?_eq_getElem (by omega)⟩
    obtain ⟨g,o,rfl,hg,f1⟩:=H1.out (by omega)
    have kc:=HC.out i y hy1 (e - m) (by omega)
    obtain ⟨ky,vy,ny,ay,ey,s0,s1,s2,s3,s4,s5⟩:=f1 i hlt
    rw [ey] at kc
    unfold exV at kc
    have up:∀ b o,b < w.heap.size→wr.cell? ⟨b,o,none⟩=w.cell? ⟨b,o,none⟩:=fun b o hb=>hnx.cell (p:=⟨b,o,none⟩) hb
    have e0:=(up _ _ hg).trans s0
    have e1:=(up _ _ hg).trans s1
    have e2:=(up _ _ hg).trans s2
    have e3:=(up _ _ hg).trans s3
    have e4:=(up _ _ hg).trans s4
    have e5:=(up _ _ hg).trans s5
    have HX:=yaa hy1
    have hlt':(i:Int) < (n:Int):=by omega
    have hme':(m:Int)≤(e:Int):=by omega
    have hsub:((e - m:Nat):Int)=(e:Int) - (m:Int):=by omega
    rw [hsub] at kc
    have hmin:((min (yaQ y) (e - m+1):Nat):Int)≤16:=by omega
    have hmin0:(0:Int)≤((min (yaQ y) (e - m+1):Nat):Int):=by omega
    rw [Nat.mul_comm 6 i] at e0 e1 e2 e3 e4 e5
    have HMin:=yaa (rfl:min (yaQ y) (e - m+1)=min (yaQ y) (e - m+1))
    generalize hq:min (yaQ y) (e - m+1)=q at kc hmin hmin0
    have HQ:=yaa hq
    clear s0 s1 s2 s3 s4 s5 hy1 H1 HC up ey hsub hq HMin
    go_wp2_with (go_at_call 30;refine (kc _ hnx).mono ?_;rintro r w1 ⟨rfl,b1⟩;have d1:=(b1.cell (p:=⟨w.heap.size,5,none⟩) (by show w.heap.size < _;omega)).trans d0)
    have hs1:=b1.size
    go_roundw
    case rel =>
     refine ⟨m+q,i+1,by go_num,by go_num,by omega, ?_, ?_,d1,hnx.trans (b1.mono hnx.size),by omega⟩
     ·rw [yj3 xs i y HX.out,← HQ.out,yoh _ _ _ hme,HM.out]
      have:=HM.out
      omega
     ·have:=HQ.out
      omega
    case measure=>simp [intOf];omega
   ·have hme':(e:Int) < (m:Int):=by omega
    have hlt':(i:Int) < (n:Int):=by omega
    clear H1 HC
    go_wp2
    go_ret
    refine ⟨yct ?_,hnx⟩
    have h2:ybl (xs.take i)≤ybl xs:=ymF xs i
    have:=HM.out
    omega
  ·clear H1 HC
   have hlt':¬ ((i:Int) < (n:Int)):=by omega
   go_wp2
   go_ret
   refine ⟨yct ?_,hnx⟩
   have h2:xs.take i=xs:=List.take_of_length_le (by omega)
   have:=HM.out
   rw [h2] at this
   omega
theorem yeI (n:Nat):∀ (x:Ex) (u:Value) (w0:World),yaQ x≤n→ExAt 0 w0 u x→Fit x→∀ e:Nat,e≤15→∀ W,Below w0.heap.size w0 W →
  Calls Tryz.prog 30 #[u,.int .i64 (e:Nat)] W fun r w'=>r=.returned (.int .i64 ((min (yaQ x) (e+1):Nat)))∧Below W.heap.size W w':=by
 induction n with
 | zero=>intro x u w0 h;have:=ycZ x;omega
 | succ n ih =>
  intro x u w0 hs hx hf e he W hW
  obtain ⟨ao,ca,us,rfl,h1⟩:=hx.spread
  have keep:∀ {g o:Nat} {u:Value},g < w0.heap.size→Six w0 g o u→Six W g o u:=fun hg h=>h.keep (hW.block _ hg)
  rw [ydZ x,Nat.add_comm (ybl x.args) 1]
  refine ygI x.k x.v x.nm ao x.args.length ca e x.args us W rfl he ?_ hf.few ?_
  ·intro h0
   obtain ⟨g,o,rfl,-,hg,hc,-⟩:=h1 h0
   exact ⟨g,o,rfl,Nat.lt_of_lt_of_le hg hW.size,fun i hi=>keep hg (hc i hi)⟩
  ·intro i y hy e' he' W' hW'
   have h0:0 < x.args.length:=by have:=(List.getElem?_eq_some_iff.1 hy).1;omega
   obtain ⟨g,o,-,-,-,-,hex⟩:=h1 h0
   exact ih y (us i) w0 (by have:=yei hy;omega) (hex i y hy) (hf.arg hy) e' he' W' (hW.trans (hW'.mono hW.size))
theorem yfP:∀ l:List Ex,yil l=l.all exR
 | []=>rfl
 | x::r=>by rw [yil,yfP r];rfl
theorem yrY (k:Int) (x:Vl) (nm:List UInt8) (ao:Option Addr) (n ca:Nat) (w:World) (A B C:Bool) (E:Int) (hk:(k == 2)=B)
  (hp:∀ W:World,Calls Tryz.prog 85 #[.agg #[.int .i64 k,.int .i64 x.k,.int .i64 x.n,.string ⟨x.s.toArray⟩,.string ⟨nm.toArray⟩,.slice ao n ca]] W fun e w'=>e=.returned (.bool A)∧Below W.heap.size W w')
  (hn:∀ W:World,Calls Tryz.prog 34 #[.string ⟨nm.toArray⟩] W fun e w'=>e=.returned (.bool C)∧Below W.heap.size W w')
  (hv:∀ W:World,Calls Tryz.prog 33 #[.agg #[.int .i64 x.k,.int .i64 x.n,.string ⟨x.s.toArray⟩]] W fun e w'=>e=.returned (.int .i64 E)∧Below W.heap.size W w')
  (hno:A=false∨(A=true∧B=true∧C=false)∨(A=true∧(B=true→C=true)∧¬ E=0)) :
  Calls Tryz.prog 35 #[exV k x nm (.slice ao n ca)] w fun e w'=>e=.returned (.bool false)∧Below w.heap.size w w':=by
 have b0:∀ o,Below w.heap.size w (w.alloc o):=fun o=>(Below.refl _ _).alloc (Nat.le_refl _) o
 unfold exV
 have cell5:∀ {W W':World} (o:Nat) (v:Value),w.heap.size+1≤W.heap.size→Below W.heap.size W W'→W.cell? ⟨w.heap.size,o,none⟩=some v→W'.cell? ⟨w.heap.size,o,none⟩=some v :=
  fun o v hs hb h=>(hb.cell (p:=⟨w.heap.size,o,none⟩) (by show w.heap.size < _;omega)).trans h
 rcases hno with rfl|⟨rfl,rfl,rfl⟩|⟨rfl,hbc,hE⟩
 ·clear hn hv cell5
  go_enter Tryz.func35,Tryz.ntmps35
  go_wp2_with (go_at_call 85;refine (hp _).mono ?_;rintro e w1 ⟨rfl,b1⟩)
  go_ret
  exact ⟨rfl,(b0 _).trans (b1.mono (by simp))⟩
 ·clear hv
  go_enter Tryz.func35,Tryz.ntmps35
  go_wp2_with fail
  refine (hp _).mono ?_
  rintro e w1 ⟨rfl,b1⟩
  have s1:w.heap.size+1≤w1.heap.size:=by have:=b1.size;simp at this;omega
  have c0:=b1.cell (p:=⟨w.heap.size,0,none⟩) (by simp)
  have c4:=b1.cell (p:=⟨w.heap.size,4,none⟩) (by simp)
  simp at c0 c4
  have q1:Below w.heap.size w w1:=(b0 _).trans (b1.mono (by simp))
  clear b1 hp b0 cell5
  go_wp2_with (go_at_call 34;refine (hn _).mono ?_;rintro e w2 ⟨rfl,b2⟩)
  go_ret
  exact ⟨rfl,q1.trans (b2.mono q1.size)⟩
 ·cases B with
  | false =>
   clear hn
   go_enter Tryz.func35,Tryz.ntmps35
   go_wp2_with fail
   refine (hp _).mono ?_
   rintro e w1 ⟨rfl,b1⟩
   have s1:w.heap.size+1≤w1.heap.size:=by have:=b1.size;simp at this;omega
   have c0:=b1.cell (p:=⟨w.heap.size,0,none⟩) (by simp)
   have c1:=b1.cell (p:=⟨w.heap.size,1,none⟩) (by simp)
   have c2:=b1.cell (p:=⟨w.heap.size,2,none⟩) (by simp)
   have c3:=b1.cell (p:=⟨w.heap.size,3,none⟩) (by simp)
   simp at c0 c1 c2 c3
   have q1:Below w.heap.size w w1:=(b0 _).trans (b1.mono (by simp))
   clear b1 hp b0 cell5 hbc
   go_wp2_with (go_at_call 33;refine (hv _).mono ?_;rintro e w2 ⟨rfl,b2⟩)
   go_ret
   exact ⟨rfl,q1.trans (b2.mono q1.size)⟩
  | true =>
   obtain rfl:=hbc rfl
   go_enter Tryz.func35,Tryz.ntmps35
   go_wp2_with fail
   refine (hp _).mono ?_
   rintro e w1 ⟨rfl,b1⟩
   have s1:w.heap.size+1≤w1.heap.size:=by have:=b1.size;simp at this;omega
   have c0:=b1.cell (p:=⟨w.heap.size,0,none⟩) (by simp)
   have c1:=b1.cell (p:=⟨w.heap.size,1,none⟩) (by simp)
   have c2:=b1.cell (p:=⟨w.heap.size,2,none⟩) (by simp)
   have c3:=b1.cell (p:=⟨w.heap.size,3,none⟩) (by simp)
   have c4:=b1.cell (p:=⟨w.heap.size,4,none⟩) (by simp)
   simp at c0 c1 c2 c3 c4
   have q1:Below w.heap.size w w1:=(b0 _).trans (b1.mono (by simp))
   clear b1 hp b0 hbc
   go_wp2_with fail
   refine (hn _).mono ?_
   rintro e w2 ⟨rfl,b2⟩
   have d1:=cell5 1 _ s1 b2 c1
   have d2:=cell5 2 _ s1 b2 c2
   have d3:=cell5 3 _ s1 b2 c3
   have q2:=q1.trans (b2.mono q1.size)
   clear c0 c1 c2 c3 c4 cell5 hn
   go_wp2_with (go_at_call 33;refine (hv _).mono ?_;rintro e w3 ⟨rfl,b3⟩)
   go_ret
   exact ⟨rfl,q2.trans (b3.mono q2.size)⟩
theorem yqr (k:Int) (x:Vl) (nm:List UInt8) (ao:Option Addr) (n ca:Nat) (xs:List Ex) (us:Nat→Value) (w:World) (B:Bool) (hk:(k == 2)=B) (hx:xs.length=n) (hn0:n≤1000000000000000)
  (hp:∀ W:World,Calls Tryz.prog 85 #[.agg #[.int .i64 k,.int .i64 x.k,.int .i64 x.n,.string ⟨x.s.toArray⟩,.string ⟨nm.toArray⟩,.slice ao n ca]] W fun e w'=>e=.returned (.bool true)∧Below W.heap.size W w')
  (hn:B=true→∀ W:World,Calls Tryz.prog 34 #[.string ⟨nm.toArray⟩] W fun e w'=>e=.returned (.bool true)∧Below W.heap.size W w')
  (hv:∀ W:World,Calls Tryz.prog 33 #[.agg #[.int .i64 x.k,.int .i64 x.n,.string ⟨x.s.toArray⟩]] W fun e w'=>e=.returned (.int .i64 0)∧Below W.heap.size W w')
  (h1:0 < n→∃ g o,ao=some ⟨g,o,none⟩∧g < w.heap.size∧(∀ i,i < n→Six w g (o+6*i) (us i)))
  (hc:∀ i y,xs[i]?=some y→∀ W,Below w.heap.size w W→Calls Tryz.prog 35 #[us i] W fun e w'=>e=.returned (.bool (exR y))∧Below W.heap.size W w') :
  Calls Tryz.prog 35 #[exV k x nm (.slice ao n ca)] w fun e w'=>e=.returned (.bool (yil xs))∧Below w.heap.size w w':=by
 have b0:∀ o,Below w.heap.size w (w.alloc o):=fun o=>(Below.refl _ _).alloc (Nat.le_refl _) o
 have H1:=yaa h1
 have HC:=yaa hc
 have HN:=yaa hn
 clear h1 hc hn
 unfold exV
 have cell5:∀ {W W':World} (o:Nat) (v:Value),w.heap.size+1≤W.heap.size→Below W.heap.size W W'→W.cell? ⟨w.heap.size,o,none⟩=some v→W'.cell? ⟨w.heap.size,o,none⟩=some v :=
  fun o v hs hb h=>(hb.cell (p:=⟨w.heap.size,o,none⟩) (by show w.heap.size < _;omega)).trans h
 go_enter Tryz.func35,Tryz.ntmps35
 go_wp2_with fail
 refine (hp _).mono ?_
 rintro e w1 ⟨rfl,b1⟩
 have s1:w.heap.size+1≤w1.heap.size:=by have:=b1.size;simp at this;omega
 have c0:=b1.cell (p:=⟨w.heap.size,0,none⟩) (by simp)
 have c1:=b1.cell (p:=⟨w.heap.size,1,none⟩) (by simp)
 have c2:=b1.cell (p:=⟨w.heap.size,2,none⟩) (by simp)
 have c3:=b1.cell (p:=⟨w.heap.size,3,none⟩) (by simp)
 have c4:=b1.cell (p:=⟨w.heap.size,4,none⟩) (by simp)
 have c5:=b1.cell (p:=⟨w.heap.size,5,none⟩) (by simp)
 simp at c0 c1 c2 c3 c4 c5
 have q1:Below w.heap.size w w1:=(b0 _).trans (b1.mono (by simp))
 clear b1 hp b0
 cases B
 case' false =>
  go_wp2_with fail
  refine (hv _).mono ?_
  rintro e w3 ⟨rfl,b3⟩
  have f5:=cell5 5 _ s1 b3 c5
  have q3:=q1.trans (b3.mono q1.size)
  have s3:w.heap.size+1≤w3.heap.size:=by have:=b3.size;omega
 case' true =>
  go_wp2_with fail
  refine (HN.out (by first|rfl|trivial) _).mono ?_
  rintro e w2 ⟨rfl,b2⟩
  have d1:=cell5 1 _ s1 b2 c1
  have d2:=cell5 2 _ s1 b2 c2
  have d3:=cell5 3 _ s1 b2 c3
  have d5:=cell5 5 _ s1 b2 c5
  have s2:w.heap.size+1≤w2.heap.size:=by have:=b2.size;omega
  have q2:=q1.trans (b2.mono q1.size)
  go_wp2_with fail
  refine (hv _).mono ?_
  rintro e w3 ⟨rfl,b3⟩
  have f5:=cell5 5 _ s2 b3 d5
  have q3:=q2.trans (b3.mono q2.size)
  have s3:w.heap.size+1≤w3.heap.size:=by have:=b3.size;omega
  clear d1 d2 d3 d5 s2 q2 b2
 all_goals
  clear c0 c1 c2 c3 c4 c5 s1 q1 b3 hv HN
  go_wp2
  go_loopw [3] (fun i wl=>∃ k:Nat,k≤n∧i=.int .i64 k∧wl.cell? ⟨w.heap.size,5,none⟩=some (.slice ao n ca)∧Below w.heap.size w wl∧w.heap.size+1≤wl.heap.size∧Hid (∀ j y,j < k→xs[j]?=some y→exR y=true)) (fun i _=>n - (intOf i).toNat)
  case atStart=>exact ⟨0,Nat.zero_le _,rfl,f5,q3,s3,fun j _ hj=>absurd hj (Nat.not_lt_zero _)⟩
  case round =>
   obtain ⟨i,hi,rfl,d0,hnx,hsz,HA⟩:=hrel
   clear f5 q3 s3
   by_cases hlt:i < n
   ·obtain ⟨y,hy1⟩:∃ y,xs[i]?=some y:=⟨xs[i]'(by omega),List.getElem?_eq_getElem (by omega)⟩
    obtain ⟨g,o,rfl,hg,f1⟩:=H1.out (by omega)
    have kc:=HC.out i y hy1
    obtain ⟨ky,vy,ny,ay,ey,t0,t1,t2,t3,t4,t5⟩:=f1 i hlt
    rw [ey] at kc
    unfold exV at kc
    have up:∀ b o,b < w.heap.size→wr.cell? ⟨b,o,none⟩=w.cell? ⟨b,o,none⟩:=fun b o hb=>hnx.cell (p:=⟨b,o,none⟩) hb
    have e0:=(up _ _ hg).trans t0
    have e1:=(up _ _ hg).trans t1
    have e2:=(up _ _ hg).trans t2
    have e3:=(up _ _ hg).trans t3
    have e4:=(up _ _ hg).trans t4
    have e5:=(up _ _ hg).trans t5
    have HX:=yaa hy1
    have hlt':(i:Int) < (n:Int):=by omega
    rw [Nat.mul_comm 6 i] at e0 e1 e2 e3 e4 e5
    generalize hq:exR y=q at kc
    have HQ:=yaa hq
    clear t0 t1 t2 t3 t4 t5 hy1 H1 HC up ey hq
    cases q with
    | true =>
     go_wp2_with (go_at_call 35;refine (kc _ hnx).mono ?_;rintro r w4 ⟨rfl,b4⟩;have d4:=(b4.cell (p:=⟨w.heap.size,5,none⟩) (by show w.heap.size < _;omega)).trans d0)
     have hs4:=b4.size
     go_roundw
     case rel =>
      refine ⟨i+1,by omega,by go_num,d4,hnx.trans (b4.mono hnx.size),by omega,fun j y' hj hy'=>?_⟩
      rcases Nat.lt_or_ge j i with hjk|hjk
      ·exact HA.out j y' hjk hy'
      ·have h:=HX.out
       rw [show j=i by omega,h] at hy'
       cases hy'
       exact HQ.out
     case measure=>simp [intOf];omega
    | false =>
     go_wp2_with (go_at_call 35;refine (kc _ hnx).mono ?_;rintro r w4 ⟨rfl,b4⟩)
     go_ret
     refine ⟨yaw ?_,hnx.trans (b4.mono hnx.size)⟩
     rw [yfP]
     symm
     rw [List.all_eq_false]
     exact ⟨y,List.mem_of_getElem? HX.out,by rw [HQ.out];decide⟩
   ·clear H1 HC
    have hlt':¬ ((i:Int) < (n:Int)):=by omega
    go_wp2
    go_ret
    refine ⟨yaw ?_,hnx⟩
    rw [yfP]
    symm
    rw [List.all_eq_true]
    intro y hy
    obtain ⟨j,hj⟩:=List.getElem?_of_mem hy
    exact HA.out j y (by have:=(List.getElem?_eq_some_iff.1 hj).1;omega) hj
theorem yll (n:Nat):∀ (x:Ex) (u:Value) (w0:World),yaQ x≤n→ExAt 0 w0 u x→Fit x→∀ W,Below w0.heap.size w0 W →
  Calls Tryz.prog 35 #[u] W fun e w'=>e=.returned (.bool (exR x))∧Below W.heap.size W w':=by
 induction n with
 | zero=>intro x u w0 h;have:=ycZ x;omega
 | succ n ih =>
  intro x u w0 hs hx hf W hW
  obtain ⟨ao,ca,us,rfl,h1⟩:=hx.spread
  have keep:∀ {g o:Nat} {u:Value},g < w0.heap.size→Six w0 g o u→Six W g o u:=fun hg h=>h.keep (hW.block _ hg)
  have hp:=fun W=>yl6 x.k x.v x.nm ao x.args.length ca W
  unfold exV at hp
  have hz:x.nm.length≤140737488355328∧x.v.s.length≤140737488355328:=by
   cases hf with
   | mk k v nm args hv hn ha hh=>exact ⟨hn,hv⟩
  have hn:∀ W:World,Calls Tryz.prog 34 #[.string ⟨x.nm.toArray⟩] W fun e w'=>e=.returned (.bool (yan x.nm))∧Below W.heap.size W w':=by
   intro W
   have:=ydF ⟨x.nm.toArray⟩ W (by rw [yam];omega)
   have e0:(⟨x.nm.toArray⟩:ByteArray).data.toList=x.nm:=by simp
   rw [e0] at this
   exact this
  have hv:∀ W:World,Calls Tryz.prog 33 #[.agg #[.int .i64 x.v.k,.int .i64 x.v.n,.string ⟨x.v.s.toArray⟩]] W fun e w'=>e=.returned (.int .i64 ((ybT x.v.k x.v.n x.v.s:Nat):Int))∧Below W.heap.size W w':=by
   intro W
   have:=yky x.v.k x.v.n ⟨x.v.s.toArray⟩ W (by rw [yam];omega)
   have e0:(⟨x.v.s.toArray⟩:ByteArray).data.toList=x.v.s:=by simp
   rw [e0] at this
   exact this
  have hk:(x.k == 2)=decide (x.k=2):=by rw [Bool.eq_iff_iff];simp
  have he:exR x=(yeK x.k x.v x.nm x.args.length&&!(decide (x.k=2)&&!yan x.nm)&&ybJ x.v&&yil x.args):=by cases x;rw [exR];rfl
  by_cases hy:yeK x.k x.v x.nm x.args.length=true∧(decide (x.k=2)=true→yan x.nm=true)∧ybT x.v.k x.v.n x.v.s=0
  ·obtain ⟨y1,y2,y3⟩:=hy
   have e1:exR x=yil x.args:=by
    rw [he,y1,ybJ,y3]
    cases hd:decide (x.k=2) with
    | false=>simp
    | true=>rw [y2 hd];simp
   rw [e1]
   rw [y1] at hp
   rw [y3] at hv
   refine yqr x.k x.v x.nm ao x.args.length ca x.args us W _ hk rfl hf.few hp (fun hb=>by have:=hn;rw [y2 hb] at this;exact this) hv ?_ ?_
   ·intro h0
    obtain ⟨g,o,rfl,-,hg,hc,-⟩:=h1 h0
    exact ⟨g,o,rfl,Nat.lt_of_lt_of_le hg hW.size,fun i hi=>keep hg (hc i hi)⟩
   ·intro i y hy W' hW'
    have h0:0 < x.args.length:=by have:=(List.getElem?_eq_some_iff.1 hy).1;omega
    obtain ⟨g,o,-,-,-,-,hex⟩:=h1 h0
    exact ih y (us i) w0 (by have:=yei hy;omega) (hex i y hy) (hf.arg hy) W' (hW.trans (hW'.mono hW.size))
  ·have e1:exR x=false:=by
    rw [he]
    apply Bool.eq_false_iff.2
    intro h
    simp only [Bool.and_eq_true,ybJ,decide_eq_true_eq,Bool.not_eq_true',Bool.and_eq_false_iff,Bool.not_eq_false'] at h
    refine hy ⟨h.1.1.1,fun hd=>?_,h.1.2⟩
    rcases h.1.1.2 with h2|h2
    ·rw [h2] at hd;cases hd
    ·exact h2
   rw [e1]
   refine yrY x.k x.v x.nm ao x.args.length ca W _ _ _ _ hk hp hn hv ?_
   cases hA:yeK x.k x.v x.nm x.args.length with
   | false=>exact .inl rfl
   | true =>
    by_cases hB:decide (x.k=2)=true∧yan x.nm=false
    ·exact .inr (.inl ⟨rfl,hB.1,hB.2⟩)
    ·refine .inr (.inr ⟨rfl,fun hd=>?_,fun h0=>hy ⟨hA,fun hd=>?_,by omega⟩⟩)
     ·cases hN:yan x.nm with
      | true=>rfl
      | false=>exact absurd ⟨hd,hN⟩ hB
     ·cases hN:yan x.nm with
      | true=>rfl
      | false=>exact absurd ⟨hd,hN⟩ hB
def HeldC (w:World) (c:Cm) (cv vv fv ea wa:Value) (W:World):Prop :=
 (∀ o x,(cmL c cv vv fv ea wa)[o]?=some x→W.cell? ⟨w.heap.size,o,none⟩=some x)∧Below w.heap.size w W∧w.heap.size+1≤W.heap.size
theorem HeldC.start (w:World) (c:Cm) (cv vv fv ea wa:Value):HeldC w c cv vv fv ea wa (w.alloc (.cells (cmL c cv vv fv ea wa).toArray 31)):=by
 refine ⟨fun o x hx=>?_,(Below.refl _ _).alloc (Nat.le_refl _) _,by simp⟩
 rw [Lib.cell_of_heap (heap_alloc_new w _)];simpa using hx
theorem HeldC.below {w:World} {c:Cm} {cv vv fv ea wa:Value} {W W':World} (h:HeldC w c cv vv fv ea wa W) (hb:Below W.heap.size W W'):HeldC w c cv vv fv ea wa W':=by
 obtain ⟨h1,h3,h4⟩:=h
 exact ⟨fun o x hx=>(hb.cell (p:=⟨w.heap.size,o,none⟩) (by show w.heap.size < _;omega)).trans (h1 o x hx),h3.trans (hb.mono h3.size),Nat.le_trans h4 hb.size⟩
theorem ybc {α:Type} (C:α→List Value) {m:Nat} (hC:∀ y,(C y).length=m):∀ (L:List α) (i k:Nat) (y:α) (v:Value),L[i]?=some y→(C y)[k]?=some v→(L.flatMap C)[i*m+k]?=some v
 | [],i,k,y,v,h,_=>by simp at h
 | z::r,0,k,y,v,h,hv=>by
  simp at h
  subst h
  rw [List.flatMap_cons,Nat.zero_mul,Nat.zero_add,List.getElem?_append_left (List.getElem?_eq_some_iff.1 hv).1]
  exact hv
 | z::r,i+1,k,y,v,h,hv=>by
  rw [List.flatMap_cons,List.getElem?_append_right (by rw [hC,Nat.add_mul];omega),hC]
  have e:(i+1)*m+k - m=i*m+k:=by rw [Nat.add_mul];omega
  rw [e]
  exact ybc C hC r i k y v (by simpa using h) hv
theorem RowAt.slice {B:Nat} {w:World} {u:Value} {n:Nat} {xs:List Value} (h:RowAt B w u n xs):∃ ao cap,u=.slice ao n cap∧(0 < n→∃ b off,ao=some ⟨b,off,none⟩∧b < w.heap.size∧∀ j x,xs[j]?=some x→w.cell? ⟨b,off+j,none⟩=some x):=by
 rcases h with ⟨rfl,ao,cap,rfl⟩|⟨b,off,cap,rfl,-,hb,hc⟩
 ·exact ⟨ao,cap,rfl,fun h=>absurd h (Nat.lt_irrefl 0)⟩
 ·exact ⟨_,cap,rfl,fun _=>⟨b,off,rfl,hb,hc⟩⟩
theorem ExAt.slice {B:Nat} {w:World} {k:Int} {v:Vl} {nm:List UInt8} {a:Value} {x:Ex} (h:ExAt B w (exV k v nm a) x):∃ ao cap,a=.slice ao x.args.length cap:=by
 obtain ⟨ao,ca,us,e,-⟩:=h.spread
 simp only [exV,Value.agg.injEq,Array.mk.injEq,List.cons.injEq,and_true] at e
 exact ⟨ao,ca,e.2.2.2.2.2⟩
theorem yth {w:World} {c:Cm} {a1 a2 a3 a4 a5:Option Addr} {c1 c2 c3 c4 c5:Nat} (he:ExAt 0 w (exV c.expr.k c.expr.v c.expr.nm (.slice a4 c.expr.args.length c4)) c.expr) (hw:ExAt 0 w (exV c.wh.k c.wh.v c.wh.nm (.slice a5 c.wh.args.length c5)) c.wh) (hf:CmFit c) :
  CkS c w.heap.size a1 a2 a3 a4 a5 c1 c2 c3 c4 c5 (HeldC w c (.slice a1 c.cols.length c1) (.slice a2 c.vals.length c2) (.slice a3 c.fields.length c3) (.slice a4 c.expr.args.length c4) (.slice a5 c.wh.args.length c5)) where
 cell:=fun W h=>h.1
 drew:=fun W h=>⟨h.1,h.2.1.drew,h.2.2⟩
 btw:=fun n x y W h=>(ybK n x y W).mono fun e w' q=>⟨q.1,by rw [q.2];exact h⟩
 nmi:=fun s p hs W h=>(yjC s p W hs).mono fun e w' q=>⟨q.1,h.below q.2⟩
 nam:=fun s hs W h=>by
  have:=ydF ⟨s.toArray⟩ W (by rw [yam];omega)
  have e0:(⟨s.toArray⟩:ByteArray).data.toList=s:=by simp
  rw [e0] at this
  exact this.mono fun e w' q=>⟨q.1,h.below q.2⟩
 ckv:=fun v hs W h=>by
  have:=yky v.k v.n ⟨v.s.toArray⟩ W (by rw [yam];omega)
  have e0:(⟨v.s.toArray⟩:ByteArray).data.toList=v.s:=by simp
  rw [e0] at this
  exact this.mono fun e w' q=>⟨q.1,h.below q.2⟩
 smv:=fun v W h=>(yb7 v ⟨0,0,[]⟩ W).mono fun e w' q=>⟨q.1,h.below q.2⟩
 ixe:=fun W h=>(yll _ c.expr _ w (Nat.le_refl _) he hf.expr W h.2.1).mono fun e w' q=>⟨q.1,h.below q.2⟩
 ixw:=fun W h=>(yll _ c.wh _ w (Nat.le_refl _) hw hf.wh W h.2.1).mono fun e w' q=>⟨q.1,h.below q.2⟩
 noe:=fun W h=>(ylW c.expr a4 c4 W).mono fun e w' q=>⟨q.1,h.below q.2⟩
 now:=fun W h=>(ylW c.wh a5 c5 W).mono fun e w' q=>⟨q.1,h.below q.2⟩
theorem yqz (c:Cm):(((((decide (5 < ((c.cols.length:Nat):Int))) || (decide (5 < ((c.vals.length:Nat):Int)))) || (decide (5 < ((c.fields.length:Nat):Int)))) || (decide (15 < ((min (yaQ c.expr) (15+1):Nat):Int)))) || (decide (15 < ((min (yaQ c.wh) (15+1):Nat):Int))))=yaN c:=by
 unfold yaN
 rw [Bool.eq_iff_iff]
 simp only [Bool.or_eq_true,decide_eq_true_eq]
 omega
theorem yd3 (c:Cm) (cv vv fv ea wa:Value) {w:World} (hi:CmIn 0 w c cv vv fv ea wa) (hf:CmFit c) :
  Calls Tryz.prog 13 #[.agg (cmL c cv vv fv ea wa).toArray] w fun e w'=>e=.returned (.int .i64 (ybH (yaN c) (ybF c)))∧Below w.heap.size w w':=by
 obtain ⟨a1,c1,rfl,h1⟩:=hi.cols.slice
 obtain ⟨a2,c2,rfl,h2⟩:=hi.vals.slice
 obtain ⟨a3,c3,rfl,h3⟩:=hi.fields.slice
 obtain ⟨a4,c4,rfl⟩:=hi.expr.slice
 obtain ⟨a5,c5,rfl⟩:=hi.wh.slice
 have K:=yaa (yth (a1:=a1) (a2:=a2) (a3:=a3) (c1:=c1) (c2:=c2) (c3:=c3) hi.expr hi.wh hf)
 have H0:=yaa (HeldC.start w c (.slice a1 c.cols.length c1) (.slice a2 c.vals.length c2) (.slice a3 c.fields.length c3) (.slice a4 c.expr.args.length c4) (.slice a5 c.wh.args.length c5))
 have g1:=yaa (show 0 < c.cols.length→∃ g o,a1=some ⟨g,o,none⟩∧∀ W,HeldC w c (.slice a1 c.cols.length c1) (.slice a2 c.vals.length c2) (.slice a3 c.fields.length c3) (.slice a4 c.expr.args.length c4) (.slice a5 c.wh.args.length c5) W→∀ i x,c.cols[i]?=some x→W.cell? ⟨g,o+i*2,none⟩=some (.string ⟨x.name.toArray⟩)∧W.cell? ⟨g,o+i*2+1,none⟩=some (.int .i64 x.ty) by
  intro h0
  obtain ⟨g,o,e,hg,hc⟩:=h1 h0
  refine ⟨g,o,e,fun W hW i x hx=>?_⟩
  have up:∀ o,W.cell? ⟨g,o,none⟩=w.cell? ⟨g,o,none⟩:=fun o=>hW.2.1.cell (p:=⟨g,o,none⟩) hg
  rw [up,up]
  exact ⟨hc _ _ (ybc clC (m:=2) (fun _=>rfl) c.cols i 0 x _ hx rfl),hc _ _ (ybc clC (m:=2) (fun _=>rfl) c.cols i 1 x _ hx rfl)⟩)
 have g2:=yaa (show 0 < c.vals.length→∃ g o,a2=some ⟨g,o,none⟩∧∀ W,HeldC w c (.slice a1 c.cols.length c1) (.slice a2 c.vals.length c2) (.slice a3 c.fields.length c3) (.slice a4 c.expr.args.length c4) (.slice a5 c.wh.args.length c5) W→∀ i x,c.vals[i]?=some x→W.cell? ⟨g,o+i*3,none⟩=some (.int .i64 x.k)∧W.cell? ⟨g,o+i*3+1,none⟩=some (.int .i64 x.n)∧W.cell? ⟨g,o+i*3+2,none⟩=some (.string ⟨x.s.toArray⟩) by
  intro h0
  obtain ⟨g,o,e,hg,hc⟩:=h2 h0
  refine ⟨g,o,e,fun W hW i x hx=>?_⟩
  have up:∀ o,W.cell? ⟨g,o,none⟩=w.cell? ⟨g,o,none⟩:=fun o=>hW.2.1.cell (p:=⟨g,o,none⟩) hg
  rw [up,up,up]
  exact ⟨hc _ _ (ybc vlC (m:=3) (fun _=>rfl) c.vals i 0 x _ hx rfl),hc _ _ (ybc vlC (m:=3) (fun _=>rfl) c.vals i 1 x _ hx rfl),hc _ _ (ybc vlC (m:=3) (fun _=>rfl) c.vals i 2 x _ hx rfl)⟩)
 have g3:=yaa (show 0 < c.fields.length→∃ g o,a3=some ⟨g,o,none⟩∧∀ W,HeldC w c (.slice a1 c.cols.length c1) (.slice a2 c.vals.length c2) (.slice a3 c.fields.length c3) (.slice a4 c.expr.args.length c4) (.slice a5 c.wh.args.length c5) W→∀ i x,c.fields[i]?=some x→W.cell? ⟨g,o+i,none⟩=some (.string ⟨x.toArray⟩) by
  intro h0
  obtain ⟨g,o,e,hg,hc⟩:=h3 h0
  refine ⟨g,o,e,fun W hW i x hx=>?_⟩
  have up:∀ o,W.cell? ⟨g,o,none⟩=w.cell? ⟨g,o,none⟩:=fun o=>hW.2.1.cell (p:=⟨g,o,none⟩) hg
  rw [up]
  have:=ybc stC (m:=1) (fun _=>rfl) c.fields i 0 x _ hx rfl
  rw [Nat.mul_one] at this
  exact hc _ _ this)
 have p1:=yaa (fun (W:World) (hW:HeldC w c (.slice a1 c.cols.length c1) (.slice a2 c.vals.length c2) (.slice a3 c.fields.length c3) (.slice a4 c.expr.args.length c4) (.slice a5 c.wh.args.length c5) W)=>(yeI _ c.expr _ w (Nat.le_refl _) hi.expr hf.expr 15 (Nat.le_refl _) W hW.2.1).mono fun e w' q=>(⟨q.1,hW.below q.2⟩:_∧HeldC w c (.slice a1 c.cols.length c1) (.slice a2 c.vals.length c2) (.slice a3 c.fields.length c3) (.slice a4 c.expr.args.length c4) (.slice a5 c.wh.args.length c5) w'))
 have p2:=yaa (fun (W:World) (hW:HeldC w c (.slice a1 c.cols.length c1) (.slice a2 c.vals.length c2) (.slice a3 c.fields.length c3) (.slice a4 c.expr.args.length c4) (.slice a5 c.wh.args.length c5) W)=>(yeI _ c.wh _ w (Nat.le_refl _) hi.wh hf.wh 15 (Nat.le_refl _) W hW.2.1).mono fun e w' q=>(⟨q.1,hW.below q.2⟩:_∧HeldC w c (.slice a1 c.cols.length c1) (.slice a2 c.vals.length c2) (.slice a3 c.fields.length c3) (.slice a4 c.expr.args.length c4) (.slice a5 c.wh.args.length c5) w'))
 have HF:=yaa hf
 clear hi h1 h2 h3 hf
 unfold cmL
 go_enter Tryz.func13,Tryz.ntmps13
 go_upto_region 1 with fail
 rename_i K1 hK1 K2 hK2
 refine yaT k1_R (by kernel_rfl) ?_
 refine ytN (c:=c) (b:=w.heap.size) (a1:=a1) (a2:=a2) (a3:=a3) (a4:=a4) (a5:=a5) (c1:=c1) (c2:=c2) (c3:=c3) (c4:=c4) (c5:=c5) rfl K.out.cell p1.out p2.out rfl H0.out ?_
 intro x w1 hS1 hd hz hn ho
 refine hK2 _ _ ?_
 refine wp_cond_split (t:=yaN c) ((ybI (hn 27 35 rfl)).trans (congrArg Value.bool (yqz c))) (fun ht=>?_) (fun ht=>?_)
 ·refine wp_seq ?_
  refine yaT k2_R (by kernel_rfl) ?_
  refine ytY hz hS1 ?_
  intro y w2 hS2 hd2 _ hn2 _
  refine wp_ret ?_
  show bodyPost Tryz.prog Tryz.f13 (fun e w'=>e=.returned (.int .i64 (ybH (yaN c) (ybF c)))∧Below w.heap.size w w') .ret y w2
  refine ydD (v:=.int .i64 2) rfl (hd2.trans hd) (hn2 0 2 rfl) ?_
  rw [ht]
  exact ⟨rfl,hS2.2.1⟩
 ·refine wp_skip ?_
  refine hK1 _ _ ?_
  refine yuq (y:=cT0) (by kernel_rfl) ?_
  refine st0 K.out HF.out g1.out g2.out g3.out hz hd ((ho 1 (by decide)).trans rfl) hS1 ?_
  intro w' hS'
  rw [ht,ypP]
  refine ⟨?_,hS'.2.1⟩
  unfold yiT ybH
  simp
def yl1 (s:List UInt8):Int×Int×Cm :=
 if (yaU s).2.2=0 then
  match yiR (yaU s).1 with
  | .bad j=>(1,pl (yaU s).1 (s.length:Nat) j,cm0)
  | .ok c _=>if ybH (yaN c) (ydE c)=0 then (0,0,c) else (ybH (yaN c) (ydE c),0,cm0)
 else (((yaU s).2.2:Nat),((yaU s).2.1:Nat),cm0)
theorem yjI (s:List UInt8):CmFit (yl1 s).2.2:=by
 unfold yl1
 split
 ·split
  ·exact ygs
  ·rename_i c j hw
   split
   ·exact yic hw
   ·exact ygs
 ·exact ygs
theorem ycw {w2 w4 w6:World} {cb:Nat} {xs:List Value} (hc:Hid (cb=w2.heap.size)) (b4:Below w2.heap.size w2 w4) (p6:Hid (w6=putAll w4 cb 0 xs)):Below w2.heap.size w2 w6:=by
 have h:=hc.out
 have p:=p6.out
 subst p
 exact b4.trans ⟨(yaX cb _ w4 0).1,(yaX cb _ w4 0).2.1,(yaX cb _ w4 0).2.2,Nat.le_of_eq (ybB cb _ w4 0).symm,fun k hk=>yaY cb _ w4 0 k (by omega)⟩
section
variable {P:Program} {ops:Array Oper} {rest:List Oper} {op:Oper} {a:Act} {w:World} {Q:Exit→Act→World→Prop}
theorem ycu (ty:TypeId) (x:Operand) (hw:Region.wanted op (yielded ops a.tmps)=true) (ho:op.op=.load ty x) (b:Nat) (cs:List Value) (t:TypeId) (d:TypeDesc)
  (hx:a.eval x=.pointer (some ⟨b,0,none⟩)) (hb:w.heap[b]?=some (.cells cs.toArray t)) (hu:P.underlying ty=some d) (hd:d.isRow=true) (hi:(P.info? ty).map (·.size)=some cs.length)
  (h:wpList P ops Q rest (a.put op.dst (.agg cs.toArray)) w):wpList P ops Q (op::rest) a w:=by
 refine wpList_step fun K hK=>?_
 rw [if_pos hw]
 exact wp_load_mid ty x ho b 0 hx cs d (fun j v hv=>by rw [Nat.zero_add,Lib.cell_of_heap hb];simpa using hv) hu hd hi (hK _ _ h)
end
def smallL:List UInt8:=[117,112,100,97,116,101,32,116,32,115,101,116,32,97,32,61,32,40,97,32,43,32,49,41,32,119,104,101,114,101,32,40,98,32,61,32,39,120,39,41,32]
def smallC:Cm:={ cm0 with kind:=12,name:=[116],column:=[97],expr:=.mk 7 vl0 [] [.mk 2 vl0 [97] [],.mk 1 ⟨1,1,[]⟩ [] []],wh:=.mk 11 vl0 [] [.mk 2 vl0 [98] [],.mk 1 ⟨2,0,[120]⟩ [] []] }
theorem yid:yl1 smallL=(0,0,smallC):=by kernel_rfl
theorem yeS:CmFit smallC:=by have:=yjI smallL;rw [yid] at this;exact this
theorem ync {P:Program} {ρ:Operand→Value} {o:Oper} {W:World} {f:FuncId} (hf:∀ args W,(callFunc f args).run P W=.ok (.enter f args) W) {ts:Array TypeId} (ho:o.op=.call { callee:=.value (.func f),args:=#[],argTypes:=ts }) (hρ:ρ (.func f)=.func (.func f) #[] #[]):(execOp ρ o).run P W=.ok (.enter f #[]) W:=by
 simp [execOp,ho,resolve,hρ,invoke,go_sem,hf]
theorem yrc (W:World) (b:Nat) (c:Cm) (cv vv fv ea wa:Value) (h:∀ o x,(cmL c cv vv fv ea wa)[o]?=some x→W.cell? ⟨b,o,none⟩=some x):(Instr.loadAt 31 (.pointer (some ⟨b,0,none⟩))).run Tryz.prog W=.ok (.agg (cmL c cv vv fv ea wa).toArray) W :=
 run_loadAt_mid W b 0 31 (cmL c cv vv fv ea wa) _ (fun j v hv=>by rw [Nat.zero_add];exact h j v hv) Tryz.underlying31 rfl Tryz.size31
theorem ydx {w W:World} {c:Cm} {cv vv fv ea wa:Value} (h:CmIn 0 w c cv vv fv ea wa) (hb:Below w.heap.size w W):CmIn 0 W c cv vv fv ea wa:=h.keep hb.size fun b _ hs=>hb.block b hs
def ygZ (p w:List UInt8):List UInt8:=if p≠[40]∧w≠[41]∧w≠[44] then [32] else []
def ygk:List UInt8→List (List UInt8)→List UInt8
 | _,[]=>[]
 | p,w::ws=>ygZ p w++(w++ygk w ws)
def yaj:List (List UInt8)→List UInt8
 | []=>[]
 | w::ws=>w++ygk w ws
def ycj (p:List UInt8) (ws:List (List UInt8)):List UInt8:=ws.getLast?.getD p
theorem ybo (p w:List UInt8) (ws:List (List UInt8)):ycj p (w::ws)=ycj w ws:=by
 unfold ycj
 cases ws with
 | nil=>rfl
 | cons v vs=>rw [List.getLast?_cons_cons,List.getLast?_eq_some_getLast (List.cons_ne_nil v vs)];rfl
theorem ydl (ws:List (List UInt8)):∀ (p:List UInt8) (vs:List (List UInt8)),ygk p (ws++vs)=ygk p ws++ygk (ycj p ws) vs:=by
 induction ws with
 | nil=>intro p vs;rfl
 | cons w ws ih=>intro p vs;rw [List.cons_append,ygk,ygk,ih,ybo];simp
theorem yb2 (ws:List (List UInt8)):∀ (p:List UInt8) (vs:List (List UInt8)),ycj p (ws++vs)=ycj (ycj p ws) vs:=by
 induction ws with
 | nil=>intro p vs;rfl
 | cons w ws ih=>intro p vs;rw [List.cons_append,ybo,ybo,ih]
theorem yj0 (ws:List (List UInt8)) (w:List UInt8) (h:ws≠[]):yaj (ws++[w])=yaj ws++(ygZ (ycj [] ws) w++w):=by
 cases ws with
 | nil=>exact absurd rfl h
 | cons v vs=>rw [List.cons_append,yaj,yaj,ydl,ybo];simp [ygk]
def yec (w:List UInt8):List (List UInt8×Int) :=
 match w with
 | 45::c::r=>[([45],4),(c::r,2)]
 | _=>[(w,((ya2 w).1:Nat))]
def okW (w:List UInt8):Prop:=∀ p ∈ yec w,ybt p.2 p.1=true
theorem Tryz.lies82:liesAt Tryz.prog Tryz.prog.depth 82 (3 / Tryz.prog.cellsOf 82) 0 71 1=true:=by kernel_rfl
def PrAt (B b:Nat) (p:Value) (bs:List Value) (lt:List UInt8) (w:World):Prop :=
 B≤b∧∃ v,w.heap[b]?=some (.cells #[p,v,.string ⟨lt.toArray⟩] 82 (0,0))∧w.ownsRow B 5 1 v bs.length bs∧v.ownBlock≠some b
def IsPr (B b:Nat) (bs:List Value) (lt:List UInt8) (w:World):Prop:=PrAt B b (.pointer none) bs lt w∨PrAt B b (.pointer (some ⟨b,0,none⟩)) bs lt w
theorem PrAt.cell0 {B b:Nat} {p:Value} {bs:List Value} {lt:List UInt8} {w:World} (h:PrAt B b p bs lt w):w.cell? ⟨b,0,none⟩=some p:=by
 obtain ⟨_,v,hb,_⟩:=h
 simp [World.cell?,hb]
theorem PrAt.shape {B b:Nat} {p:Value} {bs:List Value} {lt:List UInt8} {w:World} (h:PrAt B b p bs lt w):w.shape? b=some (82,3):=by
 obtain ⟨_,v,hb,_⟩:=h
 simp [World.shape?,hb]
theorem PrAt.lt {B b:Nat} {p:Value} {bs:List Value} {lt:List UInt8} {w:World} (h:PrAt B b p bs lt w):b < w.heap.size:=by
 obtain ⟨_,v,hb,_⟩:=h
 exact (ltS hb)
theorem PrAt.frozen0 {B b:Nat} {p:Value} {bs:List Value} {lt:List UInt8} {w:World} (h:PrAt B b p bs lt w):w.frozen? ⟨b,0,none⟩=false:=by
 obtain ⟨_,v,hb,_⟩:=h
 simp [World.frozen?,hb]
theorem PrAt.used {B b:Nat} {p:Value} {bs:List Value} {lt:List UInt8} {w:World} (h:PrAt B b p bs lt w) (q:Value):PrAt B b q bs lt (w.setCell ⟨b,0,none⟩ q):=by
 obtain ⟨hB,v,hb,hown,hne⟩:=h
 refine ⟨hB,v, ?_, ?_,hne⟩
 ·simp [World.setCell,Array.getElem?_modify,hb]
 ·exact hown.kept (row:=some b) ⟨rfl,rfl,rfl,by simp [World.setCell],fun k _ hk=>Below.heap_setCell _ _ _ _ (fun e=>hk (by simp [e]))⟩ (Or.inr hne)
theorem PrAt.put {B b:Nat} {p v v':Value} {bs':List Value} {lt:List UInt8} {w:World} (hB:B≤b) (hb:w.heap[b]?=some (.cells #[p,v,.string ⟨lt.toArray⟩] 82 (0,0))) (hown:w.ownsRow B 5 1 v' bs'.length bs'):PrAt B b p bs' lt (w.setCell ⟨b,1,none⟩ v'):=by
 have hne:v'.ownBlock≠some b:=by
  intro e
  obtain ⟨c,fz,hc⟩:=yb4 hown b e
  rw [hb] at hc
  cases hc
 refine ⟨hB,v', ?_, ?_,hne⟩
 ·simp [World.setCell,Array.getElem?_modify,hb]
 ·exact hown.kept (row:=some b) ⟨rfl,rfl,rfl,by simp [World.setCell],fun k _ hk=>Below.heap_setCell _ _ _ _ (fun e=>hk (by simp [e]))⟩ (Or.inr hne)
theorem PrAt.last {B b:Nat} {p:Value} {bs:List Value} {lt:List UInt8} {w:World} (h:PrAt B b p bs lt w) (l':List UInt8):PrAt B b p bs l' (w.setCell ⟨b,2,none⟩ (.string ⟨l'.toArray⟩)):=by
 obtain ⟨hB,v,hb,hown,hne⟩:=h
 refine ⟨hB,v, ?_, ?_,hne⟩
 ·simp [World.setCell,Array.getElem?_modify,hb]
 ·exact hown.kept (row:=some b) ⟨rfl,rfl,rfl,by simp [World.setCell],fun k _ hk=>Below.heap_setCell _ _ _ _ (fun e=>hk (by simp [e]))⟩ (Or.inr hne)
theorem ydT (b:Nat) (w:World) (h0:w.cell? ⟨b,0,none⟩=some (.pointer none)) (hsh:w.shape? b=some (82,3)) (hfz:w.frozen? ⟨b,0,none⟩=false) :
  Calls Tryz.prog 93 #[.pointer (some ⟨b,0,none⟩)] w fun e w'=>e=.returned (.tuple #[])∧w'=w.setCell ⟨b,0,none⟩ (.pointer (some ⟨b,0,none⟩)):=by
 obtain ⟨j,hj,hjs⟩:=Option.map_eq_some_iff.1 Tryz.sizeB45
 go_enter Tryz.func93,Tryz.ntmps93
 go_wp2
 rw [Lib.run_to_unsafe w ⟨b,0,none⟩ Tryz.underlying68 Tryz.underlying132 hj (by rw [hjs];decide) hsh (Nat.zero_lt_succ 2)]
 simp only [Result.andThen]
 rw [Oper.upon_value]
 go_wp2
 rw [run_callFunc_extern Tryz.func133 (by kernel_rfl) (by kernel_rfl) (by kernel_rfl) (e:=Extern.AbiNoEscape.same) (by kernel_rfl)]
 rw [Lib.run_noEscape]
 simp only [Result.andThen]
 rw [Oper.upon_value]
 go_wp2
 rw [Lib.run_from_unsafe w ⟨b,0,none⟩ Tryz.underlying132 Tryz.underlying68 hj hsh Tryz.lies82]
 simp only [Result.andThen]
 rw [Oper.upon_value]
 go_wp2
 go_end0
 exact ⟨rfl,rfl⟩
theorem yeu (B b:Nat) (bs:List Value) (lt:List UInt8) (w:World) (h:IsPr B b bs lt w) :
  Calls Tryz.prog 93 #[.pointer (some ⟨b,0,none⟩)] w fun e w'=>e=.returned (.tuple #[])∧PrAt B b (.pointer (some ⟨b,0,none⟩)) bs lt w'∧Below B w w'∧Lib.OthersKept 5 (some b) w w':=by
 rcases h with h|h
 ·refine (ydT b w h.cell0 h.shape h.frozen0).mono ?_
  rintro e w' ⟨rfl,rfl⟩
  exact ⟨rfl,h.used _,(Below.refl B w).setCell (p:=⟨b,0,none⟩) h.1 _,(Lib.OthersKept.refl 5 (some b) w).setCell ⟨b,0,none⟩ rfl _⟩
 ·refine (ydb b w h.cell0).mono ?_
  rintro e w' ⟨rfl,rfl⟩
  exact ⟨rfl,h,Below.refl B _,Lib.OthersKept.refl 5 (some b) _⟩
theorem yig (B b:Nat) (bs:List Value) (c:Int) (lt:List UInt8) (w:World) (h:IsPr B b bs lt w) (hlen:bs.length+1≤140737488355328) (hBw:B≤w.heap.size) :
  Calls Tryz.prog 42 #[.pointer (some ⟨b,0,none⟩),.int .u8 c] w fun e w'=>e=.returned .nilIface∧PrAt B b (.pointer (some ⟨b,0,none⟩)) (bs++[.int .u8 c]) lt w'∧Below B w w'∧Lib.OthersKept 5 (some b) w w':=by
 obtain ⟨i0,hi,hz0,hz1,hz2⟩:=info_parts Tryz.infoB5
 go_enter Tryz.func42,Tryz.ntmps42
 go_wp2_with (go_at_call 93;refine (yeu B b bs lt _ h).mono ?_)
 rintro e w1 ⟨rfl,h1,hb1,ho1⟩
 obtain ⟨hB,v,hbk,hown,hne⟩:=h1
 have c0:w1.cell? ⟨b,0,none⟩=some (.pointer (some ⟨b,0,none⟩)):=by rw [Lib.cell_of_heap hbk];rfl
 have c1:w1.cell? ⟨b,1,none⟩=some v:=by rw [Lib.cell_of_heap hbk];rfl
 go_wp2_with (at_builtin;refine wpList_append_own _ rfl _ _ 69 rfl B 5 i0 (.int .u8 0) 1 1 Tryz.underlying69 hi hz0 hz1 hz2 rfl (by decide) _ _ _ rfl (hown.alloc _) ⟨w1.heap.size,0,none⟩ 1 1 [.int .u8 c] rfl rfl ?c1 ?c2 ?c3 ?c4 ?c5 ?_)
 case c1 =>
  intro j u hj
  match j,hj with
  | 0,hj=>simp at hj;subst hj;simp [Addr.add]
 case c2=>intro u hu;simp at hu;subst hu;rfl
 case c3=>unfold maxLen;omega
 case c4=>omega
 case c5=>have:=hb1.size;simp;omega
 intro v' w2 hown' hgrow _
 have hlt:b < w1.heap.size:=by
  rcases Nat.lt_or_ge b w1.heap.size with h'|h'
  ·exact h'
  ·simp [Array.getElem?_eq_none h'] at hbk
 have hb2:w2.heap[b]?=some (.cells #[.pointer (some ⟨b,0,none⟩),v,.string ⟨lt.toArray⟩] 82 (0,0)):=by
  rw [hgrow.block b (by simp;omega) (fun e=>hne e.symm),Lib.alloc_old w1 _ b hlt]
  exact hbk
 have d0:w2.cell? ⟨b,0,none⟩=some (.pointer (some ⟨b,0,none⟩)):=by rw [Lib.cell_of_heap hb2];rfl
 have d1:w2.cell? ⟨b,1,none⟩=some v:=by rw [Lib.cell_of_heap hb2];rfl
 have f1:w2.frozen? ⟨b,1,none⟩=false:=Lib.frozen_of_heap hb2 1
 obtain ⟨g,cap,rfl⟩:∃ g cap,v'=.slice (some ⟨g,0,none⟩) (bs.length+1) cap:=by
  rcases hown'.2 with ⟨_,h0⟩|⟨g,cap,cur,hv,_⟩
  ·omega
  ·exact ⟨g,cap,hv⟩
 go_wp2
 go_ret
 refine ⟨rfl, ?_, ?_, ?_⟩
 ·exact PrAt.put hB hb2 (bs':=bs++[.int .u8 c]) (by simpa using hown')
 ·exact ((hb1.alloc (by have:=hb1.size;omega) _).grown hgrow (by have:=hb1.size;simp;omega) (fun k hk=>(hown.lt k hk).1)).setCell (p:=⟨b,1,none⟩) hB _
 ·exact ((ho1.alloc _).grown hgrow (yb4 (hown.alloc _))).setCell ⟨b,1,none⟩ rfl _
theorem ydR (B b:Nat) (bs:List Value) (s:ByteArray) (lt:List UInt8) (w:World) (h:IsPr B b bs lt w) (hlen:bs.length+s.size≤140737488355328) (hBw:B≤w.heap.size) :
  Calls Tryz.prog 43 #[.pointer (some ⟨b,0,none⟩),.string s] w fun e w'=>e=.returned (.tuple #[.int .i64 s.size,.nilIface])∧PrAt B b (.pointer (some ⟨b,0,none⟩)) (bs++Lib.strCells s) lt w'∧Below B w w'∧Lib.OthersKept 5 (some b) w w':=by
 obtain ⟨i0,hi,hz0,hz1,hz2⟩:=info_parts Tryz.infoB5
 go_enter Tryz.func43,Tryz.ntmps43
 go_wp2_with (go_at_call 93;refine (yeu B b bs lt _ h).mono ?_)
 rintro e w1 ⟨rfl,h1,hb1,ho1⟩
 obtain ⟨hB,v,hbk,hown,hne⟩:=h1
 have c0:w1.cell? ⟨b,0,none⟩=some (.pointer (some ⟨b,0,none⟩)):=by rw [Lib.cell_of_heap hbk];rfl
 have c1:w1.cell? ⟨b,1,none⟩=some v:=by rw [Lib.cell_of_heap hbk];rfl
 go_wp2_with (at_builtin;refine Lib.wpList_append_own_string _ rfl _ _ 69 9 rfl B 5 i0 Tryz.underlying69 Tryz.underlying9 hi hz0 hz1 hz2 _ _ _ rfl hown s rfl ?c3 ?c4 ?c5 ?_)
 case c3=>unfold maxLen;omega
 case c4=>omega
 case c5=>have:=hb1.size;omega
 intro v' w2 hown' hgrow _
 have hlt:b < w1.heap.size:=by
  rcases Nat.lt_or_ge b w1.heap.size with h'|h'
  ·exact h'
  ·simp [Array.getElem?_eq_none h'] at hbk
 have hb2:w2.heap[b]?=some (.cells #[.pointer (some ⟨b,0,none⟩),v,.string ⟨lt.toArray⟩] 82 (0,0)):=by
  rw [hgrow.block b hlt (fun e=>hne e.symm)]
  exact hbk
 have d0:w2.cell? ⟨b,0,none⟩=some (.pointer (some ⟨b,0,none⟩)):=by rw [Lib.cell_of_heap hb2];rfl
 have d1:w2.cell? ⟨b,1,none⟩=some v:=by rw [Lib.cell_of_heap hb2];rfl
 have f1:w2.frozen? ⟨b,1,none⟩=false:=Lib.frozen_of_heap hb2 1
 obtain ⟨ao,n',cap,rfl⟩:∃ ao n' cap,v'=.slice ao n' cap:=by
  rcases hown'.2 with ⟨hv,_⟩|⟨g,cap,cur,hv,_⟩
  ·exact ⟨_,_,_,hv⟩
  ·exact ⟨_,_,_,hv⟩
 go_wp2
 go_ret2
 refine ⟨rfl, ?_, ?_, ?_⟩
 ·exact PrAt.put hB hb2 (bs':=bs++Lib.strCells s) (by simpa [Lib.strCells_length] using hown')
 ·exact (hb1.grown hgrow (by have:=hb1.size;omega) (fun k hk=>(hown.lt k hk).1)).setCell (p:=⟨b,1,none⟩) hB _
 ·exact (ho1.grown hgrow (yb4 hown)).setCell ⟨b,1,none⟩ rfl _
theorem yuc (B b:Nat) (bs:List Value) (lt:List UInt8) (w:World) (h:IsPr B b bs lt w):Calls Tryz.prog 44 #[.pointer (some ⟨b,0,none⟩)] w fun e w'=>e=.returned (.int .i64 (bs.length:Nat))∧w'=w:=by
 obtain ⟨v,hb,ho⟩:∃ v,w.cell? ⟨b,1,none⟩=some v∧w.ownsRow B 5 1 v bs.length bs:=by
  rcases h with ⟨_,v,hb,ho,_⟩|⟨_,v,hb,ho,_⟩
  ·exact ⟨v,by rw [Lib.cell_of_heap hb];rfl,ho⟩
  ·exact ⟨v,by rw [Lib.cell_of_heap hb];rfl,ho⟩
 obtain ⟨ao,cap,rfl⟩:=ycC ho
 clear ho h
 go_enter Tryz.func44,Tryz.ntmps44
 go_wp2
 go_ret
 exact ⟨rfl,rfl⟩
structure PrW (B b:Nat) (ws:List (List UInt8)) (w:World):Prop where
 is:IsPr B b (Lib.byteCells (yaj ws)) (ycj [] ws) w
 ne:∀ x ∈ ws,x≠[]
theorem IsPr.keep {B b:Nat} {bs:List Value} {lt:List UInt8} {w w':World} (h:IsPr B b bs lt w) (hb:Below w.heap.size w w'):IsPr B b bs lt w':=by
 have one:∀ p,PrAt B b p bs lt w→PrAt B b p bs lt w':=by
  rintro p ⟨hB,v,hk,ho,hne⟩
  exact ⟨hB,v,(hb.block b (ltS hk)).trans hk,ycB ho hb,hne⟩
 rcases h with h|h
 ·exact .inl (one _ h)
 ·exact .inr (one _ h)
theorem ymB {ws:List (List UInt8)} (h:ws≠[]) (hne:∀ x ∈ ws,x≠[]):0 < (yaj ws).length:=by
 cases ws with
 | nil=>exact absurd rfl h
 | cons v vs =>
  have:=hne v List.mem_cons_self
  rw [yaj,List.length_append]
  have:0 < v.length:=List.length_pos_iff.2 this
  omega
theorem yaD (ws ts:List (List UInt8)):(yaj ws).length≤(yaj (ws++ts)).length:=by
 cases ws with
 | nil=>simp [yaj]
 | cons v vs=>rw [List.cons_append,yaj,yaj,ydl];simp
theorem byteCells_length (l:List UInt8):(Lib.byteCells l).length=l.length:=by simp [Lib.byteCells]
theorem ydr (l m:List UInt8):Lib.byteCells (l++m)=Lib.byteCells l++Lib.byteCells m:=by simp [Lib.byteCells]
theorem IsPr.cells {B b:Nat} {bs:List Value} {lt:List UInt8} {w:World} (h:IsPr B b bs lt w):w.cell? ⟨b,2,none⟩=some (.string ⟨lt.toArray⟩)∧w.frozen? ⟨b,2,none⟩=false:=by
 rcases h with ⟨_,v,hk,_⟩|⟨_,v,hk,_⟩
 ·exact ⟨by rw [Lib.cell_of_heap hk];rfl,Lib.frozen_of_heap hk 2⟩
 ·exact ⟨by rw [Lib.cell_of_heap hk];rfl,Lib.frozen_of_heap hk 2⟩
theorem IsPr.last {B b:Nat} {bs:List Value} {lt:List UInt8} {w:World} (h:IsPr B b bs lt w) (l':List UInt8):IsPr B b bs l' (w.setCell ⟨b,2,none⟩ (.string ⟨l'.toArray⟩)):=by
 rcases h with h|h
 ·exact .inl (h.last l')
 ·exact .inr (h.last l')
theorem IsPr.le {B b:Nat} {bs:List Value} {lt:List UInt8} {w:World} (h:IsPr B b bs lt w):B≤b:=by
 rcases h with h|h
 ·exact h.1
 ·exact h.1
def ymw (ws:List (List UInt8)) (t:List UInt8):List UInt8:=if ws=[] then [] else ygZ (ycj [] ws) t
theorem ymA (ws:List (List UInt8)) (t:List UInt8):yaj (ws++[t])=yaj ws++(ymw ws t++t):=by
 unfold ymw
 by_cases h:ws=[]
 ·subst h;simp [yaj,ygk]
 ·rw [if_neg h,yj0 ws t h]
theorem yl8 (B b g:Nat) (ws ts:List (List UInt8)) (n cap:Nat) (cs:Array Value) (fz:Nat×Nat) (w:World) (h:PrW B b ws w) (hBw:B≤w.heap.size) (hk:w.heap[g]?=some (.cells cs 9 fz)) (hgb:g≠b) (hg:∀ (i:Nat) (x:List UInt8),ts[i]?=some x→cs[i]?=some (Value.string ⟨x.toArray⟩)) (hn:ts.length=n) (hne:∀ x ∈ ts,x≠[]) (hlen:(yaj (ws++ts)).length≤1000000) (hsm:n≤1000000) :
  Calls Tryz.prog 94 #[.pointer (some ⟨b,0,none⟩),.slice (some ⟨g,0,none⟩) n cap] w fun e w'=>e=.returned (.tuple #[])∧PrW B b (ws++ts) w'∧Below B w w'∧Lib.OthersKept 5 (some b) w w':=by
 have H0:=yaa h
 have HK:=yaa hk
 have HG:=yaa hg
 have HNE:=yaa hne
 have HLEN:=yaa hlen
 clear h hk hg hne hlen
 go_enter Tryz.func94,Tryz.ntmps94
 go_wp2
 go_loopw [5,8] (fun _ i wl=>∃ k:Nat,k≤n∧i=.int .i64 (k:Int)∧Hid (PrW B b (ws++ts.take k) wl)∧Hid (Below B w wl)∧Hid (Lib.OthersKept 5 (some b) w wl)) (fun _ i _=>n - (intOf i).toNat)
 case atStart=>exact ⟨0,Nat.zero_le _,rfl,by simpa using H0,Below.refl _ _,Lib.OthersKept.refl _ _ _⟩
 case round =>
  obtain ⟨k,hk,rfl,R,HB,HO⟩:=hrel
  by_cases hlt:k < n
  ·obtain ⟨t,ht⟩:∃ t,ts[k]?=some t:=⟨ts[k]'(by omega),List.getElem?_eq_getElem (by omega)⟩
   have hlt':(k:Int) < (n:Int):=by omega
   have kg:wr.heap[g]?=some (.cells cs 9 fz):=HO.out g _ HK.out (by simpa using hgb) (by intro c f e;cases e)
   have cg:wr.cell? ⟨g,k,none⟩=some (.string ⟨t.toArray⟩):=by rw [Lib.cell_of_heap kg];exact HG.out k t ht
   have HT:=yaa ht
   have hts:ts.take (k+1)=ts.take k++[t]:=by rw [List.take_add_one,ht];rfl
   have HW:=yaa (ymA (ws++ts.take k) t)
   have hle:(yaj (ws++ts.take (k+1))).length≤1000000:=by
    refine Nat.le_trans ?_ HLEN.out
    have:=yaD (ws++ts.take (k+1)) (ts.drop (k+1))
    rwa [List.append_assoc,List.take_append_drop] at this
   rw [hts,← List.append_assoc,HW.out] at hle
   have hB1:B≤wr.heap.size:=Nat.le_trans hBw HB.out.size
   obtain ⟨c2,f2⟩:=R.out.is.cells
   have hll:=byteCells_length (yaj (ws++ts.take k))
   have HS:=yaa hts
   have HLE:=yaa hle
   clear hts hle ht kg
   have RI:=yaa R.out.is
   have RN:=yaa R.out.ne
   have step:∀ (wz:World) (bs:List Value),IsPr B b (bs++Lib.strCells ⟨t.toArray⟩) (ycj [] (ws++ts.take k)) wz→bs++Lib.byteCells t=Lib.byteCells (yaj (ws++ts.take k)++(ymw (ws++ts.take k) t++t))→PrW B b (ws++ts.take (k+1)) (wz.setCell ⟨b,2,none⟩ (.string ⟨t.toArray⟩)):=by
    intro wz bs hp hbs
    refine ⟨?_, ?_⟩
    ·have e1:ycj [] (ws++ts.take (k+1))=t:=by rw [HS.out,← List.append_assoc,yb2];rfl
     rw [e1,HS.out,← List.append_assoc,HW.out,← hbs]
     exact hp.last t
    ·intro x hx
     rw [HS.out,← List.append_assoc] at hx
     rcases List.mem_append.1 hx with hx|hx
     ·exact RN.out x hx
     ·rw [List.mem_singleton] at hx
      rw [hx]
      exact HNE.out t (List.mem_of_getElem? HT.out)
   have STEP:=yaa step
   clear step R
   have sp:∀ x:List UInt8,(ymw (ws++ts.take k) t=x)→x=[]→Lib.byteCells (yaj (ws++ts.take k))++Lib.byteCells t=Lib.byteCells (yaj (ws++ts.take k)++(ymw (ws++ts.take k) t++t)):=by
    intro x h1 h2
    rw [h1,h2,List.nil_append,ydr]
   have SP:=yaa sp
   clear sp
   have hlw:(Lib.byteCells (yaj (ws++ts.take k))).length+(⟨t.toArray⟩:ByteArray).size≤140737488355328:=by
    have:=HLE.out
    rw [List.length_append,List.length_append] at this
    rw [hll,yam];omega
   have hl1:(Lib.byteCells (yaj (ws++ts.take k))).length+1+(⟨t.toArray⟩:ByteArray).size≤140737488355328:=by
    have:=HLE.out
    rw [List.length_append,List.length_append] at this
    rw [hll,yam];omega
   have HW1:=yaa hlw
   have HW2:=yaa hl1
   clear hlw hl1
   go_wp2_with fail
   refine (yuc B b _ _ _ RI.out).mono ?_
   rintro e w' ⟨rfl,hw'⟩
   obtain rfl:=hw'.symm
   clear hw'
   rw [hll]
   have HLL:=yaa hll
   clear hll
   by_cases e0:ws++ts.take k=[]
   case' pos =>
    have hz:((yaj (ws++ts.take k)).length:Int)=0:=by rw [e0];rfl
    rw [hz]
    have hbs:=SP.out [] (by rw [ymw,if_pos e0]) rfl
    clear hz e0
    go_wp2_with fail
   case' neg =>
    have hpos:(0:Int) < ((yaj (ws++ts.take k)).length:Int):=by have:=ymB e0 RN.out;omega
    by_cases e1:ycj [] (ws++ts.take k)=[40]
    case' pos =>
     rw [e1] at c2
     have hbs:=SP.out [] (by rw [ymw,if_neg e0,ygZ,if_neg (by simp [e1])]) rfl
     clear e0 e1
     go_wp2_with fail
    case' neg =>
     have q1:(ycj [] (ws++ts.take k) == [40])=false:=by simpa using e1
     by_cases e2:t=[41]
     case' pos =>
      have hbs:=SP.out [] (by rw [ymw,if_neg e0,ygZ,if_neg (by simp [e2])]) rfl
      have q2:(t == [41])=true:=by simpa using e2
      clear e0 e1 e2
      go_wp2_with fail
     case' neg =>
      have q2:(t == [41])=false:=by simpa using e2
      by_cases e3:t=[44]
      case' pos =>
       have hbs:=SP.out [] (by rw [ymw,if_neg e0,ygZ,if_neg (by simp [e3])]) rfl
       have q3:(t == [44])=true:=by simpa using e3
       clear e0 e1 e2 e3
       go_wp2_with fail
      case' neg =>
       have q3:(t == [44])=false:=by simpa using e3
       have hsep:ymw (ws++ts.take k) t=[32]:=by rw [ymw,if_neg e0,ygZ,if_pos ⟨e1,e2,e3⟩]
       have HSEP:=yaa hsep
       clear hsep e0 e1 e2 e3
       go_wp2_with fail
       refine (yig B b _ 32 _ _ RI.out (by have:=HW2.out;omega) hB1).mono ?_
       rintro e w1 ⟨rfl,p1,b1,o1⟩
       have P1:=yaa p1
       have hB2:B≤w1.heap.size:=Nat.le_trans hB1 b1.size
       have HB1:=yaa (HB.out.trans b1)
       have HO1:=yaa (HO.out.trans o1)
       clear p1 b1 o1
       go_wp2_with fail
       refine (ydR B b _ ⟨t.toArray⟩ _ _ (.inr P1.out) (by have:=HW2.out;rw [List.length_append];exact this) hB2).mono ?_
       rintro e w2 ⟨rfl,p2,b2,o2⟩
       obtain ⟨d2,g2⟩:=IsPr.cells (Or.inr p2)
       have P2:=yaa p2
       have HB2:=yaa (HB1.out.trans b2)
       have HO2:=yaa (HO1.out.trans o2)
       clear p2 b2 o2
       go_wp2
       go_roundw
       case rel=>exact ⟨k+1,by omega,by go_num,STEP.out _ _ (.inr P2.out) (by rw [HSEP.out,ydr,List.append_assoc];rfl),HB2.out.setCell (p:=⟨b,2,none⟩) RI.out.le _,HO2.out.setCell ⟨b,2,none⟩ rfl _⟩
       case measure=>simp [intOf];omega
   all_goals
    refine (ydR B b _ ⟨t.toArray⟩ _ _ RI.out HW1.out hB1).mono ?_
    rintro e w2 ⟨rfl,p2,b2,o2⟩
    obtain ⟨d2,g2⟩:=IsPr.cells (Or.inr p2)
    have P2:=yaa p2
    have HB2:=yaa (HB.out.trans b2)
    have HO2:=yaa (HO.out.trans o2)
    have HBS:=yaa hbs
    clear p2 b2 o2 hbs
    go_wp2
    go_roundw
    case rel=>exact ⟨k+1,by omega,by go_num,STEP.out _ _ (.inr P2.out) HBS.out,HB2.out.setCell (p:=⟨b,2,none⟩) RI.out.le _,HO2.out.setCell ⟨b,2,none⟩ rfl _⟩
    case measure=>simp [intOf];omega
  ·have hlt':¬ ((k:Int) < (n:Int)):=by omega
   go_wp2
   go_end0
   refine ⟨rfl, ?_,HB.out,HO.out⟩
   have e:ts.take k=ts:=List.take_of_length_le (by omega)
   rw [← e];exact R.out
def yaI (v:Vl):List UInt8 :=
 if v.k=1 then Lib.itoa v.n else if v.k=2 then 39::(v.s++[39]) else if v.k=3 then (if v.n=1 then ycD else yce) else w_null
mutual
def yat:Ex→List (List UInt8)
 | .mk k v nm args =>
  if k=1 then [yaI v] else if k=2 then [nm]
  else if k=3 then w_not::(yb9 args).getD 0 []
  else if k=4 then [40]::((yb9 args).getD 0 []++[w_is,w_null,[41]])
  else [40]::((yb9 args).getD 0 []++atL ya3 k::((yb9 args).getD 1 []++[[41]]))
def yb9:List Ex→List (List (List UInt8))
 | []=>[]
 | x::xs=>yat x::yb9 xs
end
def yal {α:Type} (f:α→List (List UInt8)):List α→List (List UInt8)
 | []=>[]
 | [x]=>f x
 | x::y::r=>f x++[44]::yal f (y::r)
def yaV (c:Cl):List (List UInt8):=[c.name,atL yaB c.ty]
def yap (c:Cm):List (List UInt8):=if c.all=true then [] else w_where::yat c.wh
def yeF (c:Cm):List (List UInt8):=if c.order=[] then [] else [w_order,w_by,c.order]
def yft (c:Cm):List (List UInt8):=if c.limit < 0 then [] else [w_limit,Lib.itoa c.limit]
def ydi (c:Cm):List (List UInt8):=if c.fields=[] then [[42]] else yal (fun s=>[s]) c.fields
def yaZ (c:Cm):List (List UInt8) :=
 if c.kind=1 then [w_create,w_table,c.name,[40]]++(yal yaV c.cols++[[41]])
 else if c.kind=2 then [w_drop,w_table,c.name]
 else if c.kind=3 then [w_alter,w_table,c.name,w_add,c.column,atL yaB c.ty,w_default,yaI c.val]
 else if c.kind=4 then [w_alter,w_table,c.name,w_drop,c.column]
 else if c.kind=5 then [w_alter,w_table,c.name,w_rename,c.column,w_to,c.other]
 else if c.kind=6 then [w_alter,w_table,c.name,w_retype,c.column,atL yaB c.ty]
 else if c.kind=7 then [w_alter,w_table,c.name,w_rename,w_to,c.other]
 else if c.kind=8 then [w_create,w_index,c.name,w_on,c.other,[40],c.column,[41]]
 else if c.kind=9 then [w_drop,w_index,c.name]
 else if c.kind=10 then [w_insert,w_into,c.name,w_values,[40]]++(yal (fun v=>[yaI v]) c.vals++[[41]])
 else if c.kind=11 then [w_delete,w_from,c.name]++yap c
 else if c.kind=12 then [w_update,c.name,w_set,c.column,[61]]++(yat c.expr++yap c)
 else if c.kind=13 then w_select::(ydi c++([w_from,c.name]++(yap c++(yeF c++yft c))))
 else if c.kind=14 then [w_begin] else if c.kind=15 then [w_commit] else [w_rollback]
def ybY (c:Cm):List UInt8:=yaj (yaZ c)
def okB (w:List UInt8):Bool:=(yec w).all fun p=>ybt p.2 p.1
theorem ycn {w:List UInt8} (h:okB w=true):okW w:=fun p hp=>List.all_eq_true.1 h p hp
theorem ydz {s:List UInt8} (h:yan s=true):ybt 1 s=true:=by
 unfold yan at h
 rw [Bool.and_eq_true] at h
 rw [← ycV];exact h.1
theorem ylO {s:List UInt8} (h:yan s=true):yec s=[(s,1)]:=by
 have ht:=ydz h
 simp only [ybt,decide_eq_true_eq] at ht
 have hm:¬ ∃ c r,s=45::c::r:=by
  rintro ⟨c,r,rfl⟩
  have:=ht.2.2.1
  rw [ya2,if_neg (by decide),if_neg (by decide),if_neg (by decide),if_neg (by rw [ydj];simp),if_pos (by decide)] at this
  simp at this
 unfold yec
 split
 ·rename_i c r
  exact absurd ⟨c,r,rfl⟩ hm
 ·rw [ht.2.2.1]
theorem ya7 {s:List UInt8} (h:yan s=true):okW s:=by
 intro p hp
 rw [ylO h] at hp
 rw [List.mem_singleton] at hp
 rw [hp];exact ydz h
theorem yfi (u:Nat):∀ c ∈ Lib.decDigits u,isD c=true:=by
 induction u using Nat.strongRecOn with
 | _ u ih =>
  intro c hc
  have hone:∀ v,v < 10→isD (UInt8.ofNat (48+v))=true:=by
   intro v hv
   have:(UInt8.ofNat (48+v)).toNat=48+v:=by rw [UInt8.toNat_ofNat',Nat.mod_eq_of_lt (by omega)]
   simp only [isD,this,Bool.and_eq_true,decide_eq_true_eq];omega
  rw [Lib.decDigits] at hc
  split at hc
  ·rename_i h
   simp only [List.mem_singleton] at hc
   rw [hc];exact hone _ h
  ·rcases List.mem_append.1 hc with h|h
   ·exact ih (u / 10) (by omega) c h
   ·simp only [List.mem_singleton] at h
    rw [h];exact hone _ (Nat.mod_lt _ (by decide))
theorem ydu (u:Nat):Lib.decDigits u≠[]:=by
 rw [Lib.decDigits]
 split <;> simp
theorem yi3 (u:Nat):∀ k,u < 10 ^ (k+1)→(Lib.decDigits u).length≤k+1:=by
 intro k
 induction k generalizing u with
 | zero=>intro h;rw [Lib.decDigits,dif_pos (by simpa using h)];simp
 | succ k ih =>
  intro h
  rw [Lib.decDigits]
  split
  ·simp
  ·have:=ih (u / 10) (by rw [Nat.pow_succ] at h;exact Nat.div_lt_of_lt_mul (by omega))
   simp;omega
theorem yho (u:Nat) (h:1 < (Lib.decDigits u).length):(Lib.decDigits u).head?≠some 48:=by
 induction u using Nat.strongRecOn with
 | _ u ih =>
  rw [Lib.decDigits] at h ⊢
  split
  ·rename_i hu;rw [dif_pos hu] at h;simp at h
  ·rename_i hu
   have hne:=ydu (u / 10)
   have hap:∀ l x:List UInt8,l≠[]→(l++x).head?=l.head?:=by
    intro l x hl
    cases l with
    | nil=>exact absurd rfl hl
    | cons _ _=>rfl
   rw [hap _ _ hne]
   by_cases h1:1 < (Lib.decDigits (u / 10)).length
   ·exact ih (u / 10) (by omega) h1
   ·by_cases h10:u / 10 < 10
    ·rw [Lib.decDigits,dif_pos h10]
     simp only [List.head?_cons,ne_eq,Option.some.injEq]
     intro e
     have:=congrArg UInt8.toNat e
     rw [UInt8.toNat_ofNat',Nat.mod_eq_of_lt (by omega)] at this
     simp at this;omega
    ·exfalso
     rw [Lib.decDigits,dif_neg h10] at h1
     have:=List.length_pos_iff.2 (ydu (u / 10 / 10))
     simp only [List.length_append,List.length_cons,List.length_nil] at h1;omega
theorem yqP (p:UInt8→Bool) (l:List UInt8) (h:∀ c ∈ l,p c=true):ycv p l=l.length:=by
 induction l with
 | nil=>rfl
 | cons c r ih=>rw [ybS,if_pos (h c (List.mem_cons_self ..)),ih fun c hc=>h c (List.mem_cons_of_mem _ hc)];rfl
theorem ynV {c:UInt8} (h:isD c=true):isL c=false:=by
 simp only [isL,isD,Bool.and_eq_true,decide_eq_true_eq] at *
 rw [Bool.and_eq_false_iff,decide_eq_false_iff_not,decide_eq_false_iff_not];omega
theorem yc5 (u:Nat) (h:u≤999999999):ybt 2 (Lib.decDigits u)=true:=by
 have h1:=yfi u
 have h2:=ydu u
 have h3:=yi3 u 8 (by omega)
 have h4:=yho u
 generalize Lib.decDigits u=l at *
 cases l with
 | nil=>exact absurd rfl h2
 | cons c r =>
  have hc:=h1 c (List.mem_cons_self ..)
  have hr:=yqP isD r fun c hc=>h1 c (List.mem_cons_of_mem _ hc)
  have ht:ya2 (c::r)=(2,r.length+1):=by rw [ya2,if_neg (by simp [ynV hc]),if_pos hc,hr]
  simp only [ybt,decide_eq_true_eq,ht]
  refine ⟨by simp,by omega,rfl,rfl, ?_⟩
  unfold yay
  rw [if_neg (by decide),if_neg (by omega),if_neg (fun hh=>h4 hh.2.1 hh.2.2)]
theorem yew (u:Nat) (h:u≤999999999):yec (Lib.decDigits u)=[(Lib.decDigits u,2)]:=by
 have ht:=yc5 u h
 have h1:=yfi u
 simp only [ybt,decide_eq_true_eq] at ht
 unfold yec
 split
 ·rename_i c r e
  have:=h1 45 (by rw [e];simp)
  exact absurd this (by decide)
 ·rw [ht.2.2.1]
theorem yjB (u:Nat):yec (45::Lib.decDigits u)=[([45],4),(Lib.decDigits u,2)]:=by
 have:=ydu u
 cases e:Lib.decDigits u with
 | nil=>exact absurd e this
 | cons c r=>rfl
theorem ygN {s:List UInt8} (h:yda s=true):yec (39::(s++[39]))=[(39::(s++[39]),3)]∧ybt 3 (39::(s++[39]))=true:=by
 have ht:ybt 3 (39::(s++[39]))=true:=by rw [← ycV,yfA];exact h
 refine ⟨?_,ht⟩
 simp only [ybt,decide_eq_true_eq] at ht
 show [(39::(s++[39]),(((ya2 (39::(s++[39]))).1:Nat):Int))]=_
 rw [ht.2.2.1]
theorem yel {v:Vl} (h:ybJ v=true):ybT v.k v.n v.s=0:=by simpa [ybJ] using h
theorem yey {n:Int} (h:ye7 n=true):-999999999≤n∧n≤999999999:=by
 simpa [ye7] using h
theorem yem {v:Vl} (h:ybJ v=true):okW (yaI v):=by
 have h:=yel h
 obtain ⟨k,n,s⟩:=v
 simp only at h
 unfold yaI
 simp only
 unfold ybT at h
 by_cases h1:k=1
 ·rw [if_pos h1]
  rw [if_neg (by omega),if_pos h1] at h
  split at h
  ·rename_i hh
   have hn:=yey hh.1
   unfold Lib.itoa
   split
   ·intro p hp
    rw [yjB] at hp
    simp only [List.mem_cons,List.not_mem_nil,or_false] at hp
    rcases hp with rfl|rfl
    ·decide
    ·exact yc5 _ (by omega)
   ·intro p hp
    rw [yew _ (by omega)] at hp
    rw [List.mem_singleton] at hp
    rw [hp];exact yc5 _ (by omega)
  ·cases h
 rw [if_neg h1]
 by_cases h2:k=2
 ·rw [if_pos h2]
  rw [if_neg (by omega),if_neg h1,if_pos h2] at h
  split at h
  ·rename_i hh
   intro p hp
   rw [(ygN hh.2).1,List.mem_singleton] at hp
   rw [hp];exact (ygN hh.2).2
  ·cases h
 rw [if_neg h2]
 split
 ·split
  ·exact ycn (by decide +kernel)
  ·exact ycn (by decide +kernel)
 ·exact ycn (by decide +kernel)
end Go.Proofs.YtkpeklealgicpabGreatDoor
