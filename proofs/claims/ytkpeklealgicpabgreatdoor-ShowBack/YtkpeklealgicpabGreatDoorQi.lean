/-
  What is parsed is never long.
  Parse: where the scan fails.
  Parse: where a command is read; Check decides.
  What is joined is scanned as it was: the plain functions.
  Texts and kinds of tokens alone say what is parsed.
  Words that are printed, and scanned again.
  The printer's text: a Builder that lies in a struct of three cells; what is written to it.
  'put' of the printer's text.
  What is shown of a command; values are read back.
  The printer's column and value.
  The printer's value.
  Expressions and lists are read back.
  The printer's expr.
  The printer: 'is null'.
-/
import Derived.Deep.RegionWith
import Derived.Deep.RegionLaw
import Derived.Test.YtkpeklealgicpabGreatDoorQa
import Derived.Test.YtkpeklealgicpabGreatDoorQf
import Derived.Test.YtkpeklealgicpabGreatDoorQg
import Derived.Test.YtkpeklealgicpabGreatDoorQh

set_option maxRecDepth 100000
set_option maxHeartbeats 8000000
namespace Go.Proofs.YtkpeklealgicpabGreatDoor
open Go.RowKit
def Rs.all {α:Type} (p:α→Prop):Rs α→Prop
 | .ok a _=>p a
 | .bad _=>True
theorem Rs.all_then {α β:Type} {p:α→Prop} {q:β→Prop} {r:Rs α} {f:α→Nat→Rs β} (h:r.all p) (hf:∀ a j,p a→(f a j).all q):(r.then f).all q:=by
 cases r with
 | ok a j=>exact hf a j h
 | bad j=>trivial
theorem Rs.all_any {α β:Type} {q:β→Prop} {r:Rs α} {f:α→Nat→Rs β} (hf:∀ a j,(f a j).all q):(r.then f).all q:=by
 cases r with
 | ok a j=>exact hf a j
 | bad j=>trivial
def Sh (s:List UInt8):Prop:=s.length≤22
theorem Sh.up {s:List UInt8} (h:Sh s):s.length≤140737488355328:=by unfold Sh at h;omega
section
variable {T:List Tk} (hT:∀ x ∈ T,TokOk x)
include hT
theorem yrF (i:Nat):Sh (tx T i):=by
 unfold tx
 split
 ·rename_i t h;exact (hT t (List.mem_of_getElem? h)).short
 ·simp [Sh]
theorem ybY (i:Nat):(yau T i).all Sh:=by
 unfold yau
 split
 ·exact yrF hT i
 ·trivial
theorem yfd (i:Nat):(yaG T i).all fun x=>Sh x.name :=
 Rs.all_then (ybY hT i) fun _ _ h=>Rs.all_any fun _ _=>h
theorem ygT (i:Nat):(yaJ T i).all fun x=>Sh x.s:=by
 unfold yaJ
 split
 ·exact Rs.all_any fun _ _=>by simp [Rs.all,Sh]
 ·split
  ·have:=yrF hT i
   simp only [Rs.all,Sh,List.length_take,List.length_drop] at this ⊢
   omega
  ·refine Rs.all_any fun s j=>?_
   split
   ·exact Rs.all_any fun _ _=>by simp [Rs.all,Sh]
   ·split
    ·simp [Rs.all,Sh]
    ·split <;> simp [Rs.all,Sh,vl0]
theorem yjf (i:Nat):(ydX T i).all Fit:=by
 unfold ydX
 split
 ·exact .mk _ _ _ _ (by simp [vl0]) (yrF hT i).up (by simp) (by intro y hy;cases hy)
 ·exact Rs.all_then (ygT hT i) fun v _ h=>.mk _ _ _ _ h.up (by simp) (by simp) (by intro y hy;cases hy)
theorem yi9 (f:Nat):∀ i,(ybd T f i).all Fit:=by
 induction f with
 | zero=>exact yjf hT
 | succ f ih =>
  intro i
  rw [ybd]
  split
  ·exact Rs.all_then (ih _) fun a _ h=>.mk _ _ _ _ (by simp [vl0]) (by simp) (by simp) (by intro y hy;rw [List.mem_singleton] at hy;rw [hy];exact h)
  ·split
   ·unfold ycH
    refine Rs.all_then (ih _) fun a _ h=>Rs.all_any fun b _=>?_
    split
    ·exact .mk _ _ _ _ (by simp [vl0]) (by simp) (by simp) (by intro y hy;rw [List.mem_singleton] at hy;rw [hy];exact h)
    ·exact Rs.all_any fun k _=>Rs.all_then (ih _) fun b _ h2=>Rs.all_any fun _ _=>.mk _ _ _ _ (by simp [vl0]) (by simp) (by simp) (by
      intro y hy
      rcases List.mem_cons.1 hy with e|e
      ·rw [e];exact h
      ·rw [List.mem_singleton] at e;rw [e];exact h2)
   ·exact yjf hT i
end
theorem ykl {α:Type} {p:α→Prop} {T:List Tk} {one:Nat→Rs α} (h1:∀ i,(one i).all p) (f:Nat):∀ (l:List α) (i:Nat),(∀ x ∈ l,p x)→(ybL T one f l i).all fun r=>r.length≤l.length+f∧∀ x ∈ r,p x:=by
 induction f with
 | zero=>intro l i h;exact ⟨Nat.le_refl _,h⟩
 | succ f ih =>
  intro l i h
  rw [ybL]
  split
  ·refine Rs.all_then (h1 _) fun x j hx=>?_
   have:=ih (l++[x]) j (fun y hy=>by
    rcases List.mem_append.1 hy with e|e
    ·exact h y e
    ·rw [List.mem_singleton] at e;rw [e];exact hx)
   generalize ybL T one f (l++[x]) j=r at *
   cases r with
   | bad=>trivial
   | ok r k =>
    have h2:=this.1
    simp only [List.length_append,List.length_cons,List.length_nil] at h2
    exact ⟨by omega,this.2⟩
  ·exact ⟨by omega,h⟩
theorem yhi {α:Type} {p:α→Prop} {T:List Tk} {one:Nat→Rs α} (hn:T.length≤2000) (h1:∀ i,(one i).all p) (i:Nat):(ybX T one i).all fun r=>r.length≤1000000000000000∧∀ x ∈ r,p x:=by
 refine Rs.all_then (h1 i) fun x j hx=>?_
 have:=ykl (T:=T) h1 (T.length+1) [x] j (fun y hy=>by rw [List.mem_singleton] at hy;rw [hy];exact hx)
 generalize ybL T one (T.length+1) [x] j=r at *
 cases r with
 | bad=>trivial
 | ok r k =>
  have h2:=this.1
  simp only [List.length_cons,List.length_nil] at h2
  exact ⟨by omega,this.2⟩
theorem yjb {α:Type} {p:α→Prop} {T:List Tk} {one:Nat→Rs α} (hn:T.length≤2000) (h1:∀ i,(one i).all p) (i:Nat):(ycy T one i).all fun r=>r.length≤1000000000000000∧∀ x ∈ r,p x :=
 Rs.all_any fun _ _=>Rs.all_then (yhi hn h1 _) fun _ _ h=>Rs.all_any fun _ _=>h
theorem yg8:CmFit cm0:=by
 have he:Fit (.mk 0 vl0 [] []):=.mk _ _ _ _ (by simp [vl0]) (by simp) (by simp) (by intro y hy;cases hy)
 refine ⟨?_, ?_, ?_, ?_, ?_, ?_, ?_, ?_, ?_, ?_, ?_,he,he⟩ <;> simp [cm0,vl0]
section
variable {T:List Tk} (hT:∀ x ∈ T,TokOk x) (hn:T.length≤2000)
include hT
theorem yfL {c:Cm} (h:CmFit c) (i:Nat):(ybh T c i).all CmFit:=by
 refine Rs.all_any fun b j=>?_
 split
 ·exact Rs.all_then (yi9 hT 60 j) fun e _ he=>{ h with wh:=he }
 ·exact { h with }
theorem ykB {c:Cm} (h:CmFit c) (i:Nat):(ybF T c i).all CmFit:=by
 refine Rs.all_any fun b j=>?_
 split
 ·exact Rs.all_then (ybY hT j) fun o _ ho=>{ h with other:=ho.up }
 ·exact Rs.all_then (ybY hT j) fun l _ hl=>Rs.all_any fun _ _=>Rs.all_then (ybY hT _) fun o _ ho=>{ h with column:=hl.up,other:=ho.up }
theorem ynU (i:Nat):(ydW T i).all CmFit:=Rs.all_any fun _ j=>Rs.all_then (ybY hT j) fun _ _ h=>{ yg8 with name:=h.up }
theorem yk9 (i:Nat):(ybK T i).all CmFit:=by
 refine Rs.all_any fun _ j=>Rs.all_then (ybY hT j) fun n _ h=>Rs.all_any fun s j=>?_
 split
 ·exact Rs.all_then (yfd hT j) fun c _ hc=>Rs.all_any fun _ j=>Rs.all_then (ygT hT j) fun v _ hv=>{ yg8 with name:=h.up,column:=hc.up,val:=hv.up }
 ·split
  ·exact Rs.all_then (ybY hT j) fun c _ hc=>{ yg8 with name:=h.up,column:=hc.up }
  ·split
   ·exact ykB hT (c:={ cm0 with name:=n }) { yg8 with name:=h.up } j
   ·exact Rs.all_then (yfd hT j) fun c _ hc=>{ yg8 with name:=h.up,column:=hc.up }
theorem yjL (i:Nat):(ycx T i).all CmFit:=Rs.all_any fun _ j=>Rs.all_then (ybY hT j) fun n j h=>yfL hT (c:={ cm0 with kind:=11,name:=n }) { yg8 with name:=h.up } j
theorem ykU (i:Nat):(yca T i).all CmFit :=
 Rs.all_then (ybY hT i) fun n _ h=>Rs.all_any fun _ j=>Rs.all_then (ybY hT j) fun l _ hc=>Rs.all_any fun _ j=>Rs.all_then (yi9 hT 60 j) fun e j he=>yfL hT (c:={ cm0 with kind:=12,name:=n,column:=l,expr:=e }) { yg8 with name:=h.up,column:=hc.up,expr:=he } j
theorem ymK {c:Cm} (h:CmFit c) (i:Nat):(ycJ T c i).all CmFit:=by
 refine Rs.all_any fun b j=>?_
 split
 ·exact Rs.all_then (ybY hT j) fun o _ ho=>{ h with order:=ho.up }
 ·exact h
omit hT in
theorem ymv {c:Cm} (h:CmFit c) (i:Nat):(ybT T c i).all CmFit:=by
 refine Rs.all_any fun b j=>?_
 split
 ·exact Rs.all_any fun n _=>{ h with }
 ·exact h
include hn
theorem yjJ (i:Nat):(ybC T i).all CmFit:=by
 refine Rs.all_any fun s j=>?_
 split
 ·exact Rs.all_then (ybY hT j) fun n j h=>Rs.all_then (yjb hn (yfd hT) j) fun l _ hl=>{ yg8 with name:=h.up,cols:=hl.1,colsN:=fun x hx=>(hl.2 x hx).up }
 ·exact Rs.all_then (ybY hT j) fun n j h=>Rs.all_any fun _ j=>Rs.all_then (ybY hT j) fun o j ho=>Rs.all_any fun _ j=>Rs.all_then (ybY hT j) fun c j hc=>Rs.all_any fun _ j=>{ yg8 with name:=h.up,other:=ho.up,column:=hc.up }
theorem ykf (i:Nat):(ycp T i).all CmFit :=
 Rs.all_any fun _ j=>Rs.all_then (ybY hT j) fun _ _ h=>Rs.all_any fun _ j=>Rs.all_then (yjb hn (ygT hT) j) fun _ _ hl=>{ yg8 with name:=h.up,vals:=hl.1,valsN:=fun x hx=>(hl.2 x hx).up }
theorem yjG (i:Nat):(yaK T i).all CmFit:=by
 have hf:∀ i,(yfk T i).all fun r=>r.length≤1000000000000000∧∀ x ∈ r,Sh x:=by
  intro i
  refine Rs.all_any fun b j=>?_
  split
  ·exact ⟨by simp,by intro x hx;cases hx⟩
  ·exact yhi hn (ybY hT) j
 exact Rs.all_then (hf i) fun l _ hl=>Rs.all_any fun _ j=>Rs.all_then (ybY hT j) fun n j h =>
  Rs.all_then (yfL hT (c:={ cm0 with kind:=13,limit:=-1,fields:=l,name:=n }) { yg8 with name:=h.up,fields:=hl.1,fieldsN:=fun x hx=>(hl.2 x hx).up } j) fun c j hc=>Rs.all_then (ymK hT hc j) fun c j hc=>ymv hc j
theorem yh6 (i:Nat):(yaA T i).all CmFit:=by
 refine Rs.all_any fun s j=>?_
 repeat' split
 ·exact yjJ hT hn j
 ·exact ynU hT j
 ·exact yk9 hT j
 ·exact ykf hT hn j
 ·exact yjL hT j
 ·exact ykU hT j
 ·exact yjG hT hn j
 ·exact { yg8 with }
 ·exact { yg8 with }
 ·exact { yg8 with }
theorem ynE {c:Cm} {j:Nat} (h:ycc T=.ok c j):CmFit c:=by
 have:(ycc T).all CmFit:=Rs.all_then (yh6 hT hn 0) fun c j hc=>by
  split
  ·trivial
  ·exact hc
 rw [h] at this
 exact this
end
theorem yd6 {s:List UInt8} {c:Cm} {j:Nat} (h:ycc (yaH s).1=.ok c j):CmFit c:=ynE (yeN s) (yfC s) h
theorem ycF (tmps:Array Value) (w:World) (rb:Nat) (cs:List Value) (x y:Value) (h2:tmps.getD 2 undef=.pointer (some ⟨rb,0,none⟩)) (h3:tmps.getD 3 undef=x) (h4:tmps.getD 4 undef=y)
  (hl:cs.length=26) (hr:w.heap[rb]?=some (.cells cs.toArray 31)):(results Tryz.f8 tmps).run Tryz.prog w=.ok (.tuple #[.agg cs.toArray,x,y]) w:=by
 have h:=run_loadVar_mid (P:=Tryz.prog) w rb 0 31 cs _ (fun j v hv=>by rw [Nat.zero_add,Lib.cell_of_heap hr];simpa using hv) Tryz.underlying31 rfl (by rw [hl];exact Tryz.size31)
 have h2':tmps[2]?.getD undef=.pointer (some ⟨rb,0,none⟩):=by simpa using h2
 have h3':tmps[3]?.getD undef=x:=by simpa using h3
 have h4':tmps[4]?.getD undef=y:=by simpa using h4
 simp [results,Tryz.results8,h2',h3',h4',asAddr,h]
theorem yjy {w:World} (s:List UInt8) (A E:Nat) (hs:s.length≤9223372036854775000) (hA:(yaH s).2.1=A) (hE:(yaH s).2.2=E) (hz:E≠0) :
  Calls Tryz.prog 8 #[.string ⟨s.toArray⟩] w fun e w'=>e=.returned (.tuple #[.agg cmZ.toArray,.int .i64 (A:Nat),.int .i64 (E:Nat)])∧Below w.heap.size w w':=by
 have hsc:∀ W:World,Calls Tryz.prog 15 #[.string ⟨s.toArray⟩] W fun e w'=>∃ v,e=.returned (.tuple #[v,.int .i64 (A:Nat),.int .i64 (E:Nat)])∧Below W.heap.size W w':=by
  intro W
  refine (ydU ⟨s.toArray⟩ W (by rw [yaN];exact hs)).mono ?_
  rintro e w' ⟨v,rfl,-,hb⟩
  refine ⟨v, ?_,hb⟩
  show Ending.returned (.tuple #[v,.int .i64 ((yaH s).2.1:Nat),.int .i64 ((yaH s).2.2:Nat)])=_
  rw [hA,hE]
 have hd:¬ ((E:Int)=0):=by omega
 clear hA hE hs
 go_enter Tryz.func8,Tryz.ntmps8
 go_wp2_with (first|(refine yac 2 31 cmZ rfl rfl rfl Tryz.alloc31 ?_;intro W0 rb hrb k0 b0)|(refine (hsc _).mono ?_;rintro e w1 ⟨v,rfl,b1⟩;have k1:=(b1.block rb (ltS k0)).trans k0)|(refine yab 31 _ _ rfl rfl _ cmZ cmZ 31 rfl rfl (by exact k1) rfl Tryz.size31 (by exact (yb6 0 w1 cm0 rfl rfl rfl rfl rfl).one) ?_;intro w3 k3 p3))
 have hr:=hrb.out
 have B3:Below w.heap.size w w3:=by
  rw [p3.out]
  exact (b0.trans (b1.mono b0.size)).trans ⟨(yaj rb _ w1 0).1,(yaj rb _ w1 0).2.1,(yaj rb _ w1 0).2.2,Nat.le_of_eq (yaQ rb _ w1 0).symm,fun k hk=>yag rb _ w1 0 k (by have:=b0.size;omega)⟩
 exact bodyPost_ret (ycF _ _ rb cmZ _ _ rfl rfl rfl rfl k3) rfl ⟨rfl,B3⟩
theorem yk3 {w:World} (s:List UInt8) (j:Nat) (hs:s.length≤9223372036854775000) (hl:Laid w) (hE:(yaH s).2.2=0) (hw:ycc (yaH s).1=.bad j) :
  Calls Tryz.prog 8 #[.string ⟨s.toArray⟩] w fun e w'=>e=.returned (.tuple #[.agg cmZ.toArray,.int .i64 (pl (yaH s).1 (s.length:Nat) j),.int .i64 1])∧Below w.heap.size w w':=by
 have hsc:∀ W:World,Calls Tryz.prog 15 #[.string ⟨s.toArray⟩] W fun e w'=>∃ v A,e=.returned (.tuple #[v,.int .i64 A,.int .i64 0])∧Hid (Tks w' W.heap.size v (yaH s).1)∧Below W.heap.size W w':=by
  intro W
  refine (ydU ⟨s.toArray⟩ W (by rw [yaN];exact hs)).mono ?_
  rintro e w' ⟨v,rfl,ho,hb⟩
  refine ⟨v,((yaH s).2.1:Nat), ?_,yfF ho,hb⟩
  show Ending.returned (.tuple #[v,.int .i64 ((yaH s).2.1:Nat),.int .i64 ((yaH s).2.2:Nat)])=_
  rw [hE];rfl
 have hpa:∀ (W:World) (base:Nat) (v:Value),Tks W base v (yaH s).1→Laid W→Calls Tryz.prog 21 #[v,.int .i64 ((s.length:Nat):Int)] W fun e w'=>e=.returned (.tuple #[.agg cmZ.toArray,.int .i64 (pl (yaH s).1 (s.length:Nat) j),.int .i64 1])∧Below W.heap.size W w':=by
  intro W base v ht hL
  exact (yft ht hL _).mono fun e w' h=>⟨h.bad j hw,h.below⟩
 have hz:(⟨s.toArray⟩:ByteArray).size=s.length:=yaN s
 generalize pl (yaH s).1 (s.length:Nat) j=P at *
 clear hw hE hs
 go_enter Tryz.func8,Tryz.ntmps8
 go_wp2_with (first|(refine yac 2 31 cmZ rfl rfl rfl Tryz.alloc31 ?_;intro W0 rb hrb k0 b0)|(refine (hsc _).mono ?_;rintro e w1 ⟨v,A,rfl,ht,b1⟩;have k1:=(b1.block rb (ltS k0)).trans k0)|(refine (hpa _ _ _ ht.out ((hl.below b0).below b1)).mono ?_;rintro e w2 ⟨rfl,b2⟩;have k2:=(b2.block rb (ltS k1)).trans k1)|(refine yac 8 31 cmZ rfl rfl rfl Tryz.alloc31 ?_;intro w4 cb hcb k4 b4;have k5:=(b4.block rb (ltS k2)).trans k2)|(refine yab 31 _ _ rfl rfl cb cmZ cmZ 31 rfl rfl (by exact k4) rfl Tryz.size31 (by exact (yb6 0 w4 cm0 rfl rfl rfl rfl rfl).one) ?_;intro w6 k6 p6;have k7:w6.heap[rb]?=some (.cells cmZ.toArray 31):=(by rw [p6.out];exact (yag cb _ w4 0 rb (by have:=hcb.out;have:=(ltS k2);omega)).trans k5))|(refine yab 31 _ _ rfl rfl rb cmZ cmZ 31 rfl rfl (by exact k7) rfl Tryz.size31 (by exact (yb6 0 w6 cm0 rfl rfl rfl rfl rfl).one) ?_;intro w3 k3 p3))
 have hr:=hrb.out
 have hc:=hcb.out
 have B4:Below w.heap.size w w4:=((b0.trans (b1.mono b0.size)).trans (b2.mono (Nat.le_trans b0.size b1.size))).trans (b4.mono (Nat.le_trans (Nat.le_trans b0.size b1.size) b2.size))
 have B6:Below w.heap.size w w6:=by
  rw [p6.out]
  exact B4.trans ⟨(yaj cb _ w4 0).1,(yaj cb _ w4 0).2.1,(yaj cb _ w4 0).2.2,Nat.le_of_eq (yaQ cb _ w4 0).symm,fun k hk=>yag cb _ w4 0 k (by have:=b0.size;have:=b1.size;have:=b2.size;omega)⟩
 have B3:Below w.heap.size w w3:=by
  rw [p3.out]
  exact B6.trans ⟨(yaj rb _ w6 0).1,(yaj rb _ w6 0).2.1,(yaj rb _ w6 0).2.2,Nat.le_of_eq (yaQ rb _ w6 0).symm,fun k hk=>yag rb _ w6 0 k (by omega)⟩
 exact bodyPost_ret (ycF _ _ rb cmZ _ _ rfl rfl rfl rfl k3) rfl ⟨rfl,B3⟩
theorem ynf {s:List UInt8} (hs:s.length≤9223372036854775000) (hE:(yaH s).2.2=0) (W:World):Calls Tryz.prog 15 #[.string ⟨s.toArray⟩] W fun e w'=>∃ v A,e=.returned (.tuple #[v,.int .i64 A,.int .i64 0])∧Hid (Tks w' W.heap.size v (yaH s).1)∧Below W.heap.size W w':=by
 refine (ydU ⟨s.toArray⟩ W (by rw [yaN];exact hs)).mono ?_
 rintro e w' ⟨v,rfl,ho,hb⟩
 refine ⟨v,((yaH s).2.1:Nat), ?_,yfF ho,hb⟩
 show Ending.returned (.tuple #[v,.int .i64 ((yaH s).2.1:Nat),.int .i64 ((yaH s).2.2:Nat)])=_
 rw [hE];rfl
theorem yrZ {w2 w4 w6:World} {cb:Nat} {xs:List Value} (hc:cb=w2.heap.size) (hp:w6=putAll w4 cb 0 xs) (b4:Below w2.heap.size w2 w4):w4.heap.size=w6.heap.size∧(∀ b,b < w2.heap.size→w6.heap[b]?=w2.heap[b]?):=by
 subst hp
 exact ⟨(yaQ cb _ w4 0).symm,fun b hb=>(yag cb _ w4 0 b (by omega)).trans (b4.block b hb)⟩
theorem yhY {w:World} (s:List UInt8) (c:Cm) (j:Nat) (E:Int) (hs:s.length≤9223372036854775000) (hl:Laid w) (hE:(yaH s).2.2=0) (hw:ycc (yaH s).1=.ok c j) (hq:yeb (ybQ c) (yc2 c)=E) (hd:¬ E=0) :
  Calls Tryz.prog 8 #[.string ⟨s.toArray⟩] w fun e w'=>e=.returned (.tuple #[.agg cmZ.toArray,.int .i64 0,.int .i64 E])∧Below w.heap.size w w':=by
 have hsc:=ynf hs hE
 have hpa:∀ (W:World) (base:Nat) (v:Value),Tks W base v (yaH s).1→Laid W→Calls Tryz.prog 21 #[v,.int .i64 ((s.length:Nat):Int)] W fun e w'=>(∃ cv vv fv ea wa,e=.returned (.tuple #[.agg (cmL c cv vv fv ea wa).toArray,.int .i64 0,.int .i64 0])∧Hid (CmIn W.heap.size w' c cv vv fv ea wa))∧Below W.heap.size W w':=by
  intro W base v ht hL
  refine (yft ht hL _).mono fun e w' h=>⟨?_,h.below⟩
  obtain ⟨u,rfl,cv,vv,fv,ea,wa,rfl,hi⟩:=h.ok c j hw
  exact ⟨cv,vv,fv,ea,wa,rfl,hi⟩
 have hf:Hid (CmFit c):=yd6 hw
 have hz:(⟨s.toArray⟩:ByteArray).size=s.length:=yaN s
 have hck:∀ (W:World) (cv vv fv ea wa:Value),CmIn 0 W c cv vv fv ea wa→Laid W→Calls Tryz.prog 12 #[.agg (cmL c cv vv fv ea wa).toArray] W fun e w'=>e=.returned (.int .i64 E)∧Below W.heap.size W w':=by
  intro W cv vv fv ea wa hi hL
  rw [← hq]
  exact yea c cv vv fv ea wa hi hf.out hL
 clear hw hE hs hq
 go_enter Tryz.func8,Tryz.ntmps8
 go_wp2_with (first|(refine yac 2 31 cmZ rfl rfl rfl Tryz.alloc31 ?_;intro W0 rb hrb k0 b0)|(refine (hsc _).mono ?_;rintro e w1 ⟨v,A,rfl,ht,b1⟩;have k1:=(b1.block rb (ltS k0)).trans k0;have L1:Hid (Laid w1):=(hl.below b0).below b1)|(refine (hpa _ _ _ ht.out L1.out).mono ?_;rintro e w2 ⟨⟨cv,vv,fv,ea,wa,rfl,hi⟩,b2⟩;have k2:=(b2.block rb (ltS k1)).trans k1;have L2:Hid (Laid w2):=L1.out.below b2)|(refine yac 8 31 cmZ rfl rfl rfl Tryz.alloc31 ?_;intro w4 cb hcb k4 b4;have k5:=(b4.block rb (ltS k2)).trans k2)|(refine yab 31 _ _ rfl rfl cb cmZ (cmL c cv vv fv ea wa) 31 rfl rfl (by exact k4) rfl Tryz.size31 (by exact hi.out.one) ?_;intro w6 k6 p6;have g6:Hid (w4.heap.size=w6.heap.size∧(∀ b,b < w2.heap.size→w6.heap[b]?=w2.heap[b]?)):=yrZ hcb.out p6.out b4;have k7:w6.heap[rb]?=some (.cells cmZ.toArray 31):=(g6.out.2 rb (ltS k2)).trans k2;have i6:Hid (CmIn w1.heap.size w6 c cv vv fv ea wa):=hi.out.keep (by have:=b4.size;have:=g6.out.1;omega) (fun b _ hb=>g6.out.2 b hb);have L6:Hid (Laid w6):=L2.out.keep (by have:=b4.size;have:=g6.out.1;omega) (fun k hk=>g6.out.2 k (Nat.lt_of_lt_of_le hk L2.out.sz)))|(refine yaf 31 _ rfl rfl _ (cmL c cv vv fv ea wa) 31 _ rfl (by assumption) Tryz.underlying31 rfl Tryz.size31 ?_)|(refine (hck _ _ _ _ _ _ (i6.out.weak (Nat.zero_le _)) L6.out).mono ?_;rintro e w7 ⟨rfl,b7⟩;have k8:=(b7.block cb (ltS k6)).trans k6;have k9:=(b7.block rb (ltS k7)).trans k7;have i7:Hid (CmIn w1.heap.size w7 c cv vv fv ea wa):=i6.out.keep b7.size (fun b _ hb=>b7.block b hb))|(refine yab 31 _ _ rfl rfl rb cmZ cmZ 31 rfl rfl (by exact k9) rfl Tryz.size31 (by exact (yb6 0 w7 cm0 rfl rfl rfl rfl rfl).one) ?_;intro w3 k3 p3))
 have hr:=hrb.out
 have hc:=hcb.out
 have B4:Below w.heap.size w w4:=((b0.trans (b1.mono b0.size)).trans (b2.mono (Nat.le_trans b0.size b1.size))).trans (b4.mono (Nat.le_trans (Nat.le_trans b0.size b1.size) b2.size))
 have B6:Below w.heap.size w w6:=by
  rw [p6.out]
  exact B4.trans ⟨(yaj cb _ w4 0).1,(yaj cb _ w4 0).2.1,(yaj cb _ w4 0).2.2,Nat.le_of_eq (yaQ cb _ w4 0).symm,fun k hk=>yag cb _ w4 0 k (by have:=b0.size;have:=b1.size;have:=b2.size;omega)⟩
 have B7:=B6.trans (b7.mono B6.size)
 have B3:Below w.heap.size w w3:=by
  rw [p3.out]
  exact B7.trans ⟨(yaj rb _ w7 0).1,(yaj rb _ w7 0).2.1,(yaj rb _ w7 0).2.2,Nat.le_of_eq (yaQ rb _ w7 0).symm,fun k hk=>yag rb _ w7 0 k (by omega)⟩
 exact bodyPost_ret (ycF _ _ rb cmZ _ _ rfl rfl rfl rfl k3) rfl ⟨rfl,B3⟩
theorem yhX {w:World} (s:List UInt8) (c:Cm) (j:Nat) (hs:s.length≤9223372036854775000) (hl:Laid w) (hE:(yaH s).2.2=0) (hw:ycc (yaH s).1=.ok c j) (hq:yeb (ybQ c) (yc2 c)=0) :
  Calls Tryz.prog 8 #[.string ⟨s.toArray⟩] w fun e w'=>(∃ u,e=.returned (.tuple #[u,.int .i64 0,.int .i64 0])∧ypL w.heap.size w' u c)∧Below w.heap.size w w':=by
 have hsc:=ynf hs hE
 have hpa:∀ (W:World) (base:Nat) (v:Value),Tks W base v (yaH s).1→Laid W→Calls Tryz.prog 21 #[v,.int .i64 ((s.length:Nat):Int)] W fun e w'=>(∃ cv vv fv ea wa,e=.returned (.tuple #[.agg (cmL c cv vv fv ea wa).toArray,.int .i64 0,.int .i64 0])∧Hid (CmIn W.heap.size w' c cv vv fv ea wa))∧Below W.heap.size W w':=by
  intro W base v ht hL
  refine (yft ht hL _).mono fun e w' h=>⟨?_,h.below⟩
  obtain ⟨u,rfl,cv,vv,fv,ea,wa,rfl,hi⟩:=h.ok c j hw
  exact ⟨cv,vv,fv,ea,wa,rfl,hi⟩
 have hf:Hid (CmFit c):=yd6 hw
 have hz:(⟨s.toArray⟩:ByteArray).size=s.length:=yaN s
 have hck:∀ (W:World) (cv vv fv ea wa:Value),CmIn 0 W c cv vv fv ea wa→Laid W→Calls Tryz.prog 12 #[.agg (cmL c cv vv fv ea wa).toArray] W fun e w'=>e=.returned (.int .i64 0)∧Below W.heap.size W w':=by
  intro W cv vv fv ea wa hi hL
  rw [← hq]
  exact yea c cv vv fv ea wa hi hf.out hL
 clear hw hE hs hq
 go_enter Tryz.func8,Tryz.ntmps8
 go_wp2_with (first|(refine yac 2 31 cmZ rfl rfl rfl Tryz.alloc31 ?_;intro W0 rb hrb k0 b0)|(refine (hsc _).mono ?_;rintro e w1 ⟨v,A,rfl,ht,b1⟩;have k1:=(b1.block rb (ltS k0)).trans k0;have L1:Hid (Laid w1):=(hl.below b0).below b1)|(refine (hpa _ _ _ ht.out L1.out).mono ?_;rintro e w2 ⟨⟨cv,vv,fv,ea,wa,rfl,hi⟩,b2⟩;have k2:=(b2.block rb (ltS k1)).trans k1;have L2:Hid (Laid w2):=L1.out.below b2)|(refine yac 8 31 cmZ rfl rfl rfl Tryz.alloc31 ?_;intro w4 cb hcb k4 b4;have k5:=(b4.block rb (ltS k2)).trans k2)|(refine yab 31 _ _ rfl rfl cb cmZ (cmL c cv vv fv ea wa) 31 rfl rfl (by exact k4) rfl Tryz.size31 (by exact hi.out.one) ?_;intro w6 k6 p6;have g6:Hid (w4.heap.size=w6.heap.size∧(∀ b,b < w2.heap.size→w6.heap[b]?=w2.heap[b]?)):=yrZ hcb.out p6.out b4;have k7:w6.heap[rb]?=some (.cells cmZ.toArray 31):=(g6.out.2 rb (ltS k2)).trans k2;have i6:Hid (CmIn w1.heap.size w6 c cv vv fv ea wa):=hi.out.keep (by have:=b4.size;have:=g6.out.1;omega) (fun b _ hb=>g6.out.2 b hb);have L6:Hid (Laid w6):=L2.out.keep (by have:=b4.size;have:=g6.out.1;omega) (fun k hk=>g6.out.2 k (Nat.lt_of_lt_of_le hk L2.out.sz)))|(refine yaf 31 _ rfl rfl _ (cmL c cv vv fv ea wa) 31 _ rfl (by assumption) Tryz.underlying31 rfl Tryz.size31 ?_)|(refine (hck _ _ _ _ _ _ (i6.out.weak (Nat.zero_le _)) L6.out).mono ?_;rintro e w7 ⟨rfl,b7⟩;have k8:=(b7.block cb (ltS k6)).trans k6;have k9:=(b7.block rb (ltS k7)).trans k7;have i7:Hid (CmIn w1.heap.size w7 c cv vv fv ea wa):=i6.out.keep b7.size (fun b _ hb=>b7.block b hb))|(refine yab 31 _ _ rfl rfl rb cmZ (cmL c cv vv fv ea wa) 31 rfl rfl (by exact k9) rfl Tryz.size31 (by exact i7.out.one) ?_;intro w3 k3 p3))
 have hr:=hrb.out
 have hc:=hcb.out
 have B4:Below w.heap.size w w4:=((b0.trans (b1.mono b0.size)).trans (b2.mono (Nat.le_trans b0.size b1.size))).trans (b4.mono (Nat.le_trans (Nat.le_trans b0.size b1.size) b2.size))
 have B6:Below w.heap.size w w6:=by
  rw [p6.out]
  exact B4.trans ⟨(yaj cb _ w4 0).1,(yaj cb _ w4 0).2.1,(yaj cb _ w4 0).2.2,Nat.le_of_eq (yaQ cb _ w4 0).symm,fun k hk=>yag cb _ w4 0 k (by have:=b0.size;have:=b1.size;have:=b2.size;omega)⟩
 have B7:=B6.trans (b7.mono B6.size)
 have B3:Below w.heap.size w w3:=by
  rw [p3.out]
  exact B7.trans ⟨(yaj rb _ w7 0).1,(yaj rb _ w7 0).2.1,(yaj rb _ w7 0).2.2,Nat.le_of_eq (yaQ rb _ w7 0).symm,fun k hk=>yag rb _ w7 0 k (by omega)⟩
 have m3:CmIn w1.heap.size w3 c cv vv fv ea wa:=by
  rw [p3.out]
  exact i7.out.putAll (by have:=(ltS k1);omega) 0 _
 exact bodyPost_ret (ycF _ _ rb (cmL c cv vv fv ea wa) _ _ rfl rfl rfl rfl k3) rfl ⟨⟨_,rfl,cv,vv,fv,ea,wa,rfl,m3.weak (Nat.le_trans b0.size b1.size)⟩,B3⟩
theorem yhx (p:UInt8→Bool) (r:List UInt8) (h:ycN p r=r.length) (c:UInt8) (v:List UInt8) (hc:p c=false):ycN p (r++c::v)=r.length:=by
 induction r with
 | nil=>rw [List.nil_append,yby,if_neg (by simp [hc])];rfl
 | cons d r ih =>
  rw [yby] at h
  rw [List.cons_append,yby]
  by_cases hd:p d=true
  ·rw [if_pos hd] at h ⊢
   simp only [List.length_cons] at h ⊢
   rw [ih (by omega)]
  ·rw [if_neg hd] at h;simp at h
theorem ym6 (p:UInt8→Bool) (r v:List UInt8) (h:ycN p r < r.length):ycN p (r++v)=ycN p r:=by
 induction r with
 | nil=>simp at h
 | cons d r ih =>
  rw [yby] at h
  rw [List.cons_append,yby,yby]
  by_cases hd:p d=true
  ·rw [if_pos hd] at h ⊢
   rw [if_pos hd,ih (by simpa using h)]
  ·rw [if_neg hd,if_neg hd]
theorem yki {c:UInt8} (h:isS c=true):¬ c=124:=by
 intro e;subst e;revert h;decide
def TL (T:List Tk):List (List UInt8×Int):=T.map fun x=>(x.t,x.k)
theorem yuw (T:List Tk) (i:Nat):tx T i=(((TL T)[i]?).map Prod.fst).getD []:=by
 unfold tx TL
 rw [List.getElem?_map]
 cases T[i]? <;> rfl
theorem yud (T:List Tk) (i:Nat):kd T i=(((TL T)[i]?).map Prod.snd).getD 0:=by
 unfold kd TL
 rw [List.getElem?_map]
 cases T[i]? <;> rfl
section
variable {T U:List Tk} (h:TL T=TL U)
include h
end
def yk2 (p w:List UInt8):List UInt8:=if p≠[40]∧w≠[41]∧w≠[44] then [32] else []
def yeF:List UInt8→List (List UInt8)→List UInt8
 | _,[]=>[]
 | p,w::ws=>yk2 p w++(w++yeF w ws)
def yaz:List (List UInt8)→List UInt8
 | []=>[]
 | w::ws=>w++yeF w ws
def yef (p:List UInt8) (ws:List (List UInt8)):List UInt8:=ws.getLast?.getD p
theorem ydQ (p w:List UInt8) (ws:List (List UInt8)):yef p (w::ws)=yef w ws:=by
 unfold yef
 cases ws with
 | nil=>rfl
 | cons v vs=>rw [List.getLast?_cons_cons,List.getLast?_eq_some_getLast (List.cons_ne_nil v vs)];rfl
theorem yfq (ws:List (List UInt8)):∀ (p:List UInt8) (vs:List (List UInt8)),yeF p (ws++vs)=yeF p ws++yeF (yef p ws) vs:=by
 induction ws with
 | nil=>intro p vs;rfl
 | cons w ws ih=>intro p vs;rw [List.cons_append,yeF,yeF,ih,ydQ];simp
theorem yhh (ws:List (List UInt8)):∀ (p:List UInt8) (vs:List (List UInt8)),yef p (ws++vs)=yef (yef p ws) vs:=by
 induction ws with
 | nil=>intro p vs;rfl
 | cons w ws ih=>intro p vs;rw [List.cons_append,ydQ,ydQ,ih]
theorem ykL (ws:List (List UInt8)) (w:List UInt8) (h:ws≠[]):yaz (ws++[w])=yaz ws++(yk2 (yef [] ws) w++w):=by
 cases ws with
 | nil=>exact absurd rfl h
 | cons v vs=>rw [List.cons_append,yaz,yaz,yfq,ydQ];simp [yeF]
def ybS (w:List UInt8):List (List UInt8×Int) :=
 match w with
 | 45::c::r=>[([45],4),(c::r,2)]
 | _=>[(w,((yba w).1:Nat))]
def okW (w:List UInt8):Prop:=∀ p ∈ ybS w,ybv p.2 p.1=true
theorem yrB (t u:List UInt8) (k:Nat) (hk:k≠0) (h:yba t=(k,t.length)) (hu:k=3∨k=4∨yde isW u=false):yba (t++u)=(k,t.length):=by
 have noW:∀ {r:List UInt8},ycN isW r=r.length→yde isW u=false→ycN isW (r++u)=r.length:=by
  intro r hr hu
  cases u with
  | nil=>rw [List.append_nil];exact hr
  | cons c v=>exact yhx isW r hr c v hu
 have noD:∀ {r:List UInt8},ycN isD r=r.length→yde isW u=false→ycN isD (r++u)=r.length:=by
  intro r hr hu
  cases u with
  | nil=>rw [List.append_nil];exact hr
  | cons c v =>
   refine yhx isD r hr c v ?_
   simp only [yde,isW,Bool.or_eq_false_iff] at hu
   exact hu.2
 cases t with
 | nil=>simp [yba] at h;omega
 | cons c r =>
  rw [yba] at h
  rw [List.cons_append,yba]
  by_cases hL:isL c=true
  ·rw [if_pos hL] at h ⊢
   simp only [Prod.mk.injEq,List.length_cons] at h
   rw [noW (by omega) (by rcases hu with e|e|e;omega;omega;exact e),List.length_cons,← h.1]
  rw [if_neg hL] at h ⊢
  by_cases hD:isD c=true
  ·rw [if_pos hD] at h ⊢
   simp only [Prod.mk.injEq,List.length_cons] at h
   rw [noD (by omega) (by rcases hu with e|e|e;omega;omega;exact e),List.length_cons,← h.1]
  rw [if_neg hD] at h ⊢
  by_cases hq:c=39
  ·rw [if_pos hq] at h ⊢
   by_cases hz:r[ycN isQ r]?=some 39
   ·rw [if_pos hz] at h
    have hlt:=(List.getElem?_eq_some_iff.1 hz).1
    rw [ym6 isQ r _ hlt,List.getElem?_append_left hlt,if_pos hz]
    exact h
   ·rw [if_neg hz] at h;simp at h
  rw [if_neg hq] at h ⊢
  by_cases hb:ycY (c::r)=true
  ·rw [if_pos hb] at h
   have hb2:ycY (c::(r++u))=true:=by
    rw [ycZ] at hb ⊢
    simp only [Bool.and_eq_true,decide_eq_true_eq] at hb ⊢
    refine ⟨hb.1, ?_⟩
    cases r with
    | nil=>simp at hb
    | cons d r=>exact hb.2
   rw [if_pos hb2];exact h
  rw [if_neg hb] at h
  by_cases hs:isS c=true
  ·rw [if_pos hs] at h
   have hb2:¬ ycY (c::(r++u))=true:=by rw [ycZ];simp [yki hs]
   rw [if_neg hb2,if_pos hs];exact h
  ·rw [if_neg hs] at h;simp at h
theorem yiX (t:List UInt8) (K:Int) (hx:ybv K t=true) (a:Nat) (acc:List Tk) (u:List UInt8) (hu:K=3∨K=4∨yde isW u=false) :
  ya7 a (t++u) acc=ya7 (a+t.length) u (acc++[⟨K,(a:Nat),t⟩]):=by
 simp only [ybv,decide_eq_true_eq] at hx
 obtain ⟨h0,hlen,hk,hN,hw⟩:=hx
 obtain ⟨K',N,hp⟩:∃ K N,yba t=(K,N):=⟨_,_,rfl⟩
 rw [hp] at hk hN hw
 simp only at hk hN hw
 subst hN
 subst hk
 have hz:=ycf hw
 have hmore:=yrB t u K' hz hp (by rcases hu with h|h|h;left;omega;right;left;omega;exact .inr (.inr h))
 cases t with
 | nil=>exact absurd rfl h0
 | cons c r =>
  have hB:isB c=false:=by
   cases hB:isB c
   ·rfl
   ·rw [ygr c r hB] at hp;simp at hp
  rw [List.cons_append] at hmore ⊢
  have ht:List.take (c::r).length (c::(r++u))=c::r:=by
   rw [← List.cons_append,List.take_left'];rfl
  have hd:List.drop (c::r).length (c::(r++u))=u:=by
   rw [← List.cons_append,List.drop_left'];rfl
  rw [yet a c (r++u) acc hB (by rw [hmore];simp only;rw [ht];exact hw),hmore]
  simp only
  rw [ht,hd]
theorem yje (p:List UInt8) (ws:List (List UInt8)) (hp:p≠[40]):yde isW (yeF p ws)=false:=by
 cases ws with
 | nil=>rfl
 | cons w ws =>
  rw [yeF,yk2]
  by_cases h:w≠[41]∧w≠[44]
  ·rw [if_pos ⟨hp,h⟩];rfl
  ·rw [if_neg (fun hh=>h hh.2)]
   have:w=[41]∨w=[44]:=by
    by_cases h1:w=[41]
    ·exact .inl h1
    ·right
     apply Classical.byContradiction
     intro h2
     exact h ⟨h1,h2⟩
   rcases this with rfl|rfl <;> rfl
theorem ynh (w:List UInt8) (hw:okW w) (ws:List (List UInt8)) (a:Nat) (acc:List Tk) :
  ∃ M b,ya7 a (w++yeF w ws) acc=ya7 b (yeF w ws) (acc++M)∧TL M=ybS w:=by
 have key:∀ K:Int,ybv K w=true→K=4∨w≠[40]→ya7 a (w++yeF w ws) acc=ya7 (a+w.length) (yeF w ws) (acc++[⟨K,(a:Nat),w⟩]):=by
  intro K hK h
  refine yiX w K hK a acc _ ?_
  rcases h with h|h
  ·exact .inr (.inl h)
  ·exact .inr (.inr (yje w ws h))
 by_cases hm:∃ c r,w=45::c::r
 ·obtain ⟨c,r,rfl⟩:=hm
  have h1:=hw ([45],4) (by simp [ybS])
  have h2:=hw (c::r,2) (by simp [ybS])
  refine ⟨[⟨4,(a:Nat),[45]⟩,⟨2,((a+1:Nat):Nat),c::r⟩],a+1+(c::r).length, ?_,rfl⟩
  have e1:=yiX [45] 4 h1 a acc (c::r++yeF (45::c::r) ws) (.inr (.inl rfl))
  have e2:=yiX (c::r) 2 h2 (a+1) (acc++[⟨4,(a:Nat),[45]⟩]) (yeF (45::c::r) ws) (.inr (.inr (yje _ _ (by simp))))
  rw [show (45::c::r)++yeF (45::c::r) ws=[45]++(c::r++yeF (45::c::r) ws) from rfl,e1]
  show ya7 (a+1) _ _=_
  rw [e2]
  simp
 ·have ht:ybS w=[(w,(((yba w).1:Nat):Int))]:=by
   unfold ybS
   split
   ·rename_i c r
    exact absurd ⟨c,r,rfl⟩ hm
   ·rfl
  have h1:=hw (w,(((yba w).1:Nat):Int)) (by rw [ht];simp)
  refine ⟨[⟨((yba w).1:Nat),(a:Nat),w⟩],a+w.length, ?_, ?_⟩
  ·refine key _ h1 ?_
   by_cases e:w=[40]
   ·left;rw [e];rfl
   ·exact .inr e
  ·rw [ht];rfl
theorem ypv (ws:List (List UInt8)):∀ (p:List UInt8) (a:Nat) (acc:List Tk),(∀ w ∈ ws,okW w)→∃ M,ya7 a (yeF p ws) acc=(acc++M,0,0)∧TL M=ws.flatMap ybS:=by
 induction ws with
 | nil=>intro p a acc _;exact ⟨[],by simp [yeF,yhD],rfl⟩
 | cons w ws ih =>
  intro p a acc h
  have go:∀ a:Nat,∃ M,ya7 a (w++yeF w ws) acc=(acc++M,0,0)∧TL M=(w::ws).flatMap ybS:=by
   intro a
   obtain ⟨M1,b,h1,h2⟩:=ynh w (h w (List.mem_cons_self ..)) ws a acc
   obtain ⟨M2,h3,h4⟩:=ih w b (acc++M1) fun v hv=>h v (List.mem_cons_of_mem _ hv)
   refine ⟨M1++M2,by rw [h1,h3];simp, ?_⟩
   rw [List.flatMap_cons,← h2,← h4]
   simp [TL]
  rw [yeF,yk2]
  split
  ·obtain ⟨M,h1,h2⟩:=go (a+1)
   exact ⟨M,by rw [List.cons_append,List.nil_append,ydq _ _ _ _ (by decide)];exact h1,h2⟩
  ·exact go a
theorem yng (ws:List (List UInt8)) (h:∀ w ∈ ws,okW w) (hl:(yaz ws).length≤2000):∃ M,yaH (yaz ws)=(M,0,0)∧TL M=ws.flatMap ybS:=by
 unfold yaH
 rw [if_neg (by omega)]
 cases ws with
 | nil=>exact ⟨[],rfl,rfl⟩
 | cons w ws =>
  obtain ⟨M,h1,h2⟩:=ypv (w::ws) [40] 0 [] h
  refine ⟨M, ?_,h2⟩
  rw [yeF,yk2,if_neg (fun hh=>hh.1 rfl)] at h1
  rw [yaz];simpa using h1
theorem Tryz.lies82:liesAt Tryz.prog Tryz.prog.depth 82 (3 / Tryz.prog.cellsOf 82) 0 71 1=true:=by kernel_rfl
def PrAt (B b:Nat) (p:Value) (bs:List Value) (lt:List UInt8) (w:World):Prop :=
 B≤b∧∃ v,w.heap[b]?=some (.cells #[p,v,.string ⟨lt.toArray⟩] 82 (0,0))∧w.ownsRow B 5 1 v bs.length bs∧v.ownBlock≠some b
def IsPr (B b:Nat) (bs:List Value) (lt:List UInt8) (w:World):Prop:=PrAt B b (.pointer none) bs lt w∨PrAt B b (.pointer (some ⟨b,0,none⟩)) bs lt w
theorem PrAt.cell0 {B b:Nat} {p:Value} {bs:List Value} {lt:List UInt8} {w:World} (h:PrAt B b p bs lt w):w.cell? ⟨b,0,none⟩=some p:=by
 obtain ⟨_,v,hb,_⟩:=h
 simp [World.cell?,hb]
theorem PrAt.shape {B b:Nat} {p:Value} {bs:List Value} {lt:List UInt8} {w:World} (h:PrAt B b p bs lt w):w.shape? b=some (82,3):=by
 obtain ⟨_,v,hb,_⟩:=h
 simp [World.shape?,hb]
theorem PrAt.lt {B b:Nat} {p:Value} {bs:List Value} {lt:List UInt8} {w:World} (h:PrAt B b p bs lt w):b < w.heap.size:=by
 obtain ⟨_,v,hb,_⟩:=h
 exact (ltS hb)
theorem PrAt.frozen0 {B b:Nat} {p:Value} {bs:List Value} {lt:List UInt8} {w:World} (h:PrAt B b p bs lt w):w.frozen? ⟨b,0,none⟩=false:=by
 obtain ⟨_,v,hb,_⟩:=h
 simp [World.frozen?,hb]
theorem PrAt.used {B b:Nat} {p:Value} {bs:List Value} {lt:List UInt8} {w:World} (h:PrAt B b p bs lt w) (q:Value):PrAt B b q bs lt (w.setCell ⟨b,0,none⟩ q):=by
 obtain ⟨hB,v,hb,hown,hne⟩:=h
 refine ⟨hB,v, ?_, ?_,hne⟩
 ·simp [World.setCell,Array.getElem?_modify,hb]
 ·exact hown.kept (row:=some b) ⟨rfl,rfl,rfl,by simp [World.setCell],fun k _ hk=>Below.heap_setCell _ _ _ _ (fun e=>hk (by simp [e]))⟩ (Or.inr hne)
theorem PrAt.put {B b:Nat} {p v v':Value} {bs':List Value} {lt:List UInt8} {w:World} (hB:B≤b) (hb:w.heap[b]?=some (.cells #[p,v,.string ⟨lt.toArray⟩] 82 (0,0))) (hown:w.ownsRow B 5 1 v' bs'.length bs'):PrAt B b p bs' lt (w.setCell ⟨b,1,none⟩ v'):=by
 have hne:v'.ownBlock≠some b:=by
  intro e
  obtain ⟨c,fz,hc⟩:=ycK hown b e
  rw [hb] at hc
  cases hc
 refine ⟨hB,v', ?_, ?_,hne⟩
 ·simp [World.setCell,Array.getElem?_modify,hb]
 ·exact hown.kept (row:=some b) ⟨rfl,rfl,rfl,by simp [World.setCell],fun k _ hk=>Below.heap_setCell _ _ _ _ (fun e=>hk (by simp [e]))⟩ (Or.inr hne)
theorem PrAt.last {B b:Nat} {p:Value} {bs:List Value} {lt:List UInt8} {w:World} (h:PrAt B b p bs lt w) (l':List UInt8):PrAt B b p bs l' (w.setCell ⟨b,2,none⟩ (.string ⟨l'.toArray⟩)):=by
 obtain ⟨hB,v,hb,hown,hne⟩:=h
 refine ⟨hB,v, ?_, ?_,hne⟩
 ·simp [World.setCell,Array.getElem?_modify,hb]
 ·exact hown.kept (row:=some b) ⟨rfl,rfl,rfl,by simp [World.setCell],fun k _ hk=>Below.heap_setCell _ _ _ _ (fun e=>hk (by simp [e]))⟩ (Or.inr hne)
theorem yeC (b:Nat) (w:World) (h0:w.cell? ⟨b,0,none⟩=some (.pointer none)) (hsh:w.shape? b=some (82,3)) (hfz:w.frozen? ⟨b,0,none⟩=false) :
  Calls Tryz.prog 93 #[.pointer (some ⟨b,0,none⟩)] w fun e w'=>e=.returned (.tuple #[])∧w'=w.setCell ⟨b,0,none⟩ (.pointer (some ⟨b,0,none⟩)):=by
 obtain ⟨j,hj,hjs⟩:=Option.map_eq_some_iff.1 Tryz.sizeB45
 go_enter Tryz.func93,Tryz.ntmps93
 go_wp2
 rw [Lib.run_to_unsafe w ⟨b,0,none⟩ Tryz.underlying68 Tryz.underlying132 hj (by rw [hjs];decide) hsh (Nat.zero_lt_succ 2)]
 simp only [Result.andThen]
 rw [Oper.upon_value]
 go_wp2
 rw [run_callFunc_extern Tryz.func133 (by kernel_rfl) (by kernel_rfl) (by kernel_rfl) (e:=Extern.AbiNoEscape.same) (by kernel_rfl)]
 rw [Lib.run_noEscape]
 simp only [Result.andThen]
 rw [Oper.upon_value]
 go_wp2
 rw [Lib.run_from_unsafe w ⟨b,0,none⟩ Tryz.underlying132 Tryz.underlying68 hj hsh Tryz.lies82]
 simp only [Result.andThen]
 rw [Oper.upon_value]
 go_wp2
 go_end0
 exact ⟨rfl,rfl⟩
theorem yfh (B b:Nat) (bs:List Value) (lt:List UInt8) (w:World) (h:IsPr B b bs lt w) :
  Calls Tryz.prog 93 #[.pointer (some ⟨b,0,none⟩)] w fun e w'=>e=.returned (.tuple #[])∧PrAt B b (.pointer (some ⟨b,0,none⟩)) bs lt w'∧Below B w w'∧Lib.OthersKept 5 (some b) w w':=by
 rcases h with h|h
 ·refine (yeC b w h.cell0 h.shape h.frozen0).mono ?_
  rintro e w' ⟨rfl,rfl⟩
  exact ⟨rfl,h.used _,(Below.refl B w).setCell (p:=⟨b,0,none⟩) h.1 _,(Lib.OthersKept.refl 5 (some b) w).setCell ⟨b,0,none⟩ rfl _⟩
 ·refine (ydZ b w h.cell0).mono ?_
  rintro e w' ⟨rfl,rfl⟩
  exact ⟨rfl,h,Below.refl B _,Lib.OthersKept.refl 5 (some b) _⟩
theorem yi3 (B b:Nat) (bs:List Value) (c:Int) (lt:List UInt8) (w:World) (h:IsPr B b bs lt w) (hlen:bs.length+1≤140737488355328) (hBw:B≤w.heap.size) :
  Calls Tryz.prog 42 #[.pointer (some ⟨b,0,none⟩),.int .u8 c] w fun e w'=>e=.returned .nilIface∧PrAt B b (.pointer (some ⟨b,0,none⟩)) (bs++[.int .u8 c]) lt w'∧Below B w w'∧Lib.OthersKept 5 (some b) w w':=by
 obtain ⟨i0,hi,hz0,hz1,hz2⟩:=info_parts Tryz.infoB5
 go_enter Tryz.func42,Tryz.ntmps42
 go_wp2_with (go_at_call 93;refine (yfh B b bs lt _ h).mono ?_)
 rintro e w1 ⟨rfl,h1,hb1,ho1⟩
 obtain ⟨hB,v,hbk,hown,hne⟩:=h1
 have c0:w1.cell? ⟨b,0,none⟩=some (.pointer (some ⟨b,0,none⟩)):=by rw [Lib.cell_of_heap hbk];rfl
 have c1:w1.cell? ⟨b,1,none⟩=some v:=by rw [Lib.cell_of_heap hbk];rfl
 go_wp2_with (at_builtin;refine wpList_append_own _ rfl _ _ 69 rfl B 5 i0 (.int .u8 0) 1 1 Tryz.underlying69 hi hz0 hz1 hz2 rfl (by decide) _ _ _ rfl (hown.alloc _) ⟨w1.heap.size,0,none⟩ 1 1 [.int .u8 c] rfl rfl ?c1 ?c2 ?c3 ?c4 ?c5 ?_)
 case c1 =>
  intro j u hj
  match j,hj with
  | 0,hj=>simp at hj;subst hj;simp [Addr.add]
 case c2=>intro u hu;simp at hu;subst hu;rfl
 case c3=>unfold maxLen;omega
 case c4=>omega
 case c5=>have:=hb1.size;simp;omega
 intro v' w2 hown' hgrow _
 have hlt:b < w1.heap.size:=by
  rcases Nat.lt_or_ge b w1.heap.size with h'|h'
  ·exact h'
  ·simp [Array.getElem?_eq_none h'] at hbk
 have hb2:w2.heap[b]?=some (.cells #[.pointer (some ⟨b,0,none⟩),v,.string ⟨lt.toArray⟩] 82 (0,0)):=by
  rw [hgrow.block b (by simp;omega) (fun e=>hne e.symm),Lib.alloc_old w1 _ b hlt]
  exact hbk
 have d0:w2.cell? ⟨b,0,none⟩=some (.pointer (some ⟨b,0,none⟩)):=by rw [Lib.cell_of_heap hb2];rfl
 have d1:w2.cell? ⟨b,1,none⟩=some v:=by rw [Lib.cell_of_heap hb2];rfl
 have f1:w2.frozen? ⟨b,1,none⟩=false:=Lib.frozen_of_heap hb2 1
 obtain ⟨g,cap,rfl⟩:∃ g cap,v'=.slice (some ⟨g,0,none⟩) (bs.length+1) cap:=by
  rcases hown'.2 with ⟨_,h0⟩|⟨g,cap,cur,hv,_⟩
  ·omega
  ·exact ⟨g,cap,hv⟩
 go_wp2
 go_ret
 refine ⟨rfl, ?_, ?_, ?_⟩
 ·exact PrAt.put hB hb2 (bs':=bs++[.int .u8 c]) (by simpa using hown')
 ·exact ((hb1.alloc (by have:=hb1.size;omega) _).grown hgrow (by have:=hb1.size;simp;omega) (fun k hk=>(hown.lt k hk).1)).setCell (p:=⟨b,1,none⟩) hB _
 ·exact ((ho1.alloc _).grown hgrow (ycK (hown.alloc _))).setCell ⟨b,1,none⟩ rfl _
theorem yeA (B b:Nat) (bs:List Value) (s:ByteArray) (lt:List UInt8) (w:World) (h:IsPr B b bs lt w) (hlen:bs.length+s.size≤140737488355328) (hBw:B≤w.heap.size) :
  Calls Tryz.prog 43 #[.pointer (some ⟨b,0,none⟩),.string s] w fun e w'=>e=.returned (.tuple #[.int .i64 s.size,.nilIface])∧PrAt B b (.pointer (some ⟨b,0,none⟩)) (bs++Lib.strCells s) lt w'∧Below B w w'∧Lib.OthersKept 5 (some b) w w':=by
 obtain ⟨i0,hi,hz0,hz1,hz2⟩:=info_parts Tryz.infoB5
 go_enter Tryz.func43,Tryz.ntmps43
 go_wp2_with (go_at_call 93;refine (yfh B b bs lt _ h).mono ?_)
 rintro e w1 ⟨rfl,h1,hb1,ho1⟩
 obtain ⟨hB,v,hbk,hown,hne⟩:=h1
 have c0:w1.cell? ⟨b,0,none⟩=some (.pointer (some ⟨b,0,none⟩)):=by rw [Lib.cell_of_heap hbk];rfl
 have c1:w1.cell? ⟨b,1,none⟩=some v:=by rw [Lib.cell_of_heap hbk];rfl
 go_wp2_with (at_builtin;refine Lib.wpList_append_own_string _ rfl _ _ 69 9 rfl B 5 i0 Tryz.underlying69 Tryz.underlying9 hi hz0 hz1 hz2 _ _ _ rfl hown s rfl ?c3 ?c4 ?c5 ?_)
 case c3=>unfold maxLen;omega
 case c4=>omega
 case c5=>have:=hb1.size;omega
 intro v' w2 hown' hgrow _
 have hlt:b < w1.heap.size:=by
  rcases Nat.lt_or_ge b w1.heap.size with h'|h'
  ·exact h'
  ·simp [Array.getElem?_eq_none h'] at hbk
 have hb2:w2.heap[b]?=some (.cells #[.pointer (some ⟨b,0,none⟩),v,.string ⟨lt.toArray⟩] 82 (0,0)):=by
  rw [hgrow.block b hlt (fun e=>hne e.symm)]
  exact hbk
 have d0:w2.cell? ⟨b,0,none⟩=some (.pointer (some ⟨b,0,none⟩)):=by rw [Lib.cell_of_heap hb2];rfl
 have d1:w2.cell? ⟨b,1,none⟩=some v:=by rw [Lib.cell_of_heap hb2];rfl
 have f1:w2.frozen? ⟨b,1,none⟩=false:=Lib.frozen_of_heap hb2 1
 obtain ⟨ao,n',cap,rfl⟩:∃ ao n' cap,v'=.slice ao n' cap:=by
  rcases hown'.2 with ⟨hv,_⟩|⟨g,cap,cur,hv,_⟩
  ·exact ⟨_,_,_,hv⟩
  ·exact ⟨_,_,_,hv⟩
 go_wp2
 go_ret2
 refine ⟨rfl, ?_, ?_, ?_⟩
 ·exact PrAt.put hB hb2 (bs':=bs++Lib.strCells s) (by simpa [Lib.strCells_length] using hown')
 ·exact (hb1.grown hgrow (by have:=hb1.size;omega) (fun k hk=>(hown.lt k hk).1)).setCell (p:=⟨b,1,none⟩) hB _
 ·exact (ho1.grown hgrow (ycK hown)).setCell ⟨b,1,none⟩ rfl _
theorem yug (B b:Nat) (bs:List Value) (lt:List UInt8) (w:World) (h:IsPr B b bs lt w):Calls Tryz.prog 44 #[.pointer (some ⟨b,0,none⟩)] w fun e w'=>e=.returned (.int .i64 (bs.length:Nat))∧w'=w:=by
 obtain ⟨v,hb,ho⟩:∃ v,w.cell? ⟨b,1,none⟩=some v∧w.ownsRow B 5 1 v bs.length bs:=by
  rcases h with ⟨_,v,hb,ho,_⟩|⟨_,v,hb,ho,_⟩
  ·exact ⟨v,by rw [Lib.cell_of_heap hb];rfl,ho⟩
  ·exact ⟨v,by rw [Lib.cell_of_heap hb];rfl,ho⟩
 obtain ⟨ao,cap,rfl⟩:=ybV ho
 clear ho h
 go_enter Tryz.func44,Tryz.ntmps44
 go_wp2
 go_ret
 exact ⟨rfl,rfl⟩
structure PrW (B b:Nat) (ws:List (List UInt8)) (w:World):Prop where
 is:IsPr B b (Lib.byteCells (yaz ws)) (yef [] ws) w
 ne:∀ x ∈ ws,x≠[]
theorem IsPr.keep {B b:Nat} {bs:List Value} {lt:List UInt8} {w w':World} (h:IsPr B b bs lt w) (hb:Below w.heap.size w w'):IsPr B b bs lt w':=by
 have one:∀ p,PrAt B b p bs lt w→PrAt B b p bs lt w':=by
  rintro p ⟨hB,v,hk,ho,hne⟩
  exact ⟨hB,v,(hb.block b (ltS hk)).trans hk,ycz ho hb,hne⟩
 rcases h with h|h
 ·exact .inl (one _ h)
 ·exact .inr (one _ h)
theorem ynp {ws:List (List UInt8)} (h:ws≠[]) (hne:∀ x ∈ ws,x≠[]):0 < (yaz ws).length:=by
 cases ws with
 | nil=>exact absurd rfl h
 | cons v vs =>
  have:=hne v List.mem_cons_self
  rw [yaz,List.length_append]
  have:0 < v.length:=List.length_pos_iff.2 this
  omega
theorem yaM (ws ts:List (List UInt8)):(yaz ws).length≤(yaz (ws++ts)).length:=by
 cases ws with
 | nil=>simp [yaz]
 | cons v vs=>rw [List.cons_append,yaz,yaz,yfq];simp
theorem byteCells_length (l:List UInt8):(Lib.byteCells l).length=l.length:=by simp [Lib.byteCells]
theorem yd9 (l m:List UInt8):Lib.byteCells (l++m)=Lib.byteCells l++Lib.byteCells m:=by simp [Lib.byteCells]
theorem IsPr.cells {B b:Nat} {bs:List Value} {lt:List UInt8} {w:World} (h:IsPr B b bs lt w):w.cell? ⟨b,2,none⟩=some (.string ⟨lt.toArray⟩)∧w.frozen? ⟨b,2,none⟩=false:=by
 rcases h with ⟨_,v,hk,_⟩|⟨_,v,hk,_⟩
 ·exact ⟨by rw [Lib.cell_of_heap hk];rfl,Lib.frozen_of_heap hk 2⟩
 ·exact ⟨by rw [Lib.cell_of_heap hk];rfl,Lib.frozen_of_heap hk 2⟩
theorem IsPr.last {B b:Nat} {bs:List Value} {lt:List UInt8} {w:World} (h:IsPr B b bs lt w) (l':List UInt8):IsPr B b bs l' (w.setCell ⟨b,2,none⟩ (.string ⟨l'.toArray⟩)):=by
 rcases h with h|h
 ·exact .inl (h.last l')
 ·exact .inr (h.last l')
theorem IsPr.le {B b:Nat} {bs:List Value} {lt:List UInt8} {w:World} (h:IsPr B b bs lt w):B≤b:=by
 rcases h with h|h
 ·exact h.1
 ·exact h.1
def ynj (ws:List (List UInt8)) (t:List UInt8):List UInt8:=if ws=[] then [] else yk2 (yef [] ws) t
theorem yno (ws:List (List UInt8)) (t:List UInt8):yaz (ws++[t])=yaz ws++(ynj ws t++t):=by
 unfold ynj
 by_cases h:ws=[]
 ·subst h;simp [yaz,yeF]
 ·rw [if_neg h,ykL ws t h]
theorem ymS (B b g:Nat) (ws ts:List (List UInt8)) (n cap:Nat) (cs:Array Value) (fz:Nat×Nat) (w:World) (h:PrW B b ws w) (hBw:B≤w.heap.size) (hk:w.heap[g]?=some (.cells cs 9 fz)) (hgb:g≠b) (hg:∀ (i:Nat) (x:List UInt8),ts[i]?=some x→cs[i]?=some (Value.string ⟨x.toArray⟩)) (hn:ts.length=n) (hne:∀ x ∈ ts,x≠[]) (hlen:(yaz (ws++ts)).length≤1000000) (hsm:n≤1000000) :
  Calls Tryz.prog 94 #[.pointer (some ⟨b,0,none⟩),.slice (some ⟨g,0,none⟩) n cap] w fun e w'=>e=.returned (.tuple #[])∧PrW B b (ws++ts) w'∧Below B w w'∧Lib.OthersKept 5 (some b) w w':=by
 have H0:=yae h
 have HK:=yae hk
 have HG:=yae hg
 have HNE:=yae hne
 have HLEN:=yae hlen
 clear h hk hg hne hlen
 go_enter Tryz.func94,Tryz.ntmps94
 go_wp2
 go_loopw [5,8] (fun _ i wl=>∃ k:Nat,k≤n∧i=.int .i64 (k:Int)∧Hid (PrW B b (ws++ts.take k) wl)∧Hid (Below B w wl)∧Hid (Lib.OthersKept 5 (some b) w wl)) (fun _ i _=>n - (intOf i).toNat)
 case atStart=>exact ⟨0,Nat.zero_le _,rfl,by simpa using H0,Below.refl _ _,Lib.OthersKept.refl _ _ _⟩
 case round =>
  obtain ⟨k,hk,rfl,R,HB,HO⟩:=hrel
  by_cases hlt:k < n
  ·obtain ⟨t,ht⟩:∃ t,ts[k]?=some t:=⟨ts[k]'(by omega),List.getElem?_eq_getElem (by omega)⟩
   have hlt':(k:Int) < (n:Int):=by omega
   have kg:wr.heap[g]?=some (.cells cs 9 fz):=HO.out g _ HK.out (by simpa using hgb) (by intro c f e;cases e)
   have cg:wr.cell? ⟨g,k,none⟩=some (.string ⟨t.toArray⟩):=by rw [Lib.cell_of_heap kg];exact HG.out k t ht
   have HT:=yae ht
   have hts:ts.take (k+1)=ts.take k++[t]:=by rw [List.take_add_one,ht];rfl
   have HW:=yae (yno (ws++ts.take k) t)
   have hle:(yaz (ws++ts.take (k+1))).length≤1000000:=by
    refine Nat.le_trans ?_ HLEN.out
    have:=yaM (ws++ts.take (k+1)) (ts.drop (k+1))
    rwa [List.append_assoc,List.take_append_drop] at this
   rw [hts,← List.append_assoc,HW.out] at hle
   have hB1:B≤wr.heap.size:=Nat.le_trans hBw HB.out.size
   obtain ⟨c2,f2⟩:=R.out.is.cells
   have hll:=byteCells_length (yaz (ws++ts.take k))
   have HS:=yae hts
   have HLE:=yae hle
   clear hts hle ht kg
   have RI:=yae R.out.is
   have RN:=yae R.out.ne
   have step:∀ (wz:World) (bs:List Value),IsPr B b (bs++Lib.strCells ⟨t.toArray⟩) (yef [] (ws++ts.take k)) wz→bs++Lib.byteCells t=Lib.byteCells (yaz (ws++ts.take k)++(ynj (ws++ts.take k) t++t))→PrW B b (ws++ts.take (k+1)) (wz.setCell ⟨b,2,none⟩ (.string ⟨t.toArray⟩)):=by
    intro wz bs hp hbs
    refine ⟨?_, ?_⟩
    ·have e1:yef [] (ws++ts.take (k+1))=t:=by rw [HS.out,← List.append_assoc,yhh];rfl
     rw [e1,HS.out,← List.append_assoc,HW.out,← hbs]
     exact hp.last t
    ·intro x hx
     rw [HS.out,← List.append_assoc] at hx
     rcases List.mem_append.1 hx with hx|hx
     ·exact RN.out x hx
     ·rw [List.mem_singleton] at hx
      rw [hx]
      exact HNE.out t (List.mem_of_getElem? HT.out)
   have STEP:=yae step
   clear step R
   have sp:∀ x:List UInt8,(ynj (ws++ts.take k) t=x)→x=[]→Lib.byteCells (yaz (ws++ts.take k))++Lib.byteCells t=Lib.byteCells (yaz (ws++ts.take k)++(ynj (ws++ts.take k) t++t)):=by
    intro x h1 h2
    rw [h1,h2,List.nil_append,yd9]
   have SP:=yae sp
   clear sp
   have hlw:(Lib.byteCells (yaz (ws++ts.take k))).length+(⟨t.toArray⟩:ByteArray).size≤140737488355328:=by
    have:=HLE.out
    rw [List.length_append,List.length_append] at this
    rw [hll,yaN];omega
   have hl1:(Lib.byteCells (yaz (ws++ts.take k))).length+1+(⟨t.toArray⟩:ByteArray).size≤140737488355328:=by
    have:=HLE.out
    rw [List.length_append,List.length_append] at this
    rw [hll,yaN];omega
   have HW1:=yae hlw
   have HW2:=yae hl1
   clear hlw hl1
   go_wp2_with fail
   refine (yug B b _ _ _ RI.out).mono ?_
   rintro e w' ⟨rfl,hw'⟩
   obtain rfl:=hw'.symm
   clear hw'
   rw [hll]
   have HLL:=yae hll
   clear hll
   by_cases e0:ws++ts.take k=[]
   case' pos =>
    have hz:((yaz (ws++ts.take k)).length:Int)=0:=by rw [e0];rfl
    rw [hz]
    have hbs:=SP.out [] (by rw [ynj,if_pos e0]) rfl
    clear hz e0
    go_wp2_with fail
   case' neg =>
    have hpos:(0:Int) < ((yaz (ws++ts.take k)).length:Int):=by have:=ynp e0 RN.out;omega
    by_cases e1:yef [] (ws++ts.take k)=[40]
    case' pos =>
     rw [e1] at c2
     have hbs:=SP.out [] (by rw [ynj,if_neg e0,yk2,if_neg (by simp [e1])]) rfl
     clear e0 e1
     go_wp2_with fail
    case' neg =>
     have q1:(yef [] (ws++ts.take k) == [40])=false:=by simpa using e1
     by_cases e2:t=[41]
     case' pos =>
      have hbs:=SP.out [] (by rw [ynj,if_neg e0,yk2,if_neg (by simp [e2])]) rfl
      have q2:(t == [41])=true:=by simpa using e2
      clear e0 e1 e2
      go_wp2_with fail
     case' neg =>
      have q2:(t == [41])=false:=by simpa using e2
      by_cases e3:t=[44]
      case' pos =>
       have hbs:=SP.out [] (by rw [ynj,if_neg e0,yk2,if_neg (by simp [e3])]) rfl
       have q3:(t == [44])=true:=by simpa using e3
       clear e0 e1 e2 e3
       go_wp2_with fail
      case' neg =>
       have q3:(t == [44])=false:=by simpa using e3
       have hsep:ynj (ws++ts.take k) t=[32]:=by rw [ynj,if_neg e0,yk2,if_pos ⟨e1,e2,e3⟩]
       have HSEP:=yae hsep
       clear hsep e0 e1 e2 e3
       go_wp2_with fail
       refine (yi3 B b _ 32 _ _ RI.out (by have:=HW2.out;omega) hB1).mono ?_
       rintro e w1 ⟨rfl,p1,b1,o1⟩
       have P1:=yae p1
       have hB2:B≤w1.heap.size:=Nat.le_trans hB1 b1.size
       have HB1:=yae (HB.out.trans b1)
       have HO1:=yae (HO.out.trans o1)
       clear p1 b1 o1
       go_wp2_with fail
       refine (yeA B b _ ⟨t.toArray⟩ _ _ (.inr P1.out) (by have:=HW2.out;rw [List.length_append];exact this) hB2).mono ?_
       rintro e w2 ⟨rfl,p2,b2,o2⟩
       obtain ⟨d2,g2⟩:=IsPr.cells (Or.inr p2)
       have P2:=yae p2
       have HB2:=yae (HB1.out.trans b2)
       have HO2:=yae (HO1.out.trans o2)
       clear p2 b2 o2
       go_wp2
       go_roundw
       case rel=>exact ⟨k+1,by omega,by go_num,STEP.out _ _ (.inr P2.out) (by rw [HSEP.out,yd9,List.append_assoc];rfl),HB2.out.setCell (p:=⟨b,2,none⟩) RI.out.le _,HO2.out.setCell ⟨b,2,none⟩ rfl _⟩
       case measure=>simp [intOf];omega
   all_goals
    refine (yeA B b _ ⟨t.toArray⟩ _ _ RI.out HW1.out hB1).mono ?_
    rintro e w2 ⟨rfl,p2,b2,o2⟩
    obtain ⟨d2,g2⟩:=IsPr.cells (Or.inr p2)
    have P2:=yae p2
    have HB2:=yae (HB.out.trans b2)
    have HO2:=yae (HO.out.trans o2)
    have HBS:=yae hbs
    clear p2 b2 o2 hbs
    go_wp2
    go_roundw
    case rel=>exact ⟨k+1,by omega,by go_num,STEP.out _ _ (.inr P2.out) HBS.out,HB2.out.setCell (p:=⟨b,2,none⟩) RI.out.le _,HO2.out.setCell ⟨b,2,none⟩ rfl _⟩
    case measure=>simp [intOf];omega
  ·have hlt':¬ ((k:Int) < (n:Int)):=by omega
   go_wp2
   go_end0
   refine ⟨rfl, ?_,HB.out,HO.out⟩
   have e:ts.take k=ts:=List.take_of_length_le (by omega)
   rw [← e];exact R.out
def ybc (v:Vl):List UInt8 :=
 if v.k=1 then Lib.itoa v.n else if v.k=2 then 39::(v.s++[39]) else if v.k=3 then (if v.n=1 then yb9 else ybH) else w_null
mutual
def yat:Ex→List (List UInt8)
 | .mk k v nm args =>
  if k=1 then [ybc v] else if k=2 then [nm]
  else if k=3 then w_not::(ydc args).getD 0 []
  else if k=4 then [40]::((ydc args).getD 0 []++[w_is,w_null,[41]])
  else [40]::((ydc args).getD 0 []++atL ya0 k::((ydc args).getD 1 []++[[41]]))
def ydc:List Ex→List (List (List UInt8))
 | []=>[]
 | x::xs=>yat x::ydc xs
end
def yaq {α:Type} (f:α→List (List UInt8)):List α→List (List UInt8)
 | []=>[]
 | [x]=>f x
 | x::y::r=>f x++[44]::yaq f (y::r)
def ya8 (c:Cl):List (List UInt8):=[c.name,atL yaI c.ty]
def yar (c:Cm):List (List UInt8):=if c.all=true then [] else w_where::yat c.wh
def ysW (c:Cm):List (List UInt8):=if c.order=[] then [] else [w_order,w_by,c.order]
def ysT (c:Cm):List (List UInt8):=if c.limit < 0 then [] else [w_limit,Lib.itoa c.limit]
def yqu (c:Cm):List (List UInt8):=if c.fields=[] then [[42]] else yaq (fun s=>[s]) c.fields
def yaP (c:Cm):List (List UInt8) :=
 if c.kind=1 then [w_create,w_table,c.name,[40]]++(yaq ya8 c.cols++[[41]])
 else if c.kind=2 then [w_drop,w_table,c.name]
 else if c.kind=3 then [w_alter,w_table,c.name,w_add,c.column,atL yaI c.ty,w_default,ybc c.val]
 else if c.kind=4 then [w_alter,w_table,c.name,w_drop,c.column]
 else if c.kind=5 then [w_alter,w_table,c.name,w_rename,c.column,w_to,c.other]
 else if c.kind=6 then [w_alter,w_table,c.name,w_retype,c.column,atL yaI c.ty]
 else if c.kind=7 then [w_alter,w_table,c.name,w_rename,w_to,c.other]
 else if c.kind=8 then [w_create,w_index,c.name,w_on,c.other,[40],c.column,[41]]
 else if c.kind=9 then [w_drop,w_index,c.name]
 else if c.kind=10 then [w_insert,w_into,c.name,w_values,[40]]++(yaq (fun v=>[ybc v]) c.vals++[[41]])
 else if c.kind=11 then [w_delete,w_from,c.name]++yar c
 else if c.kind=12 then [w_update,c.name,w_set,c.column,[61]]++(yat c.expr++yar c)
 else if c.kind=13 then w_select::(yqu c++([w_from,c.name]++(yar c++(ysW c++ysT c))))
 else if c.kind=14 then [w_begin] else if c.kind=15 then [w_commit] else [w_rollback]
def yeu (c:Cm):List UInt8:=yaz (yaP c)
def okB (w:List UInt8):Bool:=(ybS w).all fun p=>ybv p.2 p.1
theorem yc7 {w:List UInt8} (h:okB w=true):okW w:=fun p hp=>List.all_eq_true.1 h p hp
theorem ye4 {s:List UInt8} (h:yap s=true):ybv 1 s=true:=by
 unfold yap at h
 rw [Bool.and_eq_true] at h
 rw [← ydC];exact h.1
theorem yei {s:List UInt8} (h:yap s=true):ybS s=[(s,1)]:=by
 have ht:=ye4 h
 simp only [ybv,decide_eq_true_eq] at ht
 have hm:¬ ∃ c r,s=45::c::r:=by
  rintro ⟨c,r,rfl⟩
  have:=ht.2.2.1
  rw [yba,if_neg (by decide),if_neg (by decide),if_neg (by decide),if_neg (by rw [ycZ];simp),if_pos (by decide)] at this
  simp at this
 unfold ybS
 split
 ·rename_i c r
  exact absurd ⟨c,r,rfl⟩ hm
 ·rw [ht.2.2.1]
theorem ybo {s:List UInt8} (h:yap s=true):okW s:=by
 intro p hp
 rw [yei h] at hp
 rw [List.mem_singleton] at hp
 rw [hp];exact ye4 h
theorem yeD (u:Nat):∀ c ∈ Lib.decDigits u,isD c=true:=by
 induction u using Nat.strongRecOn with
 | _ u ih =>
  intro c hc
  have hone:∀ v,v < 10→isD (UInt8.ofNat (48+v))=true:=by
   intro v hv
   have:(UInt8.ofNat (48+v)).toNat=48+v:=by rw [UInt8.toNat_ofNat',Nat.mod_eq_of_lt (by omega)]
   simp only [isD,this,Bool.and_eq_true,decide_eq_true_eq];omega
  rw [Lib.decDigits] at hc
  split at hc
  ·rename_i h
   simp only [List.mem_singleton] at hc
   rw [hc];exact hone _ h
  ·rcases List.mem_append.1 hc with h|h
   ·exact ih (u / 10) (by omega) c h
   ·simp only [List.mem_singleton] at h
    rw [h];exact hone _ (Nat.mod_lt _ (by decide))
theorem ydz (u:Nat):Lib.decDigits u≠[]:=by
 rw [Lib.decDigits]
 split <;> simp
theorem yd3 (u:Nat):yfO (Lib.decDigits u)=u:=by
 induction u using Nat.strongRecOn with
 | _ u ih =>
  have hone:∀ v,v < 10→(UInt8.ofNat (48+v)).toNat - 48=v:=by
   intro v hv
   have:(UInt8.ofNat (48+v)).toNat=48+v:=by rw [UInt8.toNat_ofNat',Nat.mod_eq_of_lt (by omega)]
   omega
  rw [Lib.decDigits]
  split
  ·rename_i h
   simp only [yfO,List.foldl_cons,List.foldl_nil]
   rw [hone u h];omega
  ·have:=ih (u / 10) (by omega)
   unfold yfO at this ⊢
   rw [List.foldl_append,this]
   simp only [List.foldl_cons,List.foldl_nil]
   rw [hone _ (Nat.mod_lt _ (by decide))];omega
theorem yjM (u:Nat):∀ k,u < 10 ^ (k+1)→(Lib.decDigits u).length≤k+1:=by
 intro k
 induction k generalizing u with
 | zero=>intro h;rw [Lib.decDigits,dif_pos (by simpa using h)];simp
 | succ k ih =>
  intro h
  rw [Lib.decDigits]
  split
  ·simp
  ·have:=ih (u / 10) (by rw [Nat.pow_succ] at h;exact Nat.div_lt_of_lt_mul (by omega))
   simp;omega
theorem yh8 (u:Nat) (h:1 < (Lib.decDigits u).length):(Lib.decDigits u).head?≠some 48:=by
 induction u using Nat.strongRecOn with
 | _ u ih =>
  rw [Lib.decDigits] at h ⊢
  split
  ·rename_i hu;rw [dif_pos hu] at h;simp at h
  ·rename_i hu
   have hne:=ydz (u / 10)
   have hap:∀ l x:List UInt8,l≠[]→(l++x).head?=l.head?:=by
    intro l x hl
    cases l with
    | nil=>exact absurd rfl hl
    | cons _ _=>rfl
   rw [hap _ _ hne]
   by_cases h1:1 < (Lib.decDigits (u / 10)).length
   ·exact ih (u / 10) (by omega) h1
   ·by_cases h10:u / 10 < 10
    ·rw [Lib.decDigits,dif_pos h10]
     simp only [List.head?_cons,ne_eq,Option.some.injEq]
     intro e
     have:=congrArg UInt8.toNat e
     rw [UInt8.toNat_ofNat',Nat.mod_eq_of_lt (by omega)] at this
     simp at this;omega
    ·exfalso
     rw [Lib.decDigits,dif_neg h10] at h1
     have:=List.length_pos_iff.2 (ydz (u / 10 / 10))
     simp only [List.length_append,List.length_cons,List.length_nil] at h1;omega
theorem yrw (p:UInt8→Bool) (l:List UInt8) (h:∀ c ∈ l,p c=true):ycN p l=l.length:=by
 induction l with
 | nil=>rfl
 | cons c r ih=>rw [yby,if_pos (h c (List.mem_cons_self ..)),ih fun c hc=>h c (List.mem_cons_of_mem _ hc)];rfl
theorem yoN {c:UInt8} (h:isD c=true):isL c=false:=by
 simp only [isL,isD,Bool.and_eq_true,decide_eq_true_eq] at *
 rw [Bool.and_eq_false_iff,decide_eq_false_iff_not,decide_eq_false_iff_not];omega
theorem ydg (u:Nat) (h:u≤999999999):ybv 2 (Lib.decDigits u)=true:=by
 have h1:=yeD u
 have h2:=ydz u
 have h3:=yjM u 8 (by omega)
 have h4:=yh8 u
 generalize Lib.decDigits u=l at *
 cases l with
 | nil=>exact absurd rfl h2
 | cons c r =>
  have hc:=h1 c (List.mem_cons_self ..)
  have hr:=yrw isD r fun c hc=>h1 c (List.mem_cons_of_mem _ hc)
  have ht:yba (c::r)=(2,r.length+1):=by rw [yba,if_neg (by simp [yoN hc]),if_pos hc,hr]
  simp only [ybv,decide_eq_true_eq,ht]
  refine ⟨by simp,by omega,rfl,rfl, ?_⟩
  unfold yaD
  rw [if_neg (by decide),if_neg (by omega),if_neg (fun hh=>h4 hh.2.1 hh.2.2)]
theorem ydk (u:Nat) (h:u≤999999999):ybS (Lib.decDigits u)=[(Lib.decDigits u,2)]:=by
 have ht:=ydg u h
 have h1:=yeD u
 simp only [ybv,decide_eq_true_eq] at ht
 unfold ybS
 split
 ·rename_i c r e
  have:=h1 45 (by rw [e];simp)
  exact absurd this (by decide)
 ·rw [ht.2.2.1]
theorem yf9 (u:Nat):ybS (45::Lib.decDigits u)=[([45],4),(Lib.decDigits u,2)]:=by
 have:=ydz u
 cases e:Lib.decDigits u with
 | nil=>exact absurd e this
 | cons c r=>rfl
theorem yeo {s:List UInt8} (h:ydY s=true):ybS (39::(s++[39]))=[(39::(s++[39]),3)]∧ybv 3 (39::(s++[39]))=true:=by
 have ht:ybv 3 (39::(s++[39]))=true:=by rw [← ydC,ygj];exact h
 refine ⟨?_,ht⟩
 simp only [ybv,decide_eq_true_eq] at ht
 show [(39::(s++[39]),(((yba (39::(s++[39]))).1:Nat):Int))]=_
 rw [ht.2.2.1]
def Has (T:List Tk) (i:Nat) (L:List (List UInt8×Int)):Prop:=∀ j p,L[j]?=some p→tx T (i+j)=p.1∧kd T (i+j)=p.2
theorem Has.head {T:List Tk} {i:Nat} {p:List UInt8×Int} {L:List (List UInt8×Int)} (h:Has T i (p::L)):tx T i=p.1∧kd T i=p.2:=h 0 p rfl
theorem Has.tail {T:List Tk} {i:Nat} {p:List UInt8×Int} {L:List (List UInt8×Int)} (h:Has T i (p::L)):Has T (i+1) L:=by
 intro j q hq
 have:=h (j+1) q (by simpa using hq)
 rw [show i+(j+1)=i+1+j by omega] at this
 exact this
theorem Has.left {T:List Tk} {i:Nat} {L M:List (List UInt8×Int)} (h:Has T i (L++M)):Has T i L:=by
 intro j q hq
 exact h j q (by rw [List.getElem?_append_left (List.getElem?_eq_some_iff.1 hq).1];exact hq)
theorem Has.right {T:List Tk} {i:Nat} {L M:List (List UInt8×Int)} (h:Has T i (L++M)):Has T (i+L.length) M:=by
 intro j q hq
 have:=h (L.length+j) q (by rw [List.getElem?_append_right (by omega),Nat.add_sub_cancel_left];exact hq)
 rw [← Nat.add_assoc] at this;exact this
theorem yr0 {T:List Tk}:Has T 0 (TL T):=by
 intro j p hp
 rw [yuw,yud,Nat.zero_add,hp]
 exact ⟨rfl,rfl⟩
def toks (ws:List (List UInt8)):List (List UInt8×Int):=ws.flatMap ybS
theorem yb3 (w:List UInt8) (ws:List (List UInt8)):toks (w::ws)=ybS w++toks ws:=rfl
theorem yaY (a b:List (List UInt8)):toks (a++b)=toks a++toks b:=by simp [toks]
theorem yfa {v:Vl} (h:ycm v=true):ycw v.k v.n v.s=0:=by simpa [ycm] using h
theorem yfm {n:Int} (h:yfU n=true):-999999999≤n∧n≤999999999:=by
 simpa [yfU] using h
theorem ygV {v:Vl} (h:ycm v=true):okW (ybc v):=by
 have h:=yfa h
 obtain ⟨k,n,s⟩:=v
 simp only at h
 unfold ybc
 simp only
 unfold ycw at h
 by_cases h1:k=1
 ·rw [if_pos h1]
  rw [if_neg (by omega),if_pos h1] at h
  split at h
  ·rename_i hh
   have hn:=yfm hh.1
   unfold Lib.itoa
   split
   ·intro p hp
    rw [yf9] at hp
    simp only [List.mem_cons,List.not_mem_nil,or_false] at hp
    rcases hp with rfl|rfl
    ·decide
    ·exact ydg _ (by omega)
   ·intro p hp
    rw [ydk _ (by omega)] at hp
    rw [List.mem_singleton] at hp
    rw [hp];exact ydg _ (by omega)
  ·cases h
 rw [if_neg h1]
 by_cases h2:k=2
 ·rw [if_pos h2]
  rw [if_neg (by omega),if_neg h1,if_pos h2] at h
  split at h
  ·rename_i hh
   intro p hp
   rw [(yeo hh.2).1,List.mem_singleton] at hp
   rw [hp];exact (yeo hh.2).2
  ·cases h
 rw [if_neg h2]
 split
 ·split
  ·exact yc7 (by decide +kernel)
  ·exact yc7 (by decide +kernel)
 ·exact yc7 (by decide +kernel)
theorem ybg {T:List Tk} {w:List UInt8} {i:Nat} (h:tx T i=w):ybl T [w] i=.ok () (i+1):=by
 rw [ybl,if_pos h];rfl
theorem ye3 {s:List UInt8} (h:yap s=false):∀ t,yap t=true→t≠s:=by
 intro t ht e;rw [e,h] at ht;cases ht
theorem yeP {T:List Tk} {v:Vl} (hv:ycm v=true) {i:Nat} (h:Has T i (ybS (ybc v))) :
  yaJ T i=.ok v (i+(ybS (ybc v)).length)∧(yap (tx T i)=false∧tx T i≠w_not∧tx T i≠[40]):=by
 have hc:=yfa hv
 obtain ⟨k,n,s⟩:=v
 simp only at hc
 unfold ybc at h ⊢
 simp only at h ⊢
 unfold ycw at hc
 by_cases h1:k=1
 ·rw [if_pos h1] at h ⊢
  rw [if_neg (by omega),if_pos h1] at hc
  split at hc
  ·rename_i hh
   have hn:=yfm hh.1
   by_cases hneg:n < 0
   ·have e:Lib.itoa n=45::Lib.decDigits n.natAbs:=by rw [Lib.itoa,if_pos hneg]
    rw [e,yf9] at h ⊢
    obtain ⟨t0,k0⟩:=h.head
    obtain ⟨t1,k1⟩:=h.tail.head
    simp only at t0 k0 t1 k1
    refine ⟨?_,by rw [t0];exact ⟨by decide +kernel,by decide,by decide⟩⟩
    unfold yaJ
    rw [k0,if_neg (by decide),if_neg (by decide)]
    rw [yaS,if_pos t0]
    simp only [Rs.then_ok,if_true]
    unfold yaX
    rw [t1,yd3,if_pos ⟨k1,by omega⟩]
    simp only [Rs.then_ok]
    subst h1
    have:(-((n.natAbs:Nat):Int))=n:=by omega
    rw [this,hh.2];rfl
   ·have e:Lib.itoa n=Lib.decDigits n.toNat:=by rw [Lib.itoa,if_neg hneg]
    rw [e,ydk _ (by omega)] at h ⊢
    obtain ⟨t0,k0⟩:=h.head
    simp only at t0 k0
    have hd:yde isD (tx T i)=true:=by
     rw [t0]
     have h1:=yeD n.toNat
     have h2:=ydz n.toNat
     cases e:Lib.decDigits n.toNat with
     | nil=>exact absurd e h2
     | cons c r=>exact h1 c (by rw [e];exact List.mem_cons_self ..)
    refine ⟨?_, ?_, ?_, ?_⟩
    ·unfold yaJ
     rw [k0,if_pos rfl]
     unfold yaX
     rw [t0,yd3,if_pos ⟨k0,by omega⟩]
     simp only [Rs.then_ok]
     subst h1
     have:((n.toNat:Nat):Int)=n:=by omega
     rw [this,hh.2];rfl
    ·cases hw:yap (tx T i)
     ·rfl
     ·exfalso
      have:=ye4 hw
      simp only [ybv,decide_eq_true_eq] at this
      have h2:=ydg n.toNat (by omega)
      simp only [ybv,decide_eq_true_eq] at h2
      rw [t0] at this
      omega
    ·intro e;rw [e] at hd;exact absurd hd (by decide)
    ·intro e;rw [e] at hd;exact absurd hd (by decide)
  ·cases hc
 rw [if_neg h1] at h ⊢
 by_cases h2:k=2
 ·rw [if_pos h2] at h ⊢
  rw [if_neg (by omega),if_neg h1,if_pos h2] at hc
  split at hc
  ·rename_i hh
   rw [(yeo hh.2).1] at h ⊢
   obtain ⟨t0,k0⟩:=h.head
   simp only at t0 k0
   refine ⟨?_, ?_, ?_, ?_⟩
   ·unfold yaJ
    rw [k0,if_neg (by decide),if_pos rfl,t0]
    subst h2
    have:List.take ((39::(s++[39])).length - 2) (List.drop 1 (39::(s++[39])))=s:=by
     simp
    rw [this,hh.1];rfl
   ·cases hw:yap (tx T i)
    ·rfl
    ·exfalso
     have:=ye4 hw
     simp only [ybv,decide_eq_true_eq] at this
     have h2:=(yeo hh.2).2
     simp only [ybv,decide_eq_true_eq] at h2
     rw [t0] at this
     omega
   ·rw [t0];simp
   ·rw [t0];simp
  ·cases hc
 rw [if_neg h2] at h ⊢
 rw [if_neg h1,if_neg h2] at hc
 by_cases h3:k=3
 ·rw [if_pos h3] at h ⊢
  rw [if_neg (by omega),if_pos h3] at hc
  split at hc
  ·rename_i hh
   subst h3
   rcases hh.1 with rfl|rfl
   ·have e:(if (0:Int)=1 then yb9 else ybH)=ybH:=by decide
    rw [e] at h ⊢
    have et:ybS ybH=[(ybH,1)]:=by decide +kernel
    rw [et] at h ⊢
    obtain ⟨t0,k0⟩:=h.head
    simp only at t0 k0
    refine ⟨?_,by rw [t0];exact ⟨by decide +kernel,by decide,by decide⟩⟩
    unfold yaJ
    rw [k0,if_neg (by decide),if_neg (by decide)]
    rw [yaS,if_neg (by rw [t0];decide),yaS,if_neg (by rw [t0];decide),yaS,if_pos t0]
    simp only [Rs.then_ok]
    rw [if_neg (by decide),if_neg (by decide),if_pos trivial,hh.2];rfl
   ·have e:(if (1:Int)=1 then yb9 else ybH)=yb9:=by decide
    rw [e] at h ⊢
    have et:ybS yb9=[(yb9,1)]:=by decide +kernel
    rw [et] at h ⊢
    obtain ⟨t0,k0⟩:=h.head
    simp only at t0 k0
    refine ⟨?_,by rw [t0];exact ⟨by decide +kernel,by decide,by decide⟩⟩
    unfold yaJ
    rw [k0,if_neg (by decide),if_neg (by decide)]
    rw [yaS,if_neg (by rw [t0];decide),yaS,if_pos t0]
    simp only [Rs.then_ok]
    rw [if_neg (by decide),if_pos trivial,hh.2];rfl
  ·cases hc
 rw [if_neg h3] at h ⊢
 rw [if_neg h3] at hc
 by_cases h0:k=0
 ·rw [if_pos h0] at hc
  split at hc
  ·rename_i hh
   have et:ybS w_null=[(w_null,1)]:=by decide +kernel
   rw [et] at h ⊢
   obtain ⟨t0,k0⟩:=h.head
   simp only at t0 k0
   refine ⟨?_,by rw [t0];exact ⟨by decide +kernel,by decide,by decide⟩⟩
   unfold yaJ
   rw [k0,if_neg (by decide),if_neg (by decide)]
   rw [yaS,if_neg (by rw [t0];decide),yaS,if_neg (by rw [t0];decide),yaS,if_neg (by rw [t0];decide),yaS,if_pos t0]
   simp only [Rs.then_ok]
   rw [if_neg (by decide),if_neg (by decide),if_neg (by decide),h0,hh.1,hh.2];rfl
  ·cases hc
 ·rw [if_neg h0] at hc;cases hc
theorem PrW.below {B b:Nat} {ws:List (List UInt8)} {w w':World} (h:PrW B b ws w) (hb:Below w.heap.size w w'):PrW B b ws w':=⟨h.is.keep hb,h.ne⟩
theorem PrW.lt {B b:Nat} {ws:List (List UInt8)} {w:World} (h:PrW B b ws w):b < w.heap.size:=by
 rcases h.is with h|h
 ·exact h.lt
 ·exact h.lt
def Puts (B b:Nat) (ws:List (List UInt8)) (w:World) (e:Ending) (w':World):Prop:=e=.returned (.tuple #[])∧PrW B b ws w'∧Below B w w'∧Lib.OthersKept 5 (some b) w w'
theorem Puts.of {B b:Nat} {ws:List (List UInt8)} {w w1 w':World} {e:Ending} (hB:B≤w.heap.size) (hb:Below w.heap.size w w1) (h:Puts B b ws w1 e w'):Puts B b ws w e w' :=
 ⟨h.1,h.2.1,(hb.mono hB).trans h.2.2.1,fun k o hk hne hc=>h.2.2.2 k o ((hb.block k (ltS hk)).trans hk) hne hc⟩
theorem yiP (B b:Nat) (ws ts:List (List UInt8)) (n:Nat) (cs:Array Value) (W:World) (h:PrW B b ws W) (hB:B≤W.heap.size) (hcs:cs.toList=ts.map fun x=>Value.string ⟨x.toArray⟩) (hn:ts.length=n) (hne:∀ x ∈ ts,x≠[]) (hlen:(yaz (ws++ts)).length≤1000000) (hsm:n≤1000000) :
  Calls Tryz.prog 94 #[.pointer (some ⟨b,0,none⟩),.slice (some ⟨W.heap.size,0,none⟩) n n] (W.alloc (.cells cs 9)) (Puts B b (ws++ts) W):=by
 have hb:Below W.heap.size W (W.alloc (.cells cs 9)):=(Below.refl _ _).alloc (Nat.le_refl _) _
 refine (ymS B b W.heap.size ws ts n n cs (0,0) _ (h.below hb) (Nat.le_trans hB hb.size) (heap_alloc_new W _) (by have:=h.lt;omega) ?_ hn hne hlen hsm).mono fun e w' q=>Puts.of hB hb q
 intro i x hx
 rw [← Array.getElem?_toList,hcs,List.getElem?_map,hx];rfl
structure ItoaOk (B:Nat) (Tb:World→Prop):Prop where
 keep:∀ {W W':World},Tb W→Below B W W'→Tb W'
 itoa:∀ (n:Int) (W:World),Tb W→-999999999≤n→n≤999999999→Calls Tryz.prog 136 #[.int .i64 n] W fun e w'=>e=.returned (.string ⟨(Lib.itoa n).toArray⟩)∧Below W.heap.size W w'
theorem yfT (x:Bool) (w:World):Calls Tryz.prog 137 #[.bool x] w fun e w'=>e=.returned (.string ⟨(if x=true then yb9 else ybH).toArray⟩)∧Below w.heap.size w w':=by
 cases x
 all_goals
  go_enter Tryz.func137,Tryz.ntmps137
  go_wp2
  go_ret
  exact ⟨rfl,Below.refl _ _⟩
theorem yiM (B b:Nat) (ws:List (List UInt8)) (nm:List UInt8) (ty:Int) (w:World) (h:PrW B b ws w) (hB:B≤w.heap.size) (h1:nm≠[]) (h2:atL yaI ty≠[]) (hlen:(yaz (ws++[nm,atL yaI ty])).length≤1000000) :
  Calls Tryz.prog 96 #[.pointer (some ⟨b,0,none⟩),.agg #[.string ⟨nm.toArray⟩,.int .i64 ty]] w (Puts B b (ws++[nm,atL yaI ty]) w):=by
 have hty:=fun W=>ygb ty W
 have HP:Hid (∀ W,Below w.heap.size w W→Calls Tryz.prog 94 #[.pointer (some ⟨b,0,none⟩),.slice (some ⟨W.heap.size,0,none⟩) 2 2] (W.alloc (.cells #[.string ⟨nm.toArray⟩,.string ⟨(atL yaI ty).toArray⟩] 9)) (Puts B b (ws++[nm,atL yaI ty]) w)):=by
  intro W hW
  have hb:Below w.heap.size w (W.alloc (.cells #[.string ⟨nm.toArray⟩,.string ⟨(atL yaI ty).toArray⟩] 9)):=hW.alloc hW.size _
  refine (ymS B b W.heap.size ws [nm,atL yaI ty] 2 2 #[.string ⟨nm.toArray⟩,.string ⟨(atL yaI ty).toArray⟩] (0,0) _ (h.below hb) (Nat.le_trans hB hb.size) (heap_alloc_new W _) (by have:=h.lt;have:=hW.size;omega) ?_ rfl ?_ hlen (by decide)).mono fun e w' q=>Puts.of hB hb q
  ·intro i x hx
   match i,hx with
   | 0,hx=>simp at hx;subst hx;rfl
   | 1,hx=>simp at hx;subst hx;rfl
  ·intro x hx
   simp at hx
   rcases hx with rfl|rfl
   ·exact h1
   ·exact h2
 generalize atL yaI ty=tw at *
 clear h h1 h2 hlen
 have b0:=(Below.refl w.heap.size w).alloc (Nat.le_refl _) (.cells #[.string ⟨nm.toArray⟩,.int .i64 ty] 56)
 go_enter Tryz.func96,Tryz.ntmps96
 go_wp2_with fail
 go_region_law (first|(go_simp;refine (hty _).mono ?_;rintro e w1 ⟨rfl,b1⟩;have B1:Below w.heap.size w w1:=b0.drew.trans (b1.mono (by simp));have d0:w1.cell? ⟨w.heap.size,0,none⟩=some (.string ⟨nm.toArray⟩):=(b1.cell (p:=⟨w.heap.size,0,none⟩) (by simp)).trans (by simp);dsimp only)|(go_simp;refine (HP.out _ B1).mono ?_;rintro e w2 ⟨rfl,q2⟩;dsimp only))
 all_goals (go_end0;exact ⟨rfl,q2⟩)
theorem yfo (n:Int):Lib.itoa n≠[]:=by
 unfold Lib.itoa
 split
 ·simp
 ·rw [Lib.decDigits];split <;> simp
theorem ygi {Tb:World→Prop} (B b:Nat) (ws:List (List UInt8)) (v:Vl) (w:World) (k:ItoaOk B Tb) (hT:Tb w) (h:PrW B b ws w) (hB:B≤w.heap.size) (hv:ycm v=true) (hs:v.s.length≤1000) (hlen:(yaz (ws++[ybc v])).length≤1000000) :
  Calls Tryz.prog 99 #[.pointer (some ⟨b,0,none⟩),.agg #[.int .i64 v.k,.int .i64 v.n,.string ⟨v.s.toArray⟩]] w (Puts B b (ws++[ybc v]) w):=by
 obtain ⟨vk,vn,vs⟩:=v
 have b0:=(Below.refl w.heap.size w).alloc (Nat.le_refl _) (.cells #[.int .i64 vk,.int .i64 vn,.string ⟨vs.toArray⟩] 24)
 have HP:∀ x:List UInt8,ybc ⟨vk,vn,vs⟩=x→x≠[]→Hid (∀ W,Below w.heap.size w W→Calls Tryz.prog 94 #[.pointer (some ⟨b,0,none⟩),.slice (some ⟨W.heap.size,0,none⟩) 1 1] (W.alloc (.cells #[.string ⟨x.toArray⟩] 9)) (Puts B b (ws++[ybc ⟨vk,vn,vs⟩]) w)):=by
  rintro x rfl hx W hW
  exact (yiP B b ws [ybc ⟨vk,vn,vs⟩] 1 _ W (h.below hW) (Nat.le_trans hB hW.size) rfl rfl (by simpa using hx) hlen (by decide)).mono fun e w' q=>Puts.of hB hW q
 have hr:vk=1→-999999999≤vn∧vn≤999999999:=by
  rintro rfl
  have:=yfa hv
  simp only [ycw] at this
  simp at this
  exact yfm this.1
 by_cases h1:vk=1
 ·have hi:=fun W (hW:Below w.heap.size w W)=>k.itoa vn W (k.keep hT (hW.mono hB)) (hr h1).1 (hr h1).2
  have HQ:=HP (Lib.itoa vn) (by simp [ybc,h1]) (yfo vn)
  subst h1
  clear h hlen hv HP hr hT k
  go_enter Tryz.func99,Tryz.ntmps99
  go_wp2_with fail
  go_region_law (first|(go_simp;refine (hi _ b0.drew).mono ?_;rintro e w1 ⟨rfl,b1⟩;have B1:Below w.heap.size w w1:=b0.drew.trans (b1.mono (by simp));dsimp only)|(go_simp;refine (HQ.out _ B1).mono ?_;rintro e w2 ⟨rfl,q2⟩;dsimp only))
  all_goals (simp only [Exit.inBlock];go_end0;exact ⟨rfl,q2⟩)
 ·by_cases h2:vk=2
  ·have e:(⟨#[39]⟩++⟨vs.toArray⟩++⟨#[39]⟩:ByteArray)=⟨(39::(vs++[39])).toArray⟩:=by
    apply ByteArray.ext
    simp [ByteArray.data_append]
   have HQ0:=(HP (39::(vs++[39])) (by simp [ybc,h2]) (by simp)).out
   rw [← e] at HQ0
   have HQ:=yae HQ0
   have z1:¬ (9223372036854775807 < 1+vs.length):=by simp at hs;omega
   have z2:¬ (9223372036854775807 < 1+vs.length+1):=by simp at hs;omega
   subst h2
   have HR0:=HQ.out _ b0.drew
   rw [show (w.alloc (.cells #[.int .i64 2,.int .i64 vn,.string ⟨vs.toArray⟩] 24)).drew.heap.size=w.heap.size+1 by simp] at HR0
   have HR:=yae HR0
   clear e HQ0 HR0
   clear h hlen hv HP hr hT k h1
   go_enter Tryz.func99,Tryz.ntmps99
   go_wp2_with fail
   go_region_law (first|(go_simp;refine HR.out.mono ?_;rintro e w2 ⟨rfl,q2⟩;dsimp only))
   all_goals (simp only [Exit.inBlock];go_end0;exact ⟨rfl,q2⟩)
  ·by_cases h3:vk=3
   ·have hi:=fun W=>yfT (vn == 1) W
    have HQ:=HP (if (vn == 1)=true then yb9 else ybH) (by simp [ybc,h3]) (by split <;> decide)
    generalize (if (vn == 1)=true then yb9 else ybH)=x at hi HQ
    subst h3
    clear h hlen hv HP hr hT k h1 h2
    go_enter Tryz.func99,Tryz.ntmps99
    go_wp2_with fail
    go_region_law (first|(go_simp;refine (hi _).mono ?_;rintro e w1 ⟨rfl,b1⟩;have B1:Below w.heap.size w w1:=b0.drew.trans (b1.mono (by simp));dsimp only)|(go_simp;refine (HQ.out _ B1).mono ?_;rintro e w2 ⟨rfl,q2⟩;dsimp only))
    all_goals (simp only [Exit.inBlock];go_end0;exact ⟨rfl,q2⟩)
   ·have HQ:=HP w_null (by simp [ybc,h1,h2,h3]) (by decide)
    have q1:(vk == 1)=false:=by simpa using h1
    have q2:(vk == 2)=false:=by simpa using h2
    have q3:(vk == 3)=false:=by simpa using h3
    have HR0:=HQ.out _ b0
    rw [show (w.alloc (.cells #[.int .i64 vk,.int .i64 vn,.string ⟨vs.toArray⟩] 24)).heap.size=w.heap.size+1 by simp] at HR0
    have HR:=yae HR0
    clear h hlen hv HP hr hT k h1 h2 h3 HQ HR0
    go_enter Tryz.func99,Tryz.ntmps99
    go_wp2_with (go_at_call 94;refine HR.out.mono ?_;rintro e w2 ⟨rfl,p2⟩)
    go_end0
    exact ⟨rfl,p2⟩
theorem ygd (k:Int) (h:5≤k∧k≤11):(∃ q,ybS (atL ya0 k)=[(atL ya0 k,q)])∧okB (atL ya0 k)=true∧((ybx ya0 (atL ya0 k):Nat):Int)=k∧ybx ya0 (atL ya0 k)≠0∧atL ya0 k≠w_is:=by
 have hc:k=5∨k=6∨k=7∨k=8∨k=9∨k=10∨k=11:=by omega
 rcases hc with rfl|rfl|rfl|rfl|rfl|rfl|rfl
 all_goals exact ⟨⟨_,rfl⟩,by decide +kernel,by decide,by decide,by decide⟩
theorem yck (k:Int) (h:1≤k∧k≤3):ybS (atL yaI k)=[(atL yaI k,1)]∧okB (atL yaI k)=true∧((ybx yaI (atL yaI k):Nat):Int)=k∧ybx yaI (atL yaI k)≠0:=by
 have hc:k=1∨k=2∨k=3:=by omega
 rcases hc with rfl|rfl|rfl
 all_goals exact ⟨by decide +kernel,by decide +kernel,by decide,by decide⟩
theorem ybD {v:Vl} (h:ybU v=true):v=vl0:=by
 obtain ⟨k,n,s⟩:=v
 simp only [ybU,Bool.and_eq_true,decide_eq_true_eq] at h
 obtain ⟨⟨rfl,rfl⟩,rfl⟩:=h
 rfl
theorem yaZ {x:Ex} (h:ybw x=true):x=ex0:=by
 obtain ⟨k,v,nm,args⟩:=x
 simp only [ybw,Ex.k,Ex.v,Ex.nm,Ex.args,Bool.and_eq_true] at h
 obtain ⟨⟨⟨h1,h2⟩,h3⟩,h4⟩:=h
 rw [of_decide_eq_true h1,ybD h2,of_decide_eq_true h3,of_decide_eq_true h4];rfl
inductive RightE:Ex→Prop where
 | val (v:Vl) (h:ycm v=true):RightE (.mk 1 v [] [])
 | col (nm:List UInt8) (h:yap nm=true):RightE (.mk 2 vl0 nm [])
 | not (a:Ex) (h:RightE a):RightE (.mk 3 vl0 [] [a])
 | null (a:Ex) (h:RightE a):RightE (.mk 4 vl0 [] [a])
 | two (k:Int) (hk:5≤k∧k≤11) (a b:Ex) (ha:RightE a) (hb:RightE b):RightE (.mk k vl0 [] [a,b])
theorem yfz:∀ (n:Nat) (x:Ex),ya4 x≤n→exR x=true→RightE x:=by
 intro n
 induction n with
 | zero=>intro x h;obtain ⟨k,v,nm,args⟩:=x;rw [ya4] at h;omega
 | succ n ih =>
  intro x h hr
  obtain ⟨k,v,nm,args⟩:=x
  rw [exR] at hr
  simp only [yfw,Bool.and_eq_true,Bool.or_eq_true,decide_eq_true_eq] at hr
  obtain ⟨⟨⟨⟨⟨hn,hm⟩,hv⟩,h2⟩,hV⟩,hA⟩:=hr
  rw [ya4] at h
  have h1:¬ (k < 1∨11 < k):=by intro hk;rw [yb0,if_pos hk] at hn;omega
  rw [yb0,if_neg h1] at hn
  by_cases k1:k=1
  ·subst k1
   rw [if_pos (by decide)] at hn
   have:args=[]:=List.eq_nil_of_length_eq_zero (by omega)
   subst this
   have hm':nm=[]:=by rcases hm with h|h;omega;exact h
   subst hm'
   exact .val v hV
  have hv0:v=vl0:=ybD (by rcases hv with h|h;exact absurd h k1;exact h)
  subst hv0
  by_cases k2:k=2
  ·subst k2
   rw [if_pos (by decide)] at hn
   have:args=[]:=List.eq_nil_of_length_eq_zero (by omega)
   subst this
   exact .col nm (by simpa using h2)
  have hm':nm=[]:=by rcases hm with h|h;exact absurd h k2;exact h
  subst hm'
  rw [if_neg (by omega)] at hn
  by_cases k4:k≤4
  ·rw [if_pos k4] at hn
   obtain ⟨a,rfl⟩:∃ a,args=[a]:=List.length_eq_one_iff.1 (by omega)
   simp only [yi6,Bool.and_true] at hA
   simp only [ybE] at h
   have ha:=ih a (by omega) hA
   by_cases k3:k=3
   ·subst k3;exact .not a ha
   ·have:k=4:=by omega
    subst this;exact .null a ha
  ·rw [if_neg k4] at hn
   obtain ⟨a,b,rfl⟩:∃ a b,args=[a,b]:=(by match args,hn with|[a,b],_=>exact ⟨a,b,rfl⟩|[],h=>simp at h|[_],h=>simp at h|_::_::_::_,h=>simp at h;omega)
   simp only [yi6,Bool.and_true,Bool.and_eq_true] at hA
   simp only [ybE] at h
   exact .two k (by omega) a b (ih a (by omega) hA.1) (ih b (by omega) hA.2)
theorem ysR:ybS w_not=[(w_not,1)]:=by decide +kernel
theorem ysQ:ybS [40]=[([40],4)]:=by decide +kernel
theorem yue:ybS [44]=[([44],4)]:=by decide +kernel
theorem yhQ {x:Ex} (h:RightE x):∀ w ∈ yat x,okW w:=by
 induction h with
 | val v h=>intro w hw;simp [yat] at hw;rw [hw];exact ygV h
 | col nm h=>intro w hw;simp [yat] at hw;rw [hw];exact ybo h
 | not a _ ih =>
  intro w hw
  simp [yat,ydc] at hw
  rcases hw with rfl|hw
  ·exact yc7 (by decide +kernel)
  ·exact ih w hw
 | null a _ ih =>
  intro w hw
  simp [yat,ydc] at hw
  rcases hw with rfl|hw|rfl|rfl|rfl
  ·exact yc7 (by decide +kernel)
  ·exact ih w hw
  ·exact yc7 (by decide +kernel)
  ·exact yc7 (by decide +kernel)
  ·exact yc7 (by decide +kernel)
 | two k hk a b _ _ iha ihb =>
  intro w hw
  rw [yat,if_neg (by omega),if_neg (by omega),if_neg (by omega),if_neg (by omega)] at hw
  simp [ydc] at hw
  rcases hw with rfl|hw|rfl|hw|rfl
  ·exact yc7 (by decide +kernel)
  ·exact iha w hw
  ·exact yc7 (ygd k hk).2.1
  ·exact ihb w hw
  ·exact yc7 (by decide +kernel)
theorem yg4 {T:List Tk} {x:Ex} (h:RightE x):∀ (f i:Nat),ya4 x≤f+1→Has T i (toks (yat x))→ybd T f i=.ok x (i+(toks (yat x)).length):=by
 induction h with
 | val v hv =>
  intro f i _ hh
  have e:yat (.mk 1 v [] [])=[ybc v]:=by rw [yat,if_pos rfl]
  rw [e] at hh ⊢
  have e2:toks [ybc v]=ybS (ybc v):=by simp [toks]
  rw [e2] at hh ⊢
  obtain ⟨h1,h2,h3,h4⟩:=yeP hv hh
  have hl:ydX T i=.ok (.mk 1 v [] []) (i+(ybS (ybc v)).length):=by
   unfold ydX
   rw [if_neg (by rw [h2];simp),h1];rfl
  cases f with
  | zero=>rw [ybd];exact hl
  | succ f=>rw [ybd,if_neg h3,if_neg h4];exact hl
 | col nm hn =>
  intro f i _ hh
  have e:yat (.mk 2 vl0 nm [])=[nm]:=by rw [yat,if_neg (by decide),if_pos rfl]
  rw [e] at hh ⊢
  have e2:toks [nm]=[(nm,1)]:=by simp [toks,yei hn]
  rw [e2] at hh ⊢
  obtain ⟨t0,-⟩:=hh.head
  simp only at t0
  have hl:ydX T i=.ok (.mk 2 vl0 nm []) (i+1):=by
   unfold ydX
   rw [t0,if_pos hn]
  cases f with
  | zero=>rw [ybd];exact hl
  | succ f =>
   rw [ybd,if_neg (by rw [t0];exact ye3 (by decide +kernel) nm hn),if_neg (by rw [t0];exact ye3 (by decide +kernel) nm hn)]
   exact hl
 | not a ha ih =>
  intro f i hs hh
  rw [ya4] at hs
  simp only [ybE] at hs
  have hp:1≤ya4 a:=by obtain ⟨_,_,_,_⟩:=a;rw [ya4];omega
  have e:yat (.mk 3 vl0 [] [a])=w_not::yat a:=by rw [yat,if_neg (by decide),if_neg (by decide),if_pos rfl];rfl
  rw [e,yb3,ysR] at hh ⊢
  obtain ⟨t0,-⟩:=hh.head
  cases f with
  | zero=>omega
  | succ f =>
   rw [ybd,if_pos t0,ih f (i+1) (by omega) hh.tail]
   simp only [Rs.then_ok,List.length_append,List.length_cons,List.length_nil]
   congr 1;omega
 | null a ha ih =>
  intro f i hs hh
  rw [ya4] at hs
  simp only [ybE] at hs
  have hp:1≤ya4 a:=by obtain ⟨_,_,_,_⟩:=a;rw [ya4];omega
  have e:yat (.mk 4 vl0 [] [a])=[40]::(yat a++[w_is,w_null,[41]]):=by rw [yat,if_neg (by decide),if_neg (by decide),if_neg (by decide),if_pos rfl];rfl
  have e3:toks [w_is,w_null,[41]]=[(w_is,1),(w_null,1),([41],4)]:=by decide +kernel
  rw [e,yb3,ysQ,yaY,e3] at hh ⊢
  obtain ⟨t0,-⟩:=hh.head
  have hb:=(Has.tail (L:=toks (yat a)++[(w_is,1),(w_null,1),([41],4)]) hh).right
  obtain ⟨t1,-⟩:=hb.head
  obtain ⟨t2,-⟩:=hb.tail.head
  obtain ⟨t3,-⟩:=hb.tail.tail.head
  simp only at t0 t1 t2 t3
  cases f with
  | zero=>omega
  | succ f =>
   rw [ybd,if_neg (by rw [t0];decide),if_pos t0]
   unfold ycH
   rw [ih f (i+1) (by omega) (Has.tail (L:=toks (yat a)++[(w_is,1),(w_null,1),([41],4)]) hh).left]
   simp only [Rs.then_ok]
   have em:may T w_is [w_null,[41]] (i+1+(toks (yat a)).length)=.ok true (i+1+(toks (yat a)).length+1+1+1):=by
    unfold may
    rw [if_pos t1,ybl,if_pos t2,ybl,if_pos t3,ybl];rfl
   rw [em]
   simp only [Rs.then_ok,if_true,List.length_append,List.length_cons,List.length_nil]
   congr 1;omega
 | two k hk a b ha hb iha ihb =>
  intro f i hs hh
  rw [ya4] at hs
  simp only [ybE] at hs
  have hp:1≤ya4 a:=by obtain ⟨_,_,_,_⟩:=a;rw [ya4];omega
  have hp2:1≤ya4 b:=by obtain ⟨_,_,_,_⟩:=b;rw [ya4];omega
  obtain ⟨⟨q,o1⟩,-,o3,o4,o5⟩:=ygd k hk
  have e:yat (.mk k vl0 [] [a,b])=[40]::(yat a++atL ya0 k::(yat b++[[41]])):=by rw [yat,if_neg (by omega),if_neg (by omega),if_neg (by omega),if_neg (by omega)];rfl
  have e3:toks [[41]]=[([41],4)]:=by decide +kernel
  rw [e,yb3,ysQ,yaY,yb3,o1,yaY,e3] at hh ⊢
  obtain ⟨t0,-⟩:=hh.head
  have hr:=(Has.tail (L:=toks (yat a)++([(atL ya0 k,q)]++(toks (yat b)++[([41],4)]))) hh).right
  obtain ⟨t1,-⟩:=hr.head
  have hr2:=Has.tail (L:=toks (yat b)++[([41],4)]) hr
  obtain ⟨t2,-⟩:=hr2.right.head
  simp only at t0 t1 t2
  cases f with
  | zero=>omega
  | succ f =>
   rw [ybd,if_neg (by rw [t0];decide),if_pos t0]
   unfold ycH
   rw [iha f (i+1) (by omega) (Has.tail (L:=toks (yat a)++([(atL ya0 k,q)]++(toks (yat b)++[([41],4)]))) hh).left]
   simp only [Rs.then_ok]
   have em:may T w_is [w_null,[41]] (i+1+(toks (yat a)).length)=.ok false (i+1+(toks (yat a)).length):=by
    unfold may
    rw [if_neg (by rw [t1];exact o5)]
   rw [em]
   simp only [Rs.then_ok,Bool.false_eq_true,if_false]
   unfold ycj
   rw [t1,if_neg o4]
   simp only [Rs.then_ok]
   rw [ihb f _ (by omega) hr2.left]
   simp only [Rs.then_ok]
   rw [ybg t2]
   simp only [Rs.then_ok,List.length_append,List.length_cons,List.length_nil]
   rw [o3]
   congr 1;omega
theorem yis {α:Type} {T:List Tk} {f:α→List (List UInt8)} {one:Nat→Rs α}:∀ (xs:List α) (acc:List α) (n i:Nat),xs.length≤n →
  (∀ x ∈ xs,∀ i,Has T i (toks (f x))→one i=.ok x (i+(toks (f x)).length))→Has T i (toks (xs.flatMap fun x=>[44]::f x))→tx T (i+(toks (xs.flatMap fun x=>[44]::f x)).length)≠[44] →
  ybL T one n acc i=.ok (acc++xs) (i+(toks (xs.flatMap fun x=>[44]::f x)).length):=by
 intro xs
 induction xs with
 | nil =>
  intro acc n i _ _ _ hend
  simp only [List.flatMap_nil,toks,List.length_nil,Nat.add_zero,List.append_nil] at hend ⊢
  cases n with
  | zero=>rfl
  | succ n=>rw [ybL,if_neg hend]
 | cons x xs ih =>
  intro acc n i hn h1 hh hend
  cases n with
  | zero=>simp at hn
  | succ n =>
   have e:(toks ((x::xs).flatMap fun x=>[44]::f x))=([44],4)::(toks (f x)++toks (xs.flatMap fun x=>[44]::f x)):=by
    rw [List.flatMap_cons,List.cons_append,yb3,yue,yaY];rfl
   rw [e] at hh hend ⊢
   rw [ybL,if_pos hh.head.1,h1 x (List.mem_cons_self ..) (i+1) hh.tail.left]
   simp only [Rs.then_ok]
   have el:i+(([44],(4:Int))::(toks (f x)++toks (xs.flatMap fun x=>[44]::f x))).length=i+1+(toks (f x)).length+(toks (xs.flatMap fun x=>[44]::f x)).length:=by simp;omega
   rw [el] at hend ⊢
   rw [ih (acc++[x]) n _ (by simpa using hn) (fun y hy=>h1 y (List.mem_cons_of_mem _ hy)) hh.tail.right hend]
   simp
theorem yd2 {α:Type} (f:α→List (List UInt8)):∀ (x:α) (xs:List α),yaq f (x::xs)=f x++xs.flatMap fun x=>[44]::f x:=by
 intro x xs
 induction xs generalizing x with
 | nil=>simp [yaq]
 | cons y r ih=>rw [yaq,ih];simp
theorem yfr {α:Type} {T:List Tk} {f:α→List (List UInt8)} {one:Nat→Rs α} (xs:List α) (hne:xs≠[]) (hn:xs.length≤T.length+2)
  (h1:∀ x ∈ xs,∀ i,Has T i (toks (f x))→one i=.ok x (i+(toks (f x)).length)) (i:Nat) (hh:Has T i (toks (yaq f xs))) (hend:tx T (i+(toks (yaq f xs)).length)≠[44]) :
  ybX T one i=.ok xs (i+(toks (yaq f xs)).length):=by
 cases xs with
 | nil=>exact absurd rfl hne
 | cons x xs =>
  rw [yd2,yaY] at hh hend ⊢
  unfold ybX
  rw [h1 x (List.mem_cons_self ..) i hh.left]
  simp only [Rs.then_ok,List.length_append] at hend ⊢
  rw [← Nat.add_assoc] at hend ⊢
  rw [yis xs [x] (T.length+1) _ (by simp at hn;omega) (fun y hy=>h1 y (List.mem_cons_of_mem _ hy)) hh.right hend]
  rfl
structure PSt (B b:Nat) (Tb:World→Prop) (w0:World) (ws:List (List UInt8)) (W:World):Prop where
 pr:PrW B b ws W
 bel:Below B w0 W
 tb:Tb W
 hB:B≤W.heap.size
def ybb (B b:Nat) (Tb:World→Prop) (w0:World) (ws:List (List UInt8)) (W:World) (e:Ending) (w':World):Prop:=e=.returned (.tuple #[])∧PSt B b Tb w0 ws w'∧Lib.OthersKept 5 (some b) W w'
section
variable {B b:Nat} {Tb:World→Prop} {w0:World} {ws ws':List (List UInt8)} {W W':World}
theorem PSt.step (k:ItoaOk B Tb) (h:PSt B b Tb w0 ws W) {e:Ending} (q:Puts B b ws' W e W'):ybb B b Tb w0 ws' W e W' :=
 ⟨q.1,⟨q.2.1,h.bel.trans q.2.2.1,k.keep h.tb q.2.2.1,Nat.le_trans h.hB q.2.2.1.size⟩,q.2.2.2⟩
theorem PSt.below (k:ItoaOk B Tb) (h:PSt B b Tb w0 ws W) (hb:Below W.heap.size W W'):PSt B b Tb w0 ws W' :=
 ⟨h.pr.below hb,h.bel.trans (hb.mono h.hB),k.keep h.tb (hb.mono h.hB),Nat.le_trans h.hB hb.size⟩
theorem yao {b:Nat} (hb:Below W.heap.size W W'):Lib.OthersKept 5 (some b) W W':=fun k _ hk _ _=>(hb.block k (ltS hk)).trans hk
theorem ycP (k:ItoaOk B Tb) (h:PSt B b Tb w0 ws W) (o:Obj) (ts:List (List UInt8)) (n:Nat) (cs:Array Value) (hcs:cs.toList=ts.map fun x=>Value.string ⟨x.toArray⟩) (hn:ts.length=n) (hne:∀ x ∈ ts,x≠[]) (hlen:(yaz (ws++ts)).length≤1000000) (hsm:n≤1000000) :
  Calls Tryz.prog 94 #[.pointer (some ⟨b,0,none⟩),.slice (some ⟨W.heap.size+1,0,none⟩) n n] ((W.alloc o).alloc (.cells cs 9)) (ybb B b Tb w0 (ws++ts) (W.alloc o)):=by
 have h1:=h.below k ((Below.refl W.heap.size W).alloc (Nat.le_refl _) o)
 have:=yiP B b ws ts n cs (W.alloc o) h1.pr h1.hB hcs hn hne hlen hsm
 rw [show (W.alloc o).heap.size=W.heap.size+1 by simp] at this
 exact this.mono fun e w' q=>h1.step k q
theorem ycb (k:ItoaOk B Tb) (h:PSt B b Tb w0 ws W) (ts:List (List UInt8)) (n:Nat) (cs:Array Value) (hcs:cs.toList=ts.map fun x=>Value.string ⟨x.toArray⟩) (hn:ts.length=n) (hne:∀ x ∈ ts,x≠[]) (hlen:(yaz (ws++ts)).length≤1000000) (hsm:n≤1000000) :
  Calls Tryz.prog 94 #[.pointer (some ⟨b,0,none⟩),.slice (some ⟨W.heap.size,0,none⟩) n n] (W.alloc (.cells cs 9)) (ybb B b Tb w0 (ws++ts) W) :=
 (yiP B b ws ts n cs W h.pr h.hB hcs hn hne hlen hsm).mono fun _ _ q=>h.step k q
end
def PE (B b:Nat) (Tb:World→Prop) (w0:World) (x:Ex):Prop :=
 ∀ u,ExAt 0 w0 u x→∀ ws W,PSt B b Tb w0 ws W→(yaz (ws++yat x)).length≤1000000→Calls Tryz.prog 101 #[.pointer (some ⟨b,0,none⟩),u] W (ybb B b Tb w0 (ws++yat x) W)
theorem ymM {B b:Nat} {Tb:World→Prop} {w0:World} (k:ItoaOk B Tb) (hw:w0.heap.size≤B) (a:Ex) (ih:PE B b Tb w0 a):PE B b Tb w0 (.mk 3 vl0 [] [a]):=by
 intro u hu ws W hS hlen
 obtain ⟨ao,ca,us,rfl,h1⟩:=hu.spread
 obtain ⟨g,o,rfl,-,hg,hc,hx⟩:=h1 (by simp [Ex.args])
 obtain ⟨ky,vy,ny,ay,ey,t0,t1,t2,t3,t4,t5⟩:=hc 0 (by simp [Ex.args])
 simp only [Nat.mul_zero,Nat.add_zero] at t0 t1 t2 t3 t4 t5
 have hx0:=hx 0 a rfl
 have ew:yat (.mk 3 vl0 [] [a])=[w_not]++yat a:=by simp [yat,ydc]
 rw [ew] at hlen ⊢
 have hl1:(yaz (ws++[w_not])).length≤1000000:=Nat.le_trans (yaM _ (yat a)) (by rw [List.append_assoc];exact hlen)
 have hp:=yae (ycP k hS (.cells #[.int .i64 3,.int .i64 0,.int .i64 0,.string ⟨#[]⟩,.string ⟨#[]⟩,.slice (some ⟨g,o,none⟩) 1 ca] 29) [w_not] 1 #[.string ⟨w_not.toArray⟩] rfl rfl (by intro x hx;simp at hx;subst hx;decide) hl1 (by decide))
 have hr:∀ w1,PSt B b Tb w0 (ws++[w_not]) w1→Calls Tryz.prog 101 #[.pointer (some ⟨b,0,none⟩),us 0] w1 (ybb B b Tb w0 (ws++([w_not]++yat a)) w1):=by
  intro w1 h1
  have:=ih _ hx0 (ws++[w_not]) w1 h1 (by rw [List.append_assoc];exact hlen)
  rwa [List.append_assoc] at this
 rw [ey] at hr
 have HR:=yae hr
 have hgb:g < B:=by omega
 have cells:∀ w1,PSt B b Tb w0 (ws++[w_not]) w1→∀ q,w1.cell? ⟨g,q,none⟩=w0.cell? ⟨g,q,none⟩:=fun w1 h1 q=>h1.bel.cell (p:=⟨g,q,none⟩) hgb
 have HC:=yae cells
 have hbW:b < W.heap.size:=hS.pr.lt
 have HS:=yae hS
 clear hr hx hc hx0 h1 ih cells hS hl1 hlen ew
 unfold exV
 simp only [Ex.k,Ex.v,Ex.nm,Ex.args,vl0,List.length_cons,List.length_nil,Nat.zero_add] at *
 go_enter Tryz.func101,Tryz.ntmps101
 go_wp2_with fail
 refine hp.out.mono ?_
 rintro e w1 ⟨rfl,s1,o1⟩
 have kb:w1.heap[W.heap.size]?=some (.cells #[.int .i64 3,.int .i64 0,.int .i64 0,.string ⟨#[]⟩,.string ⟨#[]⟩,.slice (some ⟨g,o,none⟩) 1 ca] 29):=o1 _ _ (heap_alloc_new W _) (by simp;omega) (by intro c f e;cases e)
 have d5:w1.cell? ⟨W.heap.size,5,none⟩=some (.slice (some ⟨g,o,none⟩) 1 ca):=by rw [Lib.cell_of_heap kb];rfl
 have e0:=(HC.out w1 s1 _).trans t0
 have e1:=(HC.out w1 s1 _).trans t1
 have e2:=(HC.out w1 s1 _).trans t2
 have e3:=(HC.out w1 s1 _).trans t3
 have e4:=(HC.out w1 s1 _).trans t4
 have e5:=(HC.out w1 s1 _).trans t5
 have hq:=HR.out w1 s1
 unfold exV at hq
 have HQ:=yae hq
 have O1:=yae o1
 clear kb s1 o1 hq t0 t1 t2 t3 t4 t5
 go_wp2_with (go_at_call 101;refine HQ.out.mono ?_;rintro e w2 ⟨rfl,s2,o2⟩)
 try simp only [Exit.inBlock]
 go_end0
 exact ⟨rfl,s2,fun q ob hq hne hty=>o2 q ob (O1.out q ob ((Below.heap_alloc _ _ _ (ltS hq)).trans hq) hne hty) hne hty⟩
theorem ykw {B b:Nat} {Tb:World→Prop} {w0:World} (k:ItoaOk B Tb) (hw:w0.heap.size≤B) (a:Ex) (ih:PE B b Tb w0 a):PE B b Tb w0 (.mk 4 vl0 [] [a]):=by
 intro u hu ws W hS hlen
 obtain ⟨ao,ca,us,rfl,h1⟩:=hu.spread
 obtain ⟨g,o,rfl,-,hg,hc,hx⟩:=h1 (by simp [Ex.args])
 obtain ⟨ky,vy,ny,ay,ey,t0,t1,t2,t3,t4,t5⟩:=hc 0 (by simp [Ex.args])
 simp only [Nat.mul_zero,Nat.add_zero] at t0 t1 t2 t3 t4 t5
 have hx0:=hx 0 a rfl
 have ew:yat (.mk 4 vl0 [] [a])=[[40]]++(yat a++[w_is,w_null,[41]]):=by simp [yat,ydc]
 rw [ew] at hlen ⊢
 have hl1:(yaz (ws++[[40]])).length≤1000000:=Nat.le_trans (yaM _ (yat a++[w_is,w_null,[41]])) (by rw [List.append_assoc];exact hlen)
 have hp:=yae (ycP k hS (.cells #[.int .i64 4,.int .i64 0,.int .i64 0,.string ⟨#[]⟩,.string ⟨#[]⟩,.slice (some ⟨g,o,none⟩) 1 ca] 29) [[40]] 1 #[.string ⟨[40].toArray⟩] rfl rfl (by intro x hx;simp at hx;subst hx;decide) hl1 (by decide))
 have hr:∀ w1,PSt B b Tb w0 (ws++[[40]]) w1→Calls Tryz.prog 101 #[.pointer (some ⟨b,0,none⟩),us 0] w1 (ybb B b Tb w0 (ws++[[40]]++yat a) w1):=by
  intro w1 h1
  refine ih _ hx0 (ws++[[40]]) w1 h1 (Nat.le_trans (yaM _ [w_is,w_null,[41]]) ?_)
  simp only [List.append_assoc] at hlen ⊢
  exact hlen
 rw [ey] at hr
 have HR:=yae hr
 have hf:∀ w2,PSt B b Tb w0 (ws++[[40]]++yat a) w2→Calls Tryz.prog 94 #[.pointer (some ⟨b,0,none⟩),.slice (some ⟨w2.heap.size,0,none⟩) 3 3] (w2.alloc (.cells #[.string ⟨w_is.toArray⟩,.string ⟨w_null.toArray⟩,.string ⟨#[41]⟩] 9)) (ybb B b Tb w0 (ws++([[40]]++(yat a++[w_is,w_null,[41]]))) w2):=by
  intro w2 h2
  have:=ycb k h2 [w_is,w_null,[41]] 3 #[.string ⟨w_is.toArray⟩,.string ⟨w_null.toArray⟩,.string ⟨#[41]⟩] rfl rfl (by intro x hx;simp at hx;rcases hx with rfl|rfl|rfl <;> decide) (by simp only [List.append_assoc] at hlen ⊢;exact hlen) (by decide)
  simp only [List.append_assoc] at this
  exact this
 have HF:=yae hf
 have hgb:g < B:=by omega
 have cells:∀ w1,PSt B b Tb w0 (ws++[[40]]) w1→∀ q,w1.cell? ⟨g,q,none⟩=w0.cell? ⟨g,q,none⟩:=fun w1 h1 q=>h1.bel.cell (p:=⟨g,q,none⟩) hgb
 have HC:=yae cells
 have hbW:b < W.heap.size:=hS.pr.lt
 have HS:=yae hS
 clear hf hr hx hc hx0 h1 ih cells hS hl1 hlen ew
 unfold exV
 simp only [Ex.k,Ex.v,Ex.nm,Ex.args,vl0,List.length_cons,List.length_nil,Nat.zero_add] at *
 go_enter Tryz.func101,Tryz.ntmps101
 go_wp2_with fail
 refine hp.out.mono ?_
 rintro e w1 ⟨rfl,s1,o1⟩
 have kb:w1.heap[W.heap.size]?=some (.cells #[.int .i64 4,.int .i64 0,.int .i64 0,.string ⟨#[]⟩,.string ⟨#[]⟩,.slice (some ⟨g,o,none⟩) 1 ca] 29):=o1 _ _ (heap_alloc_new W _) (by simp;omega) (by intro c f e;cases e)
 have d5:w1.cell? ⟨W.heap.size,5,none⟩=some (.slice (some ⟨g,o,none⟩) 1 ca):=by rw [Lib.cell_of_heap kb];rfl
 have e0:=(HC.out w1 s1 _).trans t0
 have e1:=(HC.out w1 s1 _).trans t1
 have e2:=(HC.out w1 s1 _).trans t2
 have e3:=(HC.out w1 s1 _).trans t3
 have e4:=(HC.out w1 s1 _).trans t4
 have e5:=(HC.out w1 s1 _).trans t5
 have hq:=HR.out w1 s1
 unfold exV at hq
 have HQ:=yae hq
 have O1:=yae o1
 clear kb s1 o1 hq t0 t1 t2 t3 t4 t5
 go_wp2_with (first|(go_at_call 101;refine HQ.out.mono ?_;rintro e w2 ⟨rfl,s2,o2⟩;have HZ:=yae (HF.out w2 s2);have O2:=yae o2)|(go_at_call 94;refine HZ.out.mono ?_;rintro e w3 ⟨rfl,s3,o3⟩))
 try simp only [Exit.inBlock]
 go_end0
 exact ⟨rfl,s3,fun q ob hq hne hty=>o3 q ob (O2.out q ob (O1.out q ob ((Below.heap_alloc _ _ _ (ltS hq)).trans hq) hne hty) hne hty) hne hty⟩
end Go.Proofs.YtkpeklealgicpabGreatDoor
