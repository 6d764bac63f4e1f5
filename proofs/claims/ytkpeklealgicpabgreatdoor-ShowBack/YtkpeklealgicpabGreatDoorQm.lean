/-
  The printer: listed values; what stands in brackets.
  The sixteen ways a command is right; each of its words is one.
  The printer's where; listed fields.
  The printer's command: the short ones.
  The printer's command: delete.
  The printer's command: update, create, insert.
  The printer's change; the commands that alter.
  The printer's choose.
-/
import Derived.Test.YtkpeklealgicpabGreatDoorQa
import Derived.Test.YtkpeklealgicpabGreatDoorQi
import Derived.Test.YtkpeklealgicpabGreatDoorQl

set_option maxRecDepth 100000
set_option maxHeartbeats 8000000
namespace Go.Proofs.YtkpeklealgicpabGreatDoor
open Go.RowKit
theorem yiQ {B b:Nat} {Tb:World→Prop} {w0:World} {ws:List (List UInt8)} {W:World} (k:ItoaOk B Tb) (h:PSt B b Tb w0 ws W) (x:Vl) (h1:ycm x=true) (hlen:(yaz (ws++[ybc x])).length≤1000000) :
  Calls Tryz.prog 99 #[.pointer (some ⟨b,0,none⟩),.agg #[.int .i64 x.k,.int .i64 x.n,.string ⟨x.s.toArray⟩]] W (ybb B b Tb w0 (ws++[ybc x]) W) :=
 (ygi B b ws x W k h.tb h.pr h.hB h1 (yjw h1) hlen).mono fun _ _ q=>h.step k q
theorem yky {B b:Nat} {Tb:World→Prop} {w0:World} (k:ItoaOk B Tb) (l:List Vl) (g o ca:Nat) (hg:g < B) (hrow:∀ i x,l[i]?=some x→w0.cell? ⟨g,o+i*3,none⟩=some (.int .i64 x.k)∧w0.cell? ⟨g,o+i*3+1,none⟩=some (.int .i64 x.n)∧w0.cell? ⟨g,o+i*3+2,none⟩=some (.string ⟨x.s.toArray⟩)) (hok:∀ x ∈ l,ycm x=true) (hn:l.length≤1000)
  (ws:List (List UInt8)) (W:World) (hS:PSt B b Tb w0 ws W) (hlen:(yaz (ws++yaq (fun v=>[ybc v]) l)).length≤1000000) :
  Calls Tryz.prog 135 #[.pointer (some ⟨b,0,none⟩),.slice (some ⟨g,o,none⟩) l.length ca,.func (.func 99) #[.pointer (some ⟨b,0,none⟩)] #[]] W (ybb B b Tb w0 (ws++yaq (fun v=>[ybc v]) l) W):=by
 have HS:=yae hS
 have HROW:=yae hrow
 have HOK:=yae hok
 have HLEN:=yae hlen
 have K:=yae k
 clear hS hrow hok hlen k
 go_enter Tryz.func135,Tryz.ntmps135
 go_wp2
 go_loopw [6,7,10] (fun _ _ i wl=>∃ j:Nat,j≤l.length∧i=.int .i64 (j:Int)∧Hid (PSt B b Tb w0 (ws++yaq (fun v=>[ybc v]) (l.take j)) wl)∧Hid (Lib.OthersKept 5 (some b) W wl)) (fun _ _ i _=>l.length - (intOf i).toNat)
 case atStart=>exact ⟨0,Nat.zero_le _,rfl,by simpa [yaq] using HS,Lib.OthersKept.refl _ _ _⟩
 case round =>
  obtain ⟨j,hj,rfl,R,HO⟩:=hrel
  by_cases hlt:j < l.length
  ·obtain ⟨x,hx⟩:∃ x,l[j]?=some x:=⟨l[j]'hlt,List.getElem?_eq_getElem hlt⟩
   have hlt':(j:Int) < (l.length:Int):=by omega
   have up:∀ q,wr.cell? ⟨g,q,none⟩=w0.cell? ⟨g,q,none⟩:=fun q=>R.out.bel.cell (p:=⟨g,q,none⟩) hg
   have e0:=(up _).trans (HROW.out j x hx).1
   have e1:=(up _).trans (HROW.out j x hx).2.1
   have e2:=(up _).trans (HROW.out j x hx).2.2
   have hbw:b < wr.heap.size:=R.out.pr.lt
   have hxo:=HOK.out x (List.mem_of_getElem? hx)
   have ht:=ycX (fun v=>[ybc v]) l j x hx
   have hle:(yaz (ws++yaq (fun v=>[ybc v]) (l.take (j+1)))).length≤1000000:=by
    obtain ⟨r,hr⟩:=yfe (fun v=>[ybc v]) l (j+1)
    refine Nat.le_trans (yaM _ r) ?_
    rw [List.append_assoc,← hr];exact HLEN.out
   have b0:=(Below.refl wr.heap.size wr).alloc (Nat.le_refl _) (.cells #[.int .i64 x.k,.int .i64 x.n,.string ⟨x.s.toArray⟩] 24)
   by_cases h0:j=0
   ·rw [if_pos h0,List.nil_append] at ht
    rw [ht,← List.append_assoc] at hle
    have hq:=yae (yiQ K.out (R.out.below K.out b0) x hxo hle)
    have h0':¬ ((0:Int) < (j:Int)):=by omega
    have HT:=yae ht
    have B0:=yae b0
    clear hx up ht hle b0 hxo h0
    go_wp2_with (go_at_call 99;refine hq.out.mono ?_;rintro e w2 ⟨rfl,s2,o2⟩)
    go_roundw
    case rel=>exact ⟨j+1,by omega,by go_num,by rw [HT.out,← List.append_assoc];exact s2,fun q ob hq hne hty=>o2 q ob (yao (b:=b) B0.out q ob (HO.out q ob hq hne hty) hne hty) hne hty⟩
    case measure=>simp [intOf];omega
   ·rw [if_neg h0] at ht
    rw [ht,← List.append_assoc,← List.append_assoc] at hle
    have hp:=yae (ycP K.out R.out (.cells #[.int .i64 x.k,.int .i64 x.n,.string ⟨x.s.toArray⟩] 24) [[44]] 1 #[.string ⟨#[44]⟩] rfl rfl (by intro x hx;simp at hx;subst hx;decide) (Nat.le_trans (yaM _ ([ybc x])) hle) (by decide))
    have hq:=yae (fun w1 (s1:PSt B b Tb w0 (ws++yaq (fun v=>[ybc v]) (l.take j)++[[44]]) w1)=>yiQ K.out s1 x hxo hle)
    have h0':((0:Int) < (j:Int)):=by omega
    have HT:=yae ht
    have B0:=yae b0
    clear hx up ht hle b0 hxo h0
    go_wp2_with fail
    refine hp.out.mono ?_
    rintro e w1 ⟨rfl,s1,o1⟩
    have kb:=o1 _ _ (heap_alloc_new wr _) (by simp;omega) (by intro c f e;cases e)
    have d0:w1.cell? ⟨wr.heap.size,0,none⟩=some (.int .i64 x.k):=by rw [Lib.cell_of_heap kb];rfl
    have d1:w1.cell? ⟨wr.heap.size,1,none⟩=some (.int .i64 x.n):=by rw [Lib.cell_of_heap kb];rfl
    have d2:w1.cell? ⟨wr.heap.size,2,none⟩=some (.string ⟨x.s.toArray⟩):=by rw [Lib.cell_of_heap kb];rfl
    have HQ:=yae (hq.out w1 s1)
    have O1:=yae o1
    clear kb s1 o1 hp hq
    go_wp2_with (go_at_call 99;refine HQ.out.mono ?_;rintro e w2 ⟨rfl,s2,o2⟩)
    go_roundw
    case rel=>exact ⟨j+1,by omega,by go_num,by rw [HT.out,← List.append_assoc,← List.append_assoc];exact s2,fun q ob hq hne hty=>o2 q ob (O1.out q ob (yao (b:=b) B0.out q ob (HO.out q ob hq hne hty) hne hty) hne hty) hne hty⟩
    case measure=>simp [intOf];omega
  ·have hlt':¬ ((j:Int) < (l.length:Int)):=by omega
   go_wp2
   go_end0
   have e:l.take j=l:=List.take_of_length_le (by omega)
   refine ⟨rfl, ?_,HO.out⟩
   have:=R.out
   rwa [e] at this
theorem yiB {B b:Nat} {Tb:World→Prop} {w0:World} (k:ItoaOk B Tb) (u f:Value) (vs:List (List UInt8)) (ws:List (List UInt8)) (W:World) (hS:PSt B b Tb w0 ws W)
  (hl:∀ w1,PSt B b Tb w0 (ws++[[40]]) w1→Calls Tryz.prog 134 #[.pointer (some ⟨b,0,none⟩),u,f] w1 (ybb B b Tb w0 (ws++[[40]]++vs) w1)) (hlen:(yaz (ws++([[40]]++(vs++[[41]])))).length≤1000000) :
  Calls Tryz.prog 95 #[.pointer (some ⟨b,0,none⟩),u,f] W (ybb B b Tb w0 (ws++([[40]]++(vs++[[41]]))) W):=by
 have hp:=yae (ycb k hS [[40]] 1 #[.string ⟨#[40]⟩] rfl rfl (by intro x hx;simp at hx;subst hx;decide) (Nat.le_trans (yaM _ (vs++[[41]])) (by rw [List.append_assoc];exact hlen)) (by decide))
 have hf:∀ w2,PSt B b Tb w0 (ws++[[40]]++vs) w2→Calls Tryz.prog 94 #[.pointer (some ⟨b,0,none⟩),.slice (some ⟨w2.heap.size,0,none⟩) 1 1] (w2.alloc (.cells #[.string ⟨#[41]⟩] 9)) (ybb B b Tb w0 (ws++([[40]]++(vs++[[41]]))) w2):=by
  intro w2 h2
  have:=ycb k h2 [[41]] 1 #[.string ⟨#[41]⟩] rfl rfl (by intro x hx;simp at hx;subst hx;decide) (by simp only [List.append_assoc] at hlen ⊢;exact hlen) (by decide)
  simp only [List.append_assoc] at this
  exact this
 have HF:=yae hf
 have HL:=yae hl
 clear hf hl hlen hS
 go_enter Tryz.func95,Tryz.ntmps95
 go_wp2_with fail
 refine hp.out.mono ?_
 rintro e w1 ⟨rfl,s1,o1⟩
 have HQ:=yae (HL.out w1 s1)
 have O1:=yae o1
 clear s1 o1 hp HL
 go_wp2_with (first|(go_at_call 134;refine HQ.out.mono ?_;rintro e w2 ⟨rfl,s2,o2⟩;have HZ:=yae (HF.out w2 s2);have O2:=yae o2)|(go_at_call 94;refine HZ.out.mono ?_;rintro e w3 ⟨rfl,s3,o3⟩))
 go_end0
 exact ⟨rfl,s3,fun q ob hq hne hty=>o3 q ob (O2.out q ob (O1.out q ob hq hne hty) hne hty) hne hty⟩
theorem yiC {B b:Nat} {Tb:World→Prop} {w0:World} (k:ItoaOk B Tb) (u f:Value) (vs:List (List UInt8)) (ws:List (List UInt8)) (W:World) (hS:PSt B b Tb w0 ws W)
  (hl:∀ w1,PSt B b Tb w0 (ws++[[40]]) w1→Calls Tryz.prog 135 #[.pointer (some ⟨b,0,none⟩),u,f] w1 (ybb B b Tb w0 (ws++[[40]]++vs) w1)) (hlen:(yaz (ws++([[40]]++(vs++[[41]])))).length≤1000000) :
  Calls Tryz.prog 98 #[.pointer (some ⟨b,0,none⟩),u,f] W (ybb B b Tb w0 (ws++([[40]]++(vs++[[41]]))) W):=by
 have hp:=yae (ycb k hS [[40]] 1 #[.string ⟨#[40]⟩] rfl rfl (by intro x hx;simp at hx;subst hx;decide) (Nat.le_trans (yaM _ (vs++[[41]])) (by rw [List.append_assoc];exact hlen)) (by decide))
 have hf:∀ w2,PSt B b Tb w0 (ws++[[40]]++vs) w2→Calls Tryz.prog 94 #[.pointer (some ⟨b,0,none⟩),.slice (some ⟨w2.heap.size,0,none⟩) 1 1] (w2.alloc (.cells #[.string ⟨#[41]⟩] 9)) (ybb B b Tb w0 (ws++([[40]]++(vs++[[41]]))) w2):=by
  intro w2 h2
  have:=ycb k h2 [[41]] 1 #[.string ⟨#[41]⟩] rfl rfl (by intro x hx;simp at hx;subst hx;decide) (by simp only [List.append_assoc] at hlen ⊢;exact hlen) (by decide)
  simp only [List.append_assoc] at this
  exact this
 have HF:=yae hf
 have HL:=yae hl
 clear hf hl hlen hS
 go_enter Tryz.func98,Tryz.ntmps98
 go_wp2_with fail
 refine hp.out.mono ?_
 rintro e w1 ⟨rfl,s1,o1⟩
 have HQ:=yae (HL.out w1 s1)
 have O1:=yae o1
 clear s1 o1 hp HL
 go_wp2_with (first|(go_at_call 135;refine HQ.out.mono ?_;rintro e w2 ⟨rfl,s2,o2⟩;have HZ:=yae (HF.out w2 s2);have O2:=yae o2)|(go_at_call 94;refine HZ.out.mono ?_;rintro e w3 ⟨rfl,s3,o3⟩))
 go_end0
 exact ⟨rfl,s3,fun q ob hq hne hty=>o3 q ob (O2.out q ob (O1.out q ob hq hne hty) hne hty) hne hty⟩
inductive RightW:Bool→Ex→Prop where
 | none:RightW true ex0
 | some (x:Ex) (h:RightE x) (hs:ya4 x≤15):RightW false x
inductive RightC:Cm→Prop where
 | create (n:List UInt8) (hn:yap n=true) (l:List Cl) (hl:l≠[]) (h5:l.length≤5) (h:∀ x ∈ l,yap x.name=true∧1≤x.ty∧x.ty≤3):RightC { cm0 with kind:=1,name:=n,cols:=l }
 | drop (n:List UInt8) (hn:yap n=true):RightC { cm0 with kind:=2,name:=n }
 | add (n c:List UInt8) (hn:yap n=true) (hc:yap c=true) (t:Int) (ht:1≤t∧t≤3) (v:Vl) (hv:ycm v=true):RightC { cm0 with kind:=3,name:=n,column:=c,ty:=t,val:=v }
 | take (n c:List UInt8) (hn:yap n=true) (hc:yap c=true):RightC { cm0 with kind:=4,name:=n,column:=c }
 | column (n c o:List UInt8) (hn:yap n=true) (hc:yap c=true) (ho:yap o=true):RightC { cm0 with kind:=5,name:=n,column:=c,other:=o }
 | retype (n c:List UInt8) (hn:yap n=true) (hc:yap c=true) (t:Int) (ht:1≤t∧t≤3):RightC { cm0 with kind:=6,name:=n,column:=c,ty:=t }
 | table (n o:List UInt8) (hn:yap n=true) (ho:yap o=true):RightC { cm0 with kind:=7,name:=n,other:=o }
 | index (n c o:List UInt8) (hn:yap n=true) (hc:yap c=true) (ho:yap o=true):RightC { cm0 with kind:=8,name:=n,other:=o,column:=c }
 | unindex (n:List UInt8) (hn:yap n=true):RightC { cm0 with kind:=9,name:=n }
 | insert (n:List UInt8) (hn:yap n=true) (l:List Vl) (hl:l≠[]) (h5:l.length≤5) (h:∀ x ∈ l,ycm x=true):RightC { cm0 with kind:=10,name:=n,vals:=l }
 | delete (n:List UInt8) (hn:yap n=true) (a:Bool) (x:Ex) (hw:RightW a x):RightC { cm0 with kind:=11,name:=n,all:=a,wh:=x }
 | update (n c:List UInt8) (hn:yap n=true) (hc:yap c=true) (y:Ex) (hy:RightE y) (hs:ya4 y≤15) (a:Bool) (x:Ex) (hw:RightW a x):RightC { cm0 with kind:=12,name:=n,column:=c,expr:=y,all:=a,wh:=x }
 | select (n:List UInt8) (hn:yap n=true) (l:List (List UInt8)) (h5:l.length≤5) (hl:∀ x ∈ l,yap x=true) (a:Bool) (x:Ex) (hw:RightW a x) (o:List UInt8) (ho:o=[]∨yap o=true) (m:Int) (hm:-1≤m∧m≤999999999) :
   RightC { cm0 with kind:=13,name:=n,fields:=l,all:=a,wh:=x,order:=o,limit:=m }
 | begin_:RightC { cm0 with kind:=14 }
 | commit:RightC { cm0 with kind:=15 }
 | rollback:RightC { cm0 with kind:=16 }
theorem ygH {c:Cm} (hr:yeJ c=true) (hm:ybQ c=false):RightC c:=by
 obtain ⟨k,name,other,column,cols,ty,val,vals,fields,expr,all,wh,order,limit⟩:=c
 simp only [yeJ] at hr
 simp only [ybQ,Bool.or_eq_false_iff,decide_eq_false_iff_not] at hm
 obtain ⟨⟨m1,m2⟩,m3⟩:=hm
 have m1:cols.length≤5∧vals.length≤5∧fields.length≤5:=by omega
 have hk:k=1∨k=2∨k=3∨k=4∨k=5∨k=6∨k=7∨k=8∨k=9∨k=10∨k=11∨k=12∨k=13∨k=14∨k=15∨k=16:=by
  simp only [ya6,Bool.and_eq_true,decide_eq_true_eq] at hr
  omega
 have hW:∀ b,(if b=false then exR wh=true else ybw wh=true)→RightW b wh:=by
  intro b hb
  cases b with
  | false=>exact .some wh (yfz _ wh (Nat.le_refl _) hb) (by omega)
  | true=>rw [yaZ hb];exact .none
 rcases hk with rfl|rfl|rfl|rfl|rfl|rfl|rfl|rfl|rfl|rfl|rfl|rfl|rfl|rfl|rfl|rfl
 all_goals simp [ya6,yaB] at hr
 all_goals obtain ⟨⟨⟨⟨⟨⟨h0,h1⟩,h2⟩,h3⟩,h4⟩,h5⟩,h6⟩:=hr
 ·obtain ⟨⟨⟨⟨a1,rfl⟩,rfl⟩,rfl⟩,-,a2⟩:=h0
  obtain ⟨⟨b1,rfl⟩,⟨rfl,rfl⟩,rfl⟩:=h1
  rw [ybD a2,yaZ h5,yaZ h6.1,h6.2]
  exact .create name a1 cols (by intro e;subst e;simp at b1) m1.1 h2
 ·obtain ⟨⟨⟨⟨a1,rfl⟩,rfl⟩,rfl⟩,-,a2⟩:=h0
  obtain ⟨⟨rfl,rfl⟩,⟨rfl,rfl⟩,rfl⟩:=h1
  rw [ybD a2]
  rw [yaZ h5,yaZ h6.1,h6.2]
  exact .drop name a1
 ·obtain ⟨⟨⟨⟨a1,rfl⟩,a3⟩,a4⟩,a2⟩:=h0
  obtain ⟨⟨rfl,rfl⟩,⟨rfl,rfl⟩,rfl⟩:=h1
  rw [yaZ h5,yaZ h6.1,h6.2]
  exact .add name column a1 a3 ty a4 val a2
 ·obtain ⟨⟨⟨⟨a1,rfl⟩,a3⟩,rfl⟩,-,a2⟩:=h0
  obtain ⟨⟨rfl,rfl⟩,⟨rfl,rfl⟩,rfl⟩:=h1
  rw [ybD a2]
  rw [yaZ h5,yaZ h6.1,h6.2]
  exact .take name column a1 a3
 ·obtain ⟨⟨⟨⟨a1,a5⟩,a3⟩,rfl⟩,-,a2⟩:=h0
  obtain ⟨⟨rfl,rfl⟩,⟨rfl,rfl⟩,rfl⟩:=h1
  rw [ybD a2]
  rw [yaZ h5,yaZ h6.1,h6.2]
  exact .column name column other a1 a3 a5
 ·obtain ⟨⟨⟨⟨a1,rfl⟩,a3⟩,a4⟩,-,a2⟩:=h0
  obtain ⟨⟨rfl,rfl⟩,⟨rfl,rfl⟩,rfl⟩:=h1
  rw [ybD a2]
  rw [yaZ h5,yaZ h6.1,h6.2]
  exact .retype name column a1 a3 ty a4
 ·obtain ⟨⟨⟨⟨a1,a5⟩,rfl⟩,rfl⟩,-,a2⟩:=h0
  obtain ⟨⟨rfl,rfl⟩,⟨rfl,rfl⟩,rfl⟩:=h1
  rw [ybD a2]
  rw [yaZ h5,yaZ h6.1,h6.2]
  exact .table name other a1 a5
 ·obtain ⟨⟨⟨⟨a1,a5⟩,a3⟩,rfl⟩,-,a2⟩:=h0
  obtain ⟨⟨rfl,rfl⟩,⟨rfl,rfl⟩,rfl⟩:=h1
  rw [ybD a2]
  rw [yaZ h5,yaZ h6.1,h6.2]
  exact .index name column other a1 a3 a5
 ·obtain ⟨⟨⟨⟨a1,rfl⟩,rfl⟩,rfl⟩,-,a2⟩:=h0
  obtain ⟨⟨rfl,rfl⟩,⟨rfl,rfl⟩,rfl⟩:=h1
  rw [ybD a2]
  rw [yaZ h5,yaZ h6.1,h6.2]
  exact .unindex name a1
 ·obtain ⟨⟨⟨⟨a1,rfl⟩,rfl⟩,rfl⟩,-,a2⟩:=h0
  obtain ⟨⟨rfl,b1⟩,⟨rfl,rfl⟩,rfl⟩:=h1
  rw [ybD a2]
  rw [yaZ h5,yaZ h6.1,h6.2]
  exact .insert name a1 vals (by intro e;subst e;simp at b1) m1.2.1 h3
 ·obtain ⟨⟨⟨⟨a1,rfl⟩,rfl⟩,rfl⟩,-,a2⟩:=h0
  obtain ⟨⟨rfl,rfl⟩,⟨rfl,rfl⟩,rfl⟩:=h1
  rw [ybD a2]
  rw [yaZ h5]
  exact .delete name a1 all wh (hW all (by cases all <;> simpa using h6))
 ·obtain ⟨⟨⟨⟨a1,rfl⟩,a3⟩,rfl⟩,-,a2⟩:=h0
  obtain ⟨⟨rfl,rfl⟩,⟨rfl,rfl⟩,rfl⟩:=h1
  rw [ybD a2]
  exact .update name column a1 a3 expr (yfz _ expr (Nat.le_refl _) h5) (by omega) all wh (hW all (by cases all <;> simpa using h6))
 ·obtain ⟨⟨⟨⟨⟨a1,rfl⟩,rfl⟩,rfl⟩,-,a2⟩,rfl,rfl⟩:=h0
  rw [ybD a2,yaZ h5]
  exact .select name a1 fields m1.2.2 h3 all wh (hW all (by cases all <;> simpa using h6)) order h4.2 limit h4.1
 ·obtain ⟨⟨⟨⟨rfl,rfl⟩,rfl⟩,rfl⟩,-,a2⟩:=h0
  obtain ⟨⟨rfl,rfl⟩,⟨rfl,rfl⟩,rfl⟩:=h1
  rw [ybD a2]
  rw [yaZ h5,yaZ h6.1,h6.2]
  exact .begin_
 ·obtain ⟨⟨⟨⟨rfl,rfl⟩,rfl⟩,rfl⟩,-,a2⟩:=h0
  obtain ⟨⟨rfl,rfl⟩,⟨rfl,rfl⟩,rfl⟩:=h1
  rw [ybD a2]
  rw [yaZ h5,yaZ h6.1,h6.2]
  exact .commit
 ·obtain ⟨⟨⟨⟨rfl,rfl⟩,rfl⟩,rfl⟩,-,a2⟩:=h0
  obtain ⟨⟨rfl,rfl⟩,⟨rfl,rfl⟩,rfl⟩:=h1
  rw [ybD a2]
  rw [yaZ h5,yaZ h6.1,h6.2]
  exact .rollback
theorem yo0:ybS w_where=[(w_where,1)]:=by decide +kernel
theorem ygU {a:Bool} {x:Ex} (h:RightW a x) (c:Cm):∀ w ∈ yar { c with all:=a,wh:=x },okW w:=by
 cases h with
 | none=>intro w hw;simp [yar] at hw
 | some x hx hs =>
  intro w hw
  simp only [yar,Bool.false_eq_true,if_false,List.mem_cons] at hw
  rcases hw with rfl|hw
  ·exact yc7 (by decide +kernel)
  ·exact yhQ hx w hw
theorem yeR {T:List Tk} {a:Bool} {x:Ex} (h:RightW a x) (c c1:Cm) (hc:c.wh=ex0) (h1:c1.all=a) (h2:c1.wh=x) {i:Nat} (hh:Has T i (toks (yar c1))) (hend:yar c1=[]→tx T i≠w_where) :
  ybh T c i=.ok { c with all:=a,wh:=x } (i+(toks (yar c1)).length):=by
 unfold ybh
 cases h with
 | none =>
  have e:yar c1=[]:=by simp [yar,h1]
  have em:may T w_where [] i=.ok false i:=by unfold may;rw [if_neg (hend e)]
  rw [em,e,← hc]
  simp [toks]
 | some x hx hs =>
  have e:yar c1=w_where::yat x:=by simp [yar,h1,h2]
  rw [e,yb3,yo0] at hh ⊢
  have em:may T w_where [] i=.ok true (i+1):=by unfold may;rw [if_pos hh.head.1];rfl
  rw [em]
  simp only [Rs.then_ok,if_true]
  rw [yg4 hx 60 (i+1) (by omega) hh.tail]
  simp only [Rs.then_ok,List.length_append,List.length_cons,List.length_nil]
  congr 1;omega
theorem ygv {α:Type} {f:α→List (List UInt8)} (l:List α) (h:∀ x ∈ l,∀ w ∈ f x,okW w):∀ w ∈ yaq f l,okW w:=by
 cases l with
 | nil=>intro w hw;simp [yaq] at hw
 | cons x xs =>
  rw [yd2]
  intro w hw
  rcases List.mem_append.1 hw with hw|hw
  ·exact h x (List.mem_cons_self ..) w hw
  ·obtain ⟨y,hy,hw⟩:=List.mem_flatMap.1 hw
   rcases List.mem_cons.1 hw with rfl|hw
   ·exact yc7 (by decide +kernel)
   ·exact h y (List.mem_cons_of_mem _ hy) w hw
theorem yo5 {m:Int} (h:0≤m∧m≤999999999):okW (Lib.itoa m):=by
 have e:Lib.itoa m=Lib.decDigits m.toNat:=by rw [Lib.itoa,if_neg (by omega)]
 rw [e]
 intro p hp
 rw [ydk _ (by omega),List.mem_singleton] at hp
 rw [hp];exact ydg _ (by omega)
theorem yfM {c:Cm} (h:RightC c):∀ w ∈ yaP c,okW w:=by
 have kw:∀ {w:List UInt8},okB w=true→okW w:=fun h=>yc7 h
 cases h with
 | create n hn l hl h5 h =>
  intro w hw
  have e:yaP { cm0 with kind:=1,name:=n,cols:=l }=[w_create,w_table,n,[40]]++(yaq ya8 l++[[41]]):=rfl
  rw [e] at hw
  simp only [List.mem_append,List.mem_cons,List.not_mem_nil,or_false] at hw
  rcases hw with (rfl|rfl|rfl|rfl)|hw|rfl
  ·exact kw (by decide +kernel)
  ·exact kw (by decide +kernel)
  ·exact ybo hn
  ·exact kw (by decide +kernel)
  ·refine ygv l (fun x hx w hw=>?_) w hw
   simp only [ya8,List.mem_cons,List.not_mem_nil,or_false] at hw
   rcases hw with rfl|rfl
   ·exact ybo (h x hx).1
   ·exact kw (yck x.ty (h x hx).2).2.1
  ·exact kw (by decide +kernel)
 | drop n hn =>
  intro w hw
  have e:yaP { cm0 with kind:=2,name:=n }=[w_drop,w_table,n]:=rfl
  rw [e] at hw
  simp only [List.mem_cons,List.not_mem_nil,or_false] at hw
  rcases hw with rfl|rfl|rfl <;> first|exact ybo hn|exact kw (by decide +kernel)
 | add n c hn hc t ht v hv =>
  intro w hw
  have e:yaP { cm0 with kind:=3,name:=n,column:=c,ty:=t,val:=v }=[w_alter,w_table,n,w_add,c,atL yaI t,w_default,ybc v]:=rfl
  rw [e] at hw
  simp only [List.mem_cons,List.not_mem_nil,or_false] at hw
  rcases hw with rfl|rfl|rfl|rfl|rfl|rfl|rfl|rfl <;> first|exact ybo hn|exact ybo hc|exact ygV hv|exact kw (yck t ht).2.1|exact kw (by decide +kernel)
 | take n c hn hc =>
  intro w hw
  have e:yaP { cm0 with kind:=4,name:=n,column:=c }=[w_alter,w_table,n,w_drop,c]:=rfl
  rw [e] at hw
  simp only [List.mem_cons,List.not_mem_nil,or_false] at hw
  rcases hw with rfl|rfl|rfl|rfl|rfl <;> first|exact ybo hn|exact ybo hc|exact kw (by decide +kernel)
 | column n c o hn hc ho =>
  intro w hw
  have e:yaP { cm0 with kind:=5,name:=n,column:=c,other:=o }=[w_alter,w_table,n,w_rename,c,w_to,o]:=rfl
  rw [e] at hw
  simp only [List.mem_cons,List.not_mem_nil,or_false] at hw
  rcases hw with rfl|rfl|rfl|rfl|rfl|rfl|rfl <;> first|exact ybo hn|exact ybo hc|exact ybo ho|exact kw (by decide +kernel)
 | retype n c hn hc t ht =>
  intro w hw
  have e:yaP { cm0 with kind:=6,name:=n,column:=c,ty:=t }=[w_alter,w_table,n,w_retype,c,atL yaI t]:=rfl
  rw [e] at hw
  simp only [List.mem_cons,List.not_mem_nil,or_false] at hw
  rcases hw with rfl|rfl|rfl|rfl|rfl|rfl <;> first|exact ybo hn|exact ybo hc|exact kw (yck t ht).2.1|exact kw (by decide +kernel)
 | table n o hn ho =>
  intro w hw
  have e:yaP { cm0 with kind:=7,name:=n,other:=o }=[w_alter,w_table,n,w_rename,w_to,o]:=rfl
  rw [e] at hw
  simp only [List.mem_cons,List.not_mem_nil,or_false] at hw
  rcases hw with rfl|rfl|rfl|rfl|rfl|rfl <;> first|exact ybo hn|exact ybo ho|exact kw (by decide +kernel)
 | index n c o hn hc ho =>
  intro w hw
  have e:yaP { cm0 with kind:=8,name:=n,other:=o,column:=c }=[w_create,w_index,n,w_on,o,[40],c,[41]]:=rfl
  rw [e] at hw
  simp only [List.mem_cons,List.not_mem_nil,or_false] at hw
  rcases hw with rfl|rfl|rfl|rfl|rfl|rfl|rfl|rfl <;> first|exact ybo hn|exact ybo hc|exact ybo ho|exact kw (by decide +kernel)
 | unindex n hn =>
  intro w hw
  have e:yaP { cm0 with kind:=9,name:=n }=[w_drop,w_index,n]:=rfl
  rw [e] at hw
  simp only [List.mem_cons,List.not_mem_nil,or_false] at hw
  rcases hw with rfl|rfl|rfl <;> first|exact ybo hn|exact kw (by decide +kernel)
 | insert n hn l hl h5 h =>
  intro w hw
  have e:yaP { cm0 with kind:=10,name:=n,vals:=l }=[w_insert,w_into,n,w_values,[40]]++(yaq (fun v=>[ybc v]) l++[[41]]):=rfl
  rw [e] at hw
  simp only [List.mem_append,List.mem_cons,List.not_mem_nil,or_false] at hw
  rcases hw with (rfl|rfl|rfl|rfl|rfl)|hw|rfl
  ·exact kw (by decide +kernel)
  ·exact kw (by decide +kernel)
  ·exact ybo hn
  ·exact kw (by decide +kernel)
  ·exact kw (by decide +kernel)
  ·refine ygv l (fun x hx w hw=>?_) w hw
   simp only [List.mem_cons,List.not_mem_nil,or_false] at hw
   rw [hw];exact ygV (h x hx)
  ·exact kw (by decide +kernel)
 | delete n hn a x hw =>
  intro w hm
  have e:yaP { cm0 with kind:=11,name:=n,all:=a,wh:=x }=[w_delete,w_from,n]++yar { cm0 with kind:=11,name:=n,all:=a,wh:=x }:=rfl
  rw [e] at hm
  simp only [List.mem_append,List.mem_cons,List.not_mem_nil,or_false] at hm
  rcases hm with (rfl|rfl|rfl)|hm
  ·exact kw (by decide +kernel)
  ·exact kw (by decide +kernel)
  ·exact ybo hn
  ·exact ygU hw { cm0 with kind:=11,name:=n } w hm
 | update n c hn hc y hy hs a x hw =>
  intro w hm
  have e:yaP { cm0 with kind:=12,name:=n,column:=c,expr:=y,all:=a,wh:=x }=[w_update,n,w_set,c,[61]]++(yat y++yar { cm0 with kind:=12,name:=n,column:=c,expr:=y,all:=a,wh:=x }):=rfl
  rw [e] at hm
  simp only [List.mem_append,List.mem_cons,List.not_mem_nil,or_false] at hm
  rcases hm with (rfl|rfl|rfl|rfl|rfl)|hm|hm
  ·exact kw (by decide +kernel)
  ·exact ybo hn
  ·exact kw (by decide +kernel)
  ·exact ybo hc
  ·exact kw (by decide +kernel)
  ·exact yhQ hy w hm
  ·exact ygU hw { cm0 with kind:=12,name:=n,column:=c,expr:=y } w hm
 | select n hn l h5 hl a x hw o ho m hm =>
  intro w hq
  have e:yaP { cm0 with kind:=13,name:=n,fields:=l,all:=a,wh:=x,order:=o,limit:=m }=w_select::((if l=[] then [[42]] else yaq (fun s=>[s]) l)++([w_from,n]++(yar { cm0 with all:=a,wh:=x }++((if o=[] then [] else [w_order,w_by,o])++(if m < 0 then [] else [w_limit,Lib.itoa m]))))):=rfl
  rw [e] at hq
  simp only [List.mem_append,List.mem_cons,List.not_mem_nil,or_false] at hq
  rcases hq with rfl|hq|(rfl|rfl)|hq|hq|hq
  ·exact kw (by decide +kernel)
  ·split at hq
   ·simp only [List.mem_cons,List.not_mem_nil,or_false] at hq
    rw [hq];exact kw (by decide +kernel)
   ·refine ygv l (fun x hx w hw=>?_) w hq
    simp only [List.mem_cons,List.not_mem_nil,or_false] at hw
    rw [hw];exact ybo (hl x hx)
  ·exact kw (by decide +kernel)
  ·exact ybo hn
  ·exact ygU hw cm0 w hq
  ·split at hq
   ·simp at hq
   ·rename_i ho'
    simp only [List.mem_cons,List.not_mem_nil,or_false] at hq
    rcases hq with rfl|rfl|rfl
    ·exact kw (by decide +kernel)
    ·exact kw (by decide +kernel)
    ·exact ybo (by rcases ho with h|h;exact absurd h ho';exact h)
  ·split at hq
   ·simp at hq
   ·simp only [List.mem_cons,List.not_mem_nil,or_false] at hq
    rcases hq with rfl|rfl
    ·exact kw (by decide +kernel)
    ·exact yo5 (by omega)
 | begin_=>intro w hw;have e:yaP { cm0 with kind:=14 }=[w_begin]:=rfl;rw [e,List.mem_singleton] at hw;rw [hw];exact kw (by decide +kernel)
 | commit=>intro w hw;have e:yaP { cm0 with kind:=15 }=[w_commit]:=rfl;rw [e,List.mem_singleton] at hw;rw [hw];exact kw (by decide +kernel)
 | rollback=>intro w hw;have e:yaP { cm0 with kind:=16 }=[w_rollback]:=rfl;rw [e,List.mem_singleton] at hw;rw [hw];exact kw (by decide +kernel)
theorem ybW {B b:Nat} {Tb:World→Prop} {w0:World} (k:ItoaOk B Tb) (hw:w0.heap.size≤B) (c:Cm) (cv vv fv ea wa:Value) (hx:ExAt 0 w0 (exV c.wh.k c.wh.v c.wh.nm wa) c.wh) (hr:RightW c.all c.wh)
  (ws:List (List UInt8)) (W:World) (hS:PSt B b Tb w0 ws W) (hlen:(yaz (ws++yar c)).length≤1000000) :
  Calls Tryz.prog 100 #[.pointer (some ⟨b,0,none⟩),.agg (cmL c cv vv fv ea wa).toArray] W (ybb B b Tb w0 (ws++yar c) W):=by
 have b0:=(Below.refl W.heap.size W).alloc (Nat.le_refl _) (.cells (cmL c cv vv fv ea wa).toArray 31)
 cases ha:c.all with
 | true =>
  have ew:yar c=[]:=by rw [yar,if_pos ha]
  rw [ew,List.append_nil]
  have hp:=yae (hS.below k b0)
  have B0:=yae b0
  clear hx hr hlen hS ew b0 hw k
  unfold cmL
  rw [ha]
  go_enter Tryz.func100,Tryz.ntmps100
  go_wp2
  go_end0
  refine ⟨rfl, ?_,yao ?_⟩
  ·have:=hp.out;unfold cmL at this;rw [ha] at this;exact this
  ·have:=B0.out;unfold cmL at this;rw [ha] at this;exact this
 | false =>
  have hre:RightE c.wh:=by
   rw [ha] at hr
   generalize c.wh=y at hr
   cases hr with
   | some x h hs=>exact h
  have ew:yar c=[w_where]++yat c.wh:=by rw [yar,if_neg (by rw [ha];decide)];rfl
  rw [ew] at hlen ⊢
  have hp:=ycP k hS (.cells (cmL c cv vv fv ea wa).toArray 31) [w_where] 1 #[.string ⟨w_where.toArray⟩] rfl rfl (by intro x hx;simp at hx;subst hx;decide) (Nat.le_trans (yaM _ (yat c.wh)) (by rw [List.append_assoc];exact hlen)) (by decide)
  have HQ:=yae (fun w1 (s1:PSt B b Tb w0 (ws++[w_where]) w1)=>(yhs k hw hre) _ hx (ws++[w_where]) w1 s1 (by rw [List.append_assoc];exact hlen))
  have hbW:b < W.heap.size:=hS.pr.lt
  unfold cmL at hp ⊢
  rw [ha] at hp ⊢
  have HP:=yae hp
  clear hx hr hre hlen hS ew b0 hw k hp
  go_enter Tryz.func100,Tryz.ntmps100
  go_wp2_with fail
  refine HP.out.mono ?_
  rintro e w1 ⟨rfl,s1,o1⟩
  have kb:=o1 _ _ (heap_alloc_new W _) (by simp;omega) (by intro c f e;cases e)
  have d18:w1.cell? ⟨W.heap.size,18,none⟩=some (.int .i64 c.wh.k):=by rw [Lib.cell_of_heap kb];rfl
  have d19:w1.cell? ⟨W.heap.size,19,none⟩=some (.int .i64 c.wh.v.k):=by rw [Lib.cell_of_heap kb];rfl
  have d20:w1.cell? ⟨W.heap.size,20,none⟩=some (.int .i64 c.wh.v.n):=by rw [Lib.cell_of_heap kb];rfl
  have d21:w1.cell? ⟨W.heap.size,21,none⟩=some (.string ⟨c.wh.v.s.toArray⟩):=by rw [Lib.cell_of_heap kb];rfl
  have d22:w1.cell? ⟨W.heap.size,22,none⟩=some (.string ⟨c.wh.nm.toArray⟩):=by rw [Lib.cell_of_heap kb];rfl
  have d23:w1.cell? ⟨W.heap.size,23,none⟩=some (wa):=by rw [Lib.cell_of_heap kb];rfl
  have hq:=HQ.out w1 s1
  unfold exV at hq
  have HZ:=yae hq
  have O1:=yae o1
  clear kb s1 o1 hq HP HQ
  go_wp2_with (go_at_call 101;refine HZ.out.mono ?_;rintro e w2 ⟨rfl,s2,o2⟩)
  go_end0
  refine ⟨rfl, ?_,fun q ob hq hne hty=>o2 q ob (O1.out q ob ((Below.heap_alloc _ _ _ (ltS hq)).trans hq) hne hty) hne hty⟩
  have:=s2
  rw [List.append_assoc] at this
  exact this
theorem ygf {B b:Nat} {Tb:World→Prop} {w0:World} (k:ItoaOk B Tb) (vb:Nat) (s:List UInt8) (hs:s≠[]) (ws:List (List UInt8)) (W:World) (hS:PSt B b Tb w0 ws W) (hv:W.cell? ⟨vb,0,none⟩=some (.pointer (some ⟨b,0,none⟩))) (hlen:(yaz (ws++[s])).length≤1000000) :
  Calls Tryz.prog 140 #[.string ⟨s.toArray⟩,.pointer (some ⟨vb,0,none⟩)] W (ybb B b Tb w0 (ws++[s]) W):=by
 have hp:=yae (ycb k hS [s] 1 #[.string ⟨s.toArray⟩] rfl rfl (by intro x hx;simp at hx;subst hx;exact hs) hlen (by decide))
 clear hS hlen hs k
 go_enter Tryz.func140,Tryz.ntmps140
 go_wp2_with (go_at_call 94;refine hp.out.mono ?_;rintro e w1 ⟨rfl,s1,o1⟩)
 go_end0
 exact ⟨rfl,s1,o1⟩
theorem ydS {B b:Nat} {Tb:World→Prop} {w0:World} (k:ItoaOk B Tb) (l:List (List UInt8)) (g o ca vb:Nat) (hg:g < B) (hrow:∀ i x,l[i]?=some x→w0.cell? ⟨g,o+i,none⟩=some (.string ⟨x.toArray⟩)) (hok:∀ x ∈ l,x≠[]) (hn:l.length≤1000)
  (ws:List (List UInt8)) (W:World) (hS:PSt B b Tb w0 ws W) (hvb:W.heap[vb]?=some (.cells #[.pointer (some ⟨b,0,none⟩)] 117)) (hvn:vb≠b) (hlen:(yaz (ws++yaq (fun s=>[s]) l)).length≤1000000) :
  Calls Tryz.prog 139 #[.pointer (some ⟨b,0,none⟩),.slice (some ⟨g,o,none⟩) l.length ca,.func (.func 140) #[] #[.pointer (some ⟨vb,0,none⟩)]] W (ybb B b Tb w0 (ws++yaq (fun s=>[s]) l) W):=by
 have HS:=yae hS
 have HV:=yae hvb
 have HROW:=yae hrow
 have HOK:=yae hok
 have HLEN:=yae hlen
 have K:=yae k
 clear hvb hS hrow hok hlen k
 go_enter Tryz.func139,Tryz.ntmps139
 go_wp2
 go_loopw [6,7,10] (fun _ _ i wl=>∃ j:Nat,j≤l.length∧i=.int .i64 (j:Int)∧Hid (PSt B b Tb w0 (ws++yaq (fun s=>[s]) (l.take j)) wl)∧Hid (Lib.OthersKept 5 (some b) W wl)) (fun _ _ i _=>l.length - (intOf i).toNat)
 case atStart=>exact ⟨0,Nat.zero_le _,rfl,by simpa [yaq] using HS,Lib.OthersKept.refl _ _ _⟩
 case round =>
  obtain ⟨j,hj,rfl,R,HO⟩:=hrel
  by_cases hlt:j < l.length
  ·obtain ⟨x,hx⟩:∃ x,l[j]?=some x:=⟨l[j]'hlt,List.getElem?_eq_getElem hlt⟩
   have hlt':(j:Int) < (l.length:Int):=by omega
   have up:∀ q,wr.cell? ⟨g,q,none⟩=w0.cell? ⟨g,q,none⟩:=fun q=>R.out.bel.cell (p:=⟨g,q,none⟩) hg
   have e0:=(up _).trans (HROW.out j x hx)
   have kv:wr.heap[vb]?=some (.cells #[.pointer (some ⟨b,0,none⟩)] 117):=HO.out _ _ HV.out (by simpa using hvn) (by intro c f e;cases e)
   have cv:wr.cell? ⟨vb,0,none⟩=some (.pointer (some ⟨b,0,none⟩)):=by rw [Lib.cell_of_heap kv];rfl
   have hbw:b < wr.heap.size:=R.out.pr.lt
   have hxo:=HOK.out x (List.mem_of_getElem? hx)
   have ht:=ycX (fun s=>[s]) l j x hx
   have hle:(yaz (ws++yaq (fun s=>[s]) (l.take (j+1)))).length≤1000000:=by
    obtain ⟨r,hr⟩:=yfe (fun s=>[s]) l (j+1)
    refine Nat.le_trans (yaM _ r) ?_
    rw [List.append_assoc,← hr];exact HLEN.out
   by_cases h0:j=0
   ·rw [if_pos h0,List.nil_append] at ht
    rw [ht,← List.append_assoc] at hle
    have hq:=yae (ygf K.out vb x hxo _ wr R.out cv hle)
    have h0':¬ ((0:Int) < (j:Int)):=by omega
    have HT:=yae ht
    have KV:=yae kv
    clear hx up ht hle hxo h0 kv cv
    go_wp2_with (go_at_call 140;refine hq.out.mono ?_;rintro e w2 ⟨rfl,s2,o2⟩)
    go_roundw
    case rel=>exact ⟨j+1,by omega,by go_num,by rw [HT.out,← List.append_assoc];exact s2,fun q ob hq hne hty=>o2 q ob (HO.out q ob hq hne hty) hne hty⟩
    case measure=>simp [intOf];omega
   ·rw [if_neg h0] at ht
    rw [ht,← List.append_assoc,← List.append_assoc] at hle
    have hp:=yae (ycb K.out R.out [[44]] 1 #[.string ⟨#[44]⟩] rfl rfl (by intro x hx;simp at hx;subst hx;decide) (Nat.le_trans (yaM _ ([x])) hle) (by decide))
    have hq:=yae (fun w1 (s1:PSt B b Tb w0 (ws++yaq (fun s=>[s]) (l.take j)++[[44]]) w1) (hc:w1.cell? ⟨vb,0,none⟩=some (.pointer (some ⟨b,0,none⟩)))=>ygf K.out vb x hxo _ w1 s1 hc hle)
    have h0':((0:Int) < (j:Int)):=by omega
    have HT:=yae ht
    have KV:=yae kv
    clear hx up ht hle hxo h0 kv cv
    go_wp2_with fail
    refine hp.out.mono ?_
    rintro e w1 ⟨rfl,s1,o1⟩
    have kb:=o1 _ _ KV.out (by simpa using hvn) (by intro c f e;cases e)
    have d0:w1.cell? ⟨vb,0,none⟩=some (.pointer (some ⟨b,0,none⟩)):=by rw [Lib.cell_of_heap kb];rfl
    have HQ:=yae (hq.out w1 s1 d0)
    have O1:=yae o1
    clear kb s1 o1 hp hq
    go_wp2_with (go_at_call 140;refine HQ.out.mono ?_;rintro e w2 ⟨rfl,s2,o2⟩)
    go_roundw
    case rel=>exact ⟨j+1,by omega,by go_num,by rw [HT.out,← List.append_assoc,← List.append_assoc];exact s2,fun q ob hq hne hty=>o2 q ob (O1.out q ob (HO.out q ob hq hne hty) hne hty) hne hty⟩
    case measure=>simp [intOf];omega
  ·have hlt':¬ ((j:Int) < (l.length:Int)):=by omega
   go_wp2
   go_end0
   have e:l.take j=l:=List.take_of_length_le (by omega)
   refine ⟨rfl, ?_,HO.out⟩
   have:=R.out
   rwa [e] at this
theorem ybR {B b:Nat} {Tb:World→Prop} {w0:World} {ws:List (List UInt8)} {W:World} (k:ItoaOk B Tb) (h:PSt B b Tb w0 ws W) (o:Obj) (ts:List (List UInt8)) (n:Nat) (cs:Array Value) (hcs:cs.toList=ts.map fun x=>Value.string ⟨x.toArray⟩) (hn:ts.length=n) (hne:∀ x ∈ ts,x≠[]) (hlen:(yaz (ws++ts)).length≤1000000) (hsm:n≤1000000) :
  Calls Tryz.prog 94 #[.pointer (some ⟨b,0,none⟩),.slice (some ⟨W.heap.size+1,0,none⟩) n n] ((W.alloc o).drew.alloc (.cells cs 9)) (ybb B b Tb w0 (ws++ts) (W.alloc o).drew):=by
 have h1:=h.below k ((Below.refl W.heap.size W).alloc (Nat.le_refl _) o).drew
 have:=ycb k h1 ts n cs hcs hn hne hlen hsm
 rw [show (W.alloc o).drew.heap.size=W.heap.size+1 by simp] at this
 exact this
theorem ys3 {B b:Nat} {Tb:World→Prop} {w0:World} (k:ItoaOk B Tb) (n:List UInt8) (hn:n≠[]) (cv vv fv ea wa:Value) (ws:List (List UInt8)) (W:World) (hS:PSt B b Tb w0 ws W) (hlen:(yaz (ws++[w_drop,w_table,n])).length≤1000000) :
  Calls Tryz.prog 46 #[.pointer (some ⟨b,0,none⟩),.agg (cmL { cm0 with kind:=2,name:=n } cv vv fv ea wa).toArray] W (ybb B b Tb w0 (ws++[w_drop,w_table,n]) W):=by
 have hp:=ybR k hS (.cells (cmL { cm0 with kind:=2,name:=n } cv vv fv ea wa).toArray 31) [w_drop,w_table,n] 3 #[.string ⟨w_drop.toArray⟩,.string ⟨w_table.toArray⟩,.string ⟨n.toArray⟩] rfl rfl (by intro x hx;simp at hx;rcases hx with rfl|rfl|rfl <;> first|assumption|decide) hlen (by decide)
 have B0:=yae (((Below.refl W.heap.size W).alloc (Nat.le_refl _) (.cells (cmL { cm0 with kind:=2,name:=n } cv vv fv ea wa).toArray 31)).drew)
 unfold cmL at hp B0 ⊢
 simp only [cm0] at hp B0 ⊢
 have HP:=yae hp
 clear hp hlen hS k hn
 go_enter Tryz.func46,Tryz.ntmps46
 go_wp2_with fail
 go_region_law (first|(go_simp;refine HP.out.mono ?_;rintro e w2 ⟨rfl,s2,o2⟩;dsimp only))
 all_goals
  simp only [Exit.inBlock]
  go_end0
  exact ⟨rfl,s2,fun q ob hq hne hty=>o2 q ob (yao (b:=b) B0.out q ob hq hne hty) hne hty⟩
theorem yta {B b:Nat} {Tb:World→Prop} {w0:World} (k:ItoaOk B Tb) (n:List UInt8) (hn:n≠[]) (cv vv fv ea wa:Value) (ws:List (List UInt8)) (W:World) (hS:PSt B b Tb w0 ws W) (hlen:(yaz (ws++[w_drop,w_index,n])).length≤1000000) :
  Calls Tryz.prog 46 #[.pointer (some ⟨b,0,none⟩),.agg (cmL { cm0 with kind:=9,name:=n } cv vv fv ea wa).toArray] W (ybb B b Tb w0 (ws++[w_drop,w_index,n]) W):=by
 have hp:=ybR k hS (.cells (cmL { cm0 with kind:=9,name:=n } cv vv fv ea wa).toArray 31) [w_drop,w_index,n] 3 #[.string ⟨w_drop.toArray⟩,.string ⟨w_index.toArray⟩,.string ⟨n.toArray⟩] rfl rfl (by intro x hx;simp at hx;rcases hx with rfl|rfl|rfl <;> first|assumption|decide) hlen (by decide)
 have B0:=yae (((Below.refl W.heap.size W).alloc (Nat.le_refl _) (.cells (cmL { cm0 with kind:=9,name:=n } cv vv fv ea wa).toArray 31)).drew)
 unfold cmL at hp B0 ⊢
 simp only [cm0] at hp B0 ⊢
 have HP:=yae hp
 clear hp hlen hS k hn
 go_enter Tryz.func46,Tryz.ntmps46
 go_wp2_with fail
 go_region_law (first|(go_simp;refine HP.out.mono ?_;rintro e w2 ⟨rfl,s2,o2⟩;dsimp only))
 all_goals
  simp only [Exit.inBlock]
  go_end0
  exact ⟨rfl,s2,fun q ob hq hne hty=>o2 q ob (yao (b:=b) B0.out q ob hq hne hty) hne hty⟩
theorem ys9 {B b:Nat} {Tb:World→Prop} {w0:World} (k:ItoaOk B Tb) (n c o:List UInt8) (hn:n≠[]) (hc:c≠[]) (ho:o≠[]) (cv vv fv ea wa:Value) (ws:List (List UInt8)) (W:World) (hS:PSt B b Tb w0 ws W) (hlen:(yaz (ws++[w_create,w_index,n,w_on,o,[40],c,[41]])).length≤1000000) :
  Calls Tryz.prog 46 #[.pointer (some ⟨b,0,none⟩),.agg (cmL { cm0 with kind:=8,name:=n,other:=o,column:=c } cv vv fv ea wa).toArray] W (ybb B b Tb w0 (ws++[w_create,w_index,n,w_on,o,[40],c,[41]]) W):=by
 have hp:=ybR k hS (.cells (cmL { cm0 with kind:=8,name:=n,other:=o,column:=c } cv vv fv ea wa).toArray 31) [w_create,w_index,n,w_on,o,[40],c,[41]] 8 #[.string ⟨w_create.toArray⟩,.string ⟨w_index.toArray⟩,.string ⟨n.toArray⟩,.string ⟨w_on.toArray⟩,.string ⟨o.toArray⟩,.string ⟨[40].toArray⟩,.string ⟨c.toArray⟩,.string ⟨[41].toArray⟩] rfl rfl (by intro x hx;simp at hx;rcases hx with rfl|rfl|rfl|rfl|rfl|rfl|rfl|rfl <;> first|assumption|decide) hlen (by decide)
 have B0:=yae (((Below.refl W.heap.size W).alloc (Nat.le_refl _) (.cells (cmL { cm0 with kind:=8,name:=n,other:=o,column:=c } cv vv fv ea wa).toArray 31)).drew)
 unfold cmL at hp B0 ⊢
 simp only [cm0] at hp B0 ⊢
 have HP:=yae hp
 clear hp hlen hS k hn hc ho
 go_enter Tryz.func46,Tryz.ntmps46
 go_wp2_with fail
 go_region_law (first|(go_simp;refine HP.out.mono ?_;rintro e w2 ⟨rfl,s2,o2⟩;dsimp only))
 all_goals
  simp only [Exit.inBlock]
  go_end0
  exact ⟨rfl,s2,fun q ob hq hne hty=>o2 q ob (yao (b:=b) B0.out q ob hq hne hty) hne hty⟩
theorem yrr {B b:Nat} {Tb:World→Prop} {w0:World} (k:ItoaOk B Tb)  (cv vv fv ea wa:Value) (ws:List (List UInt8)) (W:World) (hS:PSt B b Tb w0 ws W) (hlen:(yaz (ws++[w_begin])).length≤1000000) :
  Calls Tryz.prog 46 #[.pointer (some ⟨b,0,none⟩),.agg (cmL { cm0 with kind:=14 } cv vv fv ea wa).toArray] W (ybb B b Tb w0 (ws++[w_begin]) W):=by
 have hp:=ycP k hS (.cells (cmL { cm0 with kind:=14 } cv vv fv ea wa).toArray 31) [w_begin] 1 #[.string ⟨w_begin.toArray⟩] rfl rfl (by intro x hx;simp at hx;rcases hx with rfl <;> first|assumption|decide) hlen (by decide)
 have B0:=yae (((Below.refl W.heap.size W).alloc (Nat.le_refl _) (.cells (cmL { cm0 with kind:=14 } cv vv fv ea wa).toArray 31)).drew)
 unfold cmL at hp B0 ⊢
 simp only [cm0] at hp B0 ⊢
 have HP:=yae hp
 clear hp hlen hS k
 go_enter Tryz.func46,Tryz.ntmps46
 go_wp2_with (go_at_call 94;refine HP.out.mono ?_;rintro e w1 ⟨rfl,s1,o1⟩)
 try simp only [Exit.inBlock]
 go_end0
 exact ⟨rfl,s1,fun q ob hq hne hty=>o1 q ob ((Below.heap_alloc _ _ _ (ltS hq)).trans hq) hne hty⟩
theorem yrs {B b:Nat} {Tb:World→Prop} {w0:World} (k:ItoaOk B Tb)  (cv vv fv ea wa:Value) (ws:List (List UInt8)) (W:World) (hS:PSt B b Tb w0 ws W) (hlen:(yaz (ws++[w_commit])).length≤1000000) :
  Calls Tryz.prog 46 #[.pointer (some ⟨b,0,none⟩),.agg (cmL { cm0 with kind:=15 } cv vv fv ea wa).toArray] W (ybb B b Tb w0 (ws++[w_commit]) W):=by
 have hp:=ycP k hS (.cells (cmL { cm0 with kind:=15 } cv vv fv ea wa).toArray 31) [w_commit] 1 #[.string ⟨w_commit.toArray⟩] rfl rfl (by intro x hx;simp at hx;rcases hx with rfl <;> first|assumption|decide) hlen (by decide)
 have B0:=yae (((Below.refl W.heap.size W).alloc (Nat.le_refl _) (.cells (cmL { cm0 with kind:=15 } cv vv fv ea wa).toArray 31)).drew)
 unfold cmL at hp B0 ⊢
 simp only [cm0] at hp B0 ⊢
 have HP:=yae hp
 clear hp hlen hS k
 go_enter Tryz.func46,Tryz.ntmps46
 go_wp2_with (go_at_call 94;refine HP.out.mono ?_;rintro e w1 ⟨rfl,s1,o1⟩)
 try simp only [Exit.inBlock]
 go_end0
 exact ⟨rfl,s1,fun q ob hq hne hty=>o1 q ob ((Below.heap_alloc _ _ _ (ltS hq)).trans hq) hne hty⟩
theorem yrt {B b:Nat} {Tb:World→Prop} {w0:World} (k:ItoaOk B Tb)  (cv vv fv ea wa:Value) (ws:List (List UInt8)) (W:World) (hS:PSt B b Tb w0 ws W) (hlen:(yaz (ws++[w_rollback])).length≤1000000) :
  Calls Tryz.prog 46 #[.pointer (some ⟨b,0,none⟩),.agg (cmL { cm0 with kind:=16 } cv vv fv ea wa).toArray] W (ybb B b Tb w0 (ws++[w_rollback]) W):=by
 have hp:=ycP k hS (.cells (cmL { cm0 with kind:=16 } cv vv fv ea wa).toArray 31) [w_rollback] 1 #[.string ⟨w_rollback.toArray⟩] rfl rfl (by intro x hx;simp at hx;rcases hx with rfl <;> first|assumption|decide) hlen (by decide)
 have B0:=yae (((Below.refl W.heap.size W).alloc (Nat.le_refl _) (.cells (cmL { cm0 with kind:=16 } cv vv fv ea wa).toArray 31)).drew)
 unfold cmL at hp B0 ⊢
 simp only [cm0] at hp B0 ⊢
 have HP:=yae hp
 clear hp hlen hS k
 go_enter Tryz.func46,Tryz.ntmps46
 go_wp2_with (go_at_call 94;refine HP.out.mono ?_;rintro e w1 ⟨rfl,s1,o1⟩)
 try simp only [Exit.inBlock]
 go_end0
 exact ⟨rfl,s1,fun q ob hq hne hty=>o1 q ob ((Below.heap_alloc _ _ _ (ltS hq)).trans hq) hne hty⟩
theorem yro {B b:Nat} {Tb:World→Prop} {w0:World} (k:ItoaOk B Tb) (hw:w0.heap.size≤B) (n:List UInt8) (hn:n≠[]) (a:Bool) (x:Ex) (hr:RightW a x) (cv vv fv ea wa:Value) (hi:CmIn 0 w0 { cm0 with kind:=11,name:=n,all:=a,wh:=x } cv vv fv ea wa) (ws:List (List UInt8)) (W:World) (hS:PSt B b Tb w0 ws W) (hlen:(yaz (ws++([w_delete,w_from,n]++yar { cm0 with kind:=11,name:=n,all:=a,wh:=x }))).length≤1000000) :
  Calls Tryz.prog 46 #[.pointer (some ⟨b,0,none⟩),.agg (cmL { cm0 with kind:=11,name:=n,all:=a,wh:=x } cv vv fv ea wa).toArray] W (ybb B b Tb w0 (ws++([w_delete,w_from,n]++yar { cm0 with kind:=11,name:=n,all:=a,wh:=x })) W):=by
 have hp:=ybR k hS (.cells (cmL { cm0 with kind:=11,name:=n,all:=a,wh:=x } cv vv fv ea wa).toArray 31) [w_delete,w_from,n] 3 #[.string ⟨w_delete.toArray⟩,.string ⟨w_from.toArray⟩,.string ⟨n.toArray⟩] rfl rfl (by intro x hx;simp at hx;rcases hx with rfl|rfl|rfl <;> first|assumption|decide) (Nat.le_trans (yaM _ (yar { cm0 with kind:=11,name:=n,all:=a,wh:=x })) (by rw [List.append_assoc];exact hlen)) (by decide)
 have HQ:=yae (fun w1 (s1:PSt B b Tb w0 (ws++[w_delete,w_from,n]) w1)=>ybW k hw { cm0 with kind:=11,name:=n,all:=a,wh:=x } cv vv fv ea wa hi.wh hr (ws++[w_delete,w_from,n]) w1 s1 (by rw [List.append_assoc];exact hlen))
 have B0:=yae (((Below.refl W.heap.size W).alloc (Nat.le_refl _) (.cells (cmL { cm0 with kind:=11,name:=n,all:=a,wh:=x } cv vv fv ea wa).toArray 31)).drew)
 have hbW:b < W.heap.size:=hS.pr.lt
 have HI:=yae hi
 have HP:=yae hp
 clear hp hlen hS k hn hi hr hw
 unfold cmL
 simp only [cm0]
 go_enter Tryz.func46,Tryz.ntmps46
 go_wp2_with fail
 go_region_law (first|(go_simp;refine HP.out.mono ?_;rintro e w2 ⟨rfl,s2,o2⟩;dsimp only))
 all_goals
  have kb:=o2 _ _ (show (W.alloc _).drew.heap[W.heap.size]?=_ from heap_alloc_new W _) (by simp;omega) (by intro c f e;cases e)
  have HZ:=yae (HQ.out w2 s2)
  have O2:=yae o2
  clear s2 o2 HP HQ
  go_wp2_with (first|(refine yaf 31 _ rfl rfl _ (cmL { cm0 with kind:=11,name:=n,all:=a,wh:=x } cv vv fv ea wa) 31 _ rfl (by exact kb) Tryz.underlying31 rfl Tryz.size31 ?_)|(go_at_call 100;refine HZ.out.mono ?_;rintro e w3 ⟨rfl,s3,o3⟩))
  try simp only [Exit.inBlock]
  go_end0
  refine ⟨rfl, ?_,fun q ob hq hne hty=>o3 q ob (O2.out q ob (yao (b:=b) B0.out q ob hq hne hty) hne hty) hne hty⟩
  have:=s3
  rw [List.append_assoc] at this
  exact this
theorem yrp {B b:Nat} {Tb:World→Prop} {w0:World} (k:ItoaOk B Tb) (hw:w0.heap.size≤B) (n c:List UInt8) (hn:n≠[]) (hc:c≠[]) (y:Ex) (hy:RightE y) (a:Bool) (x:Ex) (hr:RightW a x) (cv vv fv ea wa:Value) (hi:CmIn 0 w0 { cm0 with kind:=12,name:=n,column:=c,expr:=y,all:=a,wh:=x } cv vv fv ea wa) (ws:List (List UInt8)) (W:World) (hS:PSt B b Tb w0 ws W) (hlen:(yaz (ws++([w_update,n,w_set,c,[61]]++(yat y++yar { cm0 with kind:=12,name:=n,column:=c,expr:=y,all:=a,wh:=x })))).length≤1000000) :
  Calls Tryz.prog 46 #[.pointer (some ⟨b,0,none⟩),.agg (cmL { cm0 with kind:=12,name:=n,column:=c,expr:=y,all:=a,wh:=x } cv vv fv ea wa).toArray] W (ybb B b Tb w0 (ws++([w_update,n,w_set,c,[61]]++(yat y++yar { cm0 with kind:=12,name:=n,column:=c,expr:=y,all:=a,wh:=x }))) W):=by
 have L:∀ p q:List (List UInt8),p++q=ws++([w_update,n,w_set,c,[61]]++(yat y++yar { cm0 with kind:=12,name:=n,column:=c,expr:=y,all:=a,wh:=x }))→(yaz p).length≤1000000:=fun p q e=>Nat.le_trans (yaM p q) (by rw [e];exact hlen)
 have hp:=ybR k hS (.cells (cmL { cm0 with kind:=12,name:=n,column:=c,expr:=y,all:=a,wh:=x } cv vv fv ea wa).toArray 31) [w_update,n,w_set,c,[61]] 5 #[.string ⟨w_update.toArray⟩,.string ⟨n.toArray⟩,.string ⟨w_set.toArray⟩,.string ⟨c.toArray⟩,.string ⟨[61].toArray⟩] rfl rfl (by intro x hx;simp at hx;rcases hx with rfl|rfl|rfl|rfl|rfl <;> first|assumption|decide) (L _ ((yat y++yar { cm0 with kind:=12,name:=n,column:=c,expr:=y,all:=a,wh:=x })) (by simp only [List.append_assoc])) (by decide)
 have B0:=yae (((Below.refl W.heap.size W).alloc (Nat.le_refl _) (.cells (cmL { cm0 with kind:=12,name:=n,column:=c,expr:=y,all:=a,wh:=x } cv vv fv ea wa).toArray 31)).drew)
 have hbW:b < W.heap.size:=hS.pr.lt
 have HE:=yae (fun w1 (s1:PSt B b Tb w0 (ws++[w_update,n,w_set,c,[61]]) w1)=>(yhs k hw hy) _ hi.expr (ws++[w_update,n,w_set,c,[61]]) w1 s1 (L _ (yar { cm0 with kind:=12,name:=n,column:=c,expr:=y,all:=a,wh:=x }) (by simp only [List.append_assoc])))
 have HQ:=yae (fun w1 (s1:PSt B b Tb w0 (ws++[w_update,n,w_set,c,[61]]++yat y) w1)=>ybW k hw { cm0 with kind:=12,name:=n,column:=c,expr:=y,all:=a,wh:=x } cv vv fv ea wa hi.wh hr _ w1 s1 (L _ [] (by simp only [List.append_assoc,List.append_nil])))
 have HP:=yae hp
 clear hp hlen hS L k hn hc hy hi hr hw
 unfold cmL
 simp only [cm0]
 go_enter Tryz.func46,Tryz.ntmps46
 go_wp2_with fail
 go_region_law (first|(go_simp;refine HP.out.mono ?_;rintro e w2 ⟨rfl,s2,o2⟩;dsimp only))
 all_goals
  have kb:=o2 _ _ (show (W.alloc _).drew.heap[W.heap.size]?=_ from heap_alloc_new W _) (by simp;omega) (by intro c f e;cases e)
  have d11:w2.cell? ⟨W.heap.size,11,none⟩=some (.int .i64 y.k):=by rw [Lib.cell_of_heap kb];rfl
  have d12:w2.cell? ⟨W.heap.size,12,none⟩=some (.int .i64 y.v.k):=by rw [Lib.cell_of_heap kb];rfl
  have d13:w2.cell? ⟨W.heap.size,13,none⟩=some (.int .i64 y.v.n):=by rw [Lib.cell_of_heap kb];rfl
  have d14:w2.cell? ⟨W.heap.size,14,none⟩=some (.string ⟨y.v.s.toArray⟩):=by rw [Lib.cell_of_heap kb];rfl
  have d15:w2.cell? ⟨W.heap.size,15,none⟩=some (.string ⟨y.nm.toArray⟩):=by rw [Lib.cell_of_heap kb];rfl
  have d16:w2.cell? ⟨W.heap.size,16,none⟩=some (ea):=by rw [Lib.cell_of_heap kb];rfl
  have he:=HE.out w2 s2
  unfold exV at he
  have HZ:=yae he
  have O2:=yae o2
  have KB:=yae kb
  clear s2 o2 HP HE he kb
  go_wp2_with fail
  refine HZ.out.mono ?_
  rintro e w3 ⟨rfl,s3,o3⟩
  have kb:=o3 _ _ KB.out (by simp;omega) (by intro c f e;cases e)
  have HY:=yae (HQ.out w3 s3)
  have O3:=yae o3
  clear s3 o3 HQ HZ d11 d12 d13 d14 d15 d16
  go_wp2_with (first|(refine yaf 31 _ rfl rfl _ (cmL { cm0 with kind:=12,name:=n,column:=c,expr:=y,all:=a,wh:=x } cv vv fv ea wa) 31 _ rfl (by exact kb) Tryz.underlying31 rfl Tryz.size31 ?_)|(go_at_call 100;refine HY.out.mono ?_;rintro e w4 ⟨rfl,s4,o4⟩))
  try simp only [Exit.inBlock]
  go_end0
  refine ⟨rfl, ?_,fun q ob hq hne hty=>o4 q ob (O3.out q ob (O2.out q ob (yao (b:=b) B0.out q ob hq hne hty) hne hty) hne hty) hne hty⟩
  have:=s4
  simp only [List.append_assoc] at this
  exact this
theorem ys2 {B b:Nat} {Tb:World→Prop} {w0:World} (k:ItoaOk B Tb) (hw:w0.heap.size≤B) (n:List UInt8) (hn:n≠[]) (l:List Cl) (hl0:l≠[]) (h5:l.length≤5) (hok:∀ x ∈ l,x.name≠[]∧atL yaI x.ty≠[]) (cv vv fv ea wa:Value) (hi:CmIn 0 w0 { cm0 with kind:=1,name:=n,cols:=l } cv vv fv ea wa) (ws:List (List UInt8)) (W:World) (hS:PSt B b Tb w0 ws W) (hlen:(yaz (ws++([w_create,w_table,n]++([[40]]++(yaq ya8 l++[[41]]))))).length≤1000000) :
  Calls Tryz.prog 46 #[.pointer (some ⟨b,0,none⟩),.agg (cmL { cm0 with kind:=1,name:=n,cols:=l } cv vv fv ea wa).toArray] W (ybb B b Tb w0 (ws++([w_create,w_table,n]++([[40]]++(yaq ya8 l++[[41]])))) W):=by
 have L:∀ p q:List (List UInt8),p++q=ws++([w_create,w_table,n]++([[40]]++(yaq ya8 l++[[41]])))→(yaz p).length≤1000000:=fun p q e=>Nat.le_trans (yaM p q) (by rw [e];exact hlen)
 have hp:=ybR k hS (.cells (cmL { cm0 with kind:=1,name:=n,cols:=l } cv vv fv ea wa).toArray 31) [w_create,w_table,n] 3 #[.string ⟨w_create.toArray⟩,.string ⟨w_table.toArray⟩,.string ⟨n.toArray⟩] rfl rfl (by intro x hx;simp at hx;rcases hx with rfl|rfl|rfl <;> first|assumption|decide) (L _ (([[40]]++(yaq ya8 l++[[41]]))) (by simp only [List.append_assoc])) (by decide)
 have B0:=yae (((Below.refl W.heap.size W).alloc (Nat.le_refl _) (.cells (cmL { cm0 with kind:=1,name:=n,cols:=l } cv vv fv ea wa).toArray 31)).drew)
 have hbW:b < W.heap.size:=hS.pr.lt
 obtain ⟨ao,ca,e0,h1⟩:=hi.cols.slice
 obtain ⟨g,o,rfl,hg,hc⟩:=h1 (List.length_pos_iff.2 hl0)
 have e0':cv=.slice (some ⟨g,o,none⟩) l.length ca:=e0
 have HQ:=yae (fun w1 (s1:PSt B b Tb w0 (ws++[w_create,w_table,n]) w1)=>yiB k (.slice (some ⟨g,o,none⟩) l.length ca) (.func (.func 96) #[.pointer (some ⟨b,0,none⟩)] #[]) (yaq ya8 l) (ws++[w_create,w_table,n]) w1 s1 (fun w2 s2=>ykx k l g o ca (by omega) (fun i x hx=>⟨hc _ _ (ybs clC (m:=2) (fun _=>rfl) l i 0 x _ hx rfl),hc _ _ (ybs clC (m:=2) (fun _=>rfl) l i 1 x _ hx rfl)⟩) hok (by omega) _ w2 s2 (L _ [[41]] (by simp only [List.append_assoc]))) (L _ [] (by simp only [List.append_assoc,List.append_nil])))
 subst e0'
 have HP:=yae hp
 clear hp hlen hS L k hn hl0 h5 hok hi hw e0 h1 hg hc
 unfold cmL
 simp only [cm0]
 go_enter Tryz.func46,Tryz.ntmps46
 go_wp2_with fail
 go_region_law (first|(go_simp;refine HP.out.mono ?_;rintro e w2 ⟨rfl,s2,o2⟩;dsimp only))
 all_goals
  have kb:=o2 _ _ (show (W.alloc _).drew.heap[W.heap.size]?=_ from heap_alloc_new W _) (by simp;omega) (by intro c f e;cases e)
  have dl:w2.cell? ⟨W.heap.size,4,none⟩=some (.slice (some ⟨g,o,none⟩) l.length ca):=by rw [Lib.cell_of_heap kb];rfl
  have HZ:=yae (HQ.out w2 s2)
  have O2:=yae o2
  clear s2 o2 HP HQ kb
  go_wp2_with (go_at_call 95;refine HZ.out.mono ?_;rintro e w3 ⟨rfl,s3,o3⟩)
  try simp only [Exit.inBlock]
  go_end0
  refine ⟨rfl, ?_,fun q ob hq hne hty=>o3 q ob (O2.out q ob (yao (b:=b) B0.out q ob hq hne hty) hne hty) hne hty⟩
  have:=s3
  simp only [List.append_assoc] at this
  exact this
theorem yrn {B b:Nat} {Tb:World→Prop} {w0:World} (k:ItoaOk B Tb) (hw:w0.heap.size≤B) (n:List UInt8) (hn:n≠[]) (l:List Vl) (hl0:l≠[]) (h5:l.length≤5) (hok:∀ x ∈ l,ycm x=true) (cv vv fv ea wa:Value) (hi:CmIn 0 w0 { cm0 with kind:=10,name:=n,vals:=l } cv vv fv ea wa) (ws:List (List UInt8)) (W:World) (hS:PSt B b Tb w0 ws W) (hlen:(yaz (ws++([w_insert,w_into,n,w_values]++([[40]]++(yaq (fun v=>[ybc v]) l++[[41]]))))).length≤1000000) :
  Calls Tryz.prog 46 #[.pointer (some ⟨b,0,none⟩),.agg (cmL { cm0 with kind:=10,name:=n,vals:=l } cv vv fv ea wa).toArray] W (ybb B b Tb w0 (ws++([w_insert,w_into,n,w_values]++([[40]]++(yaq (fun v=>[ybc v]) l++[[41]])))) W):=by
 have L:∀ p q:List (List UInt8),p++q=ws++([w_insert,w_into,n,w_values]++([[40]]++(yaq (fun v=>[ybc v]) l++[[41]])))→(yaz p).length≤1000000:=fun p q e=>Nat.le_trans (yaM p q) (by rw [e];exact hlen)
 have hp:=ybR k hS (.cells (cmL { cm0 with kind:=10,name:=n,vals:=l } cv vv fv ea wa).toArray 31) [w_insert,w_into,n,w_values] 4 #[.string ⟨w_insert.toArray⟩,.string ⟨w_into.toArray⟩,.string ⟨n.toArray⟩,.string ⟨w_values.toArray⟩] rfl rfl (by intro x hx;simp at hx;rcases hx with rfl|rfl|rfl|rfl <;> first|assumption|decide) (L _ (([[40]]++(yaq (fun v=>[ybc v]) l++[[41]]))) (by simp only [List.append_assoc])) (by decide)
 have B0:=yae (((Below.refl W.heap.size W).alloc (Nat.le_refl _) (.cells (cmL { cm0 with kind:=10,name:=n,vals:=l } cv vv fv ea wa).toArray 31)).drew)
 have hbW:b < W.heap.size:=hS.pr.lt
 obtain ⟨ao,ca,e0,h1⟩:=hi.vals.slice
 obtain ⟨g,o,rfl,hg,hc⟩:=h1 (List.length_pos_iff.2 hl0)
 have e0':vv=.slice (some ⟨g,o,none⟩) l.length ca:=e0
 have HQ:=yae (fun w1 (s1:PSt B b Tb w0 (ws++[w_insert,w_into,n,w_values]) w1)=>yiC k (.slice (some ⟨g,o,none⟩) l.length ca) (.func (.func 99) #[.pointer (some ⟨b,0,none⟩)] #[]) (yaq (fun v=>[ybc v]) l) (ws++[w_insert,w_into,n,w_values]) w1 s1 (fun w2 s2=>yky k l g o ca (by omega) (fun i x hx=>⟨hc _ _ (ybs vlC (m:=3) (fun _=>rfl) l i 0 x _ hx rfl),hc _ _ (ybs vlC (m:=3) (fun _=>rfl) l i 1 x _ hx rfl),hc _ _ (ybs vlC (m:=3) (fun _=>rfl) l i 2 x _ hx rfl)⟩) hok (by omega) _ w2 s2 (L _ [[41]] (by simp only [List.append_assoc]))) (L _ [] (by simp only [List.append_assoc,List.append_nil])))
 subst e0'
 have HP:=yae hp
 clear hp hlen hS L k hn hl0 h5 hok hi hw e0 h1 hg hc
 unfold cmL
 simp only [cm0]
 go_enter Tryz.func46,Tryz.ntmps46
 go_wp2_with fail
 go_region_law (first|(go_simp;refine HP.out.mono ?_;rintro e w2 ⟨rfl,s2,o2⟩;dsimp only))
 all_goals
  have kb:=o2 _ _ (show (W.alloc _).drew.heap[W.heap.size]?=_ from heap_alloc_new W _) (by simp;omega) (by intro c f e;cases e)
  have dl:w2.cell? ⟨W.heap.size,9,none⟩=some (.slice (some ⟨g,o,none⟩) l.length ca):=by rw [Lib.cell_of_heap kb];rfl
  have HZ:=yae (HQ.out w2 s2)
  have O2:=yae o2
  clear s2 o2 HP HQ kb
  go_wp2_with (go_at_call 98;refine HZ.out.mono ?_;rintro e w3 ⟨rfl,s3,o3⟩)
  try simp only [Exit.inBlock]
  go_end0
  refine ⟨rfl, ?_,fun q ob hq hne hty=>o3 q ob (O2.out q ob (yao (b:=b) B0.out q ob hq hne hty) hne hty) hne hty⟩
  have:=s3
  simp only [List.append_assoc] at this
  exact this
theorem ysY {B b:Nat} {Tb:World→Prop} {w0:World} (k:ItoaOk B Tb) (n c:List UInt8) (hc:c≠[]) (cv vv fv ea wa:Value) (ws:List (List UInt8)) (W:World) (hS:PSt B b Tb w0 ws W) (hlen:(yaz (ws++([w_drop,c]))).length≤1000000) :
  Calls Tryz.prog 97 #[.pointer (some ⟨b,0,none⟩),.agg (cmL { cm0 with kind:=4,name:=n,column:=c } cv vv fv ea wa).toArray] W (ybb B b Tb w0 (ws++([w_drop,c])) W):=by
 have L:∀ p q:List (List UInt8),p++q=ws++([w_drop,c])→(yaz p).length≤1000000:=fun p q e=>Nat.le_trans (yaM p q) (by rw [e];exact hlen)
 have hp:=ybR k hS (.cells (cmL { cm0 with kind:=4,name:=n,column:=c } cv vv fv ea wa).toArray 31) [w_drop,c] 2 #[.string ⟨w_drop.toArray⟩,.string ⟨c.toArray⟩] rfl rfl (by intro x hx;simp at hx;rcases hx with rfl|rfl <;> first|assumption|decide) (L _ ([]) (by simp only [List.append_nil])) (by decide)
 have B0:=yae (((Below.refl W.heap.size W).alloc (Nat.le_refl _) (.cells (cmL { cm0 with kind:=4,name:=n,column:=c } cv vv fv ea wa).toArray 31)).drew)
 have hbW:b < W.heap.size:=hS.pr.lt
 have HP:=yae hp
 clear hp hlen hS L k hc hbW
 unfold cmL
 simp only [cm0]
 go_enter Tryz.func97,Tryz.ntmps97
 go_wp2_with fail
 go_region_law (first|(go_simp;refine HP.out.mono ?_;rintro e w2 ⟨rfl,s2,o2⟩;dsimp only))
 all_goals
  try simp only [Exit.inBlock]
  go_end0
  exact ⟨rfl,s2,fun q ob hq hne hty=>o2 q ob (yao (b:=b) B0.out q ob hq hne hty) hne hty⟩
theorem ysZ {B b:Nat} {Tb:World→Prop} {w0:World} (k:ItoaOk B Tb) (n c o:List UInt8) (hc:c≠[]) (ho:o≠[]) (cv vv fv ea wa:Value) (ws:List (List UInt8)) (W:World) (hS:PSt B b Tb w0 ws W) (hlen:(yaz (ws++([w_rename,c,w_to,o]))).length≤1000000) :
  Calls Tryz.prog 97 #[.pointer (some ⟨b,0,none⟩),.agg (cmL { cm0 with kind:=5,name:=n,column:=c,other:=o } cv vv fv ea wa).toArray] W (ybb B b Tb w0 (ws++([w_rename,c,w_to,o])) W):=by
 have L:∀ p q:List (List UInt8),p++q=ws++([w_rename,c,w_to,o])→(yaz p).length≤1000000:=fun p q e=>Nat.le_trans (yaM p q) (by rw [e];exact hlen)
 have hp:=ybR k hS (.cells (cmL { cm0 with kind:=5,name:=n,column:=c,other:=o } cv vv fv ea wa).toArray 31) [w_rename,c,w_to,o] 4 #[.string ⟨w_rename.toArray⟩,.string ⟨c.toArray⟩,.string ⟨w_to.toArray⟩,.string ⟨o.toArray⟩] rfl rfl (by intro x hx;simp at hx;rcases hx with rfl|rfl|rfl|rfl <;> first|assumption|decide) (L _ ([]) (by simp only [List.append_nil])) (by decide)
 have B0:=yae (((Below.refl W.heap.size W).alloc (Nat.le_refl _) (.cells (cmL { cm0 with kind:=5,name:=n,column:=c,other:=o } cv vv fv ea wa).toArray 31)).drew)
 have hbW:b < W.heap.size:=hS.pr.lt
 have HP:=yae hp
 clear hp hlen hS L k hc ho hbW
 unfold cmL
 simp only [cm0]
 go_enter Tryz.func97,Tryz.ntmps97
 go_wp2_with fail
 go_region_law (first|(go_simp;refine HP.out.mono ?_;rintro e w2 ⟨rfl,s2,o2⟩;dsimp only))
 all_goals
  try simp only [Exit.inBlock]
  go_end0
  exact ⟨rfl,s2,fun q ob hq hne hty=>o2 q ob (yao (b:=b) B0.out q ob hq hne hty) hne hty⟩
theorem ys1 {B b:Nat} {Tb:World→Prop} {w0:World} (k:ItoaOk B Tb) (n o:List UInt8) (ho:o≠[]) (cv vv fv ea wa:Value) (ws:List (List UInt8)) (W:World) (hS:PSt B b Tb w0 ws W) (hlen:(yaz (ws++([w_rename,w_to,o]))).length≤1000000) :
  Calls Tryz.prog 97 #[.pointer (some ⟨b,0,none⟩),.agg (cmL { cm0 with kind:=7,name:=n,other:=o } cv vv fv ea wa).toArray] W (ybb B b Tb w0 (ws++([w_rename,w_to,o])) W):=by
 have L:∀ p q:List (List UInt8),p++q=ws++([w_rename,w_to,o])→(yaz p).length≤1000000:=fun p q e=>Nat.le_trans (yaM p q) (by rw [e];exact hlen)
 have hp:=ybR k hS (.cells (cmL { cm0 with kind:=7,name:=n,other:=o } cv vv fv ea wa).toArray 31) [w_rename,w_to,o] 3 #[.string ⟨w_rename.toArray⟩,.string ⟨w_to.toArray⟩,.string ⟨o.toArray⟩] rfl rfl (by intro x hx;simp at hx;rcases hx with rfl|rfl|rfl <;> first|assumption|decide) (L _ ([]) (by simp only [List.append_nil])) (by decide)
 have B0:=yae (((Below.refl W.heap.size W).alloc (Nat.le_refl _) (.cells (cmL { cm0 with kind:=7,name:=n,other:=o } cv vv fv ea wa).toArray 31)).drew)
 have hbW:b < W.heap.size:=hS.pr.lt
 have HP:=yae hp
 clear hp hlen hS L k ho hbW
 unfold cmL
 simp only [cm0]
 go_enter Tryz.func97,Tryz.ntmps97
 go_wp2_with fail
 go_region_law (first|(go_simp;refine HP.out.mono ?_;rintro e w2 ⟨rfl,s2,o2⟩;dsimp only))
 all_goals
  try simp only [Exit.inBlock]
  go_end0
  exact ⟨rfl,s2,fun q ob hq hne hty=>o2 q ob (yao (b:=b) B0.out q ob hq hne hty) hne hty⟩
theorem ys0 {B b:Nat} {Tb:World→Prop} {w0:World} (k:ItoaOk B Tb) (n c:List UInt8) (hc:c≠[]) (t:Int) (ht:atL yaI t≠[]) (cv vv fv ea wa:Value) (ws:List (List UInt8)) (W:World) (hS:PSt B b Tb w0 ws W) (hlen:(yaz (ws++([w_retype]++ya8 ⟨c,t⟩))).length≤1000000) :
  Calls Tryz.prog 97 #[.pointer (some ⟨b,0,none⟩),.agg (cmL { cm0 with kind:=6,name:=n,column:=c,ty:=t } cv vv fv ea wa).toArray] W (ybb B b Tb w0 (ws++([w_retype]++ya8 ⟨c,t⟩)) W):=by
 have L:∀ p q:List (List UInt8),p++q=ws++([w_retype]++ya8 ⟨c,t⟩)→(yaz p).length≤1000000:=fun p q e=>Nat.le_trans (yaM p q) (by rw [e];exact hlen)
 have hp:=ycP k hS (.cells (cmL { cm0 with kind:=6,name:=n,column:=c,ty:=t } cv vv fv ea wa).toArray 31) [w_retype] 1 #[.string ⟨w_retype.toArray⟩] rfl rfl (by intro x hx;simp at hx;subst hx <;> first|assumption|decide) (L _ (ya8 ⟨c,t⟩) (by simp only [List.append_assoc])) (by decide)
 have B0:=yae (((Below.refl W.heap.size W).alloc (Nat.le_refl _) (.cells (cmL { cm0 with kind:=6,name:=n,column:=c,ty:=t } cv vv fv ea wa).toArray 31)))
 have hbW:b < W.heap.size:=hS.pr.lt
 have HQ:=yae (fun w1 (s1:PSt B b Tb w0 (ws++[w_retype]) w1)=>ygF k s1 ⟨c,t⟩ hc ht (L _ [] (by simp only [List.append_assoc,List.append_nil])))
 have HP:=yae hp
 clear hp hlen hS L k hc ht
 unfold cmL
 simp only [cm0]
 go_enter Tryz.func97,Tryz.ntmps97
 go_wp2_with fail
 refine HP.out.mono ?_
 rintro e w1 ⟨rfl,s1,o1⟩
 have kb:=o1 _ _ (heap_alloc_new W _) (by simp;omega) (by intro c f e;cases e)
 have d3:w1.cell? ⟨W.heap.size,3,none⟩=some (.string ⟨c.toArray⟩):=by rw [Lib.cell_of_heap kb];rfl
 have d5:w1.cell? ⟨W.heap.size,5,none⟩=some (.int .i64 t):=by rw [Lib.cell_of_heap kb];rfl
 have HZ:=yae (HQ.out w1 s1)
 have O1:=yae o1
 clear s1 o1 HP HQ kb
 go_wp2_with (go_at_call 96;refine HZ.out.mono ?_;rintro e w2 ⟨rfl,s2,o2⟩)
 try simp only [Exit.inBlock]
 go_end0
 refine ⟨rfl, ?_,fun q ob hq hne hty=>o2 q ob (O1.out q ob (yao (b:=b) B0.out q ob hq hne hty) hne hty) hne hty⟩
 have:=s2
 rw [List.append_assoc] at this
 exact this
theorem ysX {B b:Nat} {Tb:World→Prop} {w0:World} (k:ItoaOk B Tb) (n c:List UInt8) (hc:c≠[]) (t:Int) (ht:atL yaI t≠[]) (v:Vl) (hv:ycm v=true) (cv vv fv ea wa:Value) (ws:List (List UInt8)) (W:World) (hS:PSt B b Tb w0 ws W) (hlen:(yaz (ws++([w_add]++(ya8 ⟨c,t⟩++([w_default]++[ybc v]))))).length≤1000000) :
  Calls Tryz.prog 97 #[.pointer (some ⟨b,0,none⟩),.agg (cmL { cm0 with kind:=3,name:=n,column:=c,ty:=t,val:=v } cv vv fv ea wa).toArray] W (ybb B b Tb w0 (ws++([w_add]++(ya8 ⟨c,t⟩++([w_default]++[ybc v])))) W):=by
 have L:∀ p q:List (List UInt8),p++q=ws++([w_add]++(ya8 ⟨c,t⟩++([w_default]++[ybc v])))→(yaz p).length≤1000000:=fun p q e=>Nat.le_trans (yaM p q) (by rw [e];exact hlen)
 have hp:=ycP k hS (.cells (cmL { cm0 with kind:=3,name:=n,column:=c,ty:=t,val:=v } cv vv fv ea wa).toArray 31) [w_add] 1 #[.string ⟨w_add.toArray⟩] rfl rfl (by intro x hx;simp at hx;subst hx <;> first|assumption|decide) (L _ (ya8 ⟨c,t⟩++([w_default]++[ybc v])) (by simp only [List.append_assoc])) (by decide)
 have B0:=yae (((Below.refl W.heap.size W).alloc (Nat.le_refl _) (.cells (cmL { cm0 with kind:=3,name:=n,column:=c,ty:=t,val:=v } cv vv fv ea wa).toArray 31)))
 have hbW:b < W.heap.size:=hS.pr.lt
 have HQ:=yae (fun w1 (s1:PSt B b Tb w0 (ws++[w_add]) w1)=>ygF k s1 ⟨c,t⟩ hc ht (L _ ([w_default]++[ybc v]) (by simp only [List.append_assoc])))
 have HD:=yae (fun w2 (s2:PSt B b Tb w0 (ws++[w_add]++ya8 ⟨c,t⟩) w2)=>ycb k s2 [w_default] 1 #[.string ⟨w_default.toArray⟩] rfl rfl (by intro x hx;simp at hx;subst hx;decide) (L _ [ybc v] (by simp only [List.append_assoc])) (by decide))
 have HV:=yae (fun w3 (s3:PSt B b Tb w0 (ws++[w_add]++ya8 ⟨c,t⟩++[w_default]) w3)=>yiQ k s3 v hv (L _ [] (by simp only [List.append_assoc,List.append_nil])))
 have HP:=yae hp
 clear hp hlen hS L k hc ht hv
 unfold cmL
 simp only [cm0]
 go_enter Tryz.func97,Tryz.ntmps97
 go_wp2_with fail
 refine HP.out.mono ?_
 rintro e w1 ⟨rfl,s1,o1⟩
 have kb:=o1 _ _ (heap_alloc_new W _) (by simp;omega) (by intro c f e;cases e)
 have d3:w1.cell? ⟨W.heap.size,3,none⟩=some (.string ⟨c.toArray⟩):=by rw [Lib.cell_of_heap kb];rfl
 have d5:w1.cell? ⟨W.heap.size,5,none⟩=some (.int .i64 t):=by rw [Lib.cell_of_heap kb];rfl
 have HZ:=yae (HQ.out w1 s1)
 have O1:=yae o1
 have KB:=yae kb
 clear s1 o1 HP HQ kb
 go_wp2_with fail
 refine HZ.out.mono ?_
 rintro e w2 ⟨rfl,s2,o2⟩
 have kb2:=o2 _ _ KB.out (by simp;omega) (by intro c f e;cases e)
 have HY:=yae (HD.out w2 s2)
 have O2:=yae o2
 have KB2:=yae kb2
 clear s2 o2 HD HZ kb2 d3 d5
 go_wp2_with fail
 refine HY.out.mono ?_
 rintro e w3 ⟨rfl,s3,o3⟩
 have kb3:=o3 _ _ KB2.out (by simp;omega) (by intro c f e;cases e)
 have d6:w3.cell? ⟨W.heap.size,6,none⟩=some (.int .i64 v.k):=by rw [Lib.cell_of_heap kb3];rfl
 have d7:w3.cell? ⟨W.heap.size,7,none⟩=some (.int .i64 v.n):=by rw [Lib.cell_of_heap kb3];rfl
 have d8:w3.cell? ⟨W.heap.size,8,none⟩=some (.string ⟨v.s.toArray⟩):=by rw [Lib.cell_of_heap kb3];rfl
 have HX:=yae (HV.out w3 s3)
 have O3:=yae o3
 clear s3 o3 HV HY kb3
 go_wp2_with (go_at_call 99;refine HX.out.mono ?_;rintro e w4 ⟨rfl,s4,o4⟩)
 try simp only [Exit.inBlock]
 go_end0
 refine ⟨rfl, ?_,fun q ob hq hne hty=>o4 q ob (O3.out q ob (O2.out q ob (O1.out q ob (yao (b:=b) B0.out q ob hq hne hty) hne hty) hne hty) hne hty) hne hty⟩
 have:=s4
 simp only [List.append_assoc] at this
 exact this
theorem ys4 {B b:Nat} {Tb:World→Prop} {w0:World} (k:ItoaOk B Tb) (n c:List UInt8) (hn:n≠[]) (hc:c≠[]) (t:Int) (ht:atL yaI t≠[]) (v:Vl) (hv:ycm v=true) (cv vv fv ea wa:Value) (ws:List (List UInt8)) (W:World) (hS:PSt B b Tb w0 ws W) (hlen:(yaz (ws++([w_alter,w_table,n]++([w_add]++(ya8 ⟨c,t⟩++([w_default]++[ybc v])))))).length≤1000000) :
  Calls Tryz.prog 46 #[.pointer (some ⟨b,0,none⟩),.agg (cmL { cm0 with kind:=3,name:=n,column:=c,ty:=t,val:=v } cv vv fv ea wa).toArray] W (ybb B b Tb w0 (ws++([w_alter,w_table,n]++([w_add]++(ya8 ⟨c,t⟩++([w_default]++[ybc v]))))) W):=by
 have L:∀ p q:List (List UInt8),p++q=ws++([w_alter,w_table,n]++([w_add]++(ya8 ⟨c,t⟩++([w_default]++[ybc v]))))→(yaz p).length≤1000000:=fun p q e=>Nat.le_trans (yaM p q) (by rw [e];exact hlen)
 have hp:=ybR k hS (.cells (cmL { cm0 with kind:=3,name:=n,column:=c,ty:=t,val:=v } cv vv fv ea wa).toArray 31) [w_alter,w_table,n] 3 #[.string ⟨w_alter.toArray⟩,.string ⟨w_table.toArray⟩,.string ⟨n.toArray⟩] rfl rfl (by intro x hx;simp at hx;rcases hx with rfl|rfl|rfl <;> first|assumption|decide) (L _ ([w_add]++(ya8 ⟨c,t⟩++([w_default]++[ybc v]))) (by simp only [List.append_assoc])) (by decide)
 have B0:=yae (((Below.refl W.heap.size W).alloc (Nat.le_refl _) (.cells (cmL { cm0 with kind:=3,name:=n,column:=c,ty:=t,val:=v } cv vv fv ea wa).toArray 31)).drew)
 have hbW:b < W.heap.size:=hS.pr.lt
 have HQ:=yae (fun w1 (s1:PSt B b Tb w0 (ws++[w_alter,w_table,n]) w1)=>ysX k n c hc t ht v hv cv vv fv ea wa (ws++[w_alter,w_table,n]) w1 s1 (L _ [] (by simp only [List.append_assoc,List.append_nil])))
 have HP:=yae hp
 clear hp hlen hS L k hn hc ht hv
 unfold cmL
 simp only [cm0]
 go_enter Tryz.func46,Tryz.ntmps46
 go_wp2_with fail
 go_region_law (first|(go_simp;refine HP.out.mono ?_;rintro e w2 ⟨rfl,s2,o2⟩;dsimp only))
 all_goals
  have kb:=o2 _ _ (show (W.alloc _).drew.heap[W.heap.size]?=_ from heap_alloc_new W _) (by simp;omega) (by intro c f e;cases e)
  have HZ:=yae (HQ.out w2 s2)
  have O2:=yae o2
  clear s2 o2 HP HQ
  go_wp2_with (first|(refine yaf 31 _ rfl rfl _ (cmL { cm0 with kind:=3,name:=n,column:=c,ty:=t,val:=v } cv vv fv ea wa) 31 _ rfl (by exact kb) Tryz.underlying31 rfl Tryz.size31 ?_)|(go_at_call 97;refine HZ.out.mono ?_;rintro e w3 ⟨rfl,s3,o3⟩))
  try simp only [Exit.inBlock]
  go_end0
  refine ⟨rfl, ?_,fun q ob hq hne hty=>o3 q ob (O2.out q ob (yao (b:=b) B0.out q ob hq hne hty) hne hty) hne hty⟩
  have:=s3
  simp only [List.append_assoc] at this
  exact this
theorem ys5 {B b:Nat} {Tb:World→Prop} {w0:World} (k:ItoaOk B Tb) (n c:List UInt8) (hn:n≠[]) (hc:c≠[]) (cv vv fv ea wa:Value) (ws:List (List UInt8)) (W:World) (hS:PSt B b Tb w0 ws W) (hlen:(yaz (ws++([w_alter,w_table,n]++([w_drop,c])))).length≤1000000) :
  Calls Tryz.prog 46 #[.pointer (some ⟨b,0,none⟩),.agg (cmL { cm0 with kind:=4,name:=n,column:=c } cv vv fv ea wa).toArray] W (ybb B b Tb w0 (ws++([w_alter,w_table,n]++([w_drop,c]))) W):=by
 have L:∀ p q:List (List UInt8),p++q=ws++([w_alter,w_table,n]++([w_drop,c]))→(yaz p).length≤1000000:=fun p q e=>Nat.le_trans (yaM p q) (by rw [e];exact hlen)
 have hp:=ybR k hS (.cells (cmL { cm0 with kind:=4,name:=n,column:=c } cv vv fv ea wa).toArray 31) [w_alter,w_table,n] 3 #[.string ⟨w_alter.toArray⟩,.string ⟨w_table.toArray⟩,.string ⟨n.toArray⟩] rfl rfl (by intro x hx;simp at hx;rcases hx with rfl|rfl|rfl <;> first|assumption|decide) (L _ ([w_drop,c]) (by simp only [List.append_assoc])) (by decide)
 have B0:=yae (((Below.refl W.heap.size W).alloc (Nat.le_refl _) (.cells (cmL { cm0 with kind:=4,name:=n,column:=c } cv vv fv ea wa).toArray 31)).drew)
 have hbW:b < W.heap.size:=hS.pr.lt
 have HQ:=yae (fun w1 (s1:PSt B b Tb w0 (ws++[w_alter,w_table,n]) w1)=>ysY k n c hc cv vv fv ea wa (ws++[w_alter,w_table,n]) w1 s1 (L _ [] (by simp only [List.append_assoc,List.append_nil])))
 have HP:=yae hp
 clear hp hlen hS L k hn hc
 unfold cmL
 simp only [cm0]
 go_enter Tryz.func46,Tryz.ntmps46
 go_wp2_with fail
 go_region_law (first|(go_simp;refine HP.out.mono ?_;rintro e w2 ⟨rfl,s2,o2⟩;dsimp only))
 all_goals
  have kb:=o2 _ _ (show (W.alloc _).drew.heap[W.heap.size]?=_ from heap_alloc_new W _) (by simp;omega) (by intro c f e;cases e)
  have HZ:=yae (HQ.out w2 s2)
  have O2:=yae o2
  clear s2 o2 HP HQ
  go_wp2_with (first|(refine yaf 31 _ rfl rfl _ (cmL { cm0 with kind:=4,name:=n,column:=c } cv vv fv ea wa) 31 _ rfl (by exact kb) Tryz.underlying31 rfl Tryz.size31 ?_)|(go_at_call 97;refine HZ.out.mono ?_;rintro e w3 ⟨rfl,s3,o3⟩))
  try simp only [Exit.inBlock]
  go_end0
  refine ⟨rfl, ?_,fun q ob hq hne hty=>o3 q ob (O2.out q ob (yao (b:=b) B0.out q ob hq hne hty) hne hty) hne hty⟩
  have:=s3
  simp only [List.append_assoc] at this
  exact this
theorem ys6 {B b:Nat} {Tb:World→Prop} {w0:World} (k:ItoaOk B Tb) (n c o:List UInt8) (hn:n≠[]) (hc:c≠[]) (ho:o≠[]) (cv vv fv ea wa:Value) (ws:List (List UInt8)) (W:World) (hS:PSt B b Tb w0 ws W) (hlen:(yaz (ws++([w_alter,w_table,n]++([w_rename,c,w_to,o])))).length≤1000000) :
  Calls Tryz.prog 46 #[.pointer (some ⟨b,0,none⟩),.agg (cmL { cm0 with kind:=5,name:=n,column:=c,other:=o } cv vv fv ea wa).toArray] W (ybb B b Tb w0 (ws++([w_alter,w_table,n]++([w_rename,c,w_to,o]))) W):=by
 have L:∀ p q:List (List UInt8),p++q=ws++([w_alter,w_table,n]++([w_rename,c,w_to,o]))→(yaz p).length≤1000000:=fun p q e=>Nat.le_trans (yaM p q) (by rw [e];exact hlen)
 have hp:=ybR k hS (.cells (cmL { cm0 with kind:=5,name:=n,column:=c,other:=o } cv vv fv ea wa).toArray 31) [w_alter,w_table,n] 3 #[.string ⟨w_alter.toArray⟩,.string ⟨w_table.toArray⟩,.string ⟨n.toArray⟩] rfl rfl (by intro x hx;simp at hx;rcases hx with rfl|rfl|rfl <;> first|assumption|decide) (L _ ([w_rename,c,w_to,o]) (by simp only [List.append_assoc])) (by decide)
 have B0:=yae (((Below.refl W.heap.size W).alloc (Nat.le_refl _) (.cells (cmL { cm0 with kind:=5,name:=n,column:=c,other:=o } cv vv fv ea wa).toArray 31)).drew)
 have hbW:b < W.heap.size:=hS.pr.lt
 have HQ:=yae (fun w1 (s1:PSt B b Tb w0 (ws++[w_alter,w_table,n]) w1)=>ysZ k n c o hc ho cv vv fv ea wa (ws++[w_alter,w_table,n]) w1 s1 (L _ [] (by simp only [List.append_assoc,List.append_nil])))
 have HP:=yae hp
 clear hp hlen hS L k hn hc ho
 unfold cmL
 simp only [cm0]
 go_enter Tryz.func46,Tryz.ntmps46
 go_wp2_with fail
 go_region_law (first|(go_simp;refine HP.out.mono ?_;rintro e w2 ⟨rfl,s2,o2⟩;dsimp only))
 all_goals
  have kb:=o2 _ _ (show (W.alloc _).drew.heap[W.heap.size]?=_ from heap_alloc_new W _) (by simp;omega) (by intro c f e;cases e)
  have HZ:=yae (HQ.out w2 s2)
  have O2:=yae o2
  clear s2 o2 HP HQ
  go_wp2_with (first|(refine yaf 31 _ rfl rfl _ (cmL { cm0 with kind:=5,name:=n,column:=c,other:=o } cv vv fv ea wa) 31 _ rfl (by exact kb) Tryz.underlying31 rfl Tryz.size31 ?_)|(go_at_call 97;refine HZ.out.mono ?_;rintro e w3 ⟨rfl,s3,o3⟩))
  try simp only [Exit.inBlock]
  go_end0
  refine ⟨rfl, ?_,fun q ob hq hne hty=>o3 q ob (O2.out q ob (yao (b:=b) B0.out q ob hq hne hty) hne hty) hne hty⟩
  have:=s3
  simp only [List.append_assoc] at this
  exact this
theorem ys7 {B b:Nat} {Tb:World→Prop} {w0:World} (k:ItoaOk B Tb) (n c:List UInt8) (hn:n≠[]) (hc:c≠[]) (t:Int) (ht:atL yaI t≠[]) (cv vv fv ea wa:Value) (ws:List (List UInt8)) (W:World) (hS:PSt B b Tb w0 ws W) (hlen:(yaz (ws++([w_alter,w_table,n]++([w_retype]++ya8 ⟨c,t⟩)))).length≤1000000) :
  Calls Tryz.prog 46 #[.pointer (some ⟨b,0,none⟩),.agg (cmL { cm0 with kind:=6,name:=n,column:=c,ty:=t } cv vv fv ea wa).toArray] W (ybb B b Tb w0 (ws++([w_alter,w_table,n]++([w_retype]++ya8 ⟨c,t⟩))) W):=by
 have L:∀ p q:List (List UInt8),p++q=ws++([w_alter,w_table,n]++([w_retype]++ya8 ⟨c,t⟩))→(yaz p).length≤1000000:=fun p q e=>Nat.le_trans (yaM p q) (by rw [e];exact hlen)
 have hp:=ybR k hS (.cells (cmL { cm0 with kind:=6,name:=n,column:=c,ty:=t } cv vv fv ea wa).toArray 31) [w_alter,w_table,n] 3 #[.string ⟨w_alter.toArray⟩,.string ⟨w_table.toArray⟩,.string ⟨n.toArray⟩] rfl rfl (by intro x hx;simp at hx;rcases hx with rfl|rfl|rfl <;> first|assumption|decide) (L _ ([w_retype]++ya8 ⟨c,t⟩) (by simp only [List.append_assoc])) (by decide)
 have B0:=yae (((Below.refl W.heap.size W).alloc (Nat.le_refl _) (.cells (cmL { cm0 with kind:=6,name:=n,column:=c,ty:=t } cv vv fv ea wa).toArray 31)).drew)
 have hbW:b < W.heap.size:=hS.pr.lt
 have HQ:=yae (fun w1 (s1:PSt B b Tb w0 (ws++[w_alter,w_table,n]) w1)=>ys0 k n c hc t ht cv vv fv ea wa (ws++[w_alter,w_table,n]) w1 s1 (L _ [] (by simp only [List.append_assoc,List.append_nil])))
 have HP:=yae hp
 clear hp hlen hS L k hn hc ht
 unfold cmL
 simp only [cm0]
 go_enter Tryz.func46,Tryz.ntmps46
 go_wp2_with fail
 go_region_law (first|(go_simp;refine HP.out.mono ?_;rintro e w2 ⟨rfl,s2,o2⟩;dsimp only))
 all_goals
  have kb:=o2 _ _ (show (W.alloc _).drew.heap[W.heap.size]?=_ from heap_alloc_new W _) (by simp;omega) (by intro c f e;cases e)
  have HZ:=yae (HQ.out w2 s2)
  have O2:=yae o2
  clear s2 o2 HP HQ
  go_wp2_with (first|(refine yaf 31 _ rfl rfl _ (cmL { cm0 with kind:=6,name:=n,column:=c,ty:=t } cv vv fv ea wa) 31 _ rfl (by exact kb) Tryz.underlying31 rfl Tryz.size31 ?_)|(go_at_call 97;refine HZ.out.mono ?_;rintro e w3 ⟨rfl,s3,o3⟩))
  try simp only [Exit.inBlock]
  go_end0
  refine ⟨rfl, ?_,fun q ob hq hne hty=>o3 q ob (O2.out q ob (yao (b:=b) B0.out q ob hq hne hty) hne hty) hne hty⟩
  have:=s3
  simp only [List.append_assoc] at this
  exact this
theorem ys8 {B b:Nat} {Tb:World→Prop} {w0:World} (k:ItoaOk B Tb) (n o:List UInt8) (hn:n≠[]) (ho:o≠[]) (cv vv fv ea wa:Value) (ws:List (List UInt8)) (W:World) (hS:PSt B b Tb w0 ws W) (hlen:(yaz (ws++([w_alter,w_table,n]++([w_rename,w_to,o])))).length≤1000000) :
  Calls Tryz.prog 46 #[.pointer (some ⟨b,0,none⟩),.agg (cmL { cm0 with kind:=7,name:=n,other:=o } cv vv fv ea wa).toArray] W (ybb B b Tb w0 (ws++([w_alter,w_table,n]++([w_rename,w_to,o]))) W):=by
 have L:∀ p q:List (List UInt8),p++q=ws++([w_alter,w_table,n]++([w_rename,w_to,o]))→(yaz p).length≤1000000:=fun p q e=>Nat.le_trans (yaM p q) (by rw [e];exact hlen)
 have hp:=ybR k hS (.cells (cmL { cm0 with kind:=7,name:=n,other:=o } cv vv fv ea wa).toArray 31) [w_alter,w_table,n] 3 #[.string ⟨w_alter.toArray⟩,.string ⟨w_table.toArray⟩,.string ⟨n.toArray⟩] rfl rfl (by intro x hx;simp at hx;rcases hx with rfl|rfl|rfl <;> first|assumption|decide) (L _ ([w_rename,w_to,o]) (by simp only [List.append_assoc])) (by decide)
 have B0:=yae (((Below.refl W.heap.size W).alloc (Nat.le_refl _) (.cells (cmL { cm0 with kind:=7,name:=n,other:=o } cv vv fv ea wa).toArray 31)).drew)
 have hbW:b < W.heap.size:=hS.pr.lt
 have HQ:=yae (fun w1 (s1:PSt B b Tb w0 (ws++[w_alter,w_table,n]) w1)=>ys1 k n o ho cv vv fv ea wa (ws++[w_alter,w_table,n]) w1 s1 (L _ [] (by simp only [List.append_assoc,List.append_nil])))
 have HP:=yae hp
 clear hp hlen hS L k hn ho
 unfold cmL
 simp only [cm0]
 go_enter Tryz.func46,Tryz.ntmps46
 go_wp2_with fail
 go_region_law (first|(go_simp;refine HP.out.mono ?_;rintro e w2 ⟨rfl,s2,o2⟩;dsimp only))
 all_goals
  have kb:=o2 _ _ (show (W.alloc _).drew.heap[W.heap.size]?=_ from heap_alloc_new W _) (by simp;omega) (by intro c f e;cases e)
  have HZ:=yae (HQ.out w2 s2)
  have O2:=yae o2
  clear s2 o2 HP HQ
  go_wp2_with (first|(refine yaf 31 _ rfl rfl _ (cmL { cm0 with kind:=7,name:=n,other:=o } cv vv fv ea wa) 31 _ rfl (by exact kb) Tryz.underlying31 rfl Tryz.size31 ?_)|(go_at_call 97;refine HZ.out.mono ?_;rintro e w3 ⟨rfl,s3,o3⟩))
  try simp only [Exit.inBlock]
  go_end0
  refine ⟨rfl, ?_,fun q ob hq hne hty=>o3 q ob (O2.out q ob (yao (b:=b) B0.out q ob hq hne hty) hne hty) hne hty⟩
  have:=s3
  simp only [List.append_assoc] at this
  exact this
theorem ycQ {B b:Nat} {Tb:World→Prop} {w0:World} {ws:List (List UInt8)} {W:World} (k:ItoaOk B Tb) (h:PSt B b Tb w0 ws W) (ts:List (List UInt8)) (n:Nat) (cs:Array Value) (hcs:cs.toList=ts.map fun x=>Value.string ⟨x.toArray⟩) (hn:ts.length=n) (hne:∀ x ∈ ts,x≠[]) (hlen:(yaz (ws++ts)).length≤1000000) (hsm:n≤1000000) :
  Calls Tryz.prog 94 #[.pointer (some ⟨b,0,none⟩),.slice (some ⟨W.heap.size,0,none⟩) n n] (W.drew.alloc (.cells cs 9)) (ybb B b Tb w0 (ws++ts) W.drew) :=
 ycb k (h.below k (Below.refl _ _).drew) ts n cs hcs hn hne hlen hsm
theorem yc8 {B b:Nat} {Tb:World→Prop} {w0:World} {ws:List (List UInt8)} {W:World} (k:ItoaOk B Tb) (h:PSt B b Tb w0 ws W) (o o':Obj) (ts:List (List UInt8)) (n:Nat) (cs:Array Value) (hcs:cs.toList=ts.map fun x=>Value.string ⟨x.toArray⟩) (hn:ts.length=n) (hne:∀ x ∈ ts,x≠[]) (hlen:(yaz (ws++ts)).length≤1000000) (hsm:n≤1000000) :
  Calls Tryz.prog 94 #[.pointer (some ⟨b,0,none⟩),.slice (some ⟨W.heap.size+1+1,0,none⟩) n n] (((W.alloc o).alloc o').alloc (.cells cs 9)) (ybb B b Tb w0 (ws++ts) ((W.alloc o).alloc o')):=by
 have h1:=h.below k ((Below.refl W.heap.size W).alloc (Nat.le_refl _) o)
 have:=ycP k h1 o' ts n cs hcs hn hne hlen hsm
 rw [show (W.alloc o).heap.size=W.heap.size+1 by simp] at this
 exact this
theorem ydT {B b:Nat} {Tb:World→Prop} {w0:World} (ao:Option Addr) (ca:Nat) (f:Value) (ws:List (List UInt8)) (W:World) (hS:PSt B b Tb w0 ws W):Calls Tryz.prog 139 #[.pointer (some ⟨b,0,none⟩),.slice ao 0 ca,f] W (ybb B b Tb w0 ws W):=by
 have H:=yae hS
 clear hS
 go_enter Tryz.func139,Tryz.ntmps139
 go_wp2
 go_loopw [6,7,10] (fun _ _ i wl=>i=.int .i64 0∧wl=W) (fun _ _ _ _=>0)
 case atStart=>exact ⟨rfl,rfl⟩
 case round =>
  obtain ⟨rfl,rfl⟩:=hrel
  go_wp2
  go_end0
  exact ⟨rfl,H.out,Lib.OthersKept.refl _ _ _⟩
end Go.Proofs.YtkpeklealgicpabGreatDoor
