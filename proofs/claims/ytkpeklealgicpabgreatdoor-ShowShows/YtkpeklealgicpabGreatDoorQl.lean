/-
  The printer's choose.
  What is shown of a command that is right is not too long for memory.
  The printer's command: select; and every command that is right.
  The printer's text, as a string.
  'Show' of package show, of any command.
  The document's reader in memory: names, numbers, values, kinds of columns.
  The document's reader in memory: values, kinds of columns.
  The document's reader in memory: values.
  The document's reader in memory: values, whole.
  The document's reader in memory: expressions.
-/
import Derived.Test.YtkpeklealgicpabGreatDoorQa
import Derived.Test.YtkpeklealgicpabGreatDoorQh
import Derived.Test.YtkpeklealgicpabGreatDoorQi
import Derived.Test.YtkpeklealgicpabGreatDoorQj
import Derived.Test.YtkpeklealgicpabGreatDoorQk

set_option maxRecDepth 100000
set_option maxHeartbeats 8000000
namespace Go.Proofs.YtkpeklealgicpabGreatDoor
open Go.RowKit
theorem yhW {B b:Nat} {Tb:World→Prop} {w0:World} (k:ItoaOk B Tb) (hw:w0.heap.size≤B) (n:List UInt8) (hn:n≠[]) (l:List (List UInt8)) (hl0:l≠[]) (hl:∀ x ∈ l,x≠[]) (h5:l.length≤5) (a:Bool) (x:Ex) (hr:RightW a x) (o:List UInt8) (ho:o≠[]) (m:Int) (hm:0≤m∧m≤999999999) (cv vv fv ea wa:Value) (hi:CmIn 0 w0 { cm0 with kind:=13,name:=n,fields:=l,all:=a,wh:=x,order:=o,limit:=m } cv vv fv ea wa) (ws:List (List UInt8)) (W:World) (hS:PSt B b Tb w0 ws W) (hlen:(yaj (ws++([w_select]++(yal (fun s=>[s]) l++([w_from,n]++(yap { cm0 with kind:=13,name:=n,fields:=l,all:=a,wh:=x,order:=o,limit:=m }++([w_order,w_by,o]++([w_limit,Lib.itoa m])))))))).length≤1000000) :
  Calls Tryz.prog 102 #[.pointer (some ⟨b,0,none⟩),.agg (cmL { cm0 with kind:=13,name:=n,fields:=l,all:=a,wh:=x,order:=o,limit:=m } cv vv fv ea wa).toArray] W (ya0 B b Tb w0 (ws++([w_select]++(yal (fun s=>[s]) l++([w_from,n]++(yap { cm0 with kind:=13,name:=n,fields:=l,all:=a,wh:=x,order:=o,limit:=m }++([w_order,w_by,o]++([w_limit,Lib.itoa m]))))))) W):=by
 have L:∀ p q:List (List UInt8),p++q=ws++([w_select]++(yal (fun s=>[s]) l++([w_from,n]++(yap { cm0 with kind:=13,name:=n,fields:=l,all:=a,wh:=x,order:=o,limit:=m }++([w_order,w_by,o]++([w_limit,Lib.itoa m]))))))→(yaj p).length≤1000000:=fun p q e=>Nat.le_trans (yaD p q) (by rw [e];exact hlen)
 have hp:=yaa (yco k hS (.cells #[.pointer (some ⟨b,0,none⟩)] 117) (.cells (cmL { cm0 with kind:=13,name:=n,fields:=l,all:=a,wh:=x,order:=o,limit:=m } cv vv fv ea wa).toArray 31) [w_select] 1 #[.string ⟨w_select.toArray⟩] rfl rfl (by intro x hx;simp at hx;subst hx;decide) (L _ (yal (fun s=>[s]) l++([w_from,n]++(yap { cm0 with kind:=13,name:=n,fields:=l,all:=a,wh:=x,order:=o,limit:=m }++([w_order,w_by,o]++([w_limit,Lib.itoa m]))))) (by simp only [List.append_assoc])) (by decide))
 have b1:=(Below.refl W.heap.size W).alloc (Nat.le_refl _) (.cells #[.pointer (some ⟨b,0,none⟩)] 117)
 have B0:=yaa (b1.alloc (by simp) (.cells (cmL { cm0 with kind:=13,name:=n,fields:=l,all:=a,wh:=x,order:=o,limit:=m } cv vv fv ea wa).toArray 31))
 have hbW:b < W.heap.size:=hS.pr.lt
 obtain ⟨ao,ca,e0,h1⟩:=hi.fields.slice
 obtain ⟨g,og,rfl,hg,hc⟩:=h1 (List.length_pos_iff.2 hl0)
 have e1:fv=.slice (some ⟨g,og,none⟩) l.length ca:=e0
 have HS2:=yaa (fun w1 (s1:PSt B b Tb w0 (ws++[w_select]) w1) (hv:w1.heap[W.heap.size]?=some (.cells #[.pointer (some ⟨b,0,none⟩)] 117))=>yc7 k l g og ca W.heap.size (by omega) (fun i x hx=>by have:=hc _ _ (ybc stC (m:=1) (fun _=>rfl) l i 0 x _ hx rfl);rw [Nat.mul_one] at this;exact this) hl (by omega) (ws++[w_select]) w1 s1 hv (by omega) (L _ ([w_from,n]++(yap { cm0 with kind:=13,name:=n,fields:=l,all:=a,wh:=x,order:=o,limit:=m }++([w_order,w_by,o]++([w_limit,Lib.itoa m])))) (by simp only [List.append_assoc])))
 have HF:=yaa (fun w3 (s3:PSt B b Tb w0 (ws++[w_select]++yal (fun s=>[s]) l) w3)=>ycc k s3 [w_from,n] 2 #[.string ⟨w_from.toArray⟩,.string ⟨n.toArray⟩] rfl rfl (by intro x hx;simp at hx;rcases hx with rfl|rfl <;> first|assumption|decide) (L _ (yap { cm0 with kind:=13,name:=n,fields:=l,all:=a,wh:=x,order:=o,limit:=m }++([w_order,w_by,o]++([w_limit,Lib.itoa m]))) (by simp only [List.append_assoc])) (by decide))
 have HWh:=yaa (fun w4 (s4:PSt B b Tb w0 (ws++[w_select]++yal (fun s=>[s]) l++[w_from,n]) w4)=>ybw k hw { cm0 with kind:=13,name:=n,fields:=l,all:=a,wh:=x,order:=o,limit:=m } cv vv fv ea wa hi.wh hr (ws++[w_select]++yal (fun s=>[s]) l++[w_from,n]) w4 s4 (L _ ([w_order,w_by,o]++([w_limit,Lib.itoa m])) (by simp only [List.append_assoc])))
 have HO:=yaa (fun w5 (s5:PSt B b Tb w0 (ws++[w_select]++yal (fun s=>[s]) l++[w_from,n]++yap { cm0 with kind:=13,name:=n,fields:=l,all:=a,wh:=x,order:=o,limit:=m }) w5)=>ycc k s5 [w_order,w_by,o] 3 #[.string ⟨w_order.toArray⟩,.string ⟨w_by.toArray⟩,.string ⟨o.toArray⟩] rfl rfl (by intro x hx;simp at hx;rcases hx with rfl|rfl|rfl <;> first|assumption|decide) (L _ ([w_limit,Lib.itoa m]) (by simp only [List.append_assoc])) (by decide))
 have qo:o.isEmpty=false:=by cases o with|nil=>exact absurd rfl ho|cons _ _=>rfl
 have HI:=yaa (fun w6 (s6:PSt B b Tb w0 (ws++[w_select]++yal (fun s=>[s]) l++[w_from,n]++yap { cm0 with kind:=13,name:=n,fields:=l,all:=a,wh:=x,order:=o,limit:=m }++[w_order,w_by,o]) w6)=>k.itoa m w6 s6.tb (by omega) hm.2)
 have HL:=yaa (fun w7 (s7:PSt B b Tb w0 (ws++[w_select]++yal (fun s=>[s]) l++[w_from,n]++yap { cm0 with kind:=13,name:=n,fields:=l,all:=a,wh:=x,order:=o,limit:=m }++[w_order,w_by,o]) w7)=>ybG k s7 [w_limit,Lib.itoa m] 2 #[.string ⟨w_limit.toArray⟩,.string ⟨(Lib.itoa m).toArray⟩] rfl rfl (by intro x hx;simp at hx;rcases hx with rfl|rfl <;> first|exact yeA m|decide) (L _ [] (by simp only [List.append_assoc,List.append_nil])) (by decide))
 have qm:(0:Int)≤m:=hm.1
 have K:=yaa k
 have hcm:∀ w1:World,w1.heap[W.heap.size+1]?=some (.cells (cmL { cm0 with kind:=13,name:=n,fields:=l,all:=a,wh:=x,order:=o,limit:=m } cv vv fv ea wa).toArray 31)→(w1.cell? ⟨W.heap.size+1,1,none⟩=some (.string ⟨n.toArray⟩)∧w1.cell? ⟨W.heap.size+1,10,none⟩=some fv∧w1.cell? ⟨W.heap.size+1,24,none⟩=some (.string ⟨o.toArray⟩)∧w1.cell? ⟨W.heap.size+1,25,none⟩=some (.int .i64 m)):=fun w1 kb=>⟨by rw [Lib.cell_of_heap kb];rfl,by rw [Lib.cell_of_heap kb];rfl,by rw [Lib.cell_of_heap kb];rfl,by rw [Lib.cell_of_heap kb];rfl⟩
 have HC:=yaa hcm
 have hvv:∀ w1:World,w1.heap[W.heap.size]?=some (.cells #[.pointer (some ⟨b,0,none⟩)] 117)→w1.cell? ⟨W.heap.size,0,none⟩=some (.pointer (some ⟨b,0,none⟩)):=fun w1 kb=>by rw [Lib.cell_of_heap kb];rfl
 have HVV:=yaa hvv
 clear hcm hvv hlen hS L k hn hr hi hw  h1 hm hl h5 hg hc ho
 have ql:((l.length:Int) == 0)=false:=by simp [hl0]
 have qz:¬ ((l.length:Int)=0):=by simp [hl0]
 subst e1
 unfold cmL
 simp only [cm0]
 go_enter Tryz.func102,Tryz.ntmps102
 go_wp2_with fail
 refine hp.out.mono ?_
 rintro e w1 ⟨rfl,s1,o1⟩
 have ka:((W.alloc (.cells #[.pointer (some ⟨b,0,none⟩)] 117)).alloc (.cells (cmL { cm0 with kind:=13,name:=n,fields:=l,all:=a,wh:=x,order:=o,limit:=m } cv vv (.slice (some ⟨g,og,none⟩) l.length ca) ea wa).toArray 31)).heap[W.heap.size+1]?=some (.cells (cmL { cm0 with kind:=13,name:=n,fields:=l,all:=a,wh:=x,order:=o,limit:=m } cv vv (.slice (some ⟨g,og,none⟩) l.length ca) ea wa).toArray 31):=by
  have:=heap_alloc_new (W.alloc (.cells #[.pointer (some ⟨b,0,none⟩)] 117)) (.cells (cmL { cm0 with kind:=13,name:=n,fields:=l,all:=a,wh:=x,order:=o,limit:=m } cv vv (.slice (some ⟨g,og,none⟩) l.length ca) ea wa).toArray 31)
  rwa [show (W.alloc (.cells #[.pointer (some ⟨b,0,none⟩)] 117)).heap.size=W.heap.size+1 by simp] at this
 have kv:((W.alloc (.cells #[.pointer (some ⟨b,0,none⟩)] 117)).alloc (.cells (cmL { cm0 with kind:=13,name:=n,fields:=l,all:=a,wh:=x,order:=o,limit:=m } cv vv (.slice (some ⟨g,og,none⟩) l.length ca) ea wa).toArray 31)).heap[W.heap.size]?=some (.cells #[.pointer (some ⟨b,0,none⟩)] 117):=(Below.heap_alloc _ _ _ (by simp)).trans (heap_alloc_new W _)
 have ka:=yaa (o1 _ _ ka (by simp;omega) (by intro c f e;cases e))
 have kv:=yaa (o1 _ _ kv (by simp;omega) (by intro c f e;cases e))
 obtain ⟨d1,d10,d24,d25⟩:=HC.out w1 ka.out
 have dv:=HVV.out w1 kv.out
 clear d1
 clear d24
 clear d25
 have l1:W.heap.size < w1.heap.size:=(ltS kv.out)
 have l2:W.heap.size+1 < w1.heap.size:=(ltS ka.out)
 have l3:W.heap.size≠w1.heap.size:=Nat.ne_of_lt l1
 have l4:W.heap.size+1≠w1.heap.size:=Nat.ne_of_lt l2
 have O1:=yaa o1
 have HZ:=yaa (HS2.out w1 s1 kv.out)
 clear s1 o1 hp HS2
 have O2:Hid (Lib.OthersKept 5 (some b) w1 w1):=Lib.OthersKept.refl _ _ _
 go_wp2_with fail
 refine HZ.out.mono ?_
 rintro e w3 ⟨rfl,s3,o3⟩
 clear dv d10
 have ka:=yaa (o3 _ _ ka.out (by simp;omega) (by intro c f e;cases e))
 have kv:=yaa (o3 _ _ kv.out (by simp;omega) (by intro c f e;cases e))
 obtain ⟨d1,d10,d24,d25⟩:=HC.out w3 ka.out
 have dv:=HVV.out w3 kv.out
 clear d10
 clear d24
 clear d25
 clear l1 l2 l3 l4
 have l1:W.heap.size < w3.heap.size:=(ltS kv.out)
 have l2:W.heap.size+1 < w3.heap.size:=(ltS ka.out)
 have l3:W.heap.size≠w3.heap.size:=Nat.ne_of_lt l1
 have l4:W.heap.size+1≠w3.heap.size:=Nat.ne_of_lt l2
 have O3:=yaa o3
 have HY3:=yaa (HF.out w3 s3)
 clear s3 o3 HZ HF
 go_wp2_with fail
 go_region_law (first|(go_simp;refine HY3.out.mono ?_;rintro e w4 ⟨rfl,s4,o4⟩;dsimp only))
 all_goals
  have o4':Lib.OthersKept 5 (some b) w3 w4:=fun q ob hq hne hty=>o4 q ob hq hne hty
  clear dv d1
  have ka:=yaa (o4' _ _ ka.out (by simp;omega) (by intro c f e;cases e))
  have kv:=yaa (o4' _ _ kv.out (by simp;omega) (by intro c f e;cases e))
  obtain ⟨d1,d10,d24,d25⟩:=HC.out w4 ka.out
  have dv:=HVV.out w4 kv.out
  clear d1
  clear d10
  clear d24
  clear d25
  clear l1 l2 l3 l4
  have l1:W.heap.size < w4.heap.size:=(ltS kv.out)
  have l2:W.heap.size+1 < w4.heap.size:=(ltS ka.out)
  have l3:W.heap.size≠w4.heap.size:=Nat.ne_of_lt l1
  have l4:W.heap.size+1≠w4.heap.size:=Nat.ne_of_lt l2
  have O4:=yaa o4'
  have HY4:=yaa (HWh.out w4 s4)
  clear s4 o4 o4' HY3 HWh
  go_wp2_with (first|(refine yag 31 _ rfl rfl _ (cmL { cm0 with kind:=13,name:=n,fields:=l,all:=a,wh:=x,order:=o,limit:=m } cv vv (.slice (some ⟨g,og,none⟩) l.length ca) ea wa) 31 _ rfl (by exact ka.out) Tryz.underlying31 rfl Tryz.size31 ?_)|fail)
  refine HY4.out.mono ?_
  rintro e w5 ⟨rfl,s5,o5⟩
  clear dv
  have ka:=yaa (o5 _ _ ka.out (by simp;omega) (by intro c f e;cases e))
  have kv:=yaa (o5 _ _ kv.out (by simp;omega) (by intro c f e;cases e))
  obtain ⟨d1,d10,d24,d25⟩:=HC.out w5 ka.out
  have dv:=HVV.out w5 kv.out
  clear d1
  clear d10
  clear l1 l2 l3 l4
  have l1:W.heap.size < w5.heap.size:=(ltS kv.out)
  have l2:W.heap.size+1 < w5.heap.size:=(ltS ka.out)
  have l3:W.heap.size≠w5.heap.size:=Nat.ne_of_lt l1
  have l4:W.heap.size+1≠w5.heap.size:=Nat.ne_of_lt l2
  have O5:=yaa o5
  have KEPT:Hid (Lib.OthersKept 5 (some b) W w5):=fun q ob hq hne hty=>O5.out q ob (O4.out q ob (O3.out q ob (O2.out q ob (O1.out q ob (yak (b:=b) B0.out q ob hq hne hty) hne hty) hne hty) hne hty) hne hty) hne hty
  clear o5 HY4
  have HY5:=yaa (HO.out w5 s5)
  clear s5 HO
  go_wp2_with fail
  go_region_law (first|(go_simp;refine HY5.out.mono ?_;rintro e w6 ⟨rfl,s6,o6⟩;dsimp only))
  all_goals
   have o6':Lib.OthersKept 5 (some b) w5 w6:=fun q ob hq hne hty=>o6 q ob hq hne hty
   clear dv d24 d25
   have ka:=yaa (o6' _ _ ka.out (by simp;omega) (by intro c f e;cases e))
   have kv:=yaa (o6' _ _ kv.out (by simp;omega) (by intro c f e;cases e))
   obtain ⟨d1,d10,d24,d25⟩:=HC.out w6 ka.out
   have dv:=HVV.out w6 kv.out
   clear d1
   clear d10
   clear d24
   clear l1 l2 l3 l4
   have l1:W.heap.size < w6.heap.size:=(ltS kv.out)
   have l2:W.heap.size+1 < w6.heap.size:=(ltS ka.out)
   have l3:W.heap.size≠w6.heap.size:=Nat.ne_of_lt l1
   have l4:W.heap.size+1≠w6.heap.size:=Nat.ne_of_lt l2
   have KEP2:Hid (Lib.OthersKept 5 (some b) W w6):=fun q ob hq hne hty=>o6' q ob (KEPT.out q ob hq hne hty) hne hty
   clear o6 o6' HY5
   have HY6:=yaa (HI.out w6.drew (s6.below K.out (Below.refl _ _).drew))
   have SS:=yaa s6
   clear s6 HI
   go_wp2_with fail
   go_region_law (first|(go_simp;refine HY6.out.mono ?_;rintro e w7 ⟨rfl,b7⟩;dsimp only;have kv7:=yaa (yak (b:=b) b7 _ _ (show w6.drew.heap[W.heap.size]?=_ from kv.out) (by simp;omega) (by intro c f e;cases e));have ka7:=yaa (yak (b:=b) b7 _ _ (show w6.drew.heap[W.heap.size+1]?=_ from ka.out) (by simp;omega) (by intro c f e;cases e));have dv7:=HVV.out w7 kv7.out;have m1:W.heap.size < w7.heap.size:=(ltS kv7.out);have m3:W.heap.size≠w7.heap.size:=Nat.ne_of_lt m1)|(go_simp;refine (HL.out w7 (SS.out.below K.out ((Below.refl _ _).drew.trans b7))).mono ?_;rintro e w8 ⟨rfl,s8,o8⟩;dsimp only))
   all_goals
    try simp only [Exit.inBlock]
    go_end0
    refine ⟨rfl, ?_,fun q ob hq hne hty=>o8 q ob (yak (b:=b) ((Below.refl _ _).drew.trans b7) q ob (KEP2.out q ob hq hne hty) hne hty) hne hty⟩
    have:=s8
    simp only [List.append_assoc] at this
    exact this
theorem yh0 {B b:Nat} {Tb:World→Prop} {w0:World} (k:ItoaOk B Tb) (hw:w0.heap.size≤B) (n:List UInt8) (hn:n≠[]) (l:List (List UInt8)) (hl0:l=[]) (a:Bool) (x:Ex) (hr:RightW a x) (o:List UInt8) (ho:o≠[]) (m:Int) (hm:0≤m∧m≤999999999) (cv vv fv ea wa:Value) (hi:CmIn 0 w0 { cm0 with kind:=13,name:=n,fields:=l,all:=a,wh:=x,order:=o,limit:=m } cv vv fv ea wa) (ws:List (List UInt8)) (W:World) (hS:PSt B b Tb w0 ws W) (hlen:(yaj (ws++([w_select]++([[42]]++([w_from,n]++(yap { cm0 with kind:=13,name:=n,fields:=l,all:=a,wh:=x,order:=o,limit:=m }++([w_order,w_by,o]++([w_limit,Lib.itoa m])))))))).length≤1000000) :
  Calls Tryz.prog 102 #[.pointer (some ⟨b,0,none⟩),.agg (cmL { cm0 with kind:=13,name:=n,fields:=l,all:=a,wh:=x,order:=o,limit:=m } cv vv fv ea wa).toArray] W (ya0 B b Tb w0 (ws++([w_select]++([[42]]++([w_from,n]++(yap { cm0 with kind:=13,name:=n,fields:=l,all:=a,wh:=x,order:=o,limit:=m }++([w_order,w_by,o]++([w_limit,Lib.itoa m]))))))) W):=by
 have L:∀ p q:List (List UInt8),p++q=ws++([w_select]++([[42]]++([w_from,n]++(yap { cm0 with kind:=13,name:=n,fields:=l,all:=a,wh:=x,order:=o,limit:=m }++([w_order,w_by,o]++([w_limit,Lib.itoa m]))))))→(yaj p).length≤1000000:=fun p q e=>Nat.le_trans (yaD p q) (by rw [e];exact hlen)
 have hp:=yaa (yco k hS (.cells #[.pointer (some ⟨b,0,none⟩)] 117) (.cells (cmL { cm0 with kind:=13,name:=n,fields:=l,all:=a,wh:=x,order:=o,limit:=m } cv vv fv ea wa).toArray 31) [w_select] 1 #[.string ⟨w_select.toArray⟩] rfl rfl (by intro x hx;simp at hx;subst hx;decide) (L _ ([[42]]++([w_from,n]++(yap { cm0 with kind:=13,name:=n,fields:=l,all:=a,wh:=x,order:=o,limit:=m }++([w_order,w_by,o]++([w_limit,Lib.itoa m]))))) (by simp only [List.append_assoc])) (by decide))
 have b1:=(Below.refl W.heap.size W).alloc (Nat.le_refl _) (.cells #[.pointer (some ⟨b,0,none⟩)] 117)
 have B0:=yaa (b1.alloc (by simp) (.cells (cmL { cm0 with kind:=13,name:=n,fields:=l,all:=a,wh:=x,order:=o,limit:=m } cv vv fv ea wa).toArray 31))
 have hbW:b < W.heap.size:=hS.pr.lt
 obtain ⟨ao,ca,e0,h1⟩:=hi.fields.slice
 have e1:fv=.slice ao 0 ca:=by rw [e0];simp [hl0]
 have HS1:=yaa (fun w1 (s1:PSt B b Tb w0 (ws++[w_select]) w1)=>ybG k s1 [[42]] 1 #[.string ⟨#[42]⟩] rfl rfl (by intro x hx;simp at hx;subst hx;decide) (L _ ([w_from,n]++(yap { cm0 with kind:=13,name:=n,fields:=l,all:=a,wh:=x,order:=o,limit:=m }++([w_order,w_by,o]++([w_limit,Lib.itoa m])))) (by simp only [List.append_assoc])) (by decide))
 have HS2:=yaa (fun (f:Value) w2 (s2:PSt B b Tb w0 (ws++[w_select]++[[42]]) w2)=>yc8 (Tb:=Tb) (w0:=w0) ao ca f (ws++[w_select]++[[42]]) w2 s2)
 have HF:=yaa (fun w3 (s3:PSt B b Tb w0 (ws++[w_select]++[[42]]) w3)=>ycc k s3 [w_from,n] 2 #[.string ⟨w_from.toArray⟩,.string ⟨n.toArray⟩] rfl rfl (by intro x hx;simp at hx;rcases hx with rfl|rfl <;> first|assumption|decide) (L _ (yap { cm0 with kind:=13,name:=n,fields:=l,all:=a,wh:=x,order:=o,limit:=m }++([w_order,w_by,o]++([w_limit,Lib.itoa m]))) (by simp only [List.append_assoc])) (by decide))
 have HWh:=yaa (fun w4 (s4:PSt B b Tb w0 (ws++[w_select]++[[42]]++[w_from,n]) w4)=>ybw k hw { cm0 with kind:=13,name:=n,fields:=l,all:=a,wh:=x,order:=o,limit:=m } cv vv fv ea wa hi.wh hr (ws++[w_select]++[[42]]++[w_from,n]) w4 s4 (L _ ([w_order,w_by,o]++([w_limit,Lib.itoa m])) (by simp only [List.append_assoc])))
 have HO:=yaa (fun w5 (s5:PSt B b Tb w0 (ws++[w_select]++[[42]]++[w_from,n]++yap { cm0 with kind:=13,name:=n,fields:=l,all:=a,wh:=x,order:=o,limit:=m }) w5)=>ycc k s5 [w_order,w_by,o] 3 #[.string ⟨w_order.toArray⟩,.string ⟨w_by.toArray⟩,.string ⟨o.toArray⟩] rfl rfl (by intro x hx;simp at hx;rcases hx with rfl|rfl|rfl <;> first|assumption|decide) (L _ ([w_limit,Lib.itoa m]) (by simp only [List.append_assoc])) (by decide))
 have qo:o.isEmpty=false:=by cases o with|nil=>exact absurd rfl ho|cons _ _=>rfl
 have HI:=yaa (fun w6 (s6:PSt B b Tb w0 (ws++[w_select]++[[42]]++[w_from,n]++yap { cm0 with kind:=13,name:=n,fields:=l,all:=a,wh:=x,order:=o,limit:=m }++[w_order,w_by,o]) w6)=>k.itoa m w6 s6.tb (by omega) hm.2)
 have HL:=yaa (fun w7 (s7:PSt B b Tb w0 (ws++[w_select]++[[42]]++[w_from,n]++yap { cm0 with kind:=13,name:=n,fields:=l,all:=a,wh:=x,order:=o,limit:=m }++[w_order,w_by,o]) w7)=>ybG k s7 [w_limit,Lib.itoa m] 2 #[.string ⟨w_limit.toArray⟩,.string ⟨(Lib.itoa m).toArray⟩] rfl rfl (by intro x hx;simp at hx;rcases hx with rfl|rfl <;> first|exact yeA m|decide) (L _ [] (by simp only [List.append_assoc,List.append_nil])) (by decide))
 have qm:(0:Int)≤m:=hm.1
 have K:=yaa k
 have hcm:∀ w1:World,w1.heap[W.heap.size+1]?=some (.cells (cmL { cm0 with kind:=13,name:=n,fields:=l,all:=a,wh:=x,order:=o,limit:=m } cv vv fv ea wa).toArray 31)→(w1.cell? ⟨W.heap.size+1,1,none⟩=some (.string ⟨n.toArray⟩)∧w1.cell? ⟨W.heap.size+1,10,none⟩=some fv∧w1.cell? ⟨W.heap.size+1,24,none⟩=some (.string ⟨o.toArray⟩)∧w1.cell? ⟨W.heap.size+1,25,none⟩=some (.int .i64 m)):=fun w1 kb=>⟨by rw [Lib.cell_of_heap kb];rfl,by rw [Lib.cell_of_heap kb];rfl,by rw [Lib.cell_of_heap kb];rfl,by rw [Lib.cell_of_heap kb];rfl⟩
 have HC:=yaa hcm
 have hvv:∀ w1:World,w1.heap[W.heap.size]?=some (.cells #[.pointer (some ⟨b,0,none⟩)] 117)→w1.cell? ⟨W.heap.size,0,none⟩=some (.pointer (some ⟨b,0,none⟩)):=fun w1 kb=>by rw [Lib.cell_of_heap kb];rfl
 have HVV:=yaa hvv
 clear hcm hvv hlen hS L k hn hr hi hw  h1 hm ho
 subst e1
 subst hl0
 unfold cmL
 simp only [cm0]
 go_enter Tryz.func102,Tryz.ntmps102
 go_wp2_with fail
 refine hp.out.mono ?_
 rintro e w1 ⟨rfl,s1,o1⟩
 have ka:((W.alloc (.cells #[.pointer (some ⟨b,0,none⟩)] 117)).alloc (.cells (cmL { cm0 with kind:=13,name:=n,fields:=[],all:=a,wh:=x,order:=o,limit:=m } cv vv (.slice ao 0 ca) ea wa).toArray 31)).heap[W.heap.size+1]?=some (.cells (cmL { cm0 with kind:=13,name:=n,fields:=[],all:=a,wh:=x,order:=o,limit:=m } cv vv (.slice ao 0 ca) ea wa).toArray 31):=by
  have:=heap_alloc_new (W.alloc (.cells #[.pointer (some ⟨b,0,none⟩)] 117)) (.cells (cmL { cm0 with kind:=13,name:=n,fields:=[],all:=a,wh:=x,order:=o,limit:=m } cv vv (.slice ao 0 ca) ea wa).toArray 31)
  rwa [show (W.alloc (.cells #[.pointer (some ⟨b,0,none⟩)] 117)).heap.size=W.heap.size+1 by simp] at this
 have kv:((W.alloc (.cells #[.pointer (some ⟨b,0,none⟩)] 117)).alloc (.cells (cmL { cm0 with kind:=13,name:=n,fields:=[],all:=a,wh:=x,order:=o,limit:=m } cv vv (.slice ao 0 ca) ea wa).toArray 31)).heap[W.heap.size]?=some (.cells #[.pointer (some ⟨b,0,none⟩)] 117):=(Below.heap_alloc _ _ _ (by simp)).trans (heap_alloc_new W _)
 have ka:=yaa (o1 _ _ ka (by simp;omega) (by intro c f e;cases e))
 have kv:=yaa (o1 _ _ kv (by simp;omega) (by intro c f e;cases e))
 obtain ⟨d1,d10,d24,d25⟩:=HC.out w1 ka.out
 have dv:=HVV.out w1 kv.out
 clear d1
 clear d24
 clear d25
 have l1:W.heap.size < w1.heap.size:=(ltS kv.out)
 have l2:W.heap.size+1 < w1.heap.size:=(ltS ka.out)
 have l3:W.heap.size≠w1.heap.size:=Nat.ne_of_lt l1
 have l4:W.heap.size+1≠w1.heap.size:=Nat.ne_of_lt l2
 have O1:=yaa o1
 have HY:=yaa (HS1.out w1 s1)
 clear s1 o1 hp HS1
 go_wp2_with fail
 refine HY.out.mono ?_
 rintro e w2 ⟨rfl,s2,o2⟩
 clear dv d10
 have ka:=yaa (o2 _ _ ka.out (by simp;omega) (by intro c f e;cases e))
 have kv:=yaa (o2 _ _ kv.out (by simp;omega) (by intro c f e;cases e))
 obtain ⟨d1,d10,d24,d25⟩:=HC.out w2 ka.out
 have dv:=HVV.out w2 kv.out
 clear d1
 clear d24
 clear d25
 clear l1 l2 l3 l4
 have l1:W.heap.size < w2.heap.size:=(ltS kv.out)
 have l2:W.heap.size+1 < w2.heap.size:=(ltS ka.out)
 have l3:W.heap.size≠w2.heap.size:=Nat.ne_of_lt l1
 have l4:W.heap.size+1≠w2.heap.size:=Nat.ne_of_lt l2
 have O2:=yaa o2
 have HZ:=yaa (fun f=>HS2.out f w2 s2)
 clear s2 o2 HY HS2
 go_wp2_with fail
 refine (HZ.out _).mono ?_
 rintro e w3 ⟨rfl,s3,o3⟩
 clear dv d10
 have ka:=yaa (o3 _ _ ka.out (by simp;omega) (by intro c f e;cases e))
 have kv:=yaa (o3 _ _ kv.out (by simp;omega) (by intro c f e;cases e))
 obtain ⟨d1,d10,d24,d25⟩:=HC.out w3 ka.out
 have dv:=HVV.out w3 kv.out
 clear d10
 clear d24
 clear d25
 clear l1 l2 l3 l4
 have l1:W.heap.size < w3.heap.size:=(ltS kv.out)
 have l2:W.heap.size+1 < w3.heap.size:=(ltS ka.out)
 have l3:W.heap.size≠w3.heap.size:=Nat.ne_of_lt l1
 have l4:W.heap.size+1≠w3.heap.size:=Nat.ne_of_lt l2
 have O3:=yaa o3
 have HY3:=yaa (HF.out w3 s3)
 clear s3 o3 HZ HF
 go_wp2_with fail
 go_region_law (first|(go_simp;refine HY3.out.mono ?_;rintro e w4 ⟨rfl,s4,o4⟩;dsimp only))
 all_goals
  have o4':Lib.OthersKept 5 (some b) w3 w4:=fun q ob hq hne hty=>o4 q ob hq hne hty
  clear dv d1
  have ka:=yaa (o4' _ _ ka.out (by simp;omega) (by intro c f e;cases e))
  have kv:=yaa (o4' _ _ kv.out (by simp;omega) (by intro c f e;cases e))
  obtain ⟨d1,d10,d24,d25⟩:=HC.out w4 ka.out
  have dv:=HVV.out w4 kv.out
  clear d1
  clear d10
  clear d24
  clear d25
  clear l1 l2 l3 l4
  have l1:W.heap.size < w4.heap.size:=(ltS kv.out)
  have l2:W.heap.size+1 < w4.heap.size:=(ltS ka.out)
  have l3:W.heap.size≠w4.heap.size:=Nat.ne_of_lt l1
  have l4:W.heap.size+1≠w4.heap.size:=Nat.ne_of_lt l2
  have O4:=yaa o4'
  have HY4:=yaa (HWh.out w4 s4)
  clear s4 o4 o4' HY3 HWh
  go_wp2_with (first|(refine yag 31 _ rfl rfl _ (cmL { cm0 with kind:=13,name:=n,fields:=[],all:=a,wh:=x,order:=o,limit:=m } cv vv (.slice ao 0 ca) ea wa) 31 _ rfl (by exact ka.out) Tryz.underlying31 rfl Tryz.size31 ?_)|fail)
  refine HY4.out.mono ?_
  rintro e w5 ⟨rfl,s5,o5⟩
  clear dv
  have ka:=yaa (o5 _ _ ka.out (by simp;omega) (by intro c f e;cases e))
  have kv:=yaa (o5 _ _ kv.out (by simp;omega) (by intro c f e;cases e))
  obtain ⟨d1,d10,d24,d25⟩:=HC.out w5 ka.out
  have dv:=HVV.out w5 kv.out
  clear d1
  clear d10
  clear l1 l2 l3 l4
  have l1:W.heap.size < w5.heap.size:=(ltS kv.out)
  have l2:W.heap.size+1 < w5.heap.size:=(ltS ka.out)
  have l3:W.heap.size≠w5.heap.size:=Nat.ne_of_lt l1
  have l4:W.heap.size+1≠w5.heap.size:=Nat.ne_of_lt l2
  have O5:=yaa o5
  have KEPT:Hid (Lib.OthersKept 5 (some b) W w5):=fun q ob hq hne hty=>O5.out q ob (O4.out q ob (O3.out q ob (O2.out q ob (O1.out q ob (yak (b:=b) B0.out q ob hq hne hty) hne hty) hne hty) hne hty) hne hty) hne hty
  clear o5 HY4
  have HY5:=yaa (HO.out w5 s5)
  clear s5 HO
  go_wp2_with fail
  go_region_law (first|(go_simp;refine HY5.out.mono ?_;rintro e w6 ⟨rfl,s6,o6⟩;dsimp only))
  all_goals
   have o6':Lib.OthersKept 5 (some b) w5 w6:=fun q ob hq hne hty=>o6 q ob hq hne hty
   clear dv d24 d25
   have ka:=yaa (o6' _ _ ka.out (by simp;omega) (by intro c f e;cases e))
   have kv:=yaa (o6' _ _ kv.out (by simp;omega) (by intro c f e;cases e))
   obtain ⟨d1,d10,d24,d25⟩:=HC.out w6 ka.out
   have dv:=HVV.out w6 kv.out
   clear d1
   clear d10
   clear d24
   clear l1 l2 l3 l4
   have l1:W.heap.size < w6.heap.size:=(ltS kv.out)
   have l2:W.heap.size+1 < w6.heap.size:=(ltS ka.out)
   have l3:W.heap.size≠w6.heap.size:=Nat.ne_of_lt l1
   have l4:W.heap.size+1≠w6.heap.size:=Nat.ne_of_lt l2
   have KEP2:Hid (Lib.OthersKept 5 (some b) W w6):=fun q ob hq hne hty=>o6' q ob (KEPT.out q ob hq hne hty) hne hty
   clear o6 o6' HY5
   have HY6:=yaa (HI.out w6.drew (s6.below K.out (Below.refl _ _).drew))
   have SS:=yaa s6
   clear s6 HI
   go_wp2_with fail
   go_region_law (first|(go_simp;refine HY6.out.mono ?_;rintro e w7 ⟨rfl,b7⟩;dsimp only;have kv7:=yaa (yak (b:=b) b7 _ _ (show w6.drew.heap[W.heap.size]?=_ from kv.out) (by simp;omega) (by intro c f e;cases e));have ka7:=yaa (yak (b:=b) b7 _ _ (show w6.drew.heap[W.heap.size+1]?=_ from ka.out) (by simp;omega) (by intro c f e;cases e));have dv7:=HVV.out w7 kv7.out;have m1:W.heap.size < w7.heap.size:=(ltS kv7.out);have m3:W.heap.size≠w7.heap.size:=Nat.ne_of_lt m1)|(go_simp;refine (HL.out w7 (SS.out.below K.out ((Below.refl _ _).drew.trans b7))).mono ?_;rintro e w8 ⟨rfl,s8,o8⟩;dsimp only))
   all_goals
    try simp only [Exit.inBlock]
    go_end0
    refine ⟨rfl, ?_,fun q ob hq hne hty=>o8 q ob (yak (b:=b) ((Below.refl _ _).drew.trans b7) q ob (KEP2.out q ob hq hne hty) hne hty) hne hty⟩
    have:=s8
    simp only [List.append_assoc] at this
    exact this
theorem yhO {w:List UInt8} (h:okW w):w.length≤2001:=by
 have tok:∀ {K:Int} {l:List UInt8},ybt K l=true→l.length≤2000:=fun h=>(of_decide_eq_true h).2.1
 unfold okW at h
 unfold yec at h
 split at h
 ·rename_i c r
  have:=tok (h (c::r,2) (by simp))
  simp only [List.length_cons] at this ⊢
  omega
 ·have:=tok (h (_,_) (List.mem_singleton.2 rfl))
  simp only at this
  omega
theorem yn9 (ws:List (List UInt8)):∀ (p:List UInt8),(∀ w ∈ ws,okW w)→(ygk p ws).length≤2002*ws.length:=by
 induction ws with
 | nil=>intro p _;simp [ygk]
 | cons w ws ih =>
  intro p h
  have h1:=ih w fun x hx=>h x (List.mem_cons_of_mem _ hx)
  have h2:=yhO (h w (List.mem_cons_self ..))
  have h3:(ygZ p w).length≤1:=by unfold ygZ;split <;> simp
  rw [ygk,List.length_append,List.length_append,List.length_cons]
  omega
theorem yg0 (ws:List (List UInt8)) (h:∀ w ∈ ws,okW w):(yaj ws).length≤2002*ws.length:=by
 cases ws with
 | nil=>simp [yaj]
 | cons w ws =>
  have h1:=yn9 ws w fun x hx=>h x (List.mem_cons_of_mem _ hx)
  have h2:=yhO (h w (List.mem_cons_self ..))
  rw [yaj,List.length_append,List.length_cons]
  omega
theorem yd2 {x:Ex} (h:RightE x):(yat x).length≤4*yaQ x:=by
 induction h with
 | val v _=>simp [yat,yaQ,ybl]
 | col nm _=>simp [yat,yaQ,ybl]
 | not a _ ih=>simp [yat,yb9,yaQ,ybl];omega
 | null a _ ih=>simp [yat,yb9,yaQ,ybl];omega
 | two k hk a b _ _ ia ib =>
  rw [yat,if_neg (by omega),if_neg (by omega),if_neg (by omega),if_neg (by omega)]
  simp [yb9,yaQ,ybl]
  omega
theorem yc3 {α:Type} (f:α→List (List UInt8)) (n:Nat) (l:List α) (h:∀ x ∈ l,(f x).length≤n):(yal f l).length≤(n+1)*l.length:=by
 match l with
 | []=>simp [yal]
 | [x]=>have:=h x (by simp);simp only [yal,List.length_singleton];omega
 | x::y::r =>
  have h1:=h x (by simp)
  have h2:=yc3 f n (y::r) fun z hz=>h z (List.mem_cons_of_mem _ hz)
  rw [yal,List.length_append,List.length_cons]
  simp only [List.length_cons,Nat.mul_add,Nat.mul_one] at h2 ⊢
  omega
theorem yd1 {a:Bool} {x:Ex} (h:RightW a x) (c:Cm) (ha:c.all=a) (hx:c.wh=x):(yap c).length≤61:=by
 subst ha hx
 generalize e1:c.all=a,e2:c.wh=x at h
 unfold yap
 rw [e1,e2]
 cases h with
 | none=>simp
 | some _ h hs=>have:=yd2 h;simp;omega
theorem yka {c:Cm} (h:RightC c):(yaZ c).length≤200:=by
 cases h with
 | create n hn l hl h5 h =>
  have e:yaZ { cm0 with kind:=1,name:=n,cols:=l }=[w_create,w_table,n,[40]]++(yal yaV l++[[41]]):=rfl
  have:=yc3 yaV 2 l fun x _=>by simp [yaV]
  rw [e,List.length_append,List.length_append]
  simp only [List.length_cons,List.length_nil]
  omega
 | drop n hn=>show ([_,_,_]:List (List UInt8)).length≤200;simp
 | add n c hn hc t ht v hv=>show ([_,_,_,_,_,_,_,_]:List (List UInt8)).length≤200;simp
 | take n c hn hc=>show ([_,_,_,_,_]:List (List UInt8)).length≤200;simp
 | column n c o hn hc ho=>show ([_,_,_,_,_,_,_]:List (List UInt8)).length≤200;simp
 | retype n c hn hc t ht=>show ([_,_,_,_,_,_]:List (List UInt8)).length≤200;simp
 | table n o hn ho=>show ([_,_,_,_,_,_]:List (List UInt8)).length≤200;simp
 | index n c o hn hc ho=>show ([_,_,_,_,_,_,_,_]:List (List UInt8)).length≤200;simp
 | unindex n hn=>show ([_,_,_]:List (List UInt8)).length≤200;simp
 | insert n hn l hl h5 h =>
  have e:yaZ { cm0 with kind:=10,name:=n,vals:=l }=[w_insert,w_into,n,w_values,[40]]++(yal (fun v=>[yaI v]) l++[[41]]):=rfl
  have:=yc3 (fun v=>[yaI v]) 1 l fun x _=>by simp
  rw [e,List.length_append,List.length_append]
  simp only [List.length_cons,List.length_nil]
  omega
 | delete n hn a x hw =>
  have e:yaZ { cm0 with kind:=11,name:=n,all:=a,wh:=x }=[w_delete,w_from,n]++yap { cm0 with kind:=11,name:=n,all:=a,wh:=x }:=rfl
  have:=yd1 hw { cm0 with kind:=11,name:=n,all:=a,wh:=x } rfl rfl
  dsimp only at this
  rw [e,List.length_append]
  simp only [List.length_cons,List.length_nil]
  omega
 | update n c hn hc y hy hs a x hw =>
  have e:yaZ { cm0 with kind:=12,name:=n,column:=c,expr:=y,all:=a,wh:=x }=[w_update,n,w_set,c,[61]]++(yat y++yap { cm0 with kind:=12,name:=n,column:=c,expr:=y,all:=a,wh:=x }):=rfl
  have:=yd1 hw { cm0 with kind:=12,name:=n,column:=c,expr:=y,all:=a,wh:=x } rfl rfl
  dsimp only at this
  have:=yd2 hy
  rw [e,List.length_append,List.length_append]
  simp only [List.length_cons,List.length_nil]
  omega
 | select n hn l h5 hl a x hw o ho m hm =>
  have e:yaZ { cm0 with kind:=13,name:=n,fields:=l,all:=a,wh:=x,order:=o,limit:=m }=w_select::((if l=[] then [[42]] else yal (fun s=>[s]) l)++([w_from,n]++(yap { cm0 with kind:=13,name:=n,fields:=l,all:=a,wh:=x,order:=o,limit:=m }++((if o=[] then [] else [w_order,w_by,o])++(if m < 0 then [] else [w_limit,Lib.itoa m]))))):=rfl
  have h1:=yd1 hw { cm0 with kind:=13,name:=n,fields:=l,all:=a,wh:=x,order:=o,limit:=m } rfl rfl
  dsimp only at h1
  have h2:=yc3 (fun s:List UInt8=>[s]) 1 l fun x _=>by simp
  have h3:(if l=[] then [[42]] else yal (fun s:List UInt8=>[s]) l).length≤11:=by split <;> (try simp only [List.length_cons,List.length_nil]) <;> omega
  have h4:(if o=[] then ([]:List (List UInt8)) else [w_order,w_by,o]).length≤3:=by split <;> simp
  have h5:(if m < 0 then ([]:List (List UInt8)) else [w_limit,Lib.itoa m]).length≤2:=by split <;> simp
  rw [e,List.length_cons,List.length_append,List.length_append,List.length_append,List.length_append]
  simp only [List.length_cons,List.length_nil]
  omega
 | begin_=>show ([_]:List (List UInt8)).length≤200;simp
 | commit=>show ([_]:List (List UInt8)).length≤200;simp
 | rollback=>show ([_]:List (List UInt8)).length≤200;simp
theorem ymz {c:Cm} (h:RightC c):(ybY c).length≤1000000:=by
 have h1:=yg0 (yaZ c) (yhc h)
 have h2:=yka h
 unfold ybY
 omega
theorem yh1 {B b:Nat} {Tb:World→Prop} {w0:World} (k:ItoaOk B Tb) (hw:w0.heap.size≤B) (n:List UInt8) (hn:n≠[]) (l:List (List UInt8)) (hl:∀ x ∈ l,x≠[]) (h5:l.length≤5) (a:Bool) (x:Ex) (hr:RightW a x) (o:List UInt8) (m:Int) (hm:m≤999999999) (cv vv fv ea wa:Value) (hi:CmIn 0 w0 { cm0 with kind:=13,name:=n,fields:=l,all:=a,wh:=x,order:=o,limit:=m } cv vv fv ea wa) (ws:List (List UInt8)) (W:World) (hS:PSt B b Tb w0 ws W) (hlen:(yaj (ws++yaZ { cm0 with kind:=13,name:=n,fields:=l,all:=a,wh:=x,order:=o,limit:=m })).length≤1000000) :
  Calls Tryz.prog 102 #[.pointer (some ⟨b,0,none⟩),.agg (cmL { cm0 with kind:=13,name:=n,fields:=l,all:=a,wh:=x,order:=o,limit:=m } cv vv fv ea wa).toArray] W (ya0 B b Tb w0 (ws++yaZ { cm0 with kind:=13,name:=n,fields:=l,all:=a,wh:=x,order:=o,limit:=m }) W):=by
 have e:yaZ { cm0 with kind:=13,name:=n,fields:=l,all:=a,wh:=x,order:=o,limit:=m }=[w_select]++((if l=[] then [[42]] else yal (fun s=>[s]) l)++([w_from,n]++(yap { cm0 with kind:=13,name:=n,fields:=l,all:=a,wh:=x,order:=o,limit:=m }++((if o=[] then [] else [w_order,w_by,o])++(if m < 0 then [] else [w_limit,Lib.itoa m]))))):=rfl
 rw [e] at hlen ⊢
 clear e
 by_cases q1:l=[] <;> by_cases q2:o=[] <;> by_cases q3:m < 0
 all_goals simp only [q1,q2,q3,if_true,if_false,List.append_nil] at hlen ⊢
 ·subst q1 q2;exact yhX k hw n hn [] rfl a x hr [] rfl m q3 cv vv fv ea wa hi ws W hS hlen
 ·subst q1 q2;exact yhY k hw n hn [] rfl a x hr [] rfl m ⟨by omega,hm⟩ cv vv fv ea wa hi ws W hS hlen
 ·subst q1;exact yhZ k hw n hn [] rfl a x hr o q2 m q3 cv vv fv ea wa hi ws W hS hlen
 ·subst q1;exact yh0 k hw n hn [] rfl a x hr o q2 m ⟨by omega,hm⟩ cv vv fv ea wa hi ws W hS hlen
 ·subst q2;exact yhT k hw n hn l q1 hl h5 a x hr [] rfl m q3 cv vv fv ea wa hi ws W hS hlen
 ·subst q2;exact yhU k hw n hn l q1 hl h5 a x hr [] rfl m ⟨by omega,hm⟩ cv vv fv ea wa hi ws W hS hlen
 ·exact yhV k hw n hn l q1 hl h5 a x hr o q2 m q3 cv vv fv ea wa hi ws W hS hlen
 ·exact yhW k hw n hn l q1 hl h5 a x hr o q2 m ⟨by omega,hm⟩ cv vv fv ea wa hi ws W hS hlen
theorem yqJ {B b:Nat} {Tb:World→Prop} {w0:World} (k:ItoaOk B Tb) (hw:w0.heap.size≤B) (n:List UInt8) (hn:n≠[]) (l:List (List UInt8)) (hl:∀ x ∈ l,x≠[]) (h5:l.length≤5) (a:Bool) (x:Ex) (hr:RightW a x) (o:List UInt8) (m:Int) (hm:m≤999999999) (cv vv fv ea wa:Value) (hi:CmIn 0 w0 { cm0 with kind:=13,name:=n,fields:=l,all:=a,wh:=x,order:=o,limit:=m } cv vv fv ea wa) (ws:List (List UInt8)) (W:World) (hS:PSt B b Tb w0 ws W) (hlen:(yaj (ws++yaZ { cm0 with kind:=13,name:=n,fields:=l,all:=a,wh:=x,order:=o,limit:=m })).length≤1000000) :
  Calls Tryz.prog 46 #[.pointer (some ⟨b,0,none⟩),.agg (cmL { cm0 with kind:=13,name:=n,fields:=l,all:=a,wh:=x,order:=o,limit:=m } cv vv fv ea wa).toArray] W (ya0 B b Tb w0 (ws++yaZ { cm0 with kind:=13,name:=n,fields:=l,all:=a,wh:=x,order:=o,limit:=m }) W):=by
 have b1:=(Below.refl W.heap.size W).alloc (Nat.le_refl _) (.cells (cmL { cm0 with kind:=13,name:=n,fields:=l,all:=a,wh:=x,order:=o,limit:=m } cv vv fv ea wa).toArray 31)
 have HZ:=yaa (yh1 k hw n hn l hl h5 a x hr o m hm cv vv fv ea wa hi ws _ (hS.below k b1) hlen)
 have B0:=yaa b1
 have kb:=heap_alloc_new W (.cells (cmL { cm0 with kind:=13,name:=n,fields:=l,all:=a,wh:=x,order:=o,limit:=m } cv vv fv ea wa).toArray 31)
 generalize hws:ws++yaZ { cm0 with kind:=13,name:=n,fields:=l,all:=a,wh:=x,order:=o,limit:=m }=R at HZ ⊢
 clear hlen hS hi hw k hn hl h5 hr hm b1 hws
 unfold cmL
 simp only [cm0]
 go_enter Tryz.func46,Tryz.ntmps46
 go_wp2_with (first|(refine yag 31 _ rfl rfl _ (cmL { cm0 with kind:=13,name:=n,fields:=l,all:=a,wh:=x,order:=o,limit:=m } cv vv fv ea wa) 31 _ rfl (by exact kb) Tryz.underlying31 rfl Tryz.size31 ?_)|(go_at_call 102;refine HZ.out.mono ?_;rintro e w3 ⟨rfl,s3,o3⟩))
 try simp only [Exit.inBlock]
 go_end0
 exact ⟨rfl,s3,fun q ob hq hne hty=>o3 q ob (yak (b:=b) B0.out q ob hq hne hty) hne hty⟩
theorem yon {B b:Nat} {Tb:World→Prop} {w0:World} (k:ItoaOk B Tb) (hw:w0.heap.size≤B) {c:Cm} (hc:RightC c) (cv vv fv ea wa:Value) (hi:CmIn 0 w0 c cv vv fv ea wa) (W:World) (hS:PSt B b Tb w0 [] W) :
  Calls Tryz.prog 46 #[.pointer (some ⟨b,0,none⟩),.agg (cmL c cv vv fv ea wa).toArray] W (ya0 B b Tb w0 (yaZ c) W):=by
 have hlen:(yaj ([]++yaZ c)).length≤1000000:=ymz hc
 show Calls Tryz.prog 46 _ W (ya0 B b Tb w0 ([]++yaZ c) W)
 have ty:∀ t:Int,1≤t∧t≤3→atL yaB t≠[]:=by
  intro t ht
  have:t=1∨t=2∨t=3:=by omega
  rcases this with rfl|rfl|rfl <;> decide
 cases hc with
 | create n hn l hl h5 h=>exact ysy k hw n (yba hn) l hl h5 (fun x hx=>⟨yba (h x hx).1,ty _ (h x hx).2⟩) cv vv fv ea wa hi [] W hS hlen
 | drop n hn=>exact ysz k n (yba hn) cv vv fv ea wa [] W hS hlen
 | add n c hn hc t ht v hv=>exact ysA k n c (yba hn) (yba hc) t (ty t ht) v hv cv vv fv ea wa [] W hS hlen
 | take n c hn hc=>exact ysB k n c (yba hn) (yba hc) cv vv fv ea wa [] W hS hlen
 | column n c o hn hc ho=>exact ysC k n c o (yba hn) (yba hc) (yba ho) cv vv fv ea wa [] W hS hlen
 | retype n c hn hc t ht=>exact ysD k n c (yba hn) (yba hc) t (ty t ht) cv vv fv ea wa [] W hS hlen
 | table n o hn ho=>exact ysE k n o (yba hn) (yba ho) cv vv fv ea wa [] W hS hlen
 | index n c o hn hc ho=>exact ysF k n c o (yba hn) (yba hc) (yba ho) cv vv fv ea wa [] W hS hlen
 | unindex n hn=>exact ysG k n (yba hn) cv vv fv ea wa [] W hS hlen
 | insert n hn l hl h5 h=>exact yqG k hw n (yba hn) l hl h5 h cv vv fv ea wa hi [] W hS hlen
 | delete n hn a x hr=>exact yqH k hw n (yba hn) a x hr cv vv fv ea wa hi [] W hS hlen
 | update n c hn hc y hy hs a x hr=>exact yqI k hw n c (yba hn) (yba hc) y hy a x hr cv vv fv ea wa hi [] W hS hlen
 | select n hn l h5 hl a x hr o ho m hm=>exact yqJ k hw n (yba hn) l (fun x hx=>yba (hl x hx)) h5 a x hr o m hm.2 cv vv fv ea wa hi [] W hS hlen
 | begin_=>exact yqK k cv vv fv ea wa [] W hS hlen
 | commit=>exact yqL k cv vv fv ea wa [] W hS hlen
 | rollback=>exact yqM k cv vv fv ea wa [] W hS hlen
theorem Tryz.cells5:Tryz.prog.cellsOf 5=1:=by kernel_rfl
theorem yoP (B b:Nat) (l:List UInt8) (lt:List UInt8) (w:World) (h:IsPr B b (Lib.byteCells l) lt w) (h0:l≠[]) :
  Calls Tryz.prog 45 #[.pointer (some ⟨b,0,none⟩)] w fun e w'=>e=.returned (.string ⟨l.toArray⟩)∧Below B w w':=by
 obtain ⟨p,hB,v,hbk,hown,hne⟩:∃ p,PrAt B b p (Lib.byteCells l) lt w:=by
  rcases h with h|h
  ·exact ⟨_,h⟩
  ·exact ⟨_,h⟩
 have hl0:l.length≠0:=by simpa using h0
 rw [Lib.byteCells_length] at hown
 obtain ⟨g,cap,cur,rfl,hbg,hg,hnc,hcm,hcs,htake⟩:∃ g cap cur,v=.slice (some ⟨g,0,none⟩) l.length cap∧B≤g∧w.heap[g]?=some (.cells cur 5 (0,0))∧l.length≤cap∧cap≤maxLen∧cur.size=cap*1∧cur.toList.take (l.length*1)=Lib.byteCells l:=by
  rcases hown.2 with ⟨_,hz⟩|⟨g,cap,cur,hv,r⟩
  ·exact absurd hz hl0
  ·exact ⟨g,cap,cur,hv,r⟩
 have c1:w.drew.cell? ⟨b,1,none⟩=some (.slice (some ⟨g,0,none⟩) l.length cap):=by
  have:w.drew.heap[b]?=some (.cells #[p,.slice (some ⟨g,0,none⟩) l.length cap,.string ⟨lt.toArray⟩] 82 (0,0)):=hbk
  rw [Lib.cell_of_heap this];rfl
 have hSD:(Builtin.unsafeSliceData_ #[69] 116 #[.slice (some ⟨g,0,none⟩) l.length cap]).run Tryz.prog w.drew=.ok (.pointer (some ⟨g,0,none⟩)) w.drew :=
  Lib.run_unsafeSliceData_row _ _ _ _ _ _ (by omega)
 have hUS:(Builtin.unsafeString_ #[116,3] 9 #[.pointer (some ⟨g,0,none⟩),.int .i64 l.length]).run Tryz.prog w.drew=.ok (.string ⟨l.toArray⟩) (w.drew.freeze ⟨g,0,none⟩ l.length):=by
  refine Lib.run_unsafeString_row w.drew 116 3 9 5 Tryz.underlying116 Tryz.cells5 g cur.size (by have hg':w.drew.heap[g]?=some (.cells cur 5 (0,0)):=hg;simp [World.shape?,hg']) l h0 (by omega) (by unfold maxLen at hcm;omega) ?_
  intro j x hx
  have:=hown.cells (g:=g) rfl j (.int .u8 x.toNat) (by simp [Lib.byteCells,hx])
  exact this
 have mixed:=Tryz.lays169.mixed
 go_enter Tryz.func45,Tryz.ntmps45
 go_wp2
 go_region_o
 all_goals (go_wp2;go_ret;exact ⟨rfl,Lib.below_freeze (Below.drew (Below.refl B w)) (p:=⟨g,0,none⟩) hbg _⟩)
def ybh (c:Cm):List UInt8:=if ybH (yaN c) (ybF c)=0 then ybY c else []
theorem ymT {c:Cm} (h:RightC c):yaZ c≠[]:=by
 cases h <;> exact List.cons_ne_nil _ _
theorem yoM {c:Cm} (h:RightC c):ybY c≠[]:=by
 unfold ybY
 have h1:yaZ c≠[]:=ymT h
 have h2:=yhc h
 cases e:yaZ c with
 | nil=>exact absurd e h1
 | cons w ws =>
  have hw:okW w:=h2 w (by rw [e];simp)
  have:w≠[]:=by
   rintro rfl
   have:=hw ([],((ya2 []).1:Nat)) (by simp [yec])
   exact (of_decide_eq_true this).1 rfl
  rw [yaj]
  simp [this]
theorem ylL {EP:Prop} {B:Nat} (hB:6≤B):ItoaOk B (fun w=>LaidIf EP w∧B≤w.heap.size) where
 keep:=fun h hb=>⟨h.1.keep hb.size fun k hk=>hb.block k (by omega),Nat.le_trans h.2 hb.size⟩
 itoa:=fun n W h h1 h2=>ynZ n W (by omega) (by omega) h.1
theorem yj2 {w:World} (c:Cm) (cv vv fv ea wa:Value) (E:Int) (hE:E≠0)
  (hchk:∀ W,Below w.heap.size w W→Calls Tryz.prog 12 #[.agg (cmL c cv vv fv ea wa).toArray] W fun e w'=>e=.returned (.int .i64 E)∧Below W.heap.size W w') :
  Calls Tryz.prog 17 #[.agg (cmL c cv vv fv ea wa).toArray] w fun e w'=>e=.returned (.tuple #[.string ⟨#[]⟩,.int .i64 E])∧Below w.heap.size w w':=by
 have b0:=(Below.refl w.heap.size w).alloc (Nat.le_refl _) (.cells (cmL c cv vv fv ea wa).toArray 31)
 have k0:(w.alloc (.cells (cmL c cv vv fv ea wa).toArray 31)).heap[w.heap.size]?=some (.cells (cmL c cv vv fv ea wa).toArray 31):=heap_alloc_new _ _
 have hl:(cmL c cv vv fv ea wa).length=26:=rfl
 generalize cmL c cv vv fv ea wa=cs at hchk b0 k0 hl ⊢
 have hsz:(Tryz.prog.info? 31).map (·.size)=some cs.length:=by rw [hl];exact Tryz.size31
 go_enter Tryz.func17,Tryz.ntmps17
 go_wp2_with (refine yag 31 _ rfl rfl _ cs 31 _ rfl (by exact k0) Tryz.underlying31 rfl hsz ?_)
 refine (hchk _ b0).mono ?_
 rintro e w1 ⟨rfl,b1⟩
 go_wp2
 go_ret2
 exact ⟨rfl,b0.trans (b1.mono (by simp))⟩
theorem yj1 {w:World} {Tb:World→Prop} (k:ItoaOk w.heap.size Tb) (ht:Tb w) {c:Cm} (hc:RightC c) (cv vv fv ea wa:Value) (hi:CmIn 0 w c cv vv fv ea wa)
  (hchk:∀ W,Below w.heap.size w W→Calls Tryz.prog 12 #[.agg (cmL c cv vv fv ea wa).toArray] W fun e w'=>e=.returned (.int .i64 0)∧Below W.heap.size W w') :
  Calls Tryz.prog 17 #[.agg (cmL c cv vv fv ea wa).toArray] w fun e w'=>e=.returned (.tuple #[.string ⟨(ybY c).toArray⟩,.int .i64 0])∧Below w.heap.size w w':=by
 have b0:=(Below.refl w.heap.size w).alloc (Nat.le_refl _) (.cells (cmL c cv vv fv ea wa).toArray 31)
 have k0:(w.alloc (.cells (cmL c cv vv fv ea wa).toArray 31)).heap[w.heap.size]?=some (.cells (cmL c cv vv fv ea wa).toArray 31):=heap_alloc_new _ _
 have hl:(cmL c cv vv fv ea wa).length=26:=rfl
 have HP:=yaa (fun b W (hS:PSt w.heap.size b Tb w [] W)=>yon k (Nat.le_refl _) hc cv vv fv ea wa hi W hS)
 have hne:=yaa (yoM hc)
 have hsh:ybY c=yaj (yaZ c):=rfl
 have HS:=yaa hsh
 have K:=yaa k
 clear hi hc k hsh
 generalize cmL c cv vv fv ea wa=cs at hchk b0 k0 hl HP ⊢
 generalize ybY c=S at hne HS ⊢
 generalize yaZ c=ws at HS HP
 have hsz:(Tryz.prog.info? 31).map (·.size)=some cs.length:=by rw [hl];exact Tryz.size31
 go_enter Tryz.func17,Tryz.ntmps17
 go_wp2_with (refine yag 31 _ rfl rfl _ cs 31 _ rfl (by exact k0) Tryz.underlying31 rfl hsz ?_)
 refine (hchk _ b0).mono ?_
 rintro e w1 ⟨rfl,b1⟩
 have q1:Below w.heap.size w w1:=b0.trans (b1.mono (by simp))
 have k1:=(b1.block w.heap.size (by simp)).trans k0
 have hlt:w.heap.size < w1.heap.size:=(ltS k1)
 have q2:=q1.alloc q1.size (.cells #[.pointer none,.slice none 0 0,.string ⟨#[]⟩] 82)
 have k2:(w1.alloc (.cells #[.pointer none,.slice none 0 0,.string ⟨#[]⟩] 82)).heap[w.heap.size]?=some (.cells cs.toArray 31):=(Below.heap_alloc _ _ _ hlt).trans k1
 have hpst:PSt w.heap.size w1.heap.size Tb w [] (w1.alloc (.cells #[.pointer none,.slice none 0 0,.string ⟨#[]⟩] 82)) :=
  ⟨⟨Or.inl ⟨Nat.le_of_lt hlt,_,heap_alloc_new _ _,World.ownsRow_nil _ _ _ _,by simp [Value.ownBlock]⟩,by simp⟩,q2,K.out.keep ht q2,q2.size⟩
 have HZ:=yaa (HP.out w1.heap.size _ hpst)
 have KO:=yaa k2
 clear hpst HP hchk k0 k1 b0 b1 hl
 go_wp2_with (first|(refine yag 31 _ rfl rfl _ cs 31 _ rfl (by exact KO.out) Tryz.underlying31 rfl hsz ?_)|(go_at_call 46;refine HZ.out.mono ?_;rintro e w3 ⟨rfl,s3,o3⟩))
 have HQ:=yaa (yoP w.heap.size w1.heap.size S _ w3 (by rw [HS.out];exact s3.pr.is) hne.out)
 go_wp2_with (go_at_call 45;refine HQ.out.mono ?_;rintro e w4 ⟨rfl,b4⟩)
 go_ret2
 exact ⟨rfl,s3.bel.trans b4⟩
theorem yiN {w:World} (c:Cm) (cv vv fv ea wa:Value) (hi:CmIn 0 w c cv vv fv ea wa) (hf:CmFit c) {EP:Prop} (hl:LaidIf EP w) :
  Calls Tryz.prog 17 #[.agg (cmL c cv vv fv ea wa).toArray] w fun e w'=>e=.returned (.tuple #[.string ⟨(ybh c).toArray⟩,.int .i64 (ybH (yaN c) (ybF c))])∧Below w.heap.size w w':=by
 have hchk:∀ W,Below w.heap.size w W→Calls Tryz.prog 12 #[.agg (cmL c cv vv fv ea wa).toArray] W fun e w'=>e=.returned (.int .i64 (ybH (yaN c) (ybF c)))∧Below W.heap.size W w' :=
  fun W h=>ykv c cv vv fv ea wa (hi.keep h.size fun b _ hb=>h.block b hb) hf (hl.below h)
 by_cases h:ybH (yaN c) (ybF c)=0
 ·have h1:yaN c=false∧ybF c=true:=by
   unfold ybH at h
   cases hm:yaN c <;> cases hr:ybF c <;> simp [hm,hr] at h <;> simp
  have hs:ybh c=ybY c:=if_pos h
  rw [hs,h]
  rw [h] at hchk
  exact yj1 (ylL hl.sz) ⟨hl,Nat.le_refl _⟩ (yiH h1.2 h1.1) cv vv fv ea wa hi hchk
 ·have hs:ybh c=[]:=if_neg h
  rw [hs]
  exact yj2 c cv vv fv ea wa _ h hchk
theorem yqY {w:World} {base rb:Nat} {v:Value} {T:List Tk} {en:Int} {s:Sx} {cs:List Value} (h:Rd w base rb v T en s cs):(txS T s).length≤22:=by
 unfold txS
 split
 ·simp
 ·cases e:T[s.1]? with
  | none=>simp [tx,e]
  | some x=>have:=(h.toks x (List.mem_of_getElem? e)).short;simpa [tx,e] using this
theorem ycq {T:List Tk} {i:Nat} {F:Bool} (h:txS T (i,F)≠[]):F=false∧txS T (i,F)=tx T i∧i+1≤T.length:=by
 cases F with
 | true=>exact absurd (by simp [txS]) h
 | false =>
  have e:txS T (i,false)=tx T i:=by simp [txS]
  rw [e] at h
  exact ⟨rfl,e,ymJ h⟩
theorem ymg {w:World} {base rb:Nat} {v:Value} {T:List Tk} {en:Int} {s:Sx} {cs:List Value} (h:Rd w base rb v T en s cs) :
  Calls Tryz.prog 63 #[.pointer (some ⟨rb,0,none⟩)] w fun e w'=>e=.returned (.string ⟨(ydm T s).1.toArray⟩)∧Rd w' base rb v T en (ydm T s).2 cs∧w.grownBy w' (some rb):=by
 obtain ⟨i,F⟩:=s
 have ht:=ya6 h
 have hl:=yqY h
 have hn:=fun W=>ydF ⟨(txS T (i,F)).toArray⟩ W (by rw [yam];omega)
 have e0:(⟨(txS T (i,F)).toArray⟩:ByteArray).data.toList=txS T (i,F):=by simp
 rw [e0] at hn
 unfold ydm
 have H:=yaa h
 by_cases hN:yan (txS T (i,F))=true
 ·rw [if_pos hN]
  rw [hN] at hn
  obtain ⟨rfl,-,hm⟩:=ycq (T:=T) (i:=i) (F:=F) (by intro e;rw [e,yoi] at hN;cases hN)
  have hle:(i:Int)≤2000:=by have:=h.le;have:=h.few;simp only at *;omega
  have HM:=yaa hm
  generalize txS T (i,false)=t at *
  clear h hN hl hm e0
  go_enter Tryz.func63,Tryz.ntmps63
  go_wp2_with (first|(go_at_call 115;refine ht.mono ?_;rintro e w1 ⟨rfl,b1⟩;have R1:=yaa (H.out.below b1))|(go_at_call 34;refine (hn _).mono ?_;rintro e w2 ⟨rfl,b2⟩;have R2:=yaa (R1.out.below b2);obtain ⟨⟨c0,c1,c2,c3⟩,f1,f3⟩:=rd4 R2.out.blk))
  go_ret
  have R3:=R2.out.step (i+1) HM.out
  have e2:(((i+1:Nat):Nat):Int)=(i:Int)+1:=by omega
  rw [e2] at R3
  exact ⟨rfl,R3,yab (yab (yae b1 _) (yae b2 _)) (yaE _ rb 1 _)⟩
 ·rw [if_neg hN]
  have hN':yan (txS T (i,F))=false:=by simpa using hN
  rw [hN'] at hn
  generalize txS T (i,F)=t at *
  clear h hN hN' hl e0
  go_enter Tryz.func63,Tryz.ntmps63
  go_wp2_with (first|(go_at_call 115;refine ht.mono ?_;rintro e w1 ⟨rfl,b1⟩;have R1:=yaa (H.out.below b1))|(go_at_call 34;refine (hn _).mono ?_;rintro e w2 ⟨rfl,b2⟩;have R2:=yaa (R1.out.below b2);obtain ⟨⟨c0,c1,c2,c3⟩,f1,f3⟩:=rd4 R2.out.blk))
  go_ret
  exact ⟨rfl,R2.out.fail,yab (yab (yae b1 _) (yae b2 _)) (yaE _ rb 3 _)⟩
theorem ykB (l:List UInt8) (c:UInt8):yi1 (l++[c])=10*yi1 l+(c.toNat - 48):=by
 unfold yi1;rw [List.foldl_append];rfl
theorem yf2 {w:World} {base rb:Nat} {v:Value} {T:List Tk} {en:Int} {s:Sx} {cs:List Value} (h:Rd w base rb v T en s cs) :
  Calls Tryz.prog 119 #[.pointer (some ⟨rb,0,none⟩)] w fun e w'=>e=.returned (.int .i64 ((ya8 T s).1:Nat))∧Rd w' base rb v T en (ya8 T s).2 cs∧w.grownBy w' (some rb):=by
 obtain ⟨i,F⟩:=s
 have ht:=ya6 h
 have H:=yaa h
 unfold ya8
 by_cases hD:ydw isD (txS T (i,F))=true
 ·rw [if_pos hD]
  obtain ⟨rfl,ex,hm⟩:=ycq (T:=T) (i:=i) (F:=F) (by intro e;rw [e] at hD;cases hD)
  rw [ex] at hD ht ⊢
  have hle:(i:Int)≤2000:=by have:=h.le;have:=h.few;simp only at *;omega
  obtain ⟨x,hx,e1,e2⟩:=yqZ (T:=T) (i:=i) (by intro e;rw [e] at hD;cases hD)
  have hk:x.k=2:=(h.ist x (List.mem_of_getElem? hx)).num.2 (by rw [← e1];exact hD)
  obtain ⟨n1,n2,n3⟩:=(h.toks x (List.mem_of_getElem? hx)).num hk
  rw [← e1] at n1 n2 n3
  generalize hq:tx T i=t at *
  have hd0:isD (t[0]'(List.length_pos_iff.2 n1))=true:=n3 _ (List.getElem_mem _)
  obtain ⟨S,hS⟩:∃ S:ByteArray,S=⟨t.toArray⟩:=⟨_,rfl⟩
  have hz:S.size=t.length:=by rw [hS,yam]
  have hat:∀ j (hj:j < S.size) (hj':j < t.length),S[j]=t[j]:=by intro j hj hj';subst hS;rfl
  rw [← hS] at ht
  have hpos:0 < S.size:=by rw [hz];exact List.length_pos_iff.2 n1
  have hemp:S.toList.isEmpty=false:=by rw [Lib.toList_data,hS];cases t with|nil=>exact absurd rfl n1|cons _ _=>rfl
  have hdig:=fun W=>ybN (c:=S[0]) (b:=true) (by rw [hat 0 hpos (by omega)];exact hd0) W
  have HM:=yaa hm
  have HT:=yaa n3
  have HAT:=yaa hat
  have h9:S.size≤9:=by omega
  have HZ:=yaa hz
  clear h hD hm hx e1 e2 hk n1 n3 hat hd0 ex hS hz
  go_enter Tryz.func119,Tryz.ntmps119
  go_wp2_with (first|(go_at_call 115;refine ht.mono ?_;rintro e w1 ⟨rfl,b1⟩;have R1:=yaa (H.out.below b1))|(go_at_call 114;refine (hdig _).mono ?_;rintro e w' ⟨rfl,hw'⟩;obtain rfl:=hw'.symm;clear hw'))
  go_loopw [4,5] (fun n k wl=>∃ (a:Nat) (m:Nat),a≤S.size∧k=.int .i64 a∧n=.int .i64 m∧Hid (m=yi1 (t.take a))∧wl=w1) (fun _ k _=>S.size - (intOf k).toNat)
  case atStart=>exact ⟨0,0,Nat.zero_le _,rfl,rfl,by show 0=yi1 [];rfl,rfl⟩
  case round =>
   obtain ⟨a,m,ha,rfl,rfl,HA,rfl⟩:=hrel
   have hml:m < 10 ^ 9:=by
    rw [HA.out]
    refine Nat.lt_of_lt_of_le (ykA _ fun c hc=>HT.out c (List.mem_of_mem_take hc)) (Nat.pow_le_pow_right (by decide) ?_)
    rw [List.length_take];omega
   have hml':(m:Int)≤999999999:=by omega
   by_cases hlt:a < S.size
   ·have hc:=HT.out (t[a]'(by have:=HZ.out;omega)) (List.getElem_mem _)
    rw [← HAT.out a hlt (by have:=HZ.out;omega)] at hc
    simp only [isD,Bool.and_eq_true,decide_eq_true_eq] at hc
    obtain ⟨hc1,hc2⟩:=hc
    have HE:Hid (yi1 (t.take (a+1))=10*m+(S[a].toNat - 48)):=by
     show yi1 (t.take (a+1))=_
     rw [List.take_succ_eq_append_getElem (by have:=HZ.out;omega),ykB,← HA.out,← HAT.out a hlt (by have:=HZ.out;omega)]
    go_wp2
    go_roundw
    case rel=>exact ⟨a+1,10*m+(S[a].toNat - 48),by omega,by go_num,by go_num,HE.out.symm,trivial⟩
    case measure=>simp [intOf];omega
   ·have e3:yi1 t=m:=by rw [HA.out,List.take_of_length_le (by have:=HZ.out;omega)]
    have E3:=yaa e3
    obtain ⟨⟨c0,c1,c2,c3⟩,f1,f3⟩:=rd4 R1.out.blk
    clear e3 HA HT HAT
    go_wp2
    go_ret
    have R3:=R1.out.step (i+1) HM.out
    have e2:(((i+1:Nat):Nat):Int)=(i:Int)+1:=by omega
    rw [e2] at R3
    exact ⟨by rw [E3.out];rfl,R3,yab (yae b1 _) (yaE _ rb 1 _)⟩
 ·rw [if_neg hD]
  cases hq:txS T (i,F) with
  | nil =>
   rw [hq] at ht
   clear h hD
   go_enter Tryz.func119,Tryz.ntmps119
   go_wp2_with (first|(go_at_call 115;refine ht.mono ?_;rintro e w1 ⟨rfl,b1⟩;have R1:=yaa (H.out.below b1);obtain ⟨⟨c0,c1,c2,c3⟩,f1,f3⟩:=rd4 R1.out.blk))
   go_ret
   exact ⟨rfl,R1.out.fail,yab (yae b1 _) (yaE _ rb 3 _)⟩
  | cons c r =>
   rw [hq] at ht hD
   have hc:isD c=false:=by simpa [ydw] using hD
   have hdig:=fun W=>ybN hc W
   have hpos:0 < (⟨(c::r).toArray⟩:ByteArray).size:=by rw [yam];simp
   have h0:(⟨(c::r).toArray⟩:ByteArray)[0]=c:=rfl
   have hemp:(⟨(c::r).toArray⟩:ByteArray).toList.isEmpty=false:=by rw [Lib.toList_data];rfl
   rw [← h0] at hdig
   generalize (⟨(c::r).toArray⟩:ByteArray)=S at *
   clear h hD hc h0 hq
   go_enter Tryz.func119,Tryz.ntmps119
   go_wp2_with (first|(go_at_call 115;refine ht.mono ?_;rintro e w1 ⟨rfl,b1⟩;have R1:=yaa (H.out.below b1);obtain ⟨⟨c0,c1,c2,c3⟩,f1,f3⟩:=rd4 R1.out.blk)|(go_at_call 114;refine (hdig _).mono ?_;rintro e w' ⟨rfl,hw'⟩;obtain rfl:=hw'.symm;clear hw'))
   go_ret
   exact ⟨rfl,R1.out.fail,yab (yae b1 _) (yaE _ rb 3 _)⟩
theorem yoV:(#[.int .i64 0,.int .i64 0,.string ⟨#[]⟩]:Array Value)=([.int .i64 0,.int .i64 0,.string ⟨#[]⟩]:List Value).toArray:=rfl
theorem Tryz.alloc24 (w:World):(Instr.alloc 24 true (.tuple #[])).run Tryz.prog w=.ok (.pointer (some ⟨w.heap.size,0,none⟩)) (w.alloc (.cells ([.int .i64 0,.int .i64 0,.string ⟨#[]⟩]:List Value).toArray 24)):=by
 rw [← yoV]
 simp [Instr.alloc,Tryz.zeroValue24,go_sem]
theorem yb0 {w:World} {base rb:Nat} {v:Value} {T:List Tk} {en:Int} {s:Sx} {cs:List Value} (h:Rd w base rb v T en s cs) :
  Calls Tryz.prog 117 #[.pointer (some ⟨rb,0,none⟩)] w fun e w'=>e=.returned (.bool (yez (txS T s)))∧Below w.heap.size w w':=by
 have ht:=ya6 h
 generalize txS T s=t at *
 clear h
 unfold yez
 by_cases h1:t=ycD
 ·subst h1
  go_enter Tryz.func117,Tryz.ntmps117
  go_wp2_with (go_at_call 115;refine ht.mono ?_;rintro e w1 ⟨rfl,b1⟩)
  go_ret
  exact ⟨rfl,b1⟩
 by_cases h2:t=yce
 ·subst h2
  go_enter Tryz.func117,Tryz.ntmps117
  go_wp2_with (go_at_call 115;refine ht.mono ?_;rintro e w1 ⟨rfl,b1⟩)
  go_ret
  exact ⟨rfl,b1⟩
 by_cases h3:t=w_null
 ·subst h3
  go_enter Tryz.func117,Tryz.ntmps117
  go_wp2_with (go_at_call 115;refine ht.mono ?_;rintro e w1 ⟨rfl,b1⟩)
  go_ret
  exact ⟨rfl,b1⟩
 by_cases h4:t=[45]
 ·subst h4
  go_enter Tryz.func117,Tryz.ntmps117
  go_wp2_with (go_at_call 115;refine ht.mono ?_;rintro e w1 ⟨rfl,b1⟩)
  go_ret
  exact ⟨rfl,b1⟩
 rw [decide_eq_false h1,decide_eq_false h2,decide_eq_false h3,decide_eq_false h4]
 simp only [Bool.false_or]
 have q1:(t == [116,114,117,101])=false:=by simpa using h1
 have q2:(t == [102,97,108,115,101])=false:=by simpa using h2
 have q3:(t == [110,117,108,108])=false:=by simpa using h3
 have q4:(t == [45])=false:=by simpa using h4
 clear h1 h2 h3 h4
 cases t with
 | nil =>
  go_enter Tryz.func117,Tryz.ntmps117
  go_wp2_with (go_at_call 115;refine ht.mono ?_;rintro e w1 ⟨rfl,b1⟩)
  go_ret
  exact ⟨rfl,b1⟩
 | cons c r =>
  have hpos:0 < (⟨(c::r).toArray⟩:ByteArray).size:=by rw [yam];simp
  have h0:(⟨(c::r).toArray⟩:ByteArray)[0]=c:=rfl
  have hl:(⟨(c::r).toArray⟩:ByteArray).toList=c::r:=by rw [Lib.toList_data]
  have hemp:(⟨(c::r).toArray⟩:ByteArray).toList.isEmpty=false:=by rw [hl];rfl
  have hd:=fun W=>yiD c W
  have hq:=yeU c
  rw [← h0] at hd hq
  have hh:ydw (fun c=>isD c || decide (c=39)) (c::r)=(isD c || decide (c=39)):=rfl
  rw [hh]
  rw [← hl] at q1 q2 q3 q4
  rw [← h0]
  generalize (⟨(c::r).toArray⟩:ByteArray)=S at *
  clear h0 hl hh
  cases hD:isD S[0] with
  | true =>
   rw [hD] at hd
   go_enter Tryz.func117,Tryz.ntmps117
   go_wp2_with (first|(go_at_call 115;refine ht.mono ?_;rintro e w1 ⟨rfl,b1⟩)|(go_at_call 114;refine (hd _).mono ?_;rintro e w' ⟨rfl,hw'⟩;obtain rfl:=hw'.symm;clear hw'))
   go_ret
   exact ⟨rfl,b1⟩
  | false =>
   rw [hD] at hd
   cases hC:decide (S[0]=39) with
   | true =>
    rw [hC] at hq
    go_enter Tryz.func117,Tryz.ntmps117
    go_wp2_with (first|(go_at_call 115;refine ht.mono ?_;rintro e w1 ⟨rfl,b1⟩)|(go_at_call 114;refine (hd _).mono ?_;rintro e w' ⟨rfl,hw'⟩;obtain rfl:=hw'.symm;clear hw'))
    go_ret
    exact ⟨rfl,b1⟩
   | false =>
    rw [hC] at hq
    go_enter Tryz.func117,Tryz.ntmps117
    go_wp2_with (first|(go_at_call 115;refine ht.mono ?_;rintro e w1 ⟨rfl,b1⟩)|(go_at_call 114;refine (hd _).mono ?_;rintro e w' ⟨rfl,hw'⟩;obtain rfl:=hw'.symm;clear hw'))
    go_ret
    exact ⟨rfl,b1⟩
theorem yg6 (b:Bool) (w:World):Calls Tryz.prog 118 #[.bool b] w fun e w'=>e=.returned (.agg #[.int .i64 3,.int .i64 (if b=true then 1 else 0),.string ⟨#[]⟩])∧Below w.heap.size w w':=by
 cases b with
 | true =>
  go_enter Tryz.func118,Tryz.ntmps118
  go_wp2
  exact bodyPost_ret (v:=.agg #[.int .i64 3,.int .i64 1,.string ⟨#[]⟩]) (by simp [results,Tryz.results118,go_sem]) rfl ⟨rfl,(Below.refl _ _).alloc (Nat.le_refl _) _⟩
 | false =>
  go_enter Tryz.func118,Tryz.ntmps118
  go_wp2
  exact bodyPost_ret (v:=.agg #[.int .i64 3,.int .i64 0,.string ⟨#[]⟩]) (by simp [results,Tryz.results118,go_sem]) rfl ⟨rfl,(Below.refl _ _).alloc (Nat.le_refl _) _⟩
theorem Rd.putNew {w w':World} {base rb b:Nat} {v:Value} {T:List Tk} {en:Int} {s:Sx} {cs xs:List Value} {o:Nat} (p:Hid (w'=putAll w b o xs)) (h:Rd w base rb v T en s cs) (hb:rb < b):Rd w' base rb v T en s cs:=by
 rw [p.out]
 exact ⟨(yaY b xs w o rb (by omega)).trans h.blk,h.own.kept (yb5 b xs w o) (.inr (fun e=>by have:=h.lt b e;omega)),h.lt,h.le,h.few,h.toks,h.ist⟩
theorem ybd {w w1 w':World} {rb b o:Nat} {xs:List Value} (p:Hid (w'=putAll w1 b o xs)) (g:w.grownBy w1 (some rb)) (hb:w.heap.size≤b):w.grownBy w' (some rb):=by
 rw [p.out];exact ygv g hb o xs
theorem yoC {w:World} {base rb:Nat} {v:Value} {T:List Tk} {en:Int} {i:Nat} {F:Bool} {cs:List Value} (h:Rd w base rb v T en (i,F) cs) (hV:yez (txS T (i,F))=false) :
  Calls Tryz.prog 65 #[.pointer (some ⟨rb,0,none⟩)] w fun e w'=>e=.returned (.agg ([.int .i64 0,.int .i64 0,.string ⟨#[]⟩]:List Value).toArray)∧Rd w' base rb v T en (i,true) cs∧w.grownBy w' (some rb):=by
 have H:=yaa h
 have hlt:=h.rb_lt
 have hle:(i:Int)≤2000:=by have:=h.le;have:=h.few;simp only at *;omega
 have hx:∀ W,Rd W base rb v T en (i,F) cs→Calls Tryz.prog 115 #[.pointer (some ⟨rb,0,none⟩)] W fun e w'=>e=.returned (.string ⟨(txS T (i,F)).toArray⟩)∧Below W.heap.size W w':=fun W hh=>ya6 hh
 have hv:∀ W,Rd W base rb v T en (i,F) cs→Calls Tryz.prog 117 #[.pointer (some ⟨rb,0,none⟩)] W fun e w'=>e=.returned (.bool false)∧Below W.heap.size W w':=fun W hh=>by have:=yb0 hh;rw [hV] at this;exact this
 generalize txS T (i,F)=t at *
 clear hV
 clear h
 go_enter Tryz.func65,Tryz.ntmps65
 go_wp2_with (first|(refine yao 2 24 [.int .i64 0,.int .i64 0,.string ⟨#[]⟩] rfl rfl rfl Tryz.alloc24 ?_;intro W0 vb hvb k0 b0;have R0:=yaa (H.out.below b0))|(go_at_call 115;refine (hx _ R0.out).mono ?_;rintro e w1 ⟨rfl,b1⟩;have R1:=yaa (R0.out.below b1);have k1:=(b1.block vb (ltS k0)).trans k0)|(go_at_call 117;refine (hv _ R1.out).mono ?_;rintro e w2 ⟨rfl,b2⟩;have R2:=yaa (R1.out.below b2);have k2:=(b2.block vb (ltS k1)).trans k1;obtain ⟨⟨c0,c1,c2,c3⟩,f1,f3⟩:=rd4 R2.out.blk;have hne:vb≠rb:=(by have:=hvb.out;omega))|(refine yai 24 _ _ rfl rfl vb [.int .i64 0,.int .i64 0,.string ⟨#[]⟩] [.int .i64 0,.int .i64 0,.string ⟨#[]⟩] 24 rfl rfl (by first|exact k2|exact (heap_setCell_other _ _ vb _ hne).trans k2) rfl Tryz.size24 (by intro z hz;simp only [List.mem_cons,List.not_mem_nil,or_false] at hz;rcases hz with rfl|rfl|rfl <;> rfl) ?_;intro w6 k6 p6))
 exact bodyPost_ret (yaJ Tryz.results65 _ _ vb _ 24 _ rfl k6 Tryz.underlying24 rfl Tryz.size24) rfl ⟨rfl,Rd.putNew p6 R2.out.fail (by have:=hvb.out;omega),ybd p6 (yab (yae b0 _) (yab (yae b1 _) (yab (yae b2 _) (yaE _ rb 3 _)))) (by have:=hvb.out;omega)⟩
theorem ymn {w:World} {base rb:Nat} {v:Value} {T:List Tk} {en:Int} {i:Nat} {F:Bool} {cs:List Value} (h:Rd w base rb v T en (i,F) cs) (ht:txS T (i,F)=ycD) (hm:i+1≤T.length) :
  Calls Tryz.prog 65 #[.pointer (some ⟨rb,0,none⟩)] w fun e w'=>e=.returned (.agg ([.int .i64 3,.int .i64 1,.string ⟨#[]⟩]:List Value).toArray)∧Rd w' base rb v T en (i+1,F) cs∧w.grownBy w' (some rb):=by
 have H:=yaa h
 have hlt:=h.rb_lt
 have hle:(i:Int)≤2000:=by have:=h.le;have:=h.few;simp only at *;omega
 have hx:∀ W,Rd W base rb v T en (i,F) cs→Calls Tryz.prog 115 #[.pointer (some ⟨rb,0,none⟩)] W fun e w'=>e=.returned (.string ⟨#[116,114,117,101]⟩)∧Below W.heap.size W w':=fun W hh=>by have:=ya6 hh;rw [ht] at this;exact this
 have hV:yez (txS T (i,F))=true:=by rw [ht];decide
 have hv:∀ W,Rd W base rb v T en (i,F) cs→Calls Tryz.prog 117 #[.pointer (some ⟨rb,0,none⟩)] W fun e w'=>e=.returned (.bool true)∧Below W.heap.size W w':=fun W hh=>by have:=yb0 hh;rw [hV] at this;exact this
 clear hV ht
 clear h
 go_enter Tryz.func65,Tryz.ntmps65
 go_wp2_with (first|(refine yao 2 24 [.int .i64 0,.int .i64 0,.string ⟨#[]⟩] rfl rfl rfl Tryz.alloc24 ?_;intro W0 vb hvb k0 b0;have R0:=yaa (H.out.below b0))|(go_at_call 115;refine (hx _ R0.out).mono ?_;rintro e w1 ⟨rfl,b1⟩;have R1:=yaa (R0.out.below b1);have k1:=(b1.block vb (ltS k0)).trans k0)|(go_at_call 117;refine (hv _ R1.out).mono ?_;rintro e w2 ⟨rfl,b2⟩;have R2:=yaa (R1.out.below b2);have k2:=(b2.block vb (ltS k1)).trans k1;obtain ⟨⟨c0,c1,c2,c3⟩,f1,f3⟩:=rd4 R2.out.blk;have hne:vb≠rb:=(by have:=hvb.out;omega))|(go_at_call 118;refine (yg6 _ _).mono ?_;rintro e w5 ⟨rfl,b5⟩;have k5:=(b5.block vb (by have:=(ltS k2);simpa [World.setCell] using this)).trans ((heap_setCell_other _ _ vb _ hne).trans k2))|(refine yai 24 _ _ rfl rfl vb [.int .i64 0,.int .i64 0,.string ⟨#[]⟩] [.int .i64 3,.int .i64 1,.string ⟨#[]⟩] 24 rfl rfl (by exact k5) rfl Tryz.size24 (by intro z hz;simp only [List.mem_cons,List.not_mem_nil,or_false] at hz;rcases hz with rfl|rfl|rfl <;> rfl) ?_;intro w6 k6 p6))
 exact bodyPost_ret (yaJ Tryz.results65 _ _ vb _ 24 _ rfl k6 Tryz.underlying24 rfl Tryz.size24) rfl ⟨rfl,Rd.putNew p6 (Rd.below (by have:=R2.out.step (i+1) hm;have e2:(((i+1:Nat):Nat):Int)=(i:Int)+1:=(by omega);rw [e2] at this;exact this) b5) (by have:=hvb.out;omega),ybd p6 (yab (yae b0 _) (yab (yae b1 _) (yab (yae b2 _) (yab (yaE _ rb 1 _) (yae b5 _))))) (by have:=hvb.out;omega)⟩
theorem yjQ {w:World} {base rb:Nat} {v:Value} {T:List Tk} {en:Int} {i:Nat} {F:Bool} {cs:List Value} (h:Rd w base rb v T en (i,F) cs) (ht:txS T (i,F)=yce) (hm:i+1≤T.length) :
  Calls Tryz.prog 65 #[.pointer (some ⟨rb,0,none⟩)] w fun e w'=>e=.returned (.agg ([.int .i64 3,.int .i64 0,.string ⟨#[]⟩]:List Value).toArray)∧Rd w' base rb v T en (i+1,F) cs∧w.grownBy w' (some rb):=by
 have H:=yaa h
 have hlt:=h.rb_lt
 have hle:(i:Int)≤2000:=by have:=h.le;have:=h.few;simp only at *;omega
 have hx:∀ W,Rd W base rb v T en (i,F) cs→Calls Tryz.prog 115 #[.pointer (some ⟨rb,0,none⟩)] W fun e w'=>e=.returned (.string ⟨#[102,97,108,115,101]⟩)∧Below W.heap.size W w':=fun W hh=>by have:=ya6 hh;rw [ht] at this;exact this
 have hV:yez (txS T (i,F))=true:=by rw [ht];decide
 have hv:∀ W,Rd W base rb v T en (i,F) cs→Calls Tryz.prog 117 #[.pointer (some ⟨rb,0,none⟩)] W fun e w'=>e=.returned (.bool true)∧Below W.heap.size W w':=fun W hh=>by have:=yb0 hh;rw [hV] at this;exact this
 clear hV ht
 clear h
 go_enter Tryz.func65,Tryz.ntmps65
 go_wp2_with (first|(refine yao 2 24 [.int .i64 0,.int .i64 0,.string ⟨#[]⟩] rfl rfl rfl Tryz.alloc24 ?_;intro W0 vb hvb k0 b0;have R0:=yaa (H.out.below b0))|(go_at_call 115;refine (hx _ R0.out).mono ?_;rintro e w1 ⟨rfl,b1⟩;have R1:=yaa (R0.out.below b1);have k1:=(b1.block vb (ltS k0)).trans k0)|(go_at_call 117;refine (hv _ R1.out).mono ?_;rintro e w2 ⟨rfl,b2⟩;have R2:=yaa (R1.out.below b2);have k2:=(b2.block vb (ltS k1)).trans k1;obtain ⟨⟨c0,c1,c2,c3⟩,f1,f3⟩:=rd4 R2.out.blk;have hne:vb≠rb:=(by have:=hvb.out;omega))|(go_at_call 118;refine (yg6 _ _).mono ?_;rintro e w5 ⟨rfl,b5⟩;have k5:=(b5.block vb (by have:=(ltS k2);simpa [World.setCell] using this)).trans ((heap_setCell_other _ _ vb _ hne).trans k2))|(refine yai 24 _ _ rfl rfl vb [.int .i64 0,.int .i64 0,.string ⟨#[]⟩] [.int .i64 3,.int .i64 0,.string ⟨#[]⟩] 24 rfl rfl (by exact k5) rfl Tryz.size24 (by intro z hz;simp only [List.mem_cons,List.not_mem_nil,or_false] at hz;rcases hz with rfl|rfl|rfl <;> rfl) ?_;intro w6 k6 p6))
 exact bodyPost_ret (yaJ Tryz.results65 _ _ vb _ 24 _ rfl k6 Tryz.underlying24 rfl Tryz.size24) rfl ⟨rfl,Rd.putNew p6 (Rd.below (by have:=R2.out.step (i+1) hm;have e2:(((i+1:Nat):Nat):Int)=(i:Int)+1:=(by omega);rw [e2] at this;exact this) b5) (by have:=hvb.out;omega),ybd p6 (yab (yae b0 _) (yab (yae b1 _) (yab (yae b2 _) (yab (yaE _ rb 1 _) (yae b5 _))))) (by have:=hvb.out;omega)⟩
theorem ymm {w:World} {base rb:Nat} {v:Value} {T:List Tk} {en:Int} {i:Nat} {F:Bool} {cs:List Value} (h:Rd w base rb v T en (i,F) cs) (ht:txS T (i,F)=w_null) (hm:i+1≤T.length) :
  Calls Tryz.prog 65 #[.pointer (some ⟨rb,0,none⟩)] w fun e w'=>e=.returned (.agg ([.int .i64 0,.int .i64 0,.string ⟨#[]⟩]:List Value).toArray)∧Rd w' base rb v T en (i+1,F) cs∧w.grownBy w' (some rb):=by
 have H:=yaa h
 have hlt:=h.rb_lt
 have hle:(i:Int)≤2000:=by have:=h.le;have:=h.few;simp only at *;omega
 have hx:∀ W,Rd W base rb v T en (i,F) cs→Calls Tryz.prog 115 #[.pointer (some ⟨rb,0,none⟩)] W fun e w'=>e=.returned (.string ⟨#[110,117,108,108]⟩)∧Below W.heap.size W w':=fun W hh=>by have:=ya6 hh;rw [ht] at this;exact this
 have hV:yez (txS T (i,F))=true:=by rw [ht];decide
 have hv:∀ W,Rd W base rb v T en (i,F) cs→Calls Tryz.prog 117 #[.pointer (some ⟨rb,0,none⟩)] W fun e w'=>e=.returned (.bool true)∧Below W.heap.size W w':=fun W hh=>by have:=yb0 hh;rw [hV] at this;exact this
 clear hV ht
 clear h
 go_enter Tryz.func65,Tryz.ntmps65
 go_wp2_with (first|(refine yao 2 24 [.int .i64 0,.int .i64 0,.string ⟨#[]⟩] rfl rfl rfl Tryz.alloc24 ?_;intro W0 vb hvb k0 b0;have R0:=yaa (H.out.below b0))|(go_at_call 115;refine (hx _ R0.out).mono ?_;rintro e w1 ⟨rfl,b1⟩;have R1:=yaa (R0.out.below b1);have k1:=(b1.block vb (ltS k0)).trans k0)|(go_at_call 117;refine (hv _ R1.out).mono ?_;rintro e w2 ⟨rfl,b2⟩;have R2:=yaa (R1.out.below b2);have k2:=(b2.block vb (ltS k1)).trans k1;obtain ⟨⟨c0,c1,c2,c3⟩,f1,f3⟩:=rd4 R2.out.blk;have hne:vb≠rb:=(by have:=hvb.out;omega))|(refine yai 24 _ _ rfl rfl vb [.int .i64 0,.int .i64 0,.string ⟨#[]⟩] [.int .i64 0,.int .i64 0,.string ⟨#[]⟩] 24 rfl rfl (by first|exact k2|exact (heap_setCell_other _ _ vb _ hne).trans k2) rfl Tryz.size24 (by intro z hz;simp only [List.mem_cons,List.not_mem_nil,or_false] at hz;rcases hz with rfl|rfl|rfl <;> rfl) ?_;intro w6 k6 p6))
 exact bodyPost_ret (yaJ Tryz.results65 _ _ vb _ 24 _ rfl k6 Tryz.underlying24 rfl Tryz.size24) rfl ⟨rfl,Rd.putNew p6 (by have:=R2.out.step (i+1) hm;have e2:(((i+1:Nat):Nat):Int)=(i:Int)+1:=(by omega);rw [e2] at this;exact this) (by have:=hvb.out;omega),ybd p6 (yab (yae b0 _) (yab (yae b1 _) (yab (yae b2 _) (yaE _ rb 1 _)))) (by have:=hvb.out;omega)⟩
theorem yjR {w:World} {base rb:Nat} {v:Value} {T:List Tk} {en:Int} {i:Nat} {F:Bool} {cs:List Value} (h:Rd w base rb v T en (i,F) cs) (c:UInt8) (r:List UInt8) (ht:txS T (i,F)=c::r) (hm:i+1≤T.length) (hc:c=39) (h2:1≤r.length) (h22:r.length≤21) :
  Calls Tryz.prog 65 #[.pointer (some ⟨rb,0,none⟩)] w fun e w'=>e=.returned (.agg ([.int .i64 2,.int .i64 0,.string ⟨(((c::r).drop 1).take ((c::r).length - 2)).toArray⟩]:List Value).toArray)∧Rd w' base rb v T en (i+1,F) cs∧w.grownBy w' (some rb):=by
 have H:=yaa h
 have hlt:=h.rb_lt
 have hle:(i:Int)≤2000:=by have:=h.le;have:=h.few;simp only at *;omega
 have hV:yez (txS T (i,F))=true:=by rw [ht,hc];simp [yez,ydw]
 have hv:∀ W,Rd W base rb v T en (i,F) cs→Calls Tryz.prog 117 #[.pointer (some ⟨rb,0,none⟩)] W fun e w'=>e=.returned (.bool true)∧Below W.heap.size W w':=fun W hh=>by have:=yb0 hh;rw [hV] at this;exact this
 have hx:∀ W,Rd W base rb v T en (i,F) cs→Calls Tryz.prog 115 #[.pointer (some ⟨rb,0,none⟩)] W fun e w'=>e=.returned (.string ⟨(c::r).toArray⟩)∧Below W.heap.size W w':=fun W hh=>by have:=ya6 hh;rw [ht] at this;exact this
 have q1:((c::r) == [116,114,117,101])=false:=by rw [beq_eq_false_iff_ne];intro e;cases e;revert hc;decide
 have q2:((c::r) == [102,97,108,115,101])=false:=by rw [beq_eq_false_iff_ne];intro e;cases e;revert hc;decide
 have q3:((c::r) == [110,117,108,108])=false:=by rw [beq_eq_false_iff_ne];intro e;cases e;revert hc;decide
 have q4:((c::r) == [45])=false:=by rw [beq_eq_false_iff_ne];intro e;cases e;revert hc;decide
 have hpos:0 < (⟨(c::r).toArray⟩:ByteArray).size:=by rw [yam];simp
 have h0:(⟨(c::r).toArray⟩:ByteArray)[0]=c:=rfl
 have hz:(⟨(c::r).toArray⟩:ByteArray).size=(c::r).length:=yam _
 have hl:(⟨(c::r).toArray⟩:ByteArray).toList=c::r:=by rw [Lib.toList_data]
 have hq:=yeU c
 have hin:(⟨(((c::r).drop 1).take ((c::r).length - 2)).toArray⟩:ByteArray)=(⟨(c::r).toArray⟩:ByteArray).extract 1 ((⟨(c::r).toArray⟩:ByteArray).size - 1):=by
  rw [ytB,yam,Nat.sub_sub]
 rw [hin]
 rw [decide_eq_true hc] at hq
 rw [← h0] at hq
 rw [← hl] at q1 q2 q3 q4
 have h3:(2:Int)≤((⟨(c::r).toArray⟩:ByteArray).size:Int):=by rw [hz];simp;omega
 have h4:((⟨(c::r).toArray⟩:ByteArray).size:Int)≤22:=by rw [hz];simp;omega
 generalize (⟨(c::r).toArray⟩:ByteArray)=S at *
 clear hV ht hin h0 hl hz hc
 clear h
 go_enter Tryz.func65,Tryz.ntmps65
 go_wp2_with (first|(refine yao 2 24 [.int .i64 0,.int .i64 0,.string ⟨#[]⟩] rfl rfl rfl Tryz.alloc24 ?_;intro W0 vb hvb k0 b0;have R0:=yaa (H.out.below b0))|(go_at_call 115;refine (hx _ R0.out).mono ?_;rintro e w1 ⟨rfl,b1⟩;have R1:=yaa (R0.out.below b1);have k1:=(b1.block vb (ltS k0)).trans k0)|(go_at_call 117;refine (hv _ R1.out).mono ?_;rintro e w2 ⟨rfl,b2⟩;have R2:=yaa (R1.out.below b2);have k2:=(b2.block vb (ltS k1)).trans k1;obtain ⟨⟨c0,c1,c2,c3⟩,f1,f3⟩:=rd4 R2.out.blk;have hne:vb≠rb:=(by have:=hvb.out;omega))|(refine yai 24 _ _ rfl rfl vb [.int .i64 0,.int .i64 0,.string ⟨#[]⟩] [.int .i64 2,.int .i64 0,.string (S.extract 1 (S.size - 1))] 24 rfl rfl (by first|exact k2|exact (heap_setCell_other _ _ vb _ hne).trans k2) rfl Tryz.size24 (by intro z hz;simp only [List.mem_cons,List.not_mem_nil,or_false] at hz;rcases hz with rfl|rfl|rfl <;> rfl) ?_;intro w6 k6 p6))
 exact bodyPost_ret (yaJ Tryz.results65 _ _ vb _ 24 _ rfl k6 Tryz.underlying24 rfl Tryz.size24) rfl ⟨rfl,Rd.putNew p6 (by have:=R2.out.step (i+1) hm;have e2:(((i+1:Nat):Nat):Int)=(i:Int)+1:=(by omega);rw [e2] at this;exact this) (by have:=hvb.out;omega),ybd p6 (yab (yae b0 _) (yab (yae b1 _) (yab (yae b2 _) (yaE _ rb 1 _)))) (by have:=hvb.out;omega)⟩
theorem yoD {w:World} {base rb:Nat} {v:Value} {T:List Tk} {en:Int} {i:Nat} {F:Bool} {cs:List Value} (h:Rd w base rb v T en (i,F) cs) (c:UInt8) (r:List UInt8) (ht:txS T (i,F)=c::r) (hc:isD c=true) :
  Calls Tryz.prog 65 #[.pointer (some ⟨rb,0,none⟩)] w fun e w'=>e=.returned (.agg ([.int .i64 1,.int .i64 ((ya8 T (i,F)).1:Nat),.string ⟨#[]⟩]:List Value).toArray)∧Rd w' base rb v T en (ya8 T (i,F)).2 cs∧w.grownBy w' (some rb):=by
 have H:=yaa h
 have hlt:=h.rb_lt
 have hle:(i:Int)≤2000:=by have:=h.le;have:=h.few;simp only at *;omega
 have hV:yez (txS T (i,F))=true:=by rw [ht];simp [yez,ydw,hc]
 have hv:∀ W,Rd W base rb v T en (i,F) cs→Calls Tryz.prog 117 #[.pointer (some ⟨rb,0,none⟩)] W fun e w'=>e=.returned (.bool true)∧Below W.heap.size W w':=fun W hh=>by have:=yb0 hh;rw [hV] at this;exact this
 have hc39:c≠39:=by intro e;rw [e] at hc;revert hc;decide
 have hx:∀ W,Rd W base rb v T en (i,F) cs→Calls Tryz.prog 115 #[.pointer (some ⟨rb,0,none⟩)] W fun e w'=>e=.returned (.string ⟨(c::r).toArray⟩)∧Below W.heap.size W w':=fun W hh=>by have:=ya6 hh;rw [ht] at this;exact this
 have q1:((c::r) == [116,114,117,101])=false:=by rw [beq_eq_false_iff_ne];intro e;cases e;revert hc;decide
 have q2:((c::r) == [102,97,108,115,101])=false:=by rw [beq_eq_false_iff_ne];intro e;cases e;revert hc;decide
 have q3:((c::r) == [110,117,108,108])=false:=by rw [beq_eq_false_iff_ne];intro e;cases e;revert hc;decide
 have q4:((c::r) == [45])=false:=by rw [beq_eq_false_iff_ne];intro e;cases e;revert hc;decide
 have hpos:0 < (⟨(c::r).toArray⟩:ByteArray).size:=by rw [yam];simp
 have h0:(⟨(c::r).toArray⟩:ByteArray)[0]=c:=rfl
 have hz:(⟨(c::r).toArray⟩:ByteArray).size=(c::r).length:=yam _
 have hl:(⟨(c::r).toArray⟩:ByteArray).toList=c::r:=by rw [Lib.toList_data]
 have hq:=yeU c
 rw [decide_eq_false hc39] at hq
 rw [← h0] at hq
 rw [← hl] at q1 q2 q3 q4
 have hnum:∀ W,Rd W base rb v T en (i,F) cs→Calls Tryz.prog 119 #[.pointer (some ⟨rb,0,none⟩)] W fun e w'=>e=.returned (.int .i64 ((ya8 T (i,F)).1:Nat))∧Rd w' base rb v T en (ya8 T (i,F)).2 cs∧W.grownBy w' (some rb):=fun W hh=>yf2 hh
 generalize ya8 T (i,F)=p at *
 generalize (⟨(c::r).toArray⟩:ByteArray)=S at *
 clear hV ht h0 hl hz hc hc39
 clear h
 go_enter Tryz.func65,Tryz.ntmps65
 go_wp2_with (first|(refine yao 2 24 [.int .i64 0,.int .i64 0,.string ⟨#[]⟩] rfl rfl rfl Tryz.alloc24 ?_;intro W0 vb hvb k0 b0;have R0:=yaa (H.out.below b0))|(go_at_call 115;refine (hx _ R0.out).mono ?_;rintro e w1 ⟨rfl,b1⟩;have R1:=yaa (R0.out.below b1);have k1:=(b1.block vb (ltS k0)).trans k0)|(go_at_call 117;refine (hv _ R1.out).mono ?_;rintro e w2 ⟨rfl,b2⟩;have R2:=yaa (R1.out.below b2);have k2:=(b2.block vb (ltS k1)).trans k1;obtain ⟨⟨c0,c1,c2,c3⟩,f1,f3⟩:=rd4 R2.out.blk;have hne:vb≠rb:=(by have:=hvb.out;omega))|(go_at_call 119;refine (hnum _ R2.out).mono ?_;rintro e w5 ⟨rfl,R5,g5⟩;have k5:=(g5.block vb (ltS k2) (by simp only [ne_eq,Option.some.injEq];exact hne)).trans k2)|(refine yai 24 _ _ rfl rfl vb [.int .i64 0,.int .i64 0,.string ⟨#[]⟩] [.int .i64 1,.int .i64 (p.1:Nat),.string ⟨#[]⟩] 24 rfl rfl (by exact k5) rfl Tryz.size24 (by intro z hz;simp only [List.mem_cons,List.not_mem_nil,or_false] at hz;rcases hz with rfl|rfl|rfl <;> rfl) ?_;intro w6 k6 p6))
 exact bodyPost_ret (yaJ Tryz.results65 _ _ vb _ 24 _ rfl k6 Tryz.underlying24 rfl Tryz.size24) rfl ⟨rfl,Rd.putNew p6 R5 (by have:=hvb.out;omega),ybd p6 (yab (yae b0 _) (yab (yae b1 _) (yab (yae b2 _) g5))) (by have:=hvb.out;omega)⟩
theorem ype {T:List Tk} (h1:∀ x ∈ T,TokOk x) (h2:∀ x ∈ T,TokIs x) (s:Sx):(ya8 T s).1≤999999999:=by
 obtain ⟨i,F⟩:=s
 unfold ya8
 split
 ·rename_i hD
  obtain ⟨rfl,ex,hm⟩:=ycq (T:=T) (i:=i) (F:=F) (by intro e;rw [e] at hD;cases hD)
  rw [ex] at hD ⊢
  obtain ⟨x,hx,e1,e2⟩:=yqZ (T:=T) (i:=i) (by intro e;rw [e] at hD;cases hD)
  have hk:x.k=2:=(h2 x (List.mem_of_getElem? hx)).num.2 (by rw [← e1];exact hD)
  obtain ⟨n1,n2,n3⟩:=(h1 x (List.mem_of_getElem? hx)).num hk
  rw [← e1] at n1 n2 n3
  have:=ykA _ n3
  have h9:10 ^ (tx T i).length≤10 ^ 9:=Nat.pow_le_pow_right (by decide) n2
  simp only
  omega
 ·exact Nat.zero_le _
theorem yeO {w:World} {base rb:Nat} {v:Value} {T:List Tk} {en:Int} {i:Nat} {F:Bool} {cs:List Value} (h:Rd w base rb v T en (i,F) cs) (ht:txS T (i,F)=[45]) (hm:i+1≤T.length) (h48:txS T (i+1,F)=[48]) :
  Calls Tryz.prog 65 #[.pointer (some ⟨rb,0,none⟩)] w fun e w'=>e=.returned (.agg ([.int .i64 1,.int .i64 (-((ya8 T (i+1,true)).1:Nat)),.string ⟨#[]⟩]:List Value).toArray)∧Rd w' base rb v T en (ya8 T (i+1,true)).2 cs∧w.grownBy w' (some rb):=by
 have H:=yaa h
 have hlt:=h.rb_lt
 have hle:(i:Int)≤2000:=by have:=h.le;have:=h.few;simp only at *;omega
 have hV:yez (txS T (i,F))=true:=by rw [ht];decide
 have hv:∀ W,Rd W base rb v T en (i,F) cs→Calls Tryz.prog 117 #[.pointer (some ⟨rb,0,none⟩)] W fun e w'=>e=.returned (.bool true)∧Below W.heap.size W w':=fun W hh=>by have:=yb0 hh;rw [hV] at this;exact this
 have hx:∀ W,Rd W base rb v T en (i,F) cs→Calls Tryz.prog 115 #[.pointer (some ⟨rb,0,none⟩)] W fun e w'=>e=.returned (.string ⟨#[45]⟩)∧Below W.heap.size W w':=fun W hh=>by have:=ya6 hh;rw [ht] at this;exact this
 have hx2:∀ W,Rd W base rb v T en (i+1,F) cs→Calls Tryz.prog 115 #[.pointer (some ⟨rb,0,none⟩)] W fun e w'=>e=.returned (.string ⟨(txS T (i+1,F)).toArray⟩)∧Below W.heap.size W w':=fun W hh=>ya6 hh
 have hnum:∀ W,Rd W base rb v T en (i+1,true) cs→Calls Tryz.prog 119 #[.pointer (some ⟨rb,0,none⟩)] W fun e w'=>e=.returned (.int .i64 ((ya8 T (i+1,true)).1:Nat))∧Rd w' base rb v T en (ya8 T (i+1,true)).2 cs∧W.grownBy w' (some rb):=fun W hh=>yf2 hh
 have hnl:(((ya8 T (i+1,true)).1:Nat):Int)≤999999999:=by have:=ype h.toks h.ist (i+1,true);omega
 rw [h48] at hx2
 generalize ya8 T (i+1,true)=p at *
 clear hV ht h48
 clear h
 go_enter Tryz.func65,Tryz.ntmps65
 go_wp2_with (first|(refine yao 2 24 [.int .i64 0,.int .i64 0,.string ⟨#[]⟩] rfl rfl rfl Tryz.alloc24 ?_;intro W0 vb hvb k0 b0;have R0:=yaa (H.out.below b0))|(go_at_call 115;refine (hx _ R0.out).mono ?_;rintro e w1 ⟨rfl,b1⟩;have R1:=yaa (R0.out.below b1);have k1:=(b1.block vb (ltS k0)).trans k0)|(go_at_call 117;refine (hv _ R1.out).mono ?_;rintro e w2 ⟨rfl,b2⟩;have R2:=yaa (R1.out.below b2);have k2:=(b2.block vb (ltS k1)).trans k1;obtain ⟨⟨c0,c1,c2,c3⟩,f1,f3⟩:=rd4 R2.out.blk;have hne:vb≠rb:=(by have:=hvb.out;omega);have R3:=yaa (by have:=R2.out.step (i+1) hm;have e2:(((i+1:Nat):Nat):Int)=(i:Int)+1:=(by omega);rw [e2] at this;exact this)))
 go_wp2_with fail
 refine (hx2 _ R3.out).mono ?_
 rintro e w4 ⟨rfl,b4⟩
 have R4:=yaa (R3.out.below b4)
 have k4:=(b4.block vb (by have:=(ltS k2);simpa [World.setCell] using this)).trans ((heap_setCell_other _ _ vb _ hne).trans k2)
 obtain ⟨⟨d0,d1,d2,d3⟩,g1,g3⟩:=rd4 R4.out.blk
 go_wp2_with (first|(go_at_call 119;refine (hnum _ R4.out.fail).mono ?_;rintro e w5 ⟨rfl,R5,g5⟩;have k5:=(g5.block vb (by have:=(ltS k4);first|exact this|simpa [World.setCell] using this) (by simp only [ne_eq,Option.some.injEq];exact hne)).trans ((heap_setCell_other _ _ vb _ hne).trans k4))|(refine yai 24 _ _ rfl rfl vb [.int .i64 0,.int .i64 0,.string ⟨#[]⟩] [.int .i64 1,.int .i64 (-(p.1:Nat)),.string ⟨#[]⟩] 24 rfl rfl (by exact k5) rfl Tryz.size24 (by intro z hz;simp only [List.mem_cons,List.not_mem_nil,or_false] at hz;rcases hz with rfl|rfl|rfl <;> rfl) ?_;intro w6 k6 p6))
 exact bodyPost_ret (yaJ Tryz.results65 _ _ vb _ 24 _ rfl k6 Tryz.underlying24 rfl Tryz.size24) rfl ⟨rfl,Rd.putNew p6 R5 (by have:=hvb.out;omega),ybd p6 (yab (yae b0 _) (yab (yae b1 _) (yab (yae b2 _) (yab (yaE _ rb 1 _) (yab (yae b4 _) (yab (yaE _ rb 3 _) g5)))))) (by have:=hvb.out;omega)⟩
theorem ye9 {w:World} {base rb:Nat} {v:Value} {T:List Tk} {en:Int} {i:Nat} {F:Bool} {cs:List Value} (h:Rd w base rb v T en (i,F) cs) (ht:txS T (i,F)=[45]) (hm:i+1≤T.length) (h48:txS T (i+1,F)≠[48]) :
  Calls Tryz.prog 65 #[.pointer (some ⟨rb,0,none⟩)] w fun e w'=>e=.returned (.agg ([.int .i64 1,.int .i64 (-((ya8 T (i+1,F)).1:Nat)),.string ⟨#[]⟩]:List Value).toArray)∧Rd w' base rb v T en (ya8 T (i+1,F)).2 cs∧w.grownBy w' (some rb):=by
 have H:=yaa h
 have hlt:=h.rb_lt
 have hle:(i:Int)≤2000:=by have:=h.le;have:=h.few;simp only at *;omega
 have hV:yez (txS T (i,F))=true:=by rw [ht];decide
 have hv:∀ W,Rd W base rb v T en (i,F) cs→Calls Tryz.prog 117 #[.pointer (some ⟨rb,0,none⟩)] W fun e w'=>e=.returned (.bool true)∧Below W.heap.size W w':=fun W hh=>by have:=yb0 hh;rw [hV] at this;exact this
 have hx:∀ W,Rd W base rb v T en (i,F) cs→Calls Tryz.prog 115 #[.pointer (some ⟨rb,0,none⟩)] W fun e w'=>e=.returned (.string ⟨#[45]⟩)∧Below W.heap.size W w':=fun W hh=>by have:=ya6 hh;rw [ht] at this;exact this
 have hx2:∀ W,Rd W base rb v T en (i+1,F) cs→Calls Tryz.prog 115 #[.pointer (some ⟨rb,0,none⟩)] W fun e w'=>e=.returned (.string ⟨(txS T (i+1,F)).toArray⟩)∧Below W.heap.size W w':=fun W hh=>ya6 hh
 have hnum:∀ W,Rd W base rb v T en (i+1,F) cs→Calls Tryz.prog 119 #[.pointer (some ⟨rb,0,none⟩)] W fun e w'=>e=.returned (.int .i64 ((ya8 T (i+1,F)).1:Nat))∧Rd w' base rb v T en (ya8 T (i+1,F)).2 cs∧W.grownBy w' (some rb):=fun W hh=>yf2 hh
 have hnl:(((ya8 T (i+1,F)).1:Nat):Int)≤999999999:=by have:=ype h.toks h.ist (i+1,F);omega
 have hne48:(txS T (i+1,F) == [48])=false:=by simpa using h48
 generalize ya8 T (i+1,F)=p at *
 generalize txS T (i+1,F)=t2 at *
 clear hV ht h48
 clear h
 go_enter Tryz.func65,Tryz.ntmps65
 go_wp2_with (first|(refine yao 2 24 [.int .i64 0,.int .i64 0,.string ⟨#[]⟩] rfl rfl rfl Tryz.alloc24 ?_;intro W0 vb hvb k0 b0;have R0:=yaa (H.out.below b0))|(go_at_call 115;refine (hx _ R0.out).mono ?_;rintro e w1 ⟨rfl,b1⟩;have R1:=yaa (R0.out.below b1);have k1:=(b1.block vb (ltS k0)).trans k0)|(go_at_call 117;refine (hv _ R1.out).mono ?_;rintro e w2 ⟨rfl,b2⟩;have R2:=yaa (R1.out.below b2);have k2:=(b2.block vb (ltS k1)).trans k1;obtain ⟨⟨c0,c1,c2,c3⟩,f1,f3⟩:=rd4 R2.out.blk;have hne:vb≠rb:=(by have:=hvb.out;omega);have R3:=yaa (by have:=R2.out.step (i+1) hm;have e2:(((i+1:Nat):Nat):Int)=(i:Int)+1:=(by omega);rw [e2] at this;exact this)))
 go_wp2_with fail
 refine (hx2 _ R3.out).mono ?_
 rintro e w4 ⟨rfl,b4⟩
 have R4:=yaa (R3.out.below b4)
 have k4:=(b4.block vb (by have:=(ltS k2);simpa [World.setCell] using this)).trans ((heap_setCell_other _ _ vb _ hne).trans k2)
 obtain ⟨⟨d0,d1,d2,d3⟩,g1,g3⟩:=rd4 R4.out.blk
 go_wp2_with (first|(go_at_call 119;refine (hnum _ R4.out).mono ?_;rintro e w5 ⟨rfl,R5,g5⟩;have k5:=(g5.block vb (by have:=(ltS k4);first|exact this|simpa [World.setCell] using this) (by simp only [ne_eq,Option.some.injEq];exact hne)).trans k4)|(refine yai 24 _ _ rfl rfl vb [.int .i64 0,.int .i64 0,.string ⟨#[]⟩] [.int .i64 1,.int .i64 (-(p.1:Nat)),.string ⟨#[]⟩] 24 rfl rfl (by exact k5) rfl Tryz.size24 (by intro z hz;simp only [List.mem_cons,List.not_mem_nil,or_false] at hz;rcases hz with rfl|rfl|rfl <;> rfl) ?_;intro w6 k6 p6))
 exact bodyPost_ret (yaJ Tryz.results65 _ _ vb _ 24 _ rfl k6 Tryz.underlying24 rfl Tryz.size24) rfl ⟨rfl,Rd.putNew p6 R5 (by have:=hvb.out;omega),ybd p6 (yab (yae b0 _) (yab (yae b1 _) (yab (yae b2 _) (yab (yaE _ rb 1 _) (yab (yae b4 _) g5))))) (by have:=hvb.out;omega)⟩
theorem yoB {w:World} {base rb:Nat} {v:Value} {T:List Tk} {en:Int} {s:Sx} {cs:List Value} (h:Rd w base rb v T en s cs) :
  Calls Tryz.prog 65 #[.pointer (some ⟨rb,0,none⟩)] w fun e w'=>e=.returned (.agg (vlC (ycr T s).1).toArray)∧Rd w' base rb v T en (ycr T s).2 cs∧w.grownBy w' (some rb):=by
 obtain ⟨i,F⟩:=s
 unfold ycr
 by_cases h0:yez (txS T (i,F))=false
 ·rw [if_pos h0]
  exact yoC h h0
 rw [if_neg h0]
 have hne:txS T (i,F)≠[]:=by intro e;rw [e] at h0;exact h0 yqq
 obtain ⟨hF,ex,hm⟩:=ycq hne
 by_cases h1:txS T (i,F)=ycD∨txS T (i,F)=yce
 ·rw [if_pos h1]
  rcases h1 with h1|h1
  ·rw [if_pos h1]
   exact ymn h h1 hm
  ·rw [if_neg (by rw [h1];decide)]
   exact yjQ h h1 hm
 rw [if_neg h1]
 by_cases h2:txS T (i,F)=w_null
 ·rw [if_pos h2]
  exact ymm h h2 hm
 rw [if_neg h2]
 by_cases h3:txS T (i,F)=[45]
 ·rw [if_pos h3]
  unfold ypd
  by_cases h4:txS T (i+1,F)=[48]
  ·have:=yeO h h3 hm h4
   simp only [h4,if_true]
   exact this
  ·have:=ye9 h h3 hm h4
   simp only [h4,if_false]
   exact this
 rw [if_neg h3]
 cases ht:txS T (i,F) with
 | nil=>exact absurd ht hne
 | cons c r =>
  by_cases h4:c=39
  ·have hh:ydw (fun c=>decide (c=39)) (c::r)=true:=by simp [ydw,h4]
   rw [if_pos hh]
   obtain ⟨x,hx,e1,e2⟩:=yqZ (T:=T) (i:=i) (by rw [← ex];exact hne)
   have hk:x.k=3:=(h.ist x (List.mem_of_getElem? hx)).txt.2 (by rw [← e1,← ex,ht];exact hh)
   have hl:=(h.toks x (List.mem_of_getElem? hx)).txt hk
   have hs:=(h.toks x (List.mem_of_getElem? hx)).short
   rw [← e1,← ex,ht] at hl hs
   simp only [List.length_cons] at hl hs
   exact yjR h c r ht hm h4 (by omega) (by omega)
  ·rw [if_neg (by simp [ydw,h4])]
   have hd:isD c=true:=by
    rw [ht] at h0 h1 h2 h3
    simp only [not_or] at h1
    have hq:yez (c::r)=true:=by simpa using h0
    unfold yez at hq
    rw [decide_eq_false h1.1,decide_eq_false h1.2,decide_eq_false h2,decide_eq_false h3] at hq
    simpa [ydw,h4] using hq
   exact yoD h c r ht hd
abbrev z29:List Value:=[.int .i64 0,.int .i64 0,.int .i64 0,.string ⟨#[]⟩,.string ⟨#[]⟩,.slice none 0 0]
abbrev exL (k:Int) (x:Vl) (nm:List UInt8) (a:Value):List Value:=[.int .i64 k,.int .i64 x.k,.int .i64 x.n,.string ⟨x.s.toArray⟩,.string ⟨nm.toArray⟩,a]
theorem Tryz.alloc29 (w:World):(Instr.alloc 29 true (.tuple #[])).run Tryz.prog w=.ok (.pointer (some ⟨w.heap.size,0,none⟩)) (w.alloc (.cells z29.toArray 29)):=by
 have e:z29.toArray=#[.int .i64 0,.int .i64 0,.int .i64 0,.string ⟨#[]⟩,.string ⟨#[]⟩,.slice none 0 0]:=rfl
 rw [e]
 simp [Instr.alloc,Tryz.zeroValue29,go_sem]
theorem yca (k:Int) (x:Vl) (nm:List UInt8) (ao:Option Addr) (n cap:Nat):∀ z ∈ exL k x nm (.slice ao n cap),z.oneCell'=true:=by
 intro z hz
 simp only [List.mem_cons,List.not_mem_nil,or_false] at hz
 rcases hz with rfl|rfl|rfl|rfl|rfl|rfl <;> rfl
def ymV (W:World) (base rb:Nat) (v:Value) (T:List Tk) (en:Int) (p:Ex×Sx) (cs:List Value) (e:Ending) (w':World):Prop :=
 (∃ u,e=.returned u∧ExAt W.heap.size w' u p.1)∧Rd w' base rb v T en p.2 cs∧W.grownBy w' (some rb)
theorem ydB {w:World} (o:Obj) {b:Nat} (hb:b < w.heap.size):(w.alloc o).heap[b]?=w.heap[b]?:=((Below.refl w.heap.size w).alloc (Nat.le_refl _) o).block b hb
theorem yie {i:Nat} {w:World} {base rb:Nat} {v:Value} {T:List Tk} {en:Int} {F:Bool} {cs:List Value} (h:Rd w base rb v T en (i,F) cs) (hm:i+1≤T.length):Rd (w.setCell ⟨rb,1,none⟩ (.int .i64 ((i:Int)+1))) base rb v T en (i+1,F) cs:=by
 have:=h.step (i+1) hm
 have e2:(((i+1:Nat):Nat):Int)=(i:Int)+1:=by omega
 rw [e2] at this
 exact this
theorem ycg (w:World) (a:Addr) (x:Value):(w.setCell a x).heap.size=w.heap.size:=by simp [World.setCell]
theorem ybr {w w':World} {rb b:Nat} {o:Obj} (g:w.grownBy w' (some rb)) (h:w.heap[b]?=some o) (hne:b≠rb):w'.heap[b]?=some o :=
 (g.block b (ltS h) (by simp only [ne_eq,Option.some.injEq];exact hne)).trans h
theorem yov {w:World} {base rb:Nat} {v:Value} {T:List Tk} {en:Int} {i:Nat} {F:Bool} {cs:List Value} (h:Rd w base rb v T en (i,F) cs) (f:Nat) (hf:f < 60) (ht:txS T (i,F)=w_not)
  (ih:∀ (W:World) (s:Sx),Rd W base rb v T en s cs→Calls Tryz.prog 67 #[.pointer (some ⟨rb,0,none⟩),.int .i64 ((60 - f:Nat):Int)] W fun e w'=>ymV W base rb v T en (ybq T f s) cs e w') :
  Calls Tryz.prog 67 #[.pointer (some ⟨rb,0,none⟩),.int .i64 ((59 - f:Nat):Int)] w fun e w'=>ymV w base rb v T en (ybq T (f+1) (i,F)) cs e w':=by
 have H:=yaa h
 have hlt:=h.rb_lt
 have hle:(i:Int)≤2000:=by have:=h.le;have:=h.few;simp only at *;omega
 obtain ⟨hF,ex,hm⟩:=ycq (T:=T) (i:=i) (F:=F) (by rw [ht];decide)
 have hx:∀ W,Rd W base rb v T en (i,F) cs→Calls Tryz.prog 115 #[.pointer (some ⟨rb,0,none⟩)] W fun e w'=>e=.returned (.string ⟨#[110,111,116]⟩)∧Below W.heap.size W w':=fun W hh=>by have:=ya6 hh;rw [ht] at this;exact this
 have HR:Hid (ybq T (f+1) (i,F)=(.mk 3 vl0 [] [(ybq T f (i+1,F)).1],(ybq T f (i+1,F)).2)):=by show _=_;rw [ybq,if_pos ht]
 have ih1:=fun W=>ih W (i+1,F)
 have hm0:((60 - f:Nat):Int)=((59 - f:Nat):Int)+1:=by omega
 have hm1:((59 - f:Nat):Int) < 60:=by omega
 have hm2:0≤((59 - f:Nat):Int):=by omega
 rw [hm0] at ih1
 rw [HR.out]
 generalize ybq T f (i+1,F)=p at *
 generalize ((59 - f:Nat):Int)=m at *
 have hm3:(m == 60)=false:=by rw [beq_eq_false_iff_ne];omega
 clear h ih HR ht ex hm0 hf
 go_enter Tryz.func67,Tryz.ntmps67
 go_wp2_with (first|(refine yao 4 29 z29 rfl rfl rfl Tryz.alloc29 ?_;intro W0 eb heb k0 b0;have R0:=yaa (H.out.below b0))|(go_at_call 115;refine (hx _ R0.out).mono ?_;rintro e w1 ⟨rfl,b1⟩;have R1:=yaa (R0.out.below b1);have k1:=(b1.block eb (ltS k0)).trans k0;obtain ⟨⟨c0,c1,c2,c3⟩,f1,f3⟩:=rd4 R1.out.blk))
 refine (ih1 _ (yie R1.out hm)).mono ?_
 rintro e w3 ⟨⟨u,rfl,x3⟩,R3,g3⟩
 obtain ⟨k,x,nm,ao,na,ca,rfl⟩:=ExAt.form x3
 have hne:eb≠rb:=by have:=heb.out;omega
 have k2:=(heap_setCell_other w1 ⟨rb,1,none⟩ eb (.int .i64 ((i:Int)+1)) hne).trans k1
 have k3:=ybr g3 k2 hne
 have X3:=yaa x3
 have HR3:=yaa R3
 rw [ycg] at X3
 have hb3:=g3.size
 rw [ycg] at hb3
 have he1:=(ltS k1)
 unfold exV
 clear x3 R3
 go_wp2_with (first|(refine yao 6 29 z29 rfl rfl rfl Tryz.alloc29 ?_;intro w4 ab hab k4 b4)|(refine yai 29 _ _ rfl rfl ab z29 (exL k x nm (.slice ao na ca)) 29 rfl rfl (by exact k4) rfl Tryz.size29 (yca _ _ _ _ _ _) ?_;intro w5 k5 p5;have B5:=ycw hab b4 p5;have R5:=yaa (HR3.out.below B5);have X5:=yaa (X3.out.under B5);have e5:=(B5.block eb (ltS k3)).trans k3;clear p5)|(refine yag 29 _ rfl rfl ab (exL k x nm (.slice ao na ca)) 29 _ rfl (by exact k5) Tryz.underlying29 rfl Tryz.size29 ?_)|(refine yai 29 _ _ rfl rfl eb z29 (exL 3 vl0 [] (.slice (some ⟨w5.heap.size,0,none⟩) 1 1)) 29 rfl rfl (by exact (ydB _ (ltS e5)).trans e5) rfl Tryz.size29 (yca _ _ _ _ _ _) ?_;intro w6 k6 p6))
 have hE:=heb.out
 have n1:(w5.alloc (.cells (exL k x nm (.slice ao na ca)).toArray 29)).heap[w5.heap.size]?=some (.cells (exL k x nm (.slice ao na ca)).toArray 29):=heap_alloc_new _ _
 have n6:w6.heap[w5.heap.size]?=some (.cells (exL k x nm (.slice ao na ca)).toArray 29):=by
  rw [p6.out]
  exact (yaY eb _ _ 0 _ (by have:=(ltS e5);omega)).trans n1
 have x6:ExAt w1.heap.size w6 (exV k x nm (.slice ao na ca)) p.1:=by
  rw [p6.out]
  exact (X5.out.alloc _).putAll he1 0 _
 have b0s:=b0.size
 have b1s:=b1.size
 have b5s:=B5.size
 refine bodyPost_ret (yaJ Tryz.results67 _ _ eb _ 29 _ rfl k6 Tryz.underlying29 rfl Tryz.size29) rfl ⟨⟨_,rfl, ?_⟩,Rd.putNew p6 (R5.out.below ((Below.refl _ _).alloc (Nat.le_refl _) _)) (by omega), ?_⟩
 ·exact (yo8 n6 (by omega) x6 3 1).weak (by omega)
 ·exact ybd p6 (yab (yae b0 _) (yab (yae b1 _) (yab (yaE _ rb 1 _) (yab g3 (yab (yae B5 _) (yae ((Below.refl _ _).alloc (Nat.le_refl _) _) _)))))) (by omega)
theorem ymd {w:World} {base rb:Nat} {v:Value} {T:List Tk} {en:Int} {i:Nat} {F:Bool} {cs:List Value} (h:Rd w base rb v T en (i,F) cs) (ht:txS T (i,F)=[40]∨txS T (i,F)=w_not) :
  Calls Tryz.prog 67 #[.pointer (some ⟨rb,0,none⟩),.int .i64 60] w fun e w'=>ymV w base rb v T en (ex0,(i,true)) cs e w':=by
 have H:=yaa h
 have hlt:=h.rb_lt
 have hle:(i:Int)≤2000:=by have:=h.le;have:=h.few;simp only at *;omega
 have hx:∀ W,Rd W base rb v T en (i,F) cs→Calls Tryz.prog 115 #[.pointer (some ⟨rb,0,none⟩)] W fun e w'=>e=.returned (.string ⟨(txS T (i,F)).toArray⟩)∧Below W.heap.size W w':=fun W hh=>ya6 hh
 rcases ht with ht|ht
 all_goals
  rw [ht] at hx
  clear h
  go_enter Tryz.func67,Tryz.ntmps67
  go_wp2_with (first|(refine yao 4 29 z29 rfl rfl rfl Tryz.alloc29 ?_;intro W0 eb heb k0 b0;have R0:=yaa (H.out.below b0))|(go_at_call 115;refine (hx _ R0.out).mono ?_;rintro e w1 ⟨rfl,b1⟩;have R1:=yaa (R0.out.below b1);have k1:=(b1.block eb (ltS k0)).trans k0;obtain ⟨⟨c0,c1,c2,c3⟩,f1,f3⟩:=rd4 R1.out.blk)|(refine yai 29 _ _ rfl rfl eb z29 z29 29 rfl rfl (by exact (heap_setCell_other _ _ eb _ (by have:=heb.out;show eb≠rb;omega)).trans k1) rfl Tryz.size29 (by exact yca 0 vl0 [] none 0 0) ?_;intro w6 k6 p6))
  have hE:=heb.out
  have b0s:=b0.size
  have b1s:=b1.size
  exact bodyPost_ret (yaJ Tryz.results67 _ _ eb _ 29 _ rfl k6 Tryz.underlying29 rfl Tryz.size29) rfl ⟨⟨_,rfl,ExAt.nil 0 vl0 [] none 0 (fun _=>rfl)⟩,Rd.putNew p6 R1.out.fail (by omega),ybd p6 (yab (yae b0 _) (yab (yae b1 _) (yaE _ rb 3 _))) (by omega)⟩
theorem yiG {w:World} {base rb:Nat} {v:Value} {T:List Tk} {en:Int} {i:Nat} {F:Bool} {cs:List Value} (h:Rd w base rb v T en (i,F) cs) (m:Int) (h1:txS T (i,F)≠[40]) (h2:txS T (i,F)≠w_not) (hV:yez (txS T (i,F))=true) :
  Calls Tryz.prog 67 #[.pointer (some ⟨rb,0,none⟩),.int .i64 m] w fun e w'=>ymV w base rb v T en (.mk 1 (ycr T (i,F)).1 [] [],(ycr T (i,F)).2) cs e w':=by
 have H:=yaa h
 have hlt:=h.rb_lt
 have hle:(i:Int)≤2000:=by have:=h.le;have:=h.few;simp only at *;omega
 have hx:∀ W,Rd W base rb v T en (i,F) cs→Calls Tryz.prog 115 #[.pointer (some ⟨rb,0,none⟩)] W fun e w'=>e=.returned (.string ⟨(txS T (i,F)).toArray⟩)∧Below W.heap.size W w':=fun W hh=>ya6 hh
 have hv:∀ W,Rd W base rb v T en (i,F) cs→Calls Tryz.prog 117 #[.pointer (some ⟨rb,0,none⟩)] W fun e w'=>e=.returned (.bool true)∧Below W.heap.size W w':=fun W hh=>by have:=yb0 hh;rw [hV] at this;exact this
 have q1:(txS T (i,F) == [40])=false:=by simpa using h1
 have q2:(txS T (i,F) == [110,111,116])=false:=by simpa using h2
 have hc:∀ W,Rd W base rb v T en (i,F) cs→Calls Tryz.prog 65 #[.pointer (some ⟨rb,0,none⟩)] W fun e w'=>e=.returned (.agg #[.int .i64 (ycr T (i,F)).1.k,.int .i64 (ycr T (i,F)).1.n,.string ⟨(ycr T (i,F)).1.s.toArray⟩])∧Rd w' base rb v T en (ycr T (i,F)).2 cs∧W.grownBy w' (some rb):=fun W hh=>yoB hh
 generalize ycr T (i,F)=p at *
 generalize txS T (i,F)=t at *
 clear h h1 h2 hV
 go_enter Tryz.func67,Tryz.ntmps67
 go_wp2_with (first|(refine yao 4 29 z29 rfl rfl rfl Tryz.alloc29 ?_;intro W0 eb heb k0 b0;have R0:=yaa (H.out.below b0))|(go_at_call 115;refine (hx _ R0.out).mono ?_;rintro e w1 ⟨rfl,b1⟩;have R1:=yaa (R0.out.below b1);have k1:=(b1.block eb (ltS k0)).trans k0;obtain ⟨⟨c0,c1,c2,c3⟩,f1,f3⟩:=rd4 R1.out.blk)|(go_at_call 117;refine (hv _ R1.out).mono ?_;rintro e w2 ⟨rfl,b2⟩;have R2:=yaa (R1.out.below b2);have k2:=(b2.block eb (ltS k1)).trans k1)|(go_at_call 65;refine (hc _ R2.out).mono ?_;rintro e w3 ⟨rfl,r3,g3⟩;have R3:=yaa r3;have k3:=ybr g3 k2 (by have:=heb.out;show eb≠rb;omega))|(refine yai 29 _ _ rfl rfl eb z29 (exL 1 p.1 [] (.slice none 0 0)) 29 rfl rfl (by exact k3) rfl Tryz.size29 (yca _ _ _ _ _ _) ?_;intro w6 k6 p6))
 have hE:=heb.out
 have b0s:=b0.size
 have b1s:=b1.size
 have b2s:=b2.size
 exact bodyPost_ret (yaJ Tryz.results67 _ _ eb _ 29 _ rfl k6 Tryz.underlying29 rfl Tryz.size29) rfl ⟨⟨_,rfl,ExAt.nil _ _ _ none 0 (fun _=>rfl)⟩,Rd.putNew p6 R3.out (by omega),ybd p6 (yab (yae b0 _) (yab (yae b1 _) (yab (yae b2 _) g3))) (by omega)⟩
theorem yiF {w:World} {base rb:Nat} {v:Value} {T:List Tk} {en:Int} {i:Nat} {F:Bool} {cs:List Value} (h:Rd w base rb v T en (i,F) cs) (m:Int) (h1:txS T (i,F)≠[40]) (h2:txS T (i,F)≠w_not) (hV:yez (txS T (i,F))=false) :
  Calls Tryz.prog 67 #[.pointer (some ⟨rb,0,none⟩),.int .i64 m] w fun e w'=>ymV w base rb v T en (.mk 2 vl0 (ydm T (i,F)).1 [],(ydm T (i,F)).2) cs e w':=by
 have H:=yaa h
 have hlt:=h.rb_lt
 have hle:(i:Int)≤2000:=by have:=h.le;have:=h.few;simp only at *;omega
 have hx:∀ W,Rd W base rb v T en (i,F) cs→Calls Tryz.prog 115 #[.pointer (some ⟨rb,0,none⟩)] W fun e w'=>e=.returned (.string ⟨(txS T (i,F)).toArray⟩)∧Below W.heap.size W w':=fun W hh=>ya6 hh
 have hv:∀ W,Rd W base rb v T en (i,F) cs→Calls Tryz.prog 117 #[.pointer (some ⟨rb,0,none⟩)] W fun e w'=>e=.returned (.bool false)∧Below W.heap.size W w':=fun W hh=>by have:=yb0 hh;rw [hV] at this;exact this
 have q1:(txS T (i,F) == [40])=false:=by simpa using h1
 have q2:(txS T (i,F) == [110,111,116])=false:=by simpa using h2
 have hc:∀ W,Rd W base rb v T en (i,F) cs→Calls Tryz.prog 63 #[.pointer (some ⟨rb,0,none⟩)] W fun e w'=>e=.returned (.string ⟨(ydm T (i,F)).1.toArray⟩)∧Rd w' base rb v T en (ydm T (i,F)).2 cs∧W.grownBy w' (some rb):=fun W hh=>ymg hh
 generalize ydm T (i,F)=p at *
 generalize txS T (i,F)=t at *
 clear h h1 h2 hV
 go_enter Tryz.func67,Tryz.ntmps67
 go_wp2_with (first|(refine yao 4 29 z29 rfl rfl rfl Tryz.alloc29 ?_;intro W0 eb heb k0 b0;have R0:=yaa (H.out.below b0))|(go_at_call 115;refine (hx _ R0.out).mono ?_;rintro e w1 ⟨rfl,b1⟩;have R1:=yaa (R0.out.below b1);have k1:=(b1.block eb (ltS k0)).trans k0;obtain ⟨⟨c0,c1,c2,c3⟩,f1,f3⟩:=rd4 R1.out.blk)|(go_at_call 117;refine (hv _ R1.out).mono ?_;rintro e w2 ⟨rfl,b2⟩;have R2:=yaa (R1.out.below b2);have k2:=(b2.block eb (ltS k1)).trans k1)|(go_at_call 63;refine (hc _ R2.out).mono ?_;rintro e w3 ⟨rfl,r3,g3⟩;have R3:=yaa r3;have k3:=ybr g3 k2 (by have:=heb.out;show eb≠rb;omega))|(refine yai 29 _ _ rfl rfl eb z29 (exL 2 vl0 p.1 (.slice none 0 0)) 29 rfl rfl (by exact k3) rfl Tryz.size29 (yca _ _ _ _ _ _) ?_;intro w6 k6 p6))
 have hE:=heb.out
 have b0s:=b0.size
 have b1s:=b1.size
 have b2s:=b2.size
 exact bodyPost_ret (yaJ Tryz.results67 _ _ eb _ 29 _ rfl k6 Tryz.underlying29 rfl Tryz.size29) rfl ⟨⟨_,rfl,ExAt.nil _ _ _ none 0 (fun _=>rfl)⟩,Rd.putNew p6 R3.out (by omega),ybd p6 (yab (yae b0 _) (yab (yae b1 _) (yab (yae b2 _) g3))) (by omega)⟩
end Go.Proofs.YtkpeklealgicpabGreatDoor
