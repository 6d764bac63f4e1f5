/-
  The printer's choose.
  The printer's choose.
  The printer's choose.
  What is shown of a command that is right is not too long for memory.
  The printer's command: select; and every command that is right.
-/
import Derived.Test.YtkpeklealgicpabGreatDoorQa
import Derived.Test.YtkpeklealgicpabGreatDoorQm

set_option maxRecDepth 100000
set_option maxHeartbeats 8000000
namespace Go.Proofs.YtkpeklealgicpabGreatDoor
open Go.RowKit
theorem yiD {B b:Nat} {Tb:World→Prop} {w0:World} (k:ItoaOk B Tb) (hw:w0.heap.size≤B) (n:List UInt8) (hn:n≠[]) (l:List (List UInt8)) (hl0:l≠[]) (hl:∀ x ∈ l,x≠[]) (h5:l.length≤5) (a:Bool) (x:Ex) (hr:RightW a x) (o:List UInt8) (ho:o=[]) (m:Int) (hm:m < 0) (cv vv fv ea wa:Value) (hi:CmIn 0 w0 { cm0 with kind:=13,name:=n,fields:=l,all:=a,wh:=x,order:=o,limit:=m } cv vv fv ea wa) (ws:List (List UInt8)) (W:World) (hS:PSt B b Tb w0 ws W) (hlen:(yaz (ws++([w_select]++(yaq (fun s=>[s]) l++([w_from,n]++(yar { cm0 with kind:=13,name:=n,fields:=l,all:=a,wh:=x,order:=o,limit:=m })))))).length≤1000000) :
  Calls Tryz.prog 102 #[.pointer (some ⟨b,0,none⟩),.agg (cmL { cm0 with kind:=13,name:=n,fields:=l,all:=a,wh:=x,order:=o,limit:=m } cv vv fv ea wa).toArray] W (ybb B b Tb w0 (ws++([w_select]++(yaq (fun s=>[s]) l++([w_from,n]++(yar { cm0 with kind:=13,name:=n,fields:=l,all:=a,wh:=x,order:=o,limit:=m }))))) W):=by
 have L:∀ p q:List (List UInt8),p++q=ws++([w_select]++(yaq (fun s=>[s]) l++([w_from,n]++(yar { cm0 with kind:=13,name:=n,fields:=l,all:=a,wh:=x,order:=o,limit:=m }))))→(yaz p).length≤1000000:=fun p q e=>Nat.le_trans (yaM p q) (by rw [e];exact hlen)
 have hp:=yae (yc8 k hS (.cells #[.pointer (some ⟨b,0,none⟩)] 117) (.cells (cmL { cm0 with kind:=13,name:=n,fields:=l,all:=a,wh:=x,order:=o,limit:=m } cv vv fv ea wa).toArray 31) [w_select] 1 #[.string ⟨w_select.toArray⟩] rfl rfl (by intro x hx;simp at hx;subst hx;decide) (L _ (yaq (fun s=>[s]) l++([w_from,n]++(yar { cm0 with kind:=13,name:=n,fields:=l,all:=a,wh:=x,order:=o,limit:=m }))) (by simp only [List.append_assoc])) (by decide))
 have b1:=(Below.refl W.heap.size W).alloc (Nat.le_refl _) (.cells #[.pointer (some ⟨b,0,none⟩)] 117)
 have B0:=yae (b1.alloc (by simp) (.cells (cmL { cm0 with kind:=13,name:=n,fields:=l,all:=a,wh:=x,order:=o,limit:=m } cv vv fv ea wa).toArray 31))
 have hbW:b < W.heap.size:=hS.pr.lt
 obtain ⟨ao,ca,e0,h1⟩:=hi.fields.slice
 obtain ⟨g,og,rfl,hg,hc⟩:=h1 (List.length_pos_iff.2 hl0)
 have e1:fv=.slice (some ⟨g,og,none⟩) l.length ca:=e0
 have HS2:=yae (fun w1 (s1:PSt B b Tb w0 (ws++[w_select]) w1) (hv:w1.heap[W.heap.size]?=some (.cells #[.pointer (some ⟨b,0,none⟩)] 117))=>ydS k l g og ca W.heap.size (by omega) (fun i x hx=>by have:=hc _ _ (ybs stC (m:=1) (fun _=>rfl) l i 0 x _ hx rfl);rw [Nat.mul_one] at this;exact this) hl (by omega) (ws++[w_select]) w1 s1 hv (by omega) (L _ ([w_from,n]++(yar { cm0 with kind:=13,name:=n,fields:=l,all:=a,wh:=x,order:=o,limit:=m })) (by simp only [List.append_assoc])))
 have HF:=yae (fun w3 (s3:PSt B b Tb w0 (ws++[w_select]++yaq (fun s=>[s]) l) w3)=>ycQ k s3 [w_from,n] 2 #[.string ⟨w_from.toArray⟩,.string ⟨n.toArray⟩] rfl rfl (by intro x hx;simp at hx;rcases hx with rfl|rfl <;> first|assumption|decide) (L _ (yar { cm0 with kind:=13,name:=n,fields:=l,all:=a,wh:=x,order:=o,limit:=m }) (by simp only [List.append_assoc])) (by decide))
 have HWh:=yae (fun w4 (s4:PSt B b Tb w0 (ws++[w_select]++yaq (fun s=>[s]) l++[w_from,n]) w4)=>ybW k hw { cm0 with kind:=13,name:=n,fields:=l,all:=a,wh:=x,order:=o,limit:=m } cv vv fv ea wa hi.wh hr (ws++[w_select]++yaq (fun s=>[s]) l++[w_from,n]) w4 s4 (L _ ([]) (by simp only [List.append_assoc,List.append_nil])))
 have qm:¬ ((0:Int)≤m):=by omega
 have K:=yae k
 have hcm:∀ w1:World,w1.heap[W.heap.size+1]?=some (.cells (cmL { cm0 with kind:=13,name:=n,fields:=l,all:=a,wh:=x,order:=o,limit:=m } cv vv fv ea wa).toArray 31)→(w1.cell? ⟨W.heap.size+1,1,none⟩=some (.string ⟨n.toArray⟩)∧w1.cell? ⟨W.heap.size+1,10,none⟩=some fv∧w1.cell? ⟨W.heap.size+1,24,none⟩=some (.string ⟨o.toArray⟩)∧w1.cell? ⟨W.heap.size+1,25,none⟩=some (.int .i64 m)):=fun w1 kb=>⟨by rw [Lib.cell_of_heap kb];rfl,by rw [Lib.cell_of_heap kb];rfl,by rw [Lib.cell_of_heap kb];rfl,by rw [Lib.cell_of_heap kb];rfl⟩
 have HC:=yae hcm
 have hvv:∀ w1:World,w1.heap[W.heap.size]?=some (.cells #[.pointer (some ⟨b,0,none⟩)] 117)→w1.cell? ⟨W.heap.size,0,none⟩=some (.pointer (some ⟨b,0,none⟩)):=fun w1 kb=>by rw [Lib.cell_of_heap kb];rfl
 have HVV:=yae hvv
 clear hcm hvv hlen hS L k hn hr hi hw  h1 hm hl h5 hg hc
 have ql:((l.length:Int) == 0)=false:=by simp [hl0]
 have qz:¬ ((l.length:Int)=0):=by simp [hl0]
 subst e1
 subst ho
 unfold cmL
 simp only [cm0]
 go_enter Tryz.func102,Tryz.ntmps102
 go_wp2_with fail
 refine hp.out.mono ?_
 rintro e w1 ⟨rfl,s1,o1⟩
 have ka:((W.alloc (.cells #[.pointer (some ⟨b,0,none⟩)] 117)).alloc (.cells (cmL { cm0 with kind:=13,name:=n,fields:=l,all:=a,wh:=x,order:=[],limit:=m } cv vv (.slice (some ⟨g,og,none⟩) l.length ca) ea wa).toArray 31)).heap[W.heap.size+1]?=some (.cells (cmL { cm0 with kind:=13,name:=n,fields:=l,all:=a,wh:=x,order:=[],limit:=m } cv vv (.slice (some ⟨g,og,none⟩) l.length ca) ea wa).toArray 31):=by
  have:=heap_alloc_new (W.alloc (.cells #[.pointer (some ⟨b,0,none⟩)] 117)) (.cells (cmL { cm0 with kind:=13,name:=n,fields:=l,all:=a,wh:=x,order:=[],limit:=m } cv vv (.slice (some ⟨g,og,none⟩) l.length ca) ea wa).toArray 31)
  rwa [show (W.alloc (.cells #[.pointer (some ⟨b,0,none⟩)] 117)).heap.size=W.heap.size+1 by simp] at this
 have kv:((W.alloc (.cells #[.pointer (some ⟨b,0,none⟩)] 117)).alloc (.cells (cmL { cm0 with kind:=13,name:=n,fields:=l,all:=a,wh:=x,order:=[],limit:=m } cv vv (.slice (some ⟨g,og,none⟩) l.length ca) ea wa).toArray 31)).heap[W.heap.size]?=some (.cells #[.pointer (some ⟨b,0,none⟩)] 117):=(Below.heap_alloc _ _ _ (by simp)).trans (heap_alloc_new W _)
 have ka:=yae (o1 _ _ ka (by simp;omega) (by intro c f e;cases e))
 have kv:=yae (o1 _ _ kv (by simp;omega) (by intro c f e;cases e))
 obtain ⟨d1,d10,d24,d25⟩:=HC.out w1 ka.out
 have dv:=HVV.out w1 kv.out
 clear d1
 clear d24
 clear d25
 have l1:W.heap.size < w1.heap.size:=(ltS kv.out)
 have l2:W.heap.size+1 < w1.heap.size:=(ltS ka.out)
 have l3:W.heap.size≠w1.heap.size:=Nat.ne_of_lt l1
 have l4:W.heap.size+1≠w1.heap.size:=Nat.ne_of_lt l2
 have O1:=yae o1
 have HZ:=yae (HS2.out w1 s1 kv.out)
 clear s1 o1 hp HS2
 have O2:Hid (Lib.OthersKept 5 (some b) w1 w1):=Lib.OthersKept.refl _ _ _
 go_wp2_with fail
 refine HZ.out.mono ?_
 rintro e w3 ⟨rfl,s3,o3⟩
 clear dv d10
 have ka:=yae (o3 _ _ ka.out (by simp;omega) (by intro c f e;cases e))
 have kv:=yae (o3 _ _ kv.out (by simp;omega) (by intro c f e;cases e))
 obtain ⟨d1,d10,d24,d25⟩:=HC.out w3 ka.out
 have dv:=HVV.out w3 kv.out
 clear d10
 clear d24
 clear d25
 clear l1 l2 l3 l4
 have l1:W.heap.size < w3.heap.size:=(ltS kv.out)
 have l2:W.heap.size+1 < w3.heap.size:=(ltS ka.out)
 have l3:W.heap.size≠w3.heap.size:=Nat.ne_of_lt l1
 have l4:W.heap.size+1≠w3.heap.size:=Nat.ne_of_lt l2
 have O3:=yae o3
 have HY3:=yae (HF.out w3 s3)
 clear s3 o3 HZ HF
 go_wp2_with fail
 go_region_law (first|(go_simp;refine HY3.out.mono ?_;rintro e w4 ⟨rfl,s4,o4⟩;dsimp only))
 all_goals
  have o4':Lib.OthersKept 5 (some b) w3 w4:=fun q ob hq hne hty=>o4 q ob hq hne hty
  clear dv d1
  have ka:=yae (o4' _ _ ka.out (by simp;omega) (by intro c f e;cases e))
  have kv:=yae (o4' _ _ kv.out (by simp;omega) (by intro c f e;cases e))
  obtain ⟨d1,d10,d24,d25⟩:=HC.out w4 ka.out
  have dv:=HVV.out w4 kv.out
  clear d1
  clear d10
  clear d24
  clear d25
  clear l1 l2 l3 l4
  have l1:W.heap.size < w4.heap.size:=(ltS kv.out)
  have l2:W.heap.size+1 < w4.heap.size:=(ltS ka.out)
  have l3:W.heap.size≠w4.heap.size:=Nat.ne_of_lt l1
  have l4:W.heap.size+1≠w4.heap.size:=Nat.ne_of_lt l2
  have O4:=yae o4'
  have HY4:=yae (HWh.out w4 s4)
  clear s4 o4 o4' HY3 HWh
  go_wp2_with (first|(refine yaf 31 _ rfl rfl _ (cmL { cm0 with kind:=13,name:=n,fields:=l,all:=a,wh:=x,order:=[],limit:=m } cv vv (.slice (some ⟨g,og,none⟩) l.length ca) ea wa) 31 _ rfl (by exact ka.out) Tryz.underlying31 rfl Tryz.size31 ?_)|fail)
  refine HY4.out.mono ?_
  rintro e w5 ⟨rfl,s5,o5⟩
  clear dv
  have ka:=yae (o5 _ _ ka.out (by simp;omega) (by intro c f e;cases e))
  have kv:=yae (o5 _ _ kv.out (by simp;omega) (by intro c f e;cases e))
  obtain ⟨d1,d10,d24,d25⟩:=HC.out w5 ka.out
  have dv:=HVV.out w5 kv.out
  clear d1
  clear d10
  clear l1 l2 l3 l4
  have l1:W.heap.size < w5.heap.size:=(ltS kv.out)
  have l2:W.heap.size+1 < w5.heap.size:=(ltS ka.out)
  have l3:W.heap.size≠w5.heap.size:=Nat.ne_of_lt l1
  have l4:W.heap.size+1≠w5.heap.size:=Nat.ne_of_lt l2
  have O5:=yae o5
  have KEPT:Hid (Lib.OthersKept 5 (some b) W w5):=fun q ob hq hne hty=>O5.out q ob (O4.out q ob (O3.out q ob (O2.out q ob (O1.out q ob (yao (b:=b) B0.out q ob hq hne hty) hne hty) hne hty) hne hty) hne hty) hne hty
  clear o5 HY4
  go_wp2
  try simp only [Exit.inBlock]
  go_end0
  refine ⟨rfl, ?_,KEPT.out⟩
  have:=s5
  simp only [List.append_assoc] at this
  exact this
theorem yiF {B b:Nat} {Tb:World→Prop} {w0:World} (k:ItoaOk B Tb) (hw:w0.heap.size≤B) (n:List UInt8) (hn:n≠[]) (l:List (List UInt8)) (hl0:l≠[]) (hl:∀ x ∈ l,x≠[]) (h5:l.length≤5) (a:Bool) (x:Ex) (hr:RightW a x) (o:List UInt8) (ho:o≠[]) (m:Int) (hm:m < 0) (cv vv fv ea wa:Value) (hi:CmIn 0 w0 { cm0 with kind:=13,name:=n,fields:=l,all:=a,wh:=x,order:=o,limit:=m } cv vv fv ea wa) (ws:List (List UInt8)) (W:World) (hS:PSt B b Tb w0 ws W) (hlen:(yaz (ws++([w_select]++(yaq (fun s=>[s]) l++([w_from,n]++(yar { cm0 with kind:=13,name:=n,fields:=l,all:=a,wh:=x,order:=o,limit:=m }++([w_order,w_by,o]))))))).length≤1000000) :
  Calls Tryz.prog 102 #[.pointer (some ⟨b,0,none⟩),.agg (cmL { cm0 with kind:=13,name:=n,fields:=l,all:=a,wh:=x,order:=o,limit:=m } cv vv fv ea wa).toArray] W (ybb B b Tb w0 (ws++([w_select]++(yaq (fun s=>[s]) l++([w_from,n]++(yar { cm0 with kind:=13,name:=n,fields:=l,all:=a,wh:=x,order:=o,limit:=m }++([w_order,w_by,o])))))) W):=by
 have L:∀ p q:List (List UInt8),p++q=ws++([w_select]++(yaq (fun s=>[s]) l++([w_from,n]++(yar { cm0 with kind:=13,name:=n,fields:=l,all:=a,wh:=x,order:=o,limit:=m }++([w_order,w_by,o])))))→(yaz p).length≤1000000:=fun p q e=>Nat.le_trans (yaM p q) (by rw [e];exact hlen)
 have hp:=yae (yc8 k hS (.cells #[.pointer (some ⟨b,0,none⟩)] 117) (.cells (cmL { cm0 with kind:=13,name:=n,fields:=l,all:=a,wh:=x,order:=o,limit:=m } cv vv fv ea wa).toArray 31) [w_select] 1 #[.string ⟨w_select.toArray⟩] rfl rfl (by intro x hx;simp at hx;subst hx;decide) (L _ (yaq (fun s=>[s]) l++([w_from,n]++(yar { cm0 with kind:=13,name:=n,fields:=l,all:=a,wh:=x,order:=o,limit:=m }++([w_order,w_by,o])))) (by simp only [List.append_assoc])) (by decide))
 have b1:=(Below.refl W.heap.size W).alloc (Nat.le_refl _) (.cells #[.pointer (some ⟨b,0,none⟩)] 117)
 have B0:=yae (b1.alloc (by simp) (.cells (cmL { cm0 with kind:=13,name:=n,fields:=l,all:=a,wh:=x,order:=o,limit:=m } cv vv fv ea wa).toArray 31))
 have hbW:b < W.heap.size:=hS.pr.lt
 obtain ⟨ao,ca,e0,h1⟩:=hi.fields.slice
 obtain ⟨g,og,rfl,hg,hc⟩:=h1 (List.length_pos_iff.2 hl0)
 have e1:fv=.slice (some ⟨g,og,none⟩) l.length ca:=e0
 have HS2:=yae (fun w1 (s1:PSt B b Tb w0 (ws++[w_select]) w1) (hv:w1.heap[W.heap.size]?=some (.cells #[.pointer (some ⟨b,0,none⟩)] 117))=>ydS k l g og ca W.heap.size (by omega) (fun i x hx=>by have:=hc _ _ (ybs stC (m:=1) (fun _=>rfl) l i 0 x _ hx rfl);rw [Nat.mul_one] at this;exact this) hl (by omega) (ws++[w_select]) w1 s1 hv (by omega) (L _ ([w_from,n]++(yar { cm0 with kind:=13,name:=n,fields:=l,all:=a,wh:=x,order:=o,limit:=m }++([w_order,w_by,o]))) (by simp only [List.append_assoc])))
 have HF:=yae (fun w3 (s3:PSt B b Tb w0 (ws++[w_select]++yaq (fun s=>[s]) l) w3)=>ycQ k s3 [w_from,n] 2 #[.string ⟨w_from.toArray⟩,.string ⟨n.toArray⟩] rfl rfl (by intro x hx;simp at hx;rcases hx with rfl|rfl <;> first|assumption|decide) (L _ (yar { cm0 with kind:=13,name:=n,fields:=l,all:=a,wh:=x,order:=o,limit:=m }++([w_order,w_by,o])) (by simp only [List.append_assoc])) (by decide))
 have HWh:=yae (fun w4 (s4:PSt B b Tb w0 (ws++[w_select]++yaq (fun s=>[s]) l++[w_from,n]) w4)=>ybW k hw { cm0 with kind:=13,name:=n,fields:=l,all:=a,wh:=x,order:=o,limit:=m } cv vv fv ea wa hi.wh hr (ws++[w_select]++yaq (fun s=>[s]) l++[w_from,n]) w4 s4 (L _ ([w_order,w_by,o]) (by simp only [List.append_assoc])))
 have HO:=yae (fun w5 (s5:PSt B b Tb w0 (ws++[w_select]++yaq (fun s=>[s]) l++[w_from,n]++yar { cm0 with kind:=13,name:=n,fields:=l,all:=a,wh:=x,order:=o,limit:=m }) w5)=>ycQ k s5 [w_order,w_by,o] 3 #[.string ⟨w_order.toArray⟩,.string ⟨w_by.toArray⟩,.string ⟨o.toArray⟩] rfl rfl (by intro x hx;simp at hx;rcases hx with rfl|rfl|rfl <;> first|assumption|decide) (L _ ([]) (by simp only [List.append_assoc,List.append_nil])) (by decide))
 have qo:o.isEmpty=false:=by cases o with|nil=>exact absurd rfl ho|cons _ _=>rfl
 have qm:¬ ((0:Int)≤m):=by omega
 have K:=yae k
 have hcm:∀ w1:World,w1.heap[W.heap.size+1]?=some (.cells (cmL { cm0 with kind:=13,name:=n,fields:=l,all:=a,wh:=x,order:=o,limit:=m } cv vv fv ea wa).toArray 31)→(w1.cell? ⟨W.heap.size+1,1,none⟩=some (.string ⟨n.toArray⟩)∧w1.cell? ⟨W.heap.size+1,10,none⟩=some fv∧w1.cell? ⟨W.heap.size+1,24,none⟩=some (.string ⟨o.toArray⟩)∧w1.cell? ⟨W.heap.size+1,25,none⟩=some (.int .i64 m)):=fun w1 kb=>⟨by rw [Lib.cell_of_heap kb];rfl,by rw [Lib.cell_of_heap kb];rfl,by rw [Lib.cell_of_heap kb];rfl,by rw [Lib.cell_of_heap kb];rfl⟩
 have HC:=yae hcm
 have hvv:∀ w1:World,w1.heap[W.heap.size]?=some (.cells #[.pointer (some ⟨b,0,none⟩)] 117)→w1.cell? ⟨W.heap.size,0,none⟩=some (.pointer (some ⟨b,0,none⟩)):=fun w1 kb=>by rw [Lib.cell_of_heap kb];rfl
 have HVV:=yae hvv
 clear hcm hvv hlen hS L k hn hr hi hw  h1 hm hl h5 hg hc ho
 have ql:((l.length:Int) == 0)=false:=by simp [hl0]
 have qz:¬ ((l.length:Int)=0):=by simp [hl0]
 subst e1
 unfold cmL
 simp only [cm0]
 go_enter Tryz.func102,Tryz.ntmps102
 go_wp2_with fail
 refine hp.out.mono ?_
 rintro e w1 ⟨rfl,s1,o1⟩
 have ka:((W.alloc (.cells #[.pointer (some ⟨b,0,none⟩)] 117)).alloc (.cells (cmL { cm0 with kind:=13,name:=n,fields:=l,all:=a,wh:=x,order:=o,limit:=m } cv vv (.slice (some ⟨g,og,none⟩) l.length ca) ea wa).toArray 31)).heap[W.heap.size+1]?=some (.cells (cmL { cm0 with kind:=13,name:=n,fields:=l,all:=a,wh:=x,order:=o,limit:=m } cv vv (.slice (some ⟨g,og,none⟩) l.length ca) ea wa).toArray 31):=by
  have:=heap_alloc_new (W.alloc (.cells #[.pointer (some ⟨b,0,none⟩)] 117)) (.cells (cmL { cm0 with kind:=13,name:=n,fields:=l,all:=a,wh:=x,order:=o,limit:=m } cv vv (.slice (some ⟨g,og,none⟩) l.length ca) ea wa).toArray 31)
  rwa [show (W.alloc (.cells #[.pointer (some ⟨b,0,none⟩)] 117)).heap.size=W.heap.size+1 by simp] at this
 have kv:((W.alloc (.cells #[.pointer (some ⟨b,0,none⟩)] 117)).alloc (.cells (cmL { cm0 with kind:=13,name:=n,fields:=l,all:=a,wh:=x,order:=o,limit:=m } cv vv (.slice (some ⟨g,og,none⟩) l.length ca) ea wa).toArray 31)).heap[W.heap.size]?=some (.cells #[.pointer (some ⟨b,0,none⟩)] 117):=(Below.heap_alloc _ _ _ (by simp)).trans (heap_alloc_new W _)
 have ka:=yae (o1 _ _ ka (by simp;omega) (by intro c f e;cases e))
 have kv:=yae (o1 _ _ kv (by simp;omega) (by intro c f e;cases e))
 obtain ⟨d1,d10,d24,d25⟩:=HC.out w1 ka.out
 have dv:=HVV.out w1 kv.out
 clear d1
 clear d24
 clear d25
 have l1:W.heap.size < w1.heap.size:=(ltS kv.out)
 have l2:W.heap.size+1 < w1.heap.size:=(ltS ka.out)
 have l3:W.heap.size≠w1.heap.size:=Nat.ne_of_lt l1
 have l4:W.heap.size+1≠w1.heap.size:=Nat.ne_of_lt l2
 have O1:=yae o1
 have HZ:=yae (HS2.out w1 s1 kv.out)
 clear s1 o1 hp HS2
 have O2:Hid (Lib.OthersKept 5 (some b) w1 w1):=Lib.OthersKept.refl _ _ _
 go_wp2_with fail
 refine HZ.out.mono ?_
 rintro e w3 ⟨rfl,s3,o3⟩
 clear dv d10
 have ka:=yae (o3 _ _ ka.out (by simp;omega) (by intro c f e;cases e))
 have kv:=yae (o3 _ _ kv.out (by simp;omega) (by intro c f e;cases e))
 obtain ⟨d1,d10,d24,d25⟩:=HC.out w3 ka.out
 have dv:=HVV.out w3 kv.out
 clear d10
 clear d24
 clear d25
 clear l1 l2 l3 l4
 have l1:W.heap.size < w3.heap.size:=(ltS kv.out)
 have l2:W.heap.size+1 < w3.heap.size:=(ltS ka.out)
 have l3:W.heap.size≠w3.heap.size:=Nat.ne_of_lt l1
 have l4:W.heap.size+1≠w3.heap.size:=Nat.ne_of_lt l2
 have O3:=yae o3
 have HY3:=yae (HF.out w3 s3)
 clear s3 o3 HZ HF
 go_wp2_with fail
 go_region_law (first|(go_simp;refine HY3.out.mono ?_;rintro e w4 ⟨rfl,s4,o4⟩;dsimp only))
 all_goals
  have o4':Lib.OthersKept 5 (some b) w3 w4:=fun q ob hq hne hty=>o4 q ob hq hne hty
  clear dv d1
  have ka:=yae (o4' _ _ ka.out (by simp;omega) (by intro c f e;cases e))
  have kv:=yae (o4' _ _ kv.out (by simp;omega) (by intro c f e;cases e))
  obtain ⟨d1,d10,d24,d25⟩:=HC.out w4 ka.out
  have dv:=HVV.out w4 kv.out
  clear d1
  clear d10
  clear d24
  clear d25
  clear l1 l2 l3 l4
  have l1:W.heap.size < w4.heap.size:=(ltS kv.out)
  have l2:W.heap.size+1 < w4.heap.size:=(ltS ka.out)
  have l3:W.heap.size≠w4.heap.size:=Nat.ne_of_lt l1
  have l4:W.heap.size+1≠w4.heap.size:=Nat.ne_of_lt l2
  have O4:=yae o4'
  have HY4:=yae (HWh.out w4 s4)
  clear s4 o4 o4' HY3 HWh
  go_wp2_with (first|(refine yaf 31 _ rfl rfl _ (cmL { cm0 with kind:=13,name:=n,fields:=l,all:=a,wh:=x,order:=o,limit:=m } cv vv (.slice (some ⟨g,og,none⟩) l.length ca) ea wa) 31 _ rfl (by exact ka.out) Tryz.underlying31 rfl Tryz.size31 ?_)|fail)
  refine HY4.out.mono ?_
  rintro e w5 ⟨rfl,s5,o5⟩
  clear dv
  have ka:=yae (o5 _ _ ka.out (by simp;omega) (by intro c f e;cases e))
  have kv:=yae (o5 _ _ kv.out (by simp;omega) (by intro c f e;cases e))
  obtain ⟨d1,d10,d24,d25⟩:=HC.out w5 ka.out
  have dv:=HVV.out w5 kv.out
  clear d1
  clear d10
  clear l1 l2 l3 l4
  have l1:W.heap.size < w5.heap.size:=(ltS kv.out)
  have l2:W.heap.size+1 < w5.heap.size:=(ltS ka.out)
  have l3:W.heap.size≠w5.heap.size:=Nat.ne_of_lt l1
  have l4:W.heap.size+1≠w5.heap.size:=Nat.ne_of_lt l2
  have O5:=yae o5
  have KEPT:Hid (Lib.OthersKept 5 (some b) W w5):=fun q ob hq hne hty=>O5.out q ob (O4.out q ob (O3.out q ob (O2.out q ob (O1.out q ob (yao (b:=b) B0.out q ob hq hne hty) hne hty) hne hty) hne hty) hne hty) hne hty
  clear o5 HY4
  have HY5:=yae (HO.out w5 s5)
  clear s5 HO
  go_wp2_with fail
  go_region_law (first|(go_simp;refine HY5.out.mono ?_;rintro e w6 ⟨rfl,s6,o6⟩;dsimp only))
  all_goals
   have o6':Lib.OthersKept 5 (some b) w5 w6:=fun q ob hq hne hty=>o6 q ob hq hne hty
   clear dv d24 d25
   have ka:=yae (o6' _ _ ka.out (by simp;omega) (by intro c f e;cases e))
   have kv:=yae (o6' _ _ kv.out (by simp;omega) (by intro c f e;cases e))
   obtain ⟨d1,d10,d24,d25⟩:=HC.out w6 ka.out
   have dv:=HVV.out w6 kv.out
   clear d1
   clear d10
   clear d24
   clear l1 l2 l3 l4
   have l1:W.heap.size < w6.heap.size:=(ltS kv.out)
   have l2:W.heap.size+1 < w6.heap.size:=(ltS ka.out)
   have l3:W.heap.size≠w6.heap.size:=Nat.ne_of_lt l1
   have l4:W.heap.size+1≠w6.heap.size:=Nat.ne_of_lt l2
   have KEP2:Hid (Lib.OthersKept 5 (some b) W w6):=fun q ob hq hne hty=>o6' q ob (KEPT.out q ob hq hne hty) hne hty
   clear o6 o6' HY5
   go_wp2
   try simp only [Exit.inBlock]
   go_end0
   refine ⟨rfl, ?_,KEP2.out⟩
   have:=s6
   simp only [List.append_assoc] at this
   exact this
theorem yiH {B b:Nat} {Tb:World→Prop} {w0:World} (k:ItoaOk B Tb) (hw:w0.heap.size≤B) (n:List UInt8) (hn:n≠[]) (l:List (List UInt8)) (hl0:l=[]) (a:Bool) (x:Ex) (hr:RightW a x) (o:List UInt8) (ho:o=[]) (m:Int) (hm:m < 0) (cv vv fv ea wa:Value) (hi:CmIn 0 w0 { cm0 with kind:=13,name:=n,fields:=l,all:=a,wh:=x,order:=o,limit:=m } cv vv fv ea wa) (ws:List (List UInt8)) (W:World) (hS:PSt B b Tb w0 ws W) (hlen:(yaz (ws++([w_select]++([[42]]++([w_from,n]++(yar { cm0 with kind:=13,name:=n,fields:=l,all:=a,wh:=x,order:=o,limit:=m })))))).length≤1000000) :
  Calls Tryz.prog 102 #[.pointer (some ⟨b,0,none⟩),.agg (cmL { cm0 with kind:=13,name:=n,fields:=l,all:=a,wh:=x,order:=o,limit:=m } cv vv fv ea wa).toArray] W (ybb B b Tb w0 (ws++([w_select]++([[42]]++([w_from,n]++(yar { cm0 with kind:=13,name:=n,fields:=l,all:=a,wh:=x,order:=o,limit:=m }))))) W):=by
 have L:∀ p q:List (List UInt8),p++q=ws++([w_select]++([[42]]++([w_from,n]++(yar { cm0 with kind:=13,name:=n,fields:=l,all:=a,wh:=x,order:=o,limit:=m }))))→(yaz p).length≤1000000:=fun p q e=>Nat.le_trans (yaM p q) (by rw [e];exact hlen)
 have hp:=yae (yc8 k hS (.cells #[.pointer (some ⟨b,0,none⟩)] 117) (.cells (cmL { cm0 with kind:=13,name:=n,fields:=l,all:=a,wh:=x,order:=o,limit:=m } cv vv fv ea wa).toArray 31) [w_select] 1 #[.string ⟨w_select.toArray⟩] rfl rfl (by intro x hx;simp at hx;subst hx;decide) (L _ ([[42]]++([w_from,n]++(yar { cm0 with kind:=13,name:=n,fields:=l,all:=a,wh:=x,order:=o,limit:=m }))) (by simp only [List.append_assoc])) (by decide))
 have b1:=(Below.refl W.heap.size W).alloc (Nat.le_refl _) (.cells #[.pointer (some ⟨b,0,none⟩)] 117)
 have B0:=yae (b1.alloc (by simp) (.cells (cmL { cm0 with kind:=13,name:=n,fields:=l,all:=a,wh:=x,order:=o,limit:=m } cv vv fv ea wa).toArray 31))
 have hbW:b < W.heap.size:=hS.pr.lt
 obtain ⟨ao,ca,e0,h1⟩:=hi.fields.slice
 have e1:fv=.slice ao 0 ca:=by rw [e0];simp [hl0]
 have HS1:=yae (fun w1 (s1:PSt B b Tb w0 (ws++[w_select]) w1)=>ycb k s1 [[42]] 1 #[.string ⟨#[42]⟩] rfl rfl (by intro x hx;simp at hx;subst hx;decide) (L _ ([w_from,n]++(yar { cm0 with kind:=13,name:=n,fields:=l,all:=a,wh:=x,order:=o,limit:=m })) (by simp only [List.append_assoc])) (by decide))
 have HS2:=yae (fun (f:Value) w2 (s2:PSt B b Tb w0 (ws++[w_select]++[[42]]) w2)=>ydT (Tb:=Tb) (w0:=w0) ao ca f (ws++[w_select]++[[42]]) w2 s2)
 have HF:=yae (fun w3 (s3:PSt B b Tb w0 (ws++[w_select]++[[42]]) w3)=>ycQ k s3 [w_from,n] 2 #[.string ⟨w_from.toArray⟩,.string ⟨n.toArray⟩] rfl rfl (by intro x hx;simp at hx;rcases hx with rfl|rfl <;> first|assumption|decide) (L _ (yar { cm0 with kind:=13,name:=n,fields:=l,all:=a,wh:=x,order:=o,limit:=m }) (by simp only [List.append_assoc])) (by decide))
 have HWh:=yae (fun w4 (s4:PSt B b Tb w0 (ws++[w_select]++[[42]]++[w_from,n]) w4)=>ybW k hw { cm0 with kind:=13,name:=n,fields:=l,all:=a,wh:=x,order:=o,limit:=m } cv vv fv ea wa hi.wh hr (ws++[w_select]++[[42]]++[w_from,n]) w4 s4 (L _ ([]) (by simp only [List.append_assoc,List.append_nil])))
 have qm:¬ ((0:Int)≤m):=by omega
 have K:=yae k
 have hcm:∀ w1:World,w1.heap[W.heap.size+1]?=some (.cells (cmL { cm0 with kind:=13,name:=n,fields:=l,all:=a,wh:=x,order:=o,limit:=m } cv vv fv ea wa).toArray 31)→(w1.cell? ⟨W.heap.size+1,1,none⟩=some (.string ⟨n.toArray⟩)∧w1.cell? ⟨W.heap.size+1,10,none⟩=some fv∧w1.cell? ⟨W.heap.size+1,24,none⟩=some (.string ⟨o.toArray⟩)∧w1.cell? ⟨W.heap.size+1,25,none⟩=some (.int .i64 m)):=fun w1 kb=>⟨by rw [Lib.cell_of_heap kb];rfl,by rw [Lib.cell_of_heap kb];rfl,by rw [Lib.cell_of_heap kb];rfl,by rw [Lib.cell_of_heap kb];rfl⟩
 have HC:=yae hcm
 have hvv:∀ w1:World,w1.heap[W.heap.size]?=some (.cells #[.pointer (some ⟨b,0,none⟩)] 117)→w1.cell? ⟨W.heap.size,0,none⟩=some (.pointer (some ⟨b,0,none⟩)):=fun w1 kb=>by rw [Lib.cell_of_heap kb];rfl
 have HVV:=yae hvv
 clear hcm hvv hlen hS L k hn hr hi hw  h1 hm
 subst e1
 subst hl0
 subst ho
 unfold cmL
 simp only [cm0]
 go_enter Tryz.func102,Tryz.ntmps102
 go_wp2_with fail
 refine hp.out.mono ?_
 rintro e w1 ⟨rfl,s1,o1⟩
 have ka:((W.alloc (.cells #[.pointer (some ⟨b,0,none⟩)] 117)).alloc (.cells (cmL { cm0 with kind:=13,name:=n,fields:=[],all:=a,wh:=x,order:=[],limit:=m } cv vv (.slice ao 0 ca) ea wa).toArray 31)).heap[W.heap.size+1]?=some (.cells (cmL { cm0 with kind:=13,name:=n,fields:=[],all:=a,wh:=x,order:=[],limit:=m } cv vv (.slice ao 0 ca) ea wa).toArray 31):=by
  have:=heap_alloc_new (W.alloc (.cells #[.pointer (some ⟨b,0,none⟩)] 117)) (.cells (cmL { cm0 with kind:=13,name:=n,fields:=[],all:=a,wh:=x,order:=[],limit:=m } cv vv (.slice ao 0 ca) ea wa).toArray 31)
  rwa [show (W.alloc (.cells #[.pointer (some ⟨b,0,none⟩)] 117)).heap.size=W.heap.size+1 by simp] at this
 have kv:((W.alloc (.cells #[.pointer (some ⟨b,0,none⟩)] 117)).alloc (.cells (cmL { cm0 with kind:=13,name:=n,fields:=[],all:=a,wh:=x,order:=[],limit:=m } cv vv (.slice ao 0 ca) ea wa).toArray 31)).heap[W.heap.size]?=some (.cells #[.pointer (some ⟨b,0,none⟩)] 117):=(Below.heap_alloc _ _ _ (by simp)).trans (heap_alloc_new W _)
 have ka:=yae (o1 _ _ ka (by simp;omega) (by intro c f e;cases e))
 have kv:=yae (o1 _ _ kv (by simp;omega) (by intro c f e;cases e))
 obtain ⟨d1,d10,d24,d25⟩:=HC.out w1 ka.out
 have dv:=HVV.out w1 kv.out
 clear d1
 clear d24
 clear d25
 have l1:W.heap.size < w1.heap.size:=(ltS kv.out)
 have l2:W.heap.size+1 < w1.heap.size:=(ltS ka.out)
 have l3:W.heap.size≠w1.heap.size:=Nat.ne_of_lt l1
 have l4:W.heap.size+1≠w1.heap.size:=Nat.ne_of_lt l2
 have O1:=yae o1
 have HY:=yae (HS1.out w1 s1)
 clear s1 o1 hp HS1
 go_wp2_with fail
 refine HY.out.mono ?_
 rintro e w2 ⟨rfl,s2,o2⟩
 clear dv d10
 have ka:=yae (o2 _ _ ka.out (by simp;omega) (by intro c f e;cases e))
 have kv:=yae (o2 _ _ kv.out (by simp;omega) (by intro c f e;cases e))
 obtain ⟨d1,d10,d24,d25⟩:=HC.out w2 ka.out
 have dv:=HVV.out w2 kv.out
 clear d1
 clear d24
 clear d25
 clear l1 l2 l3 l4
 have l1:W.heap.size < w2.heap.size:=(ltS kv.out)
 have l2:W.heap.size+1 < w2.heap.size:=(ltS ka.out)
 have l3:W.heap.size≠w2.heap.size:=Nat.ne_of_lt l1
 have l4:W.heap.size+1≠w2.heap.size:=Nat.ne_of_lt l2
 have O2:=yae o2
 have HZ:=yae (fun f=>HS2.out f w2 s2)
 clear s2 o2 HY HS2
 go_wp2_with fail
 refine (HZ.out _).mono ?_
 rintro e w3 ⟨rfl,s3,o3⟩
 clear dv d10
 have ka:=yae (o3 _ _ ka.out (by simp;omega) (by intro c f e;cases e))
 have kv:=yae (o3 _ _ kv.out (by simp;omega) (by intro c f e;cases e))
 obtain ⟨d1,d10,d24,d25⟩:=HC.out w3 ka.out
 have dv:=HVV.out w3 kv.out
 clear d10
 clear d24
 clear d25
 clear l1 l2 l3 l4
 have l1:W.heap.size < w3.heap.size:=(ltS kv.out)
 have l2:W.heap.size+1 < w3.heap.size:=(ltS ka.out)
 have l3:W.heap.size≠w3.heap.size:=Nat.ne_of_lt l1
 have l4:W.heap.size+1≠w3.heap.size:=Nat.ne_of_lt l2
 have O3:=yae o3
 have HY3:=yae (HF.out w3 s3)
 clear s3 o3 HZ HF
 go_wp2_with fail
 go_region_law (first|(go_simp;refine HY3.out.mono ?_;rintro e w4 ⟨rfl,s4,o4⟩;dsimp only))
 all_goals
  have o4':Lib.OthersKept 5 (some b) w3 w4:=fun q ob hq hne hty=>o4 q ob hq hne hty
  clear dv d1
  have ka:=yae (o4' _ _ ka.out (by simp;omega) (by intro c f e;cases e))
  have kv:=yae (o4' _ _ kv.out (by simp;omega) (by intro c f e;cases e))
  obtain ⟨d1,d10,d24,d25⟩:=HC.out w4 ka.out
  have dv:=HVV.out w4 kv.out
  clear d1
  clear d10
  clear d24
  clear d25
  clear l1 l2 l3 l4
  have l1:W.heap.size < w4.heap.size:=(ltS kv.out)
  have l2:W.heap.size+1 < w4.heap.size:=(ltS ka.out)
  have l3:W.heap.size≠w4.heap.size:=Nat.ne_of_lt l1
  have l4:W.heap.size+1≠w4.heap.size:=Nat.ne_of_lt l2
  have O4:=yae o4'
  have HY4:=yae (HWh.out w4 s4)
  clear s4 o4 o4' HY3 HWh
  go_wp2_with (first|(refine yaf 31 _ rfl rfl _ (cmL { cm0 with kind:=13,name:=n,fields:=[],all:=a,wh:=x,order:=[],limit:=m } cv vv (.slice ao 0 ca) ea wa) 31 _ rfl (by exact ka.out) Tryz.underlying31 rfl Tryz.size31 ?_)|fail)
  refine HY4.out.mono ?_
  rintro e w5 ⟨rfl,s5,o5⟩
  clear dv
  have ka:=yae (o5 _ _ ka.out (by simp;omega) (by intro c f e;cases e))
  have kv:=yae (o5 _ _ kv.out (by simp;omega) (by intro c f e;cases e))
  obtain ⟨d1,d10,d24,d25⟩:=HC.out w5 ka.out
  have dv:=HVV.out w5 kv.out
  clear d1
  clear d10
  clear l1 l2 l3 l4
  have l1:W.heap.size < w5.heap.size:=(ltS kv.out)
  have l2:W.heap.size+1 < w5.heap.size:=(ltS ka.out)
  have l3:W.heap.size≠w5.heap.size:=Nat.ne_of_lt l1
  have l4:W.heap.size+1≠w5.heap.size:=Nat.ne_of_lt l2
  have O5:=yae o5
  have KEPT:Hid (Lib.OthersKept 5 (some b) W w5):=fun q ob hq hne hty=>O5.out q ob (O4.out q ob (O3.out q ob (O2.out q ob (O1.out q ob (yao (b:=b) B0.out q ob hq hne hty) hne hty) hne hty) hne hty) hne hty) hne hty
  clear o5 HY4
  go_wp2
  try simp only [Exit.inBlock]
  go_end0
  refine ⟨rfl, ?_,KEPT.out⟩
  have:=s5
  simp only [List.append_assoc] at this
  exact this
theorem yiJ {B b:Nat} {Tb:World→Prop} {w0:World} (k:ItoaOk B Tb) (hw:w0.heap.size≤B) (n:List UInt8) (hn:n≠[]) (l:List (List UInt8)) (hl0:l=[]) (a:Bool) (x:Ex) (hr:RightW a x) (o:List UInt8) (ho:o≠[]) (m:Int) (hm:m < 0) (cv vv fv ea wa:Value) (hi:CmIn 0 w0 { cm0 with kind:=13,name:=n,fields:=l,all:=a,wh:=x,order:=o,limit:=m } cv vv fv ea wa) (ws:List (List UInt8)) (W:World) (hS:PSt B b Tb w0 ws W) (hlen:(yaz (ws++([w_select]++([[42]]++([w_from,n]++(yar { cm0 with kind:=13,name:=n,fields:=l,all:=a,wh:=x,order:=o,limit:=m }++([w_order,w_by,o]))))))).length≤1000000) :
  Calls Tryz.prog 102 #[.pointer (some ⟨b,0,none⟩),.agg (cmL { cm0 with kind:=13,name:=n,fields:=l,all:=a,wh:=x,order:=o,limit:=m } cv vv fv ea wa).toArray] W (ybb B b Tb w0 (ws++([w_select]++([[42]]++([w_from,n]++(yar { cm0 with kind:=13,name:=n,fields:=l,all:=a,wh:=x,order:=o,limit:=m }++([w_order,w_by,o])))))) W):=by
 have L:∀ p q:List (List UInt8),p++q=ws++([w_select]++([[42]]++([w_from,n]++(yar { cm0 with kind:=13,name:=n,fields:=l,all:=a,wh:=x,order:=o,limit:=m }++([w_order,w_by,o])))))→(yaz p).length≤1000000:=fun p q e=>Nat.le_trans (yaM p q) (by rw [e];exact hlen)
 have hp:=yae (yc8 k hS (.cells #[.pointer (some ⟨b,0,none⟩)] 117) (.cells (cmL { cm0 with kind:=13,name:=n,fields:=l,all:=a,wh:=x,order:=o,limit:=m } cv vv fv ea wa).toArray 31) [w_select] 1 #[.string ⟨w_select.toArray⟩] rfl rfl (by intro x hx;simp at hx;subst hx;decide) (L _ ([[42]]++([w_from,n]++(yar { cm0 with kind:=13,name:=n,fields:=l,all:=a,wh:=x,order:=o,limit:=m }++([w_order,w_by,o])))) (by simp only [List.append_assoc])) (by decide))
 have b1:=(Below.refl W.heap.size W).alloc (Nat.le_refl _) (.cells #[.pointer (some ⟨b,0,none⟩)] 117)
 have B0:=yae (b1.alloc (by simp) (.cells (cmL { cm0 with kind:=13,name:=n,fields:=l,all:=a,wh:=x,order:=o,limit:=m } cv vv fv ea wa).toArray 31))
 have hbW:b < W.heap.size:=hS.pr.lt
 obtain ⟨ao,ca,e0,h1⟩:=hi.fields.slice
 have e1:fv=.slice ao 0 ca:=by rw [e0];simp [hl0]
 have HS1:=yae (fun w1 (s1:PSt B b Tb w0 (ws++[w_select]) w1)=>ycb k s1 [[42]] 1 #[.string ⟨#[42]⟩] rfl rfl (by intro x hx;simp at hx;subst hx;decide) (L _ ([w_from,n]++(yar { cm0 with kind:=13,name:=n,fields:=l,all:=a,wh:=x,order:=o,limit:=m }++([w_order,w_by,o]))) (by simp only [List.append_assoc])) (by decide))
 have HS2:=yae (fun (f:Value) w2 (s2:PSt B b Tb w0 (ws++[w_select]++[[42]]) w2)=>ydT (Tb:=Tb) (w0:=w0) ao ca f (ws++[w_select]++[[42]]) w2 s2)
 have HF:=yae (fun w3 (s3:PSt B b Tb w0 (ws++[w_select]++[[42]]) w3)=>ycQ k s3 [w_from,n] 2 #[.string ⟨w_from.toArray⟩,.string ⟨n.toArray⟩] rfl rfl (by intro x hx;simp at hx;rcases hx with rfl|rfl <;> first|assumption|decide) (L _ (yar { cm0 with kind:=13,name:=n,fields:=l,all:=a,wh:=x,order:=o,limit:=m }++([w_order,w_by,o])) (by simp only [List.append_assoc])) (by decide))
 have HWh:=yae (fun w4 (s4:PSt B b Tb w0 (ws++[w_select]++[[42]]++[w_from,n]) w4)=>ybW k hw { cm0 with kind:=13,name:=n,fields:=l,all:=a,wh:=x,order:=o,limit:=m } cv vv fv ea wa hi.wh hr (ws++[w_select]++[[42]]++[w_from,n]) w4 s4 (L _ ([w_order,w_by,o]) (by simp only [List.append_assoc])))
 have HO:=yae (fun w5 (s5:PSt B b Tb w0 (ws++[w_select]++[[42]]++[w_from,n]++yar { cm0 with kind:=13,name:=n,fields:=l,all:=a,wh:=x,order:=o,limit:=m }) w5)=>ycQ k s5 [w_order,w_by,o] 3 #[.string ⟨w_order.toArray⟩,.string ⟨w_by.toArray⟩,.string ⟨o.toArray⟩] rfl rfl (by intro x hx;simp at hx;rcases hx with rfl|rfl|rfl <;> first|assumption|decide) (L _ ([]) (by simp only [List.append_assoc,List.append_nil])) (by decide))
 have qo:o.isEmpty=false:=by cases o with|nil=>exact absurd rfl ho|cons _ _=>rfl
 have qm:¬ ((0:Int)≤m):=by omega
 have K:=yae k
 have hcm:∀ w1:World,w1.heap[W.heap.size+1]?=some (.cells (cmL { cm0 with kind:=13,name:=n,fields:=l,all:=a,wh:=x,order:=o,limit:=m } cv vv fv ea wa).toArray 31)→(w1.cell? ⟨W.heap.size+1,1,none⟩=some (.string ⟨n.toArray⟩)∧w1.cell? ⟨W.heap.size+1,10,none⟩=some fv∧w1.cell? ⟨W.heap.size+1,24,none⟩=some (.string ⟨o.toArray⟩)∧w1.cell? ⟨W.heap.size+1,25,none⟩=some (.int .i64 m)):=fun w1 kb=>⟨by rw [Lib.cell_of_heap kb];rfl,by rw [Lib.cell_of_heap kb];rfl,by rw [Lib.cell_of_heap kb];rfl,by rw [Lib.cell_of_heap kb];rfl⟩
 have HC:=yae hcm
 have hvv:∀ w1:World,w1.heap[W.heap.size]?=some (.cells #[.pointer (some ⟨b,0,none⟩)] 117)→w1.cell? ⟨W.heap.size,0,none⟩=some (.pointer (some ⟨b,0,none⟩)):=fun w1 kb=>by rw [Lib.cell_of_heap kb];rfl
 have HVV:=yae hvv
 clear hcm hvv hlen hS L k hn hr hi hw  h1 hm ho
 subst e1
 subst hl0
 unfold cmL
 simp only [cm0]
 go_enter Tryz.func102,Tryz.ntmps102
 go_wp2_with fail
 refine hp.out.mono ?_
 rintro e w1 ⟨rfl,s1,o1⟩
 have ka:((W.alloc (.cells #[.pointer (some ⟨b,0,none⟩)] 117)).alloc (.cells (cmL { cm0 with kind:=13,name:=n,fields:=[],all:=a,wh:=x,order:=o,limit:=m } cv vv (.slice ao 0 ca) ea wa).toArray 31)).heap[W.heap.size+1]?=some (.cells (cmL { cm0 with kind:=13,name:=n,fields:=[],all:=a,wh:=x,order:=o,limit:=m } cv vv (.slice ao 0 ca) ea wa).toArray 31):=by
  have:=heap_alloc_new (W.alloc (.cells #[.pointer (some ⟨b,0,none⟩)] 117)) (.cells (cmL { cm0 with kind:=13,name:=n,fields:=[],all:=a,wh:=x,order:=o,limit:=m } cv vv (.slice ao 0 ca) ea wa).toArray 31)
  rwa [show (W.alloc (.cells #[.pointer (some ⟨b,0,none⟩)] 117)).heap.size=W.heap.size+1 by simp] at this
 have kv:((W.alloc (.cells #[.pointer (some ⟨b,0,none⟩)] 117)).alloc (.cells (cmL { cm0 with kind:=13,name:=n,fields:=[],all:=a,wh:=x,order:=o,limit:=m } cv vv (.slice ao 0 ca) ea wa).toArray 31)).heap[W.heap.size]?=some (.cells #[.pointer (some ⟨b,0,none⟩)] 117):=(Below.heap_alloc _ _ _ (by simp)).trans (heap_alloc_new W _)
 have ka:=yae (o1 _ _ ka (by simp;omega) (by intro c f e;cases e))
 have kv:=yae (o1 _ _ kv (by simp;omega) (by intro c f e;cases e))
 obtain ⟨d1,d10,d24,d25⟩:=HC.out w1 ka.out
 have dv:=HVV.out w1 kv.out
 clear d1
 clear d24
 clear d25
 have l1:W.heap.size < w1.heap.size:=(ltS kv.out)
 have l2:W.heap.size+1 < w1.heap.size:=(ltS ka.out)
 have l3:W.heap.size≠w1.heap.size:=Nat.ne_of_lt l1
 have l4:W.heap.size+1≠w1.heap.size:=Nat.ne_of_lt l2
 have O1:=yae o1
 have HY:=yae (HS1.out w1 s1)
 clear s1 o1 hp HS1
 go_wp2_with fail
 refine HY.out.mono ?_
 rintro e w2 ⟨rfl,s2,o2⟩
 clear dv d10
 have ka:=yae (o2 _ _ ka.out (by simp;omega) (by intro c f e;cases e))
 have kv:=yae (o2 _ _ kv.out (by simp;omega) (by intro c f e;cases e))
 obtain ⟨d1,d10,d24,d25⟩:=HC.out w2 ka.out
 have dv:=HVV.out w2 kv.out
 clear d1
 clear d24
 clear d25
 clear l1 l2 l3 l4
 have l1:W.heap.size < w2.heap.size:=(ltS kv.out)
 have l2:W.heap.size+1 < w2.heap.size:=(ltS ka.out)
 have l3:W.heap.size≠w2.heap.size:=Nat.ne_of_lt l1
 have l4:W.heap.size+1≠w2.heap.size:=Nat.ne_of_lt l2
 have O2:=yae o2
 have HZ:=yae (fun f=>HS2.out f w2 s2)
 clear s2 o2 HY HS2
 go_wp2_with fail
 refine (HZ.out _).mono ?_
 rintro e w3 ⟨rfl,s3,o3⟩
 clear dv d10
 have ka:=yae (o3 _ _ ka.out (by simp;omega) (by intro c f e;cases e))
 have kv:=yae (o3 _ _ kv.out (by simp;omega) (by intro c f e;cases e))
 obtain ⟨d1,d10,d24,d25⟩:=HC.out w3 ka.out
 have dv:=HVV.out w3 kv.out
 clear d10
 clear d24
 clear d25
 clear l1 l2 l3 l4
 have l1:W.heap.size < w3.heap.size:=(ltS kv.out)
 have l2:W.heap.size+1 < w3.heap.size:=(ltS ka.out)
 have l3:W.heap.size≠w3.heap.size:=Nat.ne_of_lt l1
 have l4:W.heap.size+1≠w3.heap.size:=Nat.ne_of_lt l2
 have O3:=yae o3
 have HY3:=yae (HF.out w3 s3)
 clear s3 o3 HZ HF
 go_wp2_with fail
 go_region_law (first|(go_simp;refine HY3.out.mono ?_;rintro e w4 ⟨rfl,s4,o4⟩;dsimp only))
 all_goals
  have o4':Lib.OthersKept 5 (some b) w3 w4:=fun q ob hq hne hty=>o4 q ob hq hne hty
  clear dv d1
  have ka:=yae (o4' _ _ ka.out (by simp;omega) (by intro c f e;cases e))
  have kv:=yae (o4' _ _ kv.out (by simp;omega) (by intro c f e;cases e))
  obtain ⟨d1,d10,d24,d25⟩:=HC.out w4 ka.out
  have dv:=HVV.out w4 kv.out
  clear d1
  clear d10
  clear d24
  clear d25
  clear l1 l2 l3 l4
  have l1:W.heap.size < w4.heap.size:=(ltS kv.out)
  have l2:W.heap.size+1 < w4.heap.size:=(ltS ka.out)
  have l3:W.heap.size≠w4.heap.size:=Nat.ne_of_lt l1
  have l4:W.heap.size+1≠w4.heap.size:=Nat.ne_of_lt l2
  have O4:=yae o4'
  have HY4:=yae (HWh.out w4 s4)
  clear s4 o4 o4' HY3 HWh
  go_wp2_with (first|(refine yaf 31 _ rfl rfl _ (cmL { cm0 with kind:=13,name:=n,fields:=[],all:=a,wh:=x,order:=o,limit:=m } cv vv (.slice ao 0 ca) ea wa) 31 _ rfl (by exact ka.out) Tryz.underlying31 rfl Tryz.size31 ?_)|fail)
  refine HY4.out.mono ?_
  rintro e w5 ⟨rfl,s5,o5⟩
  clear dv
  have ka:=yae (o5 _ _ ka.out (by simp;omega) (by intro c f e;cases e))
  have kv:=yae (o5 _ _ kv.out (by simp;omega) (by intro c f e;cases e))
  obtain ⟨d1,d10,d24,d25⟩:=HC.out w5 ka.out
  have dv:=HVV.out w5 kv.out
  clear d1
  clear d10
  clear l1 l2 l3 l4
  have l1:W.heap.size < w5.heap.size:=(ltS kv.out)
  have l2:W.heap.size+1 < w5.heap.size:=(ltS ka.out)
  have l3:W.heap.size≠w5.heap.size:=Nat.ne_of_lt l1
  have l4:W.heap.size+1≠w5.heap.size:=Nat.ne_of_lt l2
  have O5:=yae o5
  have KEPT:Hid (Lib.OthersKept 5 (some b) W w5):=fun q ob hq hne hty=>O5.out q ob (O4.out q ob (O3.out q ob (O2.out q ob (O1.out q ob (yao (b:=b) B0.out q ob hq hne hty) hne hty) hne hty) hne hty) hne hty) hne hty
  clear o5 HY4
  have HY5:=yae (HO.out w5 s5)
  clear s5 HO
  go_wp2_with fail
  go_region_law (first|(go_simp;refine HY5.out.mono ?_;rintro e w6 ⟨rfl,s6,o6⟩;dsimp only))
  all_goals
   have o6':Lib.OthersKept 5 (some b) w5 w6:=fun q ob hq hne hty=>o6 q ob hq hne hty
   clear dv d24 d25
   have ka:=yae (o6' _ _ ka.out (by simp;omega) (by intro c f e;cases e))
   have kv:=yae (o6' _ _ kv.out (by simp;omega) (by intro c f e;cases e))
   obtain ⟨d1,d10,d24,d25⟩:=HC.out w6 ka.out
   have dv:=HVV.out w6 kv.out
   clear d1
   clear d10
   clear d24
   clear l1 l2 l3 l4
   have l1:W.heap.size < w6.heap.size:=(ltS kv.out)
   have l2:W.heap.size+1 < w6.heap.size:=(ltS ka.out)
   have l3:W.heap.size≠w6.heap.size:=Nat.ne_of_lt l1
   have l4:W.heap.size+1≠w6.heap.size:=Nat.ne_of_lt l2
   have KEP2:Hid (Lib.OthersKept 5 (some b) W w6):=fun q ob hq hne hty=>o6' q ob (KEPT.out q ob hq hne hty) hne hty
   clear o6 o6' HY5
   go_wp2
   try simp only [Exit.inBlock]
   go_end0
   refine ⟨rfl, ?_,KEP2.out⟩
   have:=s6
   simp only [List.append_assoc] at this
   exact this
theorem yiE {B b:Nat} {Tb:World→Prop} {w0:World} (k:ItoaOk B Tb) (hw:w0.heap.size≤B) (n:List UInt8) (hn:n≠[]) (l:List (List UInt8)) (hl0:l≠[]) (hl:∀ x ∈ l,x≠[]) (h5:l.length≤5) (a:Bool) (x:Ex) (hr:RightW a x) (o:List UInt8) (ho:o=[]) (m:Int) (hm:0≤m∧m≤999999999) (cv vv fv ea wa:Value) (hi:CmIn 0 w0 { cm0 with kind:=13,name:=n,fields:=l,all:=a,wh:=x,order:=o,limit:=m } cv vv fv ea wa) (ws:List (List UInt8)) (W:World) (hS:PSt B b Tb w0 ws W) (hlen:(yaz (ws++([w_select]++(yaq (fun s=>[s]) l++([w_from,n]++(yar { cm0 with kind:=13,name:=n,fields:=l,all:=a,wh:=x,order:=o,limit:=m }++([w_limit,Lib.itoa m]))))))).length≤1000000) :
  Calls Tryz.prog 102 #[.pointer (some ⟨b,0,none⟩),.agg (cmL { cm0 with kind:=13,name:=n,fields:=l,all:=a,wh:=x,order:=o,limit:=m } cv vv fv ea wa).toArray] W (ybb B b Tb w0 (ws++([w_select]++(yaq (fun s=>[s]) l++([w_from,n]++(yar { cm0 with kind:=13,name:=n,fields:=l,all:=a,wh:=x,order:=o,limit:=m }++([w_limit,Lib.itoa m])))))) W):=by
 have L:∀ p q:List (List UInt8),p++q=ws++([w_select]++(yaq (fun s=>[s]) l++([w_from,n]++(yar { cm0 with kind:=13,name:=n,fields:=l,all:=a,wh:=x,order:=o,limit:=m }++([w_limit,Lib.itoa m])))))→(yaz p).length≤1000000:=fun p q e=>Nat.le_trans (yaM p q) (by rw [e];exact hlen)
 have hp:=yae (yc8 k hS (.cells #[.pointer (some ⟨b,0,none⟩)] 117) (.cells (cmL { cm0 with kind:=13,name:=n,fields:=l,all:=a,wh:=x,order:=o,limit:=m } cv vv fv ea wa).toArray 31) [w_select] 1 #[.string ⟨w_select.toArray⟩] rfl rfl (by intro x hx;simp at hx;subst hx;decide) (L _ (yaq (fun s=>[s]) l++([w_from,n]++(yar { cm0 with kind:=13,name:=n,fields:=l,all:=a,wh:=x,order:=o,limit:=m }++([w_limit,Lib.itoa m])))) (by simp only [List.append_assoc])) (by decide))
 have b1:=(Below.refl W.heap.size W).alloc (Nat.le_refl _) (.cells #[.pointer (some ⟨b,0,none⟩)] 117)
 have B0:=yae (b1.alloc (by simp) (.cells (cmL { cm0 with kind:=13,name:=n,fields:=l,all:=a,wh:=x,order:=o,limit:=m } cv vv fv ea wa).toArray 31))
 have hbW:b < W.heap.size:=hS.pr.lt
 obtain ⟨ao,ca,e0,h1⟩:=hi.fields.slice
 obtain ⟨g,og,rfl,hg,hc⟩:=h1 (List.length_pos_iff.2 hl0)
 have e1:fv=.slice (some ⟨g,og,none⟩) l.length ca:=e0
 have HS2:=yae (fun w1 (s1:PSt B b Tb w0 (ws++[w_select]) w1) (hv:w1.heap[W.heap.size]?=some (.cells #[.pointer (some ⟨b,0,none⟩)] 117))=>ydS k l g og ca W.heap.size (by omega) (fun i x hx=>by have:=hc _ _ (ybs stC (m:=1) (fun _=>rfl) l i 0 x _ hx rfl);rw [Nat.mul_one] at this;exact this) hl (by omega) (ws++[w_select]) w1 s1 hv (by omega) (L _ ([w_from,n]++(yar { cm0 with kind:=13,name:=n,fields:=l,all:=a,wh:=x,order:=o,limit:=m }++([w_limit,Lib.itoa m]))) (by simp only [List.append_assoc])))
 have HF:=yae (fun w3 (s3:PSt B b Tb w0 (ws++[w_select]++yaq (fun s=>[s]) l) w3)=>ycQ k s3 [w_from,n] 2 #[.string ⟨w_from.toArray⟩,.string ⟨n.toArray⟩] rfl rfl (by intro x hx;simp at hx;rcases hx with rfl|rfl <;> first|assumption|decide) (L _ (yar { cm0 with kind:=13,name:=n,fields:=l,all:=a,wh:=x,order:=o,limit:=m }++([w_limit,Lib.itoa m])) (by simp only [List.append_assoc])) (by decide))
 have HWh:=yae (fun w4 (s4:PSt B b Tb w0 (ws++[w_select]++yaq (fun s=>[s]) l++[w_from,n]) w4)=>ybW k hw { cm0 with kind:=13,name:=n,fields:=l,all:=a,wh:=x,order:=o,limit:=m } cv vv fv ea wa hi.wh hr (ws++[w_select]++yaq (fun s=>[s]) l++[w_from,n]) w4 s4 (L _ ([w_limit,Lib.itoa m]) (by simp only [List.append_assoc])))
 have HI:=yae (fun w6 (s6:PSt B b Tb w0 (ws++[w_select]++yaq (fun s=>[s]) l++[w_from,n]++yar { cm0 with kind:=13,name:=n,fields:=l,all:=a,wh:=x,order:=o,limit:=m }) w6)=>k.itoa m w6 s6.tb (by omega) hm.2)
 have HL:=yae (fun w7 (s7:PSt B b Tb w0 (ws++[w_select]++yaq (fun s=>[s]) l++[w_from,n]++yar { cm0 with kind:=13,name:=n,fields:=l,all:=a,wh:=x,order:=o,limit:=m }) w7)=>ycb k s7 [w_limit,Lib.itoa m] 2 #[.string ⟨w_limit.toArray⟩,.string ⟨(Lib.itoa m).toArray⟩] rfl rfl (by intro x hx;simp at hx;rcases hx with rfl|rfl <;> first|exact yfo m|decide) (L _ [] (by simp only [List.append_assoc,List.append_nil])) (by decide))
 have qm:(0:Int)≤m:=hm.1
 have K:=yae k
 have hcm:∀ w1:World,w1.heap[W.heap.size+1]?=some (.cells (cmL { cm0 with kind:=13,name:=n,fields:=l,all:=a,wh:=x,order:=o,limit:=m } cv vv fv ea wa).toArray 31)→(w1.cell? ⟨W.heap.size+1,1,none⟩=some (.string ⟨n.toArray⟩)∧w1.cell? ⟨W.heap.size+1,10,none⟩=some fv∧w1.cell? ⟨W.heap.size+1,24,none⟩=some (.string ⟨o.toArray⟩)∧w1.cell? ⟨W.heap.size+1,25,none⟩=some (.int .i64 m)):=fun w1 kb=>⟨by rw [Lib.cell_of_heap kb];rfl,by rw [Lib.cell_of_heap kb];rfl,by rw [Lib.cell_of_heap kb];rfl,by rw [Lib.cell_of_heap kb];rfl⟩
 have HC:=yae hcm
 have hvv:∀ w1:World,w1.heap[W.heap.size]?=some (.cells #[.pointer (some ⟨b,0,none⟩)] 117)→w1.cell? ⟨W.heap.size,0,none⟩=some (.pointer (some ⟨b,0,none⟩)):=fun w1 kb=>by rw [Lib.cell_of_heap kb];rfl
 have HVV:=yae hvv
 clear hcm hvv hlen hS L k hn hr hi hw  h1 hm hl h5 hg hc
 have ql:((l.length:Int) == 0)=false:=by simp [hl0]
 have qz:¬ ((l.length:Int)=0):=by simp [hl0]
 subst e1
 subst ho
 unfold cmL
 simp only [cm0]
 go_enter Tryz.func102,Tryz.ntmps102
 go_wp2_with fail
 refine hp.out.mono ?_
 rintro e w1 ⟨rfl,s1,o1⟩
 have ka:((W.alloc (.cells #[.pointer (some ⟨b,0,none⟩)] 117)).alloc (.cells (cmL { cm0 with kind:=13,name:=n,fields:=l,all:=a,wh:=x,order:=[],limit:=m } cv vv (.slice (some ⟨g,og,none⟩) l.length ca) ea wa).toArray 31)).heap[W.heap.size+1]?=some (.cells (cmL { cm0 with kind:=13,name:=n,fields:=l,all:=a,wh:=x,order:=[],limit:=m } cv vv (.slice (some ⟨g,og,none⟩) l.length ca) ea wa).toArray 31):=by
  have:=heap_alloc_new (W.alloc (.cells #[.pointer (some ⟨b,0,none⟩)] 117)) (.cells (cmL { cm0 with kind:=13,name:=n,fields:=l,all:=a,wh:=x,order:=[],limit:=m } cv vv (.slice (some ⟨g,og,none⟩) l.length ca) ea wa).toArray 31)
  rwa [show (W.alloc (.cells #[.pointer (some ⟨b,0,none⟩)] 117)).heap.size=W.heap.size+1 by simp] at this
 have kv:((W.alloc (.cells #[.pointer (some ⟨b,0,none⟩)] 117)).alloc (.cells (cmL { cm0 with kind:=13,name:=n,fields:=l,all:=a,wh:=x,order:=[],limit:=m } cv vv (.slice (some ⟨g,og,none⟩) l.length ca) ea wa).toArray 31)).heap[W.heap.size]?=some (.cells #[.pointer (some ⟨b,0,none⟩)] 117):=(Below.heap_alloc _ _ _ (by simp)).trans (heap_alloc_new W _)
 have ka:=yae (o1 _ _ ka (by simp;omega) (by intro c f e;cases e))
 have kv:=yae (o1 _ _ kv (by simp;omega) (by intro c f e;cases e))
 obtain ⟨d1,d10,d24,d25⟩:=HC.out w1 ka.out
 have dv:=HVV.out w1 kv.out
 clear d1
 clear d24
 clear d25
 have l1:W.heap.size < w1.heap.size:=(ltS kv.out)
 have l2:W.heap.size+1 < w1.heap.size:=(ltS ka.out)
 have l3:W.heap.size≠w1.heap.size:=Nat.ne_of_lt l1
 have l4:W.heap.size+1≠w1.heap.size:=Nat.ne_of_lt l2
 have O1:=yae o1
 have HZ:=yae (HS2.out w1 s1 kv.out)
 clear s1 o1 hp HS2
 have O2:Hid (Lib.OthersKept 5 (some b) w1 w1):=Lib.OthersKept.refl _ _ _
 go_wp2_with fail
 refine HZ.out.mono ?_
 rintro e w3 ⟨rfl,s3,o3⟩
 clear dv d10
 have ka:=yae (o3 _ _ ka.out (by simp;omega) (by intro c f e;cases e))
 have kv:=yae (o3 _ _ kv.out (by simp;omega) (by intro c f e;cases e))
 obtain ⟨d1,d10,d24,d25⟩:=HC.out w3 ka.out
 have dv:=HVV.out w3 kv.out
 clear d10
 clear d24
 clear d25
 clear l1 l2 l3 l4
 have l1:W.heap.size < w3.heap.size:=(ltS kv.out)
 have l2:W.heap.size+1 < w3.heap.size:=(ltS ka.out)
 have l3:W.heap.size≠w3.heap.size:=Nat.ne_of_lt l1
 have l4:W.heap.size+1≠w3.heap.size:=Nat.ne_of_lt l2
 have O3:=yae o3
 have HY3:=yae (HF.out w3 s3)
 clear s3 o3 HZ HF
 go_wp2_with fail
 go_region_law (first|(go_simp;refine HY3.out.mono ?_;rintro e w4 ⟨rfl,s4,o4⟩;dsimp only))
 all_goals
  have o4':Lib.OthersKept 5 (some b) w3 w4:=fun q ob hq hne hty=>o4 q ob hq hne hty
  clear dv d1
  have ka:=yae (o4' _ _ ka.out (by simp;omega) (by intro c f e;cases e))
  have kv:=yae (o4' _ _ kv.out (by simp;omega) (by intro c f e;cases e))
  obtain ⟨d1,d10,d24,d25⟩:=HC.out w4 ka.out
  have dv:=HVV.out w4 kv.out
  clear d1
  clear d10
  clear d24
  clear d25
  clear l1 l2 l3 l4
  have l1:W.heap.size < w4.heap.size:=(ltS kv.out)
  have l2:W.heap.size+1 < w4.heap.size:=(ltS ka.out)
  have l3:W.heap.size≠w4.heap.size:=Nat.ne_of_lt l1
  have l4:W.heap.size+1≠w4.heap.size:=Nat.ne_of_lt l2
  have O4:=yae o4'
  have HY4:=yae (HWh.out w4 s4)
  clear s4 o4 o4' HY3 HWh
  go_wp2_with (first|(refine yaf 31 _ rfl rfl _ (cmL { cm0 with kind:=13,name:=n,fields:=l,all:=a,wh:=x,order:=[],limit:=m } cv vv (.slice (some ⟨g,og,none⟩) l.length ca) ea wa) 31 _ rfl (by exact ka.out) Tryz.underlying31 rfl Tryz.size31 ?_)|fail)
  refine HY4.out.mono ?_
  rintro e w5 ⟨rfl,s5,o5⟩
  clear dv
  have ka:=yae (o5 _ _ ka.out (by simp;omega) (by intro c f e;cases e))
  have kv:=yae (o5 _ _ kv.out (by simp;omega) (by intro c f e;cases e))
  obtain ⟨d1,d10,d24,d25⟩:=HC.out w5 ka.out
  have dv:=HVV.out w5 kv.out
  clear d1
  clear d10
  clear l1 l2 l3 l4
  have l1:W.heap.size < w5.heap.size:=(ltS kv.out)
  have l2:W.heap.size+1 < w5.heap.size:=(ltS ka.out)
  have l3:W.heap.size≠w5.heap.size:=Nat.ne_of_lt l1
  have l4:W.heap.size+1≠w5.heap.size:=Nat.ne_of_lt l2
  have O5:=yae o5
  have KEPT:Hid (Lib.OthersKept 5 (some b) W w5):=fun q ob hq hne hty=>O5.out q ob (O4.out q ob (O3.out q ob (O2.out q ob (O1.out q ob (yao (b:=b) B0.out q ob hq hne hty) hne hty) hne hty) hne hty) hne hty) hne hty
  clear o5 HY4
  have HY6:=yae (HI.out w5.drew (s5.below K.out (Below.refl _ _).drew))
  have SS:=yae s5
  clear s5 HI
  go_wp2_with fail
  go_region_law (first|(go_simp;refine HY6.out.mono ?_;rintro e w7 ⟨rfl,b7⟩;dsimp only;have kv7:=yae (yao (b:=b) b7 _ _ (show w5.drew.heap[W.heap.size]?=_ from kv.out) (by simp;omega) (by intro c f e;cases e));have ka7:=yae (yao (b:=b) b7 _ _ (show w5.drew.heap[W.heap.size+1]?=_ from ka.out) (by simp;omega) (by intro c f e;cases e));have dv7:=HVV.out w7 kv7.out;have m1:W.heap.size < w7.heap.size:=(ltS kv7.out);have m3:W.heap.size≠w7.heap.size:=Nat.ne_of_lt m1)|(go_simp;refine (HL.out w7 (SS.out.below K.out ((Below.refl _ _).drew.trans b7))).mono ?_;rintro e w8 ⟨rfl,s8,o8⟩;dsimp only))
  all_goals
   try simp only [Exit.inBlock]
   go_end0
   refine ⟨rfl, ?_,fun q ob hq hne hty=>o8 q ob (yao (b:=b) ((Below.refl _ _).drew.trans b7) q ob (KEPT.out q ob hq hne hty) hne hty) hne hty⟩
   have:=s8
   simp only [List.append_assoc] at this
   exact this
theorem yiI {B b:Nat} {Tb:World→Prop} {w0:World} (k:ItoaOk B Tb) (hw:w0.heap.size≤B) (n:List UInt8) (hn:n≠[]) (l:List (List UInt8)) (hl0:l=[]) (a:Bool) (x:Ex) (hr:RightW a x) (o:List UInt8) (ho:o=[]) (m:Int) (hm:0≤m∧m≤999999999) (cv vv fv ea wa:Value) (hi:CmIn 0 w0 { cm0 with kind:=13,name:=n,fields:=l,all:=a,wh:=x,order:=o,limit:=m } cv vv fv ea wa) (ws:List (List UInt8)) (W:World) (hS:PSt B b Tb w0 ws W) (hlen:(yaz (ws++([w_select]++([[42]]++([w_from,n]++(yar { cm0 with kind:=13,name:=n,fields:=l,all:=a,wh:=x,order:=o,limit:=m }++([w_limit,Lib.itoa m]))))))).length≤1000000) :
  Calls Tryz.prog 102 #[.pointer (some ⟨b,0,none⟩),.agg (cmL { cm0 with kind:=13,name:=n,fields:=l,all:=a,wh:=x,order:=o,limit:=m } cv vv fv ea wa).toArray] W (ybb B b Tb w0 (ws++([w_select]++([[42]]++([w_from,n]++(yar { cm0 with kind:=13,name:=n,fields:=l,all:=a,wh:=x,order:=o,limit:=m }++([w_limit,Lib.itoa m])))))) W):=by
 have L:∀ p q:List (List UInt8),p++q=ws++([w_select]++([[42]]++([w_from,n]++(yar { cm0 with kind:=13,name:=n,fields:=l,all:=a,wh:=x,order:=o,limit:=m }++([w_limit,Lib.itoa m])))))→(yaz p).length≤1000000:=fun p q e=>Nat.le_trans (yaM p q) (by rw [e];exact hlen)
 have hp:=yae (yc8 k hS (.cells #[.pointer (some ⟨b,0,none⟩)] 117) (.cells (cmL { cm0 with kind:=13,name:=n,fields:=l,all:=a,wh:=x,order:=o,limit:=m } cv vv fv ea wa).toArray 31) [w_select] 1 #[.string ⟨w_select.toArray⟩] rfl rfl (by intro x hx;simp at hx;subst hx;decide) (L _ ([[42]]++([w_from,n]++(yar { cm0 with kind:=13,name:=n,fields:=l,all:=a,wh:=x,order:=o,limit:=m }++([w_limit,Lib.itoa m])))) (by simp only [List.append_assoc])) (by decide))
 have b1:=(Below.refl W.heap.size W).alloc (Nat.le_refl _) (.cells #[.pointer (some ⟨b,0,none⟩)] 117)
 have B0:=yae (b1.alloc (by simp) (.cells (cmL { cm0 with kind:=13,name:=n,fields:=l,all:=a,wh:=x,order:=o,limit:=m } cv vv fv ea wa).toArray 31))
 have hbW:b < W.heap.size:=hS.pr.lt
 obtain ⟨ao,ca,e0,h1⟩:=hi.fields.slice
 have e1:fv=.slice ao 0 ca:=by rw [e0];simp [hl0]
 have HS1:=yae (fun w1 (s1:PSt B b Tb w0 (ws++[w_select]) w1)=>ycb k s1 [[42]] 1 #[.string ⟨#[42]⟩] rfl rfl (by intro x hx;simp at hx;subst hx;decide) (L _ ([w_from,n]++(yar { cm0 with kind:=13,name:=n,fields:=l,all:=a,wh:=x,order:=o,limit:=m }++([w_limit,Lib.itoa m]))) (by simp only [List.append_assoc])) (by decide))
 have HS2:=yae (fun (f:Value) w2 (s2:PSt B b Tb w0 (ws++[w_select]++[[42]]) w2)=>ydT (Tb:=Tb) (w0:=w0) ao ca f (ws++[w_select]++[[42]]) w2 s2)
 have HF:=yae (fun w3 (s3:PSt B b Tb w0 (ws++[w_select]++[[42]]) w3)=>ycQ k s3 [w_from,n] 2 #[.string ⟨w_from.toArray⟩,.string ⟨n.toArray⟩] rfl rfl (by intro x hx;simp at hx;rcases hx with rfl|rfl <;> first|assumption|decide) (L _ (yar { cm0 with kind:=13,name:=n,fields:=l,all:=a,wh:=x,order:=o,limit:=m }++([w_limit,Lib.itoa m])) (by simp only [List.append_assoc])) (by decide))
 have HWh:=yae (fun w4 (s4:PSt B b Tb w0 (ws++[w_select]++[[42]]++[w_from,n]) w4)=>ybW k hw { cm0 with kind:=13,name:=n,fields:=l,all:=a,wh:=x,order:=o,limit:=m } cv vv fv ea wa hi.wh hr (ws++[w_select]++[[42]]++[w_from,n]) w4 s4 (L _ ([w_limit,Lib.itoa m]) (by simp only [List.append_assoc])))
 have HI:=yae (fun w6 (s6:PSt B b Tb w0 (ws++[w_select]++[[42]]++[w_from,n]++yar { cm0 with kind:=13,name:=n,fields:=l,all:=a,wh:=x,order:=o,limit:=m }) w6)=>k.itoa m w6 s6.tb (by omega) hm.2)
 have HL:=yae (fun w7 (s7:PSt B b Tb w0 (ws++[w_select]++[[42]]++[w_from,n]++yar { cm0 with kind:=13,name:=n,fields:=l,all:=a,wh:=x,order:=o,limit:=m }) w7)=>ycb k s7 [w_limit,Lib.itoa m] 2 #[.string ⟨w_limit.toArray⟩,.string ⟨(Lib.itoa m).toArray⟩] rfl rfl (by intro x hx;simp at hx;rcases hx with rfl|rfl <;> first|exact yfo m|decide) (L _ [] (by simp only [List.append_assoc,List.append_nil])) (by decide))
 have qm:(0:Int)≤m:=hm.1
 have K:=yae k
 have hcm:∀ w1:World,w1.heap[W.heap.size+1]?=some (.cells (cmL { cm0 with kind:=13,name:=n,fields:=l,all:=a,wh:=x,order:=o,limit:=m } cv vv fv ea wa).toArray 31)→(w1.cell? ⟨W.heap.size+1,1,none⟩=some (.string ⟨n.toArray⟩)∧w1.cell? ⟨W.heap.size+1,10,none⟩=some fv∧w1.cell? ⟨W.heap.size+1,24,none⟩=some (.string ⟨o.toArray⟩)∧w1.cell? ⟨W.heap.size+1,25,none⟩=some (.int .i64 m)):=fun w1 kb=>⟨by rw [Lib.cell_of_heap kb];rfl,by rw [Lib.cell_of_heap kb];rfl,by rw [Lib.cell_of_heap kb];rfl,by rw [Lib.cell_of_heap kb];rfl⟩
 have HC:=yae hcm
 have hvv:∀ w1:World,w1.heap[W.heap.size]?=some (.cells #[.pointer (some ⟨b,0,none⟩)] 117)→w1.cell? ⟨W.heap.size,0,none⟩=some (.pointer (some ⟨b,0,none⟩)):=fun w1 kb=>by rw [Lib.cell_of_heap kb];rfl
 have HVV:=yae hvv
 clear hcm hvv hlen hS L k hn hr hi hw  h1 hm
 subst e1
 subst hl0
 subst ho
 unfold cmL
 simp only [cm0]
 go_enter Tryz.func102,Tryz.ntmps102
 go_wp2_with fail
 refine hp.out.mono ?_
 rintro e w1 ⟨rfl,s1,o1⟩
 have ka:((W.alloc (.cells #[.pointer (some ⟨b,0,none⟩)] 117)).alloc (.cells (cmL { cm0 with kind:=13,name:=n,fields:=[],all:=a,wh:=x,order:=[],limit:=m } cv vv (.slice ao 0 ca) ea wa).toArray 31)).heap[W.heap.size+1]?=some (.cells (cmL { cm0 with kind:=13,name:=n,fields:=[],all:=a,wh:=x,order:=[],limit:=m } cv vv (.slice ao 0 ca) ea wa).toArray 31):=by
  have:=heap_alloc_new (W.alloc (.cells #[.pointer (some ⟨b,0,none⟩)] 117)) (.cells (cmL { cm0 with kind:=13,name:=n,fields:=[],all:=a,wh:=x,order:=[],limit:=m } cv vv (.slice ao 0 ca) ea wa).toArray 31)
  rwa [show (W.alloc (.cells #[.pointer (some ⟨b,0,none⟩)] 117)).heap.size=W.heap.size+1 by simp] at this
 have kv:((W.alloc (.cells #[.pointer (some ⟨b,0,none⟩)] 117)).alloc (.cells (cmL { cm0 with kind:=13,name:=n,fields:=[],all:=a,wh:=x,order:=[],limit:=m } cv vv (.slice ao 0 ca) ea wa).toArray 31)).heap[W.heap.size]?=some (.cells #[.pointer (some ⟨b,0,none⟩)] 117):=(Below.heap_alloc _ _ _ (by simp)).trans (heap_alloc_new W _)
 have ka:=yae (o1 _ _ ka (by simp;omega) (by intro c f e;cases e))
 have kv:=yae (o1 _ _ kv (by simp;omega) (by intro c f e;cases e))
 obtain ⟨d1,d10,d24,d25⟩:=HC.out w1 ka.out
 have dv:=HVV.out w1 kv.out
 clear d1
 clear d24
 clear d25
 have l1:W.heap.size < w1.heap.size:=(ltS kv.out)
 have l2:W.heap.size+1 < w1.heap.size:=(ltS ka.out)
 have l3:W.heap.size≠w1.heap.size:=Nat.ne_of_lt l1
 have l4:W.heap.size+1≠w1.heap.size:=Nat.ne_of_lt l2
 have O1:=yae o1
 have HY:=yae (HS1.out w1 s1)
 clear s1 o1 hp HS1
 go_wp2_with fail
 refine HY.out.mono ?_
 rintro e w2 ⟨rfl,s2,o2⟩
 clear dv d10
 have ka:=yae (o2 _ _ ka.out (by simp;omega) (by intro c f e;cases e))
 have kv:=yae (o2 _ _ kv.out (by simp;omega) (by intro c f e;cases e))
 obtain ⟨d1,d10,d24,d25⟩:=HC.out w2 ka.out
 have dv:=HVV.out w2 kv.out
 clear d1
 clear d24
 clear d25
 clear l1 l2 l3 l4
 have l1:W.heap.size < w2.heap.size:=(ltS kv.out)
 have l2:W.heap.size+1 < w2.heap.size:=(ltS ka.out)
 have l3:W.heap.size≠w2.heap.size:=Nat.ne_of_lt l1
 have l4:W.heap.size+1≠w2.heap.size:=Nat.ne_of_lt l2
 have O2:=yae o2
 have HZ:=yae (fun f=>HS2.out f w2 s2)
 clear s2 o2 HY HS2
 go_wp2_with fail
 refine (HZ.out _).mono ?_
 rintro e w3 ⟨rfl,s3,o3⟩
 clear dv d10
 have ka:=yae (o3 _ _ ka.out (by simp;omega) (by intro c f e;cases e))
 have kv:=yae (o3 _ _ kv.out (by simp;omega) (by intro c f e;cases e))
 obtain ⟨d1,d10,d24,d25⟩:=HC.out w3 ka.out
 have dv:=HVV.out w3 kv.out
 clear d10
 clear d24
 clear d25
 clear l1 l2 l3 l4
 have l1:W.heap.size < w3.heap.size:=(ltS kv.out)
 have l2:W.heap.size+1 < w3.heap.size:=(ltS ka.out)
 have l3:W.heap.size≠w3.heap.size:=Nat.ne_of_lt l1
 have l4:W.heap.size+1≠w3.heap.size:=Nat.ne_of_lt l2
 have O3:=yae o3
 have HY3:=yae (HF.out w3 s3)
 clear s3 o3 HZ HF
 go_wp2_with fail
 go_region_law (first|(go_simp;refine HY3.out.mono ?_;rintro e w4 ⟨rfl,s4,o4⟩;dsimp only))
 all_goals
  have o4':Lib.OthersKept 5 (some b) w3 w4:=fun q ob hq hne hty=>o4 q ob hq hne hty
  clear dv d1
  have ka:=yae (o4' _ _ ka.out (by simp;omega) (by intro c f e;cases e))
  have kv:=yae (o4' _ _ kv.out (by simp;omega) (by intro c f e;cases e))
  obtain ⟨d1,d10,d24,d25⟩:=HC.out w4 ka.out
  have dv:=HVV.out w4 kv.out
  clear d1
  clear d10
  clear d24
  clear d25
  clear l1 l2 l3 l4
  have l1:W.heap.size < w4.heap.size:=(ltS kv.out)
  have l2:W.heap.size+1 < w4.heap.size:=(ltS ka.out)
  have l3:W.heap.size≠w4.heap.size:=Nat.ne_of_lt l1
  have l4:W.heap.size+1≠w4.heap.size:=Nat.ne_of_lt l2
  have O4:=yae o4'
  have HY4:=yae (HWh.out w4 s4)
  clear s4 o4 o4' HY3 HWh
  go_wp2_with (first|(refine yaf 31 _ rfl rfl _ (cmL { cm0 with kind:=13,name:=n,fields:=[],all:=a,wh:=x,order:=[],limit:=m } cv vv (.slice ao 0 ca) ea wa) 31 _ rfl (by exact ka.out) Tryz.underlying31 rfl Tryz.size31 ?_)|fail)
  refine HY4.out.mono ?_
  rintro e w5 ⟨rfl,s5,o5⟩
  clear dv
  have ka:=yae (o5 _ _ ka.out (by simp;omega) (by intro c f e;cases e))
  have kv:=yae (o5 _ _ kv.out (by simp;omega) (by intro c f e;cases e))
  obtain ⟨d1,d10,d24,d25⟩:=HC.out w5 ka.out
  have dv:=HVV.out w5 kv.out
  clear d1
  clear d10
  clear l1 l2 l3 l4
  have l1:W.heap.size < w5.heap.size:=(ltS kv.out)
  have l2:W.heap.size+1 < w5.heap.size:=(ltS ka.out)
  have l3:W.heap.size≠w5.heap.size:=Nat.ne_of_lt l1
  have l4:W.heap.size+1≠w5.heap.size:=Nat.ne_of_lt l2
  have O5:=yae o5
  have KEPT:Hid (Lib.OthersKept 5 (some b) W w5):=fun q ob hq hne hty=>O5.out q ob (O4.out q ob (O3.out q ob (O2.out q ob (O1.out q ob (yao (b:=b) B0.out q ob hq hne hty) hne hty) hne hty) hne hty) hne hty) hne hty
  clear o5 HY4
  have HY6:=yae (HI.out w5.drew (s5.below K.out (Below.refl _ _).drew))
  have SS:=yae s5
  clear s5 HI
  go_wp2_with fail
  go_region_law (first|(go_simp;refine HY6.out.mono ?_;rintro e w7 ⟨rfl,b7⟩;dsimp only;have kv7:=yae (yao (b:=b) b7 _ _ (show w5.drew.heap[W.heap.size]?=_ from kv.out) (by simp;omega) (by intro c f e;cases e));have ka7:=yae (yao (b:=b) b7 _ _ (show w5.drew.heap[W.heap.size+1]?=_ from ka.out) (by simp;omega) (by intro c f e;cases e));have dv7:=HVV.out w7 kv7.out;have m1:W.heap.size < w7.heap.size:=(ltS kv7.out);have m3:W.heap.size≠w7.heap.size:=Nat.ne_of_lt m1)|(go_simp;refine (HL.out w7 (SS.out.below K.out ((Below.refl _ _).drew.trans b7))).mono ?_;rintro e w8 ⟨rfl,s8,o8⟩;dsimp only))
  all_goals
   try simp only [Exit.inBlock]
   go_end0
   refine ⟨rfl, ?_,fun q ob hq hne hty=>o8 q ob (yao (b:=b) ((Below.refl _ _).drew.trans b7) q ob (KEPT.out q ob hq hne hty) hne hty) hne hty⟩
   have:=s8
   simp only [List.append_assoc] at this
   exact this
theorem yiG {B b:Nat} {Tb:World→Prop} {w0:World} (k:ItoaOk B Tb) (hw:w0.heap.size≤B) (n:List UInt8) (hn:n≠[]) (l:List (List UInt8)) (hl0:l≠[]) (hl:∀ x ∈ l,x≠[]) (h5:l.length≤5) (a:Bool) (x:Ex) (hr:RightW a x) (o:List UInt8) (ho:o≠[]) (m:Int) (hm:0≤m∧m≤999999999) (cv vv fv ea wa:Value) (hi:CmIn 0 w0 { cm0 with kind:=13,name:=n,fields:=l,all:=a,wh:=x,order:=o,limit:=m } cv vv fv ea wa) (ws:List (List UInt8)) (W:World) (hS:PSt B b Tb w0 ws W) (hlen:(yaz (ws++([w_select]++(yaq (fun s=>[s]) l++([w_from,n]++(yar { cm0 with kind:=13,name:=n,fields:=l,all:=a,wh:=x,order:=o,limit:=m }++([w_order,w_by,o]++([w_limit,Lib.itoa m])))))))).length≤1000000) :
  Calls Tryz.prog 102 #[.pointer (some ⟨b,0,none⟩),.agg (cmL { cm0 with kind:=13,name:=n,fields:=l,all:=a,wh:=x,order:=o,limit:=m } cv vv fv ea wa).toArray] W (ybb B b Tb w0 (ws++([w_select]++(yaq (fun s=>[s]) l++([w_from,n]++(yar { cm0 with kind:=13,name:=n,fields:=l,all:=a,wh:=x,order:=o,limit:=m }++([w_order,w_by,o]++([w_limit,Lib.itoa m]))))))) W):=by
 have L:∀ p q:List (List UInt8),p++q=ws++([w_select]++(yaq (fun s=>[s]) l++([w_from,n]++(yar { cm0 with kind:=13,name:=n,fields:=l,all:=a,wh:=x,order:=o,limit:=m }++([w_order,w_by,o]++([w_limit,Lib.itoa m]))))))→(yaz p).length≤1000000:=fun p q e=>Nat.le_trans (yaM p q) (by rw [e];exact hlen)
 have hp:=yae (yc8 k hS (.cells #[.pointer (some ⟨b,0,none⟩)] 117) (.cells (cmL { cm0 with kind:=13,name:=n,fields:=l,all:=a,wh:=x,order:=o,limit:=m } cv vv fv ea wa).toArray 31) [w_select] 1 #[.string ⟨w_select.toArray⟩] rfl rfl (by intro x hx;simp at hx;subst hx;decide) (L _ (yaq (fun s=>[s]) l++([w_from,n]++(yar { cm0 with kind:=13,name:=n,fields:=l,all:=a,wh:=x,order:=o,limit:=m }++([w_order,w_by,o]++([w_limit,Lib.itoa m]))))) (by simp only [List.append_assoc])) (by decide))
 have b1:=(Below.refl W.heap.size W).alloc (Nat.le_refl _) (.cells #[.pointer (some ⟨b,0,none⟩)] 117)
 have B0:=yae (b1.alloc (by simp) (.cells (cmL { cm0 with kind:=13,name:=n,fields:=l,all:=a,wh:=x,order:=o,limit:=m } cv vv fv ea wa).toArray 31))
 have hbW:b < W.heap.size:=hS.pr.lt
 obtain ⟨ao,ca,e0,h1⟩:=hi.fields.slice
 obtain ⟨g,og,rfl,hg,hc⟩:=h1 (List.length_pos_iff.2 hl0)
 have e1:fv=.slice (some ⟨g,og,none⟩) l.length ca:=e0
 have HS2:=yae (fun w1 (s1:PSt B b Tb w0 (ws++[w_select]) w1) (hv:w1.heap[W.heap.size]?=some (.cells #[.pointer (some ⟨b,0,none⟩)] 117))=>ydS k l g og ca W.heap.size (by omega) (fun i x hx=>by have:=hc _ _ (ybs stC (m:=1) (fun _=>rfl) l i 0 x _ hx rfl);rw [Nat.mul_one] at this;exact this) hl (by omega) (ws++[w_select]) w1 s1 hv (by omega) (L _ ([w_from,n]++(yar { cm0 with kind:=13,name:=n,fields:=l,all:=a,wh:=x,order:=o,limit:=m }++([w_order,w_by,o]++([w_limit,Lib.itoa m])))) (by simp only [List.append_assoc])))
 have HF:=yae (fun w3 (s3:PSt B b Tb w0 (ws++[w_select]++yaq (fun s=>[s]) l) w3)=>ycQ k s3 [w_from,n] 2 #[.string ⟨w_from.toArray⟩,.string ⟨n.toArray⟩] rfl rfl (by intro x hx;simp at hx;rcases hx with rfl|rfl <;> first|assumption|decide) (L _ (yar { cm0 with kind:=13,name:=n,fields:=l,all:=a,wh:=x,order:=o,limit:=m }++([w_order,w_by,o]++([w_limit,Lib.itoa m]))) (by simp only [List.append_assoc])) (by decide))
 have HWh:=yae (fun w4 (s4:PSt B b Tb w0 (ws++[w_select]++yaq (fun s=>[s]) l++[w_from,n]) w4)=>ybW k hw { cm0 with kind:=13,name:=n,fields:=l,all:=a,wh:=x,order:=o,limit:=m } cv vv fv ea wa hi.wh hr (ws++[w_select]++yaq (fun s=>[s]) l++[w_from,n]) w4 s4 (L _ ([w_order,w_by,o]++([w_limit,Lib.itoa m])) (by simp only [List.append_assoc])))
 have HO:=yae (fun w5 (s5:PSt B b Tb w0 (ws++[w_select]++yaq (fun s=>[s]) l++[w_from,n]++yar { cm0 with kind:=13,name:=n,fields:=l,all:=a,wh:=x,order:=o,limit:=m }) w5)=>ycQ k s5 [w_order,w_by,o] 3 #[.string ⟨w_order.toArray⟩,.string ⟨w_by.toArray⟩,.string ⟨o.toArray⟩] rfl rfl (by intro x hx;simp at hx;rcases hx with rfl|rfl|rfl <;> first|assumption|decide) (L _ ([w_limit,Lib.itoa m]) (by simp only [List.append_assoc])) (by decide))
 have qo:o.isEmpty=false:=by cases o with|nil=>exact absurd rfl ho|cons _ _=>rfl
 have HI:=yae (fun w6 (s6:PSt B b Tb w0 (ws++[w_select]++yaq (fun s=>[s]) l++[w_from,n]++yar { cm0 with kind:=13,name:=n,fields:=l,all:=a,wh:=x,order:=o,limit:=m }++[w_order,w_by,o]) w6)=>k.itoa m w6 s6.tb (by omega) hm.2)
 have HL:=yae (fun w7 (s7:PSt B b Tb w0 (ws++[w_select]++yaq (fun s=>[s]) l++[w_from,n]++yar { cm0 with kind:=13,name:=n,fields:=l,all:=a,wh:=x,order:=o,limit:=m }++[w_order,w_by,o]) w7)=>ycb k s7 [w_limit,Lib.itoa m] 2 #[.string ⟨w_limit.toArray⟩,.string ⟨(Lib.itoa m).toArray⟩] rfl rfl (by intro x hx;simp at hx;rcases hx with rfl|rfl <;> first|exact yfo m|decide) (L _ [] (by simp only [List.append_assoc,List.append_nil])) (by decide))
 have qm:(0:Int)≤m:=hm.1
 have K:=yae k
 have hcm:∀ w1:World,w1.heap[W.heap.size+1]?=some (.cells (cmL { cm0 with kind:=13,name:=n,fields:=l,all:=a,wh:=x,order:=o,limit:=m } cv vv fv ea wa).toArray 31)→(w1.cell? ⟨W.heap.size+1,1,none⟩=some (.string ⟨n.toArray⟩)∧w1.cell? ⟨W.heap.size+1,10,none⟩=some fv∧w1.cell? ⟨W.heap.size+1,24,none⟩=some (.string ⟨o.toArray⟩)∧w1.cell? ⟨W.heap.size+1,25,none⟩=some (.int .i64 m)):=fun w1 kb=>⟨by rw [Lib.cell_of_heap kb];rfl,by rw [Lib.cell_of_heap kb];rfl,by rw [Lib.cell_of_heap kb];rfl,by rw [Lib.cell_of_heap kb];rfl⟩
 have HC:=yae hcm
 have hvv:∀ w1:World,w1.heap[W.heap.size]?=some (.cells #[.pointer (some ⟨b,0,none⟩)] 117)→w1.cell? ⟨W.heap.size,0,none⟩=some (.pointer (some ⟨b,0,none⟩)):=fun w1 kb=>by rw [Lib.cell_of_heap kb];rfl
 have HVV:=yae hvv
 clear hcm hvv hlen hS L k hn hr hi hw  h1 hm hl h5 hg hc ho
 have ql:((l.length:Int) == 0)=false:=by simp [hl0]
 have qz:¬ ((l.length:Int)=0):=by simp [hl0]
 subst e1
 unfold cmL
 simp only [cm0]
 go_enter Tryz.func102,Tryz.ntmps102
 go_wp2_with fail
 refine hp.out.mono ?_
 rintro e w1 ⟨rfl,s1,o1⟩
 have ka:((W.alloc (.cells #[.pointer (some ⟨b,0,none⟩)] 117)).alloc (.cells (cmL { cm0 with kind:=13,name:=n,fields:=l,all:=a,wh:=x,order:=o,limit:=m } cv vv (.slice (some ⟨g,og,none⟩) l.length ca) ea wa).toArray 31)).heap[W.heap.size+1]?=some (.cells (cmL { cm0 with kind:=13,name:=n,fields:=l,all:=a,wh:=x,order:=o,limit:=m } cv vv (.slice (some ⟨g,og,none⟩) l.length ca) ea wa).toArray 31):=by
  have:=heap_alloc_new (W.alloc (.cells #[.pointer (some ⟨b,0,none⟩)] 117)) (.cells (cmL { cm0 with kind:=13,name:=n,fields:=l,all:=a,wh:=x,order:=o,limit:=m } cv vv (.slice (some ⟨g,og,none⟩) l.length ca) ea wa).toArray 31)
  rwa [show (W.alloc (.cells #[.pointer (some ⟨b,0,none⟩)] 117)).heap.size=W.heap.size+1 by simp] at this
 have kv:((W.alloc (.cells #[.pointer (some ⟨b,0,none⟩)] 117)).alloc (.cells (cmL { cm0 with kind:=13,name:=n,fields:=l,all:=a,wh:=x,order:=o,limit:=m } cv vv (.slice (some ⟨g,og,none⟩) l.length ca) ea wa).toArray 31)).heap[W.heap.size]?=some (.cells #[.pointer (some ⟨b,0,none⟩)] 117):=(Below.heap_alloc _ _ _ (by simp)).trans (heap_alloc_new W _)
 have ka:=yae (o1 _ _ ka (by simp;omega) (by intro c f e;cases e))
 have kv:=yae (o1 _ _ kv (by simp;omega) (by intro c f e;cases e))
 obtain ⟨d1,d10,d24,d25⟩:=HC.out w1 ka.out
 have dv:=HVV.out w1 kv.out
 clear d1
 clear d24
 clear d25
 have l1:W.heap.size < w1.heap.size:=(ltS kv.out)
 have l2:W.heap.size+1 < w1.heap.size:=(ltS ka.out)
 have l3:W.heap.size≠w1.heap.size:=Nat.ne_of_lt l1
 have l4:W.heap.size+1≠w1.heap.size:=Nat.ne_of_lt l2
 have O1:=yae o1
 have HZ:=yae (HS2.out w1 s1 kv.out)
 clear s1 o1 hp HS2
 have O2:Hid (Lib.OthersKept 5 (some b) w1 w1):=Lib.OthersKept.refl _ _ _
 go_wp2_with fail
 refine HZ.out.mono ?_
 rintro e w3 ⟨rfl,s3,o3⟩
 clear dv d10
 have ka:=yae (o3 _ _ ka.out (by simp;omega) (by intro c f e;cases e))
 have kv:=yae (o3 _ _ kv.out (by simp;omega) (by intro c f e;cases e))
 obtain ⟨d1,d10,d24,d25⟩:=HC.out w3 ka.out
 have dv:=HVV.out w3 kv.out
 clear d10
 clear d24
 clear d25
 clear l1 l2 l3 l4
 have l1:W.heap.size < w3.heap.size:=(ltS kv.out)
 have l2:W.heap.size+1 < w3.heap.size:=(ltS ka.out)
 have l3:W.heap.size≠w3.heap.size:=Nat.ne_of_lt l1
 have l4:W.heap.size+1≠w3.heap.size:=Nat.ne_of_lt l2
 have O3:=yae o3
 have HY3:=yae (HF.out w3 s3)
 clear s3 o3 HZ HF
 go_wp2_with fail
 go_region_law (first|(go_simp;refine HY3.out.mono ?_;rintro e w4 ⟨rfl,s4,o4⟩;dsimp only))
 all_goals
  have o4':Lib.OthersKept 5 (some b) w3 w4:=fun q ob hq hne hty=>o4 q ob hq hne hty
  clear dv d1
  have ka:=yae (o4' _ _ ka.out (by simp;omega) (by intro c f e;cases e))
  have kv:=yae (o4' _ _ kv.out (by simp;omega) (by intro c f e;cases e))
  obtain ⟨d1,d10,d24,d25⟩:=HC.out w4 ka.out
  have dv:=HVV.out w4 kv.out
  clear d1
  clear d10
  clear d24
  clear d25
  clear l1 l2 l3 l4
  have l1:W.heap.size < w4.heap.size:=(ltS kv.out)
  have l2:W.heap.size+1 < w4.heap.size:=(ltS ka.out)
  have l3:W.heap.size≠w4.heap.size:=Nat.ne_of_lt l1
  have l4:W.heap.size+1≠w4.heap.size:=Nat.ne_of_lt l2
  have O4:=yae o4'
  have HY4:=yae (HWh.out w4 s4)
  clear s4 o4 o4' HY3 HWh
  go_wp2_with (first|(refine yaf 31 _ rfl rfl _ (cmL { cm0 with kind:=13,name:=n,fields:=l,all:=a,wh:=x,order:=o,limit:=m } cv vv (.slice (some ⟨g,og,none⟩) l.length ca) ea wa) 31 _ rfl (by exact ka.out) Tryz.underlying31 rfl Tryz.size31 ?_)|fail)
  refine HY4.out.mono ?_
  rintro e w5 ⟨rfl,s5,o5⟩
  clear dv
  have ka:=yae (o5 _ _ ka.out (by simp;omega) (by intro c f e;cases e))
  have kv:=yae (o5 _ _ kv.out (by simp;omega) (by intro c f e;cases e))
  obtain ⟨d1,d10,d24,d25⟩:=HC.out w5 ka.out
  have dv:=HVV.out w5 kv.out
  clear d1
  clear d10
  clear l1 l2 l3 l4
  have l1:W.heap.size < w5.heap.size:=(ltS kv.out)
  have l2:W.heap.size+1 < w5.heap.size:=(ltS ka.out)
  have l3:W.heap.size≠w5.heap.size:=Nat.ne_of_lt l1
  have l4:W.heap.size+1≠w5.heap.size:=Nat.ne_of_lt l2
  have O5:=yae o5
  have KEPT:Hid (Lib.OthersKept 5 (some b) W w5):=fun q ob hq hne hty=>O5.out q ob (O4.out q ob (O3.out q ob (O2.out q ob (O1.out q ob (yao (b:=b) B0.out q ob hq hne hty) hne hty) hne hty) hne hty) hne hty) hne hty
  clear o5 HY4
  have HY5:=yae (HO.out w5 s5)
  clear s5 HO
  go_wp2_with fail
  go_region_law (first|(go_simp;refine HY5.out.mono ?_;rintro e w6 ⟨rfl,s6,o6⟩;dsimp only))
  all_goals
   have o6':Lib.OthersKept 5 (some b) w5 w6:=fun q ob hq hne hty=>o6 q ob hq hne hty
   clear dv d24 d25
   have ka:=yae (o6' _ _ ka.out (by simp;omega) (by intro c f e;cases e))
   have kv:=yae (o6' _ _ kv.out (by simp;omega) (by intro c f e;cases e))
   obtain ⟨d1,d10,d24,d25⟩:=HC.out w6 ka.out
   have dv:=HVV.out w6 kv.out
   clear d1
   clear d10
   clear d24
   clear l1 l2 l3 l4
   have l1:W.heap.size < w6.heap.size:=(ltS kv.out)
   have l2:W.heap.size+1 < w6.heap.size:=(ltS ka.out)
   have l3:W.heap.size≠w6.heap.size:=Nat.ne_of_lt l1
   have l4:W.heap.size+1≠w6.heap.size:=Nat.ne_of_lt l2
   have KEP2:Hid (Lib.OthersKept 5 (some b) W w6):=fun q ob hq hne hty=>o6' q ob (KEPT.out q ob hq hne hty) hne hty
   clear o6 o6' HY5
   have HY6:=yae (HI.out w6.drew (s6.below K.out (Below.refl _ _).drew))
   have SS:=yae s6
   clear s6 HI
   go_wp2_with fail
   go_region_law (first|(go_simp;refine HY6.out.mono ?_;rintro e w7 ⟨rfl,b7⟩;dsimp only;have kv7:=yae (yao (b:=b) b7 _ _ (show w6.drew.heap[W.heap.size]?=_ from kv.out) (by simp;omega) (by intro c f e;cases e));have ka7:=yae (yao (b:=b) b7 _ _ (show w6.drew.heap[W.heap.size+1]?=_ from ka.out) (by simp;omega) (by intro c f e;cases e));have dv7:=HVV.out w7 kv7.out;have m1:W.heap.size < w7.heap.size:=(ltS kv7.out);have m3:W.heap.size≠w7.heap.size:=Nat.ne_of_lt m1)|(go_simp;refine (HL.out w7 (SS.out.below K.out ((Below.refl _ _).drew.trans b7))).mono ?_;rintro e w8 ⟨rfl,s8,o8⟩;dsimp only))
   all_goals
    try simp only [Exit.inBlock]
    go_end0
    refine ⟨rfl, ?_,fun q ob hq hne hty=>o8 q ob (yao (b:=b) ((Below.refl _ _).drew.trans b7) q ob (KEP2.out q ob hq hne hty) hne hty) hne hty⟩
    have:=s8
    simp only [List.append_assoc] at this
    exact this
theorem yiK {B b:Nat} {Tb:World→Prop} {w0:World} (k:ItoaOk B Tb) (hw:w0.heap.size≤B) (n:List UInt8) (hn:n≠[]) (l:List (List UInt8)) (hl0:l=[]) (a:Bool) (x:Ex) (hr:RightW a x) (o:List UInt8) (ho:o≠[]) (m:Int) (hm:0≤m∧m≤999999999) (cv vv fv ea wa:Value) (hi:CmIn 0 w0 { cm0 with kind:=13,name:=n,fields:=l,all:=a,wh:=x,order:=o,limit:=m } cv vv fv ea wa) (ws:List (List UInt8)) (W:World) (hS:PSt B b Tb w0 ws W) (hlen:(yaz (ws++([w_select]++([[42]]++([w_from,n]++(yar { cm0 with kind:=13,name:=n,fields:=l,all:=a,wh:=x,order:=o,limit:=m }++([w_order,w_by,o]++([w_limit,Lib.itoa m])))))))).length≤1000000) :
  Calls Tryz.prog 102 #[.pointer (some ⟨b,0,none⟩),.agg (cmL { cm0 with kind:=13,name:=n,fields:=l,all:=a,wh:=x,order:=o,limit:=m } cv vv fv ea wa).toArray] W (ybb B b Tb w0 (ws++([w_select]++([[42]]++([w_from,n]++(yar { cm0 with kind:=13,name:=n,fields:=l,all:=a,wh:=x,order:=o,limit:=m }++([w_order,w_by,o]++([w_limit,Lib.itoa m]))))))) W):=by
 have L:∀ p q:List (List UInt8),p++q=ws++([w_select]++([[42]]++([w_from,n]++(yar { cm0 with kind:=13,name:=n,fields:=l,all:=a,wh:=x,order:=o,limit:=m }++([w_order,w_by,o]++([w_limit,Lib.itoa m]))))))→(yaz p).length≤1000000:=fun p q e=>Nat.le_trans (yaM p q) (by rw [e];exact hlen)
 have hp:=yae (yc8 k hS (.cells #[.pointer (some ⟨b,0,none⟩)] 117) (.cells (cmL { cm0 with kind:=13,name:=n,fields:=l,all:=a,wh:=x,order:=o,limit:=m } cv vv fv ea wa).toArray 31) [w_select] 1 #[.string ⟨w_select.toArray⟩] rfl rfl (by intro x hx;simp at hx;subst hx;decide) (L _ ([[42]]++([w_from,n]++(yar { cm0 with kind:=13,name:=n,fields:=l,all:=a,wh:=x,order:=o,limit:=m }++([w_order,w_by,o]++([w_limit,Lib.itoa m]))))) (by simp only [List.append_assoc])) (by decide))
 have b1:=(Below.refl W.heap.size W).alloc (Nat.le_refl _) (.cells #[.pointer (some ⟨b,0,none⟩)] 117)
 have B0:=yae (b1.alloc (by simp) (.cells (cmL { cm0 with kind:=13,name:=n,fields:=l,all:=a,wh:=x,order:=o,limit:=m } cv vv fv ea wa).toArray 31))
 have hbW:b < W.heap.size:=hS.pr.lt
 obtain ⟨ao,ca,e0,h1⟩:=hi.fields.slice
 have e1:fv=.slice ao 0 ca:=by rw [e0];simp [hl0]
 have HS1:=yae (fun w1 (s1:PSt B b Tb w0 (ws++[w_select]) w1)=>ycb k s1 [[42]] 1 #[.string ⟨#[42]⟩] rfl rfl (by intro x hx;simp at hx;subst hx;decide) (L _ ([w_from,n]++(yar { cm0 with kind:=13,name:=n,fields:=l,all:=a,wh:=x,order:=o,limit:=m }++([w_order,w_by,o]++([w_limit,Lib.itoa m])))) (by simp only [List.append_assoc])) (by decide))
 have HS2:=yae (fun (f:Value) w2 (s2:PSt B b Tb w0 (ws++[w_select]++[[42]]) w2)=>ydT (Tb:=Tb) (w0:=w0) ao ca f (ws++[w_select]++[[42]]) w2 s2)
 have HF:=yae (fun w3 (s3:PSt B b Tb w0 (ws++[w_select]++[[42]]) w3)=>ycQ k s3 [w_from,n] 2 #[.string ⟨w_from.toArray⟩,.string ⟨n.toArray⟩] rfl rfl (by intro x hx;simp at hx;rcases hx with rfl|rfl <;> first|assumption|decide) (L _ (yar { cm0 with kind:=13,name:=n,fields:=l,all:=a,wh:=x,order:=o,limit:=m }++([w_order,w_by,o]++([w_limit,Lib.itoa m]))) (by simp only [List.append_assoc])) (by decide))
 have HWh:=yae (fun w4 (s4:PSt B b Tb w0 (ws++[w_select]++[[42]]++[w_from,n]) w4)=>ybW k hw { cm0 with kind:=13,name:=n,fields:=l,all:=a,wh:=x,order:=o,limit:=m } cv vv fv ea wa hi.wh hr (ws++[w_select]++[[42]]++[w_from,n]) w4 s4 (L _ ([w_order,w_by,o]++([w_limit,Lib.itoa m])) (by simp only [List.append_assoc])))
 have HO:=yae (fun w5 (s5:PSt B b Tb w0 (ws++[w_select]++[[42]]++[w_from,n]++yar { cm0 with kind:=13,name:=n,fields:=l,all:=a,wh:=x,order:=o,limit:=m }) w5)=>ycQ k s5 [w_order,w_by,o] 3 #[.string ⟨w_order.toArray⟩,.string ⟨w_by.toArray⟩,.string ⟨o.toArray⟩] rfl rfl (by intro x hx;simp at hx;rcases hx with rfl|rfl|rfl <;> first|assumption|decide) (L _ ([w_limit,Lib.itoa m]) (by simp only [List.append_assoc])) (by decide))
 have qo:o.isEmpty=false:=by cases o with|nil=>exact absurd rfl ho|cons _ _=>rfl
 have HI:=yae (fun w6 (s6:PSt B b Tb w0 (ws++[w_select]++[[42]]++[w_from,n]++yar { cm0 with kind:=13,name:=n,fields:=l,all:=a,wh:=x,order:=o,limit:=m }++[w_order,w_by,o]) w6)=>k.itoa m w6 s6.tb (by omega) hm.2)
 have HL:=yae (fun w7 (s7:PSt B b Tb w0 (ws++[w_select]++[[42]]++[w_from,n]++yar { cm0 with kind:=13,name:=n,fields:=l,all:=a,wh:=x,order:=o,limit:=m }++[w_order,w_by,o]) w7)=>ycb k s7 [w_limit,Lib.itoa m] 2 #[.string ⟨w_limit.toArray⟩,.string ⟨(Lib.itoa m).toArray⟩] rfl rfl (by intro x hx;simp at hx;rcases hx with rfl|rfl <;> first|exact yfo m|decide) (L _ [] (by simp only [List.append_assoc,List.append_nil])) (by decide))
 have qm:(0:Int)≤m:=hm.1
 have K:=yae k
 have hcm:∀ w1:World,w1.heap[W.heap.size+1]?=some (.cells (cmL { cm0 with kind:=13,name:=n,fields:=l,all:=a,wh:=x,order:=o,limit:=m } cv vv fv ea wa).toArray 31)→(w1.cell? ⟨W.heap.size+1,1,none⟩=some (.string ⟨n.toArray⟩)∧w1.cell? ⟨W.heap.size+1,10,none⟩=some fv∧w1.cell? ⟨W.heap.size+1,24,none⟩=some (.string ⟨o.toArray⟩)∧w1.cell? ⟨W.heap.size+1,25,none⟩=some (.int .i64 m)):=fun w1 kb=>⟨by rw [Lib.cell_of_heap kb];rfl,by rw [Lib.cell_of_heap kb];rfl,by rw [Lib.cell_of_heap kb];rfl,by rw [Lib.cell_of_heap kb];rfl⟩
 have HC:=yae hcm
 have hvv:∀ w1:World,w1.heap[W.heap.size]?=some (.cells #[.pointer (some ⟨b,0,none⟩)] 117)→w1.cell? ⟨W.heap.size,0,none⟩=some (.pointer (some ⟨b,0,none⟩)):=fun w1 kb=>by rw [Lib.cell_of_heap kb];rfl
 have HVV:=yae hvv
 clear hcm hvv hlen hS L k hn hr hi hw  h1 hm ho
 subst e1
 subst hl0
 unfold cmL
 simp only [cm0]
 go_enter Tryz.func102,Tryz.ntmps102
 go_wp2_with fail
 refine hp.out.mono ?_
 rintro e w1 ⟨rfl,s1,o1⟩
 have ka:((W.alloc (.cells #[.pointer (some ⟨b,0,none⟩)] 117)).alloc (.cells (cmL { cm0 with kind:=13,name:=n,fields:=[],all:=a,wh:=x,order:=o,limit:=m } cv vv (.slice ao 0 ca) ea wa).toArray 31)).heap[W.heap.size+1]?=some (.cells (cmL { cm0 with kind:=13,name:=n,fields:=[],all:=a,wh:=x,order:=o,limit:=m } cv vv (.slice ao 0 ca) ea wa).toArray 31):=by
  have:=heap_alloc_new (W.alloc (.cells #[.pointer (some ⟨b,0,none⟩)] 117)) (.cells (cmL { cm0 with kind:=13,name:=n,fields:=[],all:=a,wh:=x,order:=o,limit:=m } cv vv (.slice ao 0 ca) ea wa).toArray 31)
  rwa [show (W.alloc (.cells #[.pointer (some ⟨b,0,none⟩)] 117)).heap.size=W.heap.size+1 by simp] at this
 have kv:((W.alloc (.cells #[.pointer (some ⟨b,0,none⟩)] 117)).alloc (.cells (cmL { cm0 with kind:=13,name:=n,fields:=[],all:=a,wh:=x,order:=o,limit:=m } cv vv (.slice ao 0 ca) ea wa).toArray 31)).heap[W.heap.size]?=some (.cells #[.pointer (some ⟨b,0,none⟩)] 117):=(Below.heap_alloc _ _ _ (by simp)).trans (heap_alloc_new W _)
 have ka:=yae (o1 _ _ ka (by simp;omega) (by intro c f e;cases e))
 have kv:=yae (o1 _ _ kv (by simp;omega) (by intro c f e;cases e))
 obtain ⟨d1,d10,d24,d25⟩:=HC.out w1 ka.out
 have dv:=HVV.out w1 kv.out
 clear d1
 clear d24
 clear d25
 have l1:W.heap.size < w1.heap.size:=(ltS kv.out)
 have l2:W.heap.size+1 < w1.heap.size:=(ltS ka.out)
 have l3:W.heap.size≠w1.heap.size:=Nat.ne_of_lt l1
 have l4:W.heap.size+1≠w1.heap.size:=Nat.ne_of_lt l2
 have O1:=yae o1
 have HY:=yae (HS1.out w1 s1)
 clear s1 o1 hp HS1
 go_wp2_with fail
 refine HY.out.mono ?_
 rintro e w2 ⟨rfl,s2,o2⟩
 clear dv d10
 have ka:=yae (o2 _ _ ka.out (by simp;omega) (by intro c f e;cases e))
 have kv:=yae (o2 _ _ kv.out (by simp;omega) (by intro c f e;cases e))
 obtain ⟨d1,d10,d24,d25⟩:=HC.out w2 ka.out
 have dv:=HVV.out w2 kv.out
 clear d1
 clear d24
 clear d25
 clear l1 l2 l3 l4
 have l1:W.heap.size < w2.heap.size:=(ltS kv.out)
 have l2:W.heap.size+1 < w2.heap.size:=(ltS ka.out)
 have l3:W.heap.size≠w2.heap.size:=Nat.ne_of_lt l1
 have l4:W.heap.size+1≠w2.heap.size:=Nat.ne_of_lt l2
 have O2:=yae o2
 have HZ:=yae (fun f=>HS2.out f w2 s2)
 clear s2 o2 HY HS2
 go_wp2_with fail
 refine (HZ.out _).mono ?_
 rintro e w3 ⟨rfl,s3,o3⟩
 clear dv d10
 have ka:=yae (o3 _ _ ka.out (by simp;omega) (by intro c f e;cases e))
 have kv:=yae (o3 _ _ kv.out (by simp;omega) (by intro c f e;cases e))
 obtain ⟨d1,d10,d24,d25⟩:=HC.out w3 ka.out
 have dv:=HVV.out w3 kv.out
 clear d10
 clear d24
 clear d25
 clear l1 l2 l3 l4
 have l1:W.heap.size < w3.heap.size:=(ltS kv.out)
 have l2:W.heap.size+1 < w3.heap.size:=(ltS ka.out)
 have l3:W.heap.size≠w3.heap.size:=Nat.ne_of_lt l1
 have l4:W.heap.size+1≠w3.heap.size:=Nat.ne_of_lt l2
 have O3:=yae o3
 have HY3:=yae (HF.out w3 s3)
 clear s3 o3 HZ HF
 go_wp2_with fail
 go_region_law (first|(go_simp;refine HY3.out.mono ?_;rintro e w4 ⟨rfl,s4,o4⟩;dsimp only))
 all_goals
  have o4':Lib.OthersKept 5 (some b) w3 w4:=fun q ob hq hne hty=>o4 q ob hq hne hty
  clear dv d1
  have ka:=yae (o4' _ _ ka.out (by simp;omega) (by intro c f e;cases e))
  have kv:=yae (o4' _ _ kv.out (by simp;omega) (by intro c f e;cases e))
  obtain ⟨d1,d10,d24,d25⟩:=HC.out w4 ka.out
  have dv:=HVV.out w4 kv.out
  clear d1
  clear d10
  clear d24
  clear d25
  clear l1 l2 l3 l4
  have l1:W.heap.size < w4.heap.size:=(ltS kv.out)
  have l2:W.heap.size+1 < w4.heap.size:=(ltS ka.out)
  have l3:W.heap.size≠w4.heap.size:=Nat.ne_of_lt l1
  have l4:W.heap.size+1≠w4.heap.size:=Nat.ne_of_lt l2
  have O4:=yae o4'
  have HY4:=yae (HWh.out w4 s4)
  clear s4 o4 o4' HY3 HWh
  go_wp2_with (first|(refine yaf 31 _ rfl rfl _ (cmL { cm0 with kind:=13,name:=n,fields:=[],all:=a,wh:=x,order:=o,limit:=m } cv vv (.slice ao 0 ca) ea wa) 31 _ rfl (by exact ka.out) Tryz.underlying31 rfl Tryz.size31 ?_)|fail)
  refine HY4.out.mono ?_
  rintro e w5 ⟨rfl,s5,o5⟩
  clear dv
  have ka:=yae (o5 _ _ ka.out (by simp;omega) (by intro c f e;cases e))
  have kv:=yae (o5 _ _ kv.out (by simp;omega) (by intro c f e;cases e))
  obtain ⟨d1,d10,d24,d25⟩:=HC.out w5 ka.out
  have dv:=HVV.out w5 kv.out
  clear d1
  clear d10
  clear l1 l2 l3 l4
  have l1:W.heap.size < w5.heap.size:=(ltS kv.out)
  have l2:W.heap.size+1 < w5.heap.size:=(ltS ka.out)
  have l3:W.heap.size≠w5.heap.size:=Nat.ne_of_lt l1
  have l4:W.heap.size+1≠w5.heap.size:=Nat.ne_of_lt l2
  have O5:=yae o5
  have KEPT:Hid (Lib.OthersKept 5 (some b) W w5):=fun q ob hq hne hty=>O5.out q ob (O4.out q ob (O3.out q ob (O2.out q ob (O1.out q ob (yao (b:=b) B0.out q ob hq hne hty) hne hty) hne hty) hne hty) hne hty) hne hty
  clear o5 HY4
  have HY5:=yae (HO.out w5 s5)
  clear s5 HO
  go_wp2_with fail
  go_region_law (first|(go_simp;refine HY5.out.mono ?_;rintro e w6 ⟨rfl,s6,o6⟩;dsimp only))
  all_goals
   have o6':Lib.OthersKept 5 (some b) w5 w6:=fun q ob hq hne hty=>o6 q ob hq hne hty
   clear dv d24 d25
   have ka:=yae (o6' _ _ ka.out (by simp;omega) (by intro c f e;cases e))
   have kv:=yae (o6' _ _ kv.out (by simp;omega) (by intro c f e;cases e))
   obtain ⟨d1,d10,d24,d25⟩:=HC.out w6 ka.out
   have dv:=HVV.out w6 kv.out
   clear d1
   clear d10
   clear d24
   clear l1 l2 l3 l4
   have l1:W.heap.size < w6.heap.size:=(ltS kv.out)
   have l2:W.heap.size+1 < w6.heap.size:=(ltS ka.out)
   have l3:W.heap.size≠w6.heap.size:=Nat.ne_of_lt l1
   have l4:W.heap.size+1≠w6.heap.size:=Nat.ne_of_lt l2
   have KEP2:Hid (Lib.OthersKept 5 (some b) W w6):=fun q ob hq hne hty=>o6' q ob (KEPT.out q ob hq hne hty) hne hty
   clear o6 o6' HY5
   have HY6:=yae (HI.out w6.drew (s6.below K.out (Below.refl _ _).drew))
   have SS:=yae s6
   clear s6 HI
   go_wp2_with fail
   go_region_law (first|(go_simp;refine HY6.out.mono ?_;rintro e w7 ⟨rfl,b7⟩;dsimp only;have kv7:=yae (yao (b:=b) b7 _ _ (show w6.drew.heap[W.heap.size]?=_ from kv.out) (by simp;omega) (by intro c f e;cases e));have ka7:=yae (yao (b:=b) b7 _ _ (show w6.drew.heap[W.heap.size+1]?=_ from ka.out) (by simp;omega) (by intro c f e;cases e));have dv7:=HVV.out w7 kv7.out;have m1:W.heap.size < w7.heap.size:=(ltS kv7.out);have m3:W.heap.size≠w7.heap.size:=Nat.ne_of_lt m1)|(go_simp;refine (HL.out w7 (SS.out.below K.out ((Below.refl _ _).drew.trans b7))).mono ?_;rintro e w8 ⟨rfl,s8,o8⟩;dsimp only))
   all_goals
    try simp only [Exit.inBlock]
    go_end0
    refine ⟨rfl, ?_,fun q ob hq hne hty=>o8 q ob (yao (b:=b) ((Below.refl _ _).drew.trans b7) q ob (KEP2.out q ob hq hne hty) hne hty) hne hty⟩
    have:=s8
    simp only [List.append_assoc] at this
    exact this
theorem ymH {w:List UInt8} (h:okW w):w.length≤2001:=by
 have tok:∀ {K:Int} {l:List UInt8},ybv K l=true→l.length≤2000:=fun h=>(of_decide_eq_true h).2.1
 unfold okW at h
 unfold ybS at h
 split at h
 ·rename_i c r
  have:=tok (h (c::r,2) (by simp))
  simp only [List.length_cons] at this ⊢
  omega
 ·have:=tok (h (_,_) (List.mem_singleton.2 rfl))
  simp only at this
  omega
theorem yo1 (ws:List (List UInt8)):∀ (p:List UInt8),(∀ w ∈ ws,okW w)→(yeF p ws).length≤2002*ws.length:=by
 induction ws with
 | nil=>intro p _;simp [yeF]
 | cons w ws ih =>
  intro p h
  have h1:=ih w fun x hx=>h x (List.mem_cons_of_mem _ hx)
  have h2:=ymH (h w (List.mem_cons_self ..))
  have h3:(yk2 p w).length≤1:=by unfold yk2;split <;> simp
  rw [yeF,List.length_append,List.length_append,List.length_cons]
  omega
theorem ynn (ws:List (List UInt8)) (h:∀ w ∈ ws,okW w):(yaz ws).length≤2002*ws.length:=by
 cases ws with
 | nil=>simp [yaz]
 | cons w ws =>
  have h1:=yo1 ws w fun x hx=>h x (List.mem_cons_of_mem _ hx)
  have h2:=ymH (h w (List.mem_cons_self ..))
  rw [yaz,List.length_append,List.length_cons]
  omega
theorem ygt {x:Ex} (h:RightE x):(yat x).length≤4*ya4 x:=by
 induction h with
 | val v _=>simp [yat,ya4,ybE]
 | col nm _=>simp [yat,ya4,ybE]
 | not a _ ih=>simp [yat,ydc,ya4,ybE];omega
 | null a _ ih=>simp [yat,ydc,ya4,ybE];omega
 | two k hk a b _ _ ia ib =>
  rw [yat,if_neg (by omega),if_neg (by omega),if_neg (by omega),if_neg (by omega)]
  simp [ydc,ya4,ybE]
  omega
theorem ydP {α:Type} (f:α→List (List UInt8)) (n:Nat) (l:List α) (h:∀ x ∈ l,(f x).length≤n):(yaq f l).length≤(n+1)*l.length:=by
 match l with
 | []=>simp [yaq]
 | [x]=>have:=h x (by simp);simp only [yaq,List.length_singleton];omega
 | x::y::r =>
  have h1:=h x (by simp)
  have h2:=ydP f n (y::r) fun z hz=>h z (List.mem_cons_of_mem _ hz)
  rw [yaq,List.length_append,List.length_cons]
  simp only [List.length_cons,Nat.mul_add,Nat.mul_one] at h2 ⊢
  omega
theorem yeQ {a:Bool} {x:Ex} (h:RightW a x) (c:Cm) (ha:c.all=a) (hx:c.wh=x):(yar c).length≤61:=by
 subst ha hx
 generalize e1:c.all=a,e2:c.wh=x at h
 unfold yar
 rw [e1,e2]
 cases h with
 | none=>simp
 | some _ h hs=>have:=ygt h;simp;omega
theorem ykW {c:Cm} (h:RightC c):(yaP c).length≤200:=by
 cases h with
 | create n hn l hl h5 h =>
  have e:yaP { cm0 with kind:=1,name:=n,cols:=l }=[w_create,w_table,n,[40]]++(yaq ya8 l++[[41]]):=rfl
  have:=ydP ya8 2 l fun x _=>by simp [ya8]
  rw [e,List.length_append,List.length_append]
  simp only [List.length_cons,List.length_nil]
  omega
 | drop n hn=>show ([_,_,_]:List (List UInt8)).length≤200;simp
 | add n c hn hc t ht v hv=>show ([_,_,_,_,_,_,_,_]:List (List UInt8)).length≤200;simp
 | take n c hn hc=>show ([_,_,_,_,_]:List (List UInt8)).length≤200;simp
 | column n c o hn hc ho=>show ([_,_,_,_,_,_,_]:List (List UInt8)).length≤200;simp
 | retype n c hn hc t ht=>show ([_,_,_,_,_,_]:List (List UInt8)).length≤200;simp
 | table n o hn ho=>show ([_,_,_,_,_,_]:List (List UInt8)).length≤200;simp
 | index n c o hn hc ho=>show ([_,_,_,_,_,_,_,_]:List (List UInt8)).length≤200;simp
 | unindex n hn=>show ([_,_,_]:List (List UInt8)).length≤200;simp
 | insert n hn l hl h5 h =>
  have e:yaP { cm0 with kind:=10,name:=n,vals:=l }=[w_insert,w_into,n,w_values,[40]]++(yaq (fun v=>[ybc v]) l++[[41]]):=rfl
  have:=ydP (fun v=>[ybc v]) 1 l fun x _=>by simp
  rw [e,List.length_append,List.length_append]
  simp only [List.length_cons,List.length_nil]
  omega
 | delete n hn a x hw =>
  have e:yaP { cm0 with kind:=11,name:=n,all:=a,wh:=x }=[w_delete,w_from,n]++yar { cm0 with kind:=11,name:=n,all:=a,wh:=x }:=rfl
  have:=yeQ hw { cm0 with kind:=11,name:=n,all:=a,wh:=x } rfl rfl
  dsimp only at this
  rw [e,List.length_append]
  simp only [List.length_cons,List.length_nil]
  omega
 | update n c hn hc y hy hs a x hw =>
  have e:yaP { cm0 with kind:=12,name:=n,column:=c,expr:=y,all:=a,wh:=x }=[w_update,n,w_set,c,[61]]++(yat y++yar { cm0 with kind:=12,name:=n,column:=c,expr:=y,all:=a,wh:=x }):=rfl
  have:=yeQ hw { cm0 with kind:=12,name:=n,column:=c,expr:=y,all:=a,wh:=x } rfl rfl
  dsimp only at this
  have:=ygt hy
  rw [e,List.length_append,List.length_append]
  simp only [List.length_cons,List.length_nil]
  omega
 | select n hn l h5 hl a x hw o ho m hm =>
  have e:yaP { cm0 with kind:=13,name:=n,fields:=l,all:=a,wh:=x,order:=o,limit:=m }=w_select::((if l=[] then [[42]] else yaq (fun s=>[s]) l)++([w_from,n]++(yar { cm0 with kind:=13,name:=n,fields:=l,all:=a,wh:=x,order:=o,limit:=m }++((if o=[] then [] else [w_order,w_by,o])++(if m < 0 then [] else [w_limit,Lib.itoa m]))))):=rfl
  have h1:=yeQ hw { cm0 with kind:=13,name:=n,fields:=l,all:=a,wh:=x,order:=o,limit:=m } rfl rfl
  dsimp only at h1
  have h2:=ydP (fun s:List UInt8=>[s]) 1 l fun x _=>by simp
  have h3:(if l=[] then [[42]] else yaq (fun s:List UInt8=>[s]) l).length≤11:=by split <;> (try simp only [List.length_cons,List.length_nil]) <;> omega
  have h4:(if o=[] then ([]:List (List UInt8)) else [w_order,w_by,o]).length≤3:=by split <;> simp
  have h5:(if m < 0 then ([]:List (List UInt8)) else [w_limit,Lib.itoa m]).length≤2:=by split <;> simp
  rw [e,List.length_cons,List.length_append,List.length_append,List.length_append,List.length_append]
  simp only [List.length_cons,List.length_nil]
  omega
 | begin_=>show ([_]:List (List UInt8)).length≤200;simp
 | commit=>show ([_]:List (List UInt8)).length≤200;simp
 | rollback=>show ([_]:List (List UInt8)).length≤200;simp
theorem yhH {c:Cm} (h:RightC c):(yeu c).length≤1000000:=by
 have h1:=ynn (yaP c) (yfM h)
 have h2:=ykW h
 unfold yeu
 omega
theorem yiL {B b:Nat} {Tb:World→Prop} {w0:World} (k:ItoaOk B Tb) (hw:w0.heap.size≤B) (n:List UInt8) (hn:n≠[]) (l:List (List UInt8)) (hl:∀ x ∈ l,x≠[]) (h5:l.length≤5) (a:Bool) (x:Ex) (hr:RightW a x) (o:List UInt8) (m:Int) (hm:m≤999999999) (cv vv fv ea wa:Value) (hi:CmIn 0 w0 { cm0 with kind:=13,name:=n,fields:=l,all:=a,wh:=x,order:=o,limit:=m } cv vv fv ea wa) (ws:List (List UInt8)) (W:World) (hS:PSt B b Tb w0 ws W) (hlen:(yaz (ws++yaP { cm0 with kind:=13,name:=n,fields:=l,all:=a,wh:=x,order:=o,limit:=m })).length≤1000000) :
  Calls Tryz.prog 102 #[.pointer (some ⟨b,0,none⟩),.agg (cmL { cm0 with kind:=13,name:=n,fields:=l,all:=a,wh:=x,order:=o,limit:=m } cv vv fv ea wa).toArray] W (ybb B b Tb w0 (ws++yaP { cm0 with kind:=13,name:=n,fields:=l,all:=a,wh:=x,order:=o,limit:=m }) W):=by
 have e:yaP { cm0 with kind:=13,name:=n,fields:=l,all:=a,wh:=x,order:=o,limit:=m }=[w_select]++((if l=[] then [[42]] else yaq (fun s=>[s]) l)++([w_from,n]++(yar { cm0 with kind:=13,name:=n,fields:=l,all:=a,wh:=x,order:=o,limit:=m }++((if o=[] then [] else [w_order,w_by,o])++(if m < 0 then [] else [w_limit,Lib.itoa m]))))):=rfl
 rw [e] at hlen ⊢
 clear e
 by_cases q1:l=[] <;> by_cases q2:o=[] <;> by_cases q3:m < 0
 all_goals simp only [q1,q2,q3,if_true,if_false,List.append_nil] at hlen ⊢
 ·subst q1 q2;exact yiH k hw n hn [] rfl a x hr [] rfl m q3 cv vv fv ea wa hi ws W hS hlen
 ·subst q1 q2;exact yiI k hw n hn [] rfl a x hr [] rfl m ⟨by omega,hm⟩ cv vv fv ea wa hi ws W hS hlen
 ·subst q1;exact yiJ k hw n hn [] rfl a x hr o q2 m q3 cv vv fv ea wa hi ws W hS hlen
 ·subst q1;exact yiK k hw n hn [] rfl a x hr o q2 m ⟨by omega,hm⟩ cv vv fv ea wa hi ws W hS hlen
 ·subst q2;exact yiD k hw n hn l q1 hl h5 a x hr [] rfl m q3 cv vv fv ea wa hi ws W hS hlen
 ·subst q2;exact yiE k hw n hn l q1 hl h5 a x hr [] rfl m ⟨by omega,hm⟩ cv vv fv ea wa hi ws W hS hlen
 ·exact yiF k hw n hn l q1 hl h5 a x hr o q2 m q3 cv vv fv ea wa hi ws W hS hlen
 ·exact yiG k hw n hn l q1 hl h5 a x hr o q2 m ⟨by omega,hm⟩ cv vv fv ea wa hi ws W hS hlen
theorem yrq {B b:Nat} {Tb:World→Prop} {w0:World} (k:ItoaOk B Tb) (hw:w0.heap.size≤B) (n:List UInt8) (hn:n≠[]) (l:List (List UInt8)) (hl:∀ x ∈ l,x≠[]) (h5:l.length≤5) (a:Bool) (x:Ex) (hr:RightW a x) (o:List UInt8) (m:Int) (hm:m≤999999999) (cv vv fv ea wa:Value) (hi:CmIn 0 w0 { cm0 with kind:=13,name:=n,fields:=l,all:=a,wh:=x,order:=o,limit:=m } cv vv fv ea wa) (ws:List (List UInt8)) (W:World) (hS:PSt B b Tb w0 ws W) (hlen:(yaz (ws++yaP { cm0 with kind:=13,name:=n,fields:=l,all:=a,wh:=x,order:=o,limit:=m })).length≤1000000) :
  Calls Tryz.prog 46 #[.pointer (some ⟨b,0,none⟩),.agg (cmL { cm0 with kind:=13,name:=n,fields:=l,all:=a,wh:=x,order:=o,limit:=m } cv vv fv ea wa).toArray] W (ybb B b Tb w0 (ws++yaP { cm0 with kind:=13,name:=n,fields:=l,all:=a,wh:=x,order:=o,limit:=m }) W):=by
 have b1:=(Below.refl W.heap.size W).alloc (Nat.le_refl _) (.cells (cmL { cm0 with kind:=13,name:=n,fields:=l,all:=a,wh:=x,order:=o,limit:=m } cv vv fv ea wa).toArray 31)
 have HZ:=yae (yiL k hw n hn l hl h5 a x hr o m hm cv vv fv ea wa hi ws _ (hS.below k b1) hlen)
 have B0:=yae b1
 have kb:=heap_alloc_new W (.cells (cmL { cm0 with kind:=13,name:=n,fields:=l,all:=a,wh:=x,order:=o,limit:=m } cv vv fv ea wa).toArray 31)
 generalize hws:ws++yaP { cm0 with kind:=13,name:=n,fields:=l,all:=a,wh:=x,order:=o,limit:=m }=R at HZ ⊢
 clear hlen hS hi hw k hn hl h5 hr hm b1 hws
 unfold cmL
 simp only [cm0]
 go_enter Tryz.func46,Tryz.ntmps46
 go_wp2_with (first|(refine yaf 31 _ rfl rfl _ (cmL { cm0 with kind:=13,name:=n,fields:=l,all:=a,wh:=x,order:=o,limit:=m } cv vv fv ea wa) 31 _ rfl (by exact kb) Tryz.underlying31 rfl Tryz.size31 ?_)|(go_at_call 102;refine HZ.out.mono ?_;rintro e w3 ⟨rfl,s3,o3⟩))
 try simp only [Exit.inBlock]
 go_end0
 exact ⟨rfl,s3,fun q ob hq hne hty=>o3 q ob (yao (b:=b) B0.out q ob hq hne hty) hne hty⟩
theorem ypg {B b:Nat} {Tb:World→Prop} {w0:World} (k:ItoaOk B Tb) (hw:w0.heap.size≤B) {c:Cm} (hc:RightC c) (cv vv fv ea wa:Value) (hi:CmIn 0 w0 c cv vv fv ea wa) (W:World) (hS:PSt B b Tb w0 [] W) :
  Calls Tryz.prog 46 #[.pointer (some ⟨b,0,none⟩),.agg (cmL c cv vv fv ea wa).toArray] W (ybb B b Tb w0 (yaP c) W):=by
 have hlen:(yaz ([]++yaP c)).length≤1000000:=yhH hc
 show Calls Tryz.prog 46 _ W (ybb B b Tb w0 ([]++yaP c) W)
 have ty:∀ t:Int,1≤t∧t≤3→atL yaI t≠[]:=by
  intro t ht
  have:t=1∨t=2∨t=3:=by omega
  rcases this with rfl|rfl|rfl <;> decide
 cases hc with
 | create n hn l hl h5 h=>exact ys2 k hw n (ybr hn) l hl h5 (fun x hx=>⟨ybr (h x hx).1,ty _ (h x hx).2⟩) cv vv fv ea wa hi [] W hS hlen
 | drop n hn=>exact ys3 k n (ybr hn) cv vv fv ea wa [] W hS hlen
 | add n c hn hc t ht v hv=>exact ys4 k n c (ybr hn) (ybr hc) t (ty t ht) v hv cv vv fv ea wa [] W hS hlen
 | take n c hn hc=>exact ys5 k n c (ybr hn) (ybr hc) cv vv fv ea wa [] W hS hlen
 | column n c o hn hc ho=>exact ys6 k n c o (ybr hn) (ybr hc) (ybr ho) cv vv fv ea wa [] W hS hlen
 | retype n c hn hc t ht=>exact ys7 k n c (ybr hn) (ybr hc) t (ty t ht) cv vv fv ea wa [] W hS hlen
 | table n o hn ho=>exact ys8 k n o (ybr hn) (ybr ho) cv vv fv ea wa [] W hS hlen
 | index n c o hn hc ho=>exact ys9 k n c o (ybr hn) (ybr hc) (ybr ho) cv vv fv ea wa [] W hS hlen
 | unindex n hn=>exact yta k n (ybr hn) cv vv fv ea wa [] W hS hlen
 | insert n hn l hl h5 h=>exact yrn k hw n (ybr hn) l hl h5 h cv vv fv ea wa hi [] W hS hlen
 | delete n hn a x hr=>exact yro k hw n (ybr hn) a x hr cv vv fv ea wa hi [] W hS hlen
 | update n c hn hc y hy hs a x hr=>exact yrp k hw n c (ybr hn) (ybr hc) y hy a x hr cv vv fv ea wa hi [] W hS hlen
 | select n hn l h5 hl a x hr o ho m hm=>exact yrq k hw n (ybr hn) l (fun x hx=>ybr (hl x hx)) h5 a x hr o m hm.2 cv vv fv ea wa hi [] W hS hlen
 | begin_=>exact yrr k cv vv fv ea wa [] W hS hlen
 | commit=>exact yrs k cv vv fv ea wa [] W hS hlen
 | rollback=>exact yrt k cv vv fv ea wa [] W hS hlen
end Go.Proofs.YtkpeklealgicpabGreatDoor
