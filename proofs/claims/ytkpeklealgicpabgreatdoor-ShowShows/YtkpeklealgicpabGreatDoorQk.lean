/-
  The printer's change; the commands that alter.
  The printer's choose.
  The printer's choose.
  The printer's choose.
-/
import Derived.Test.YtkpeklealgicpabGreatDoorQa
import Derived.Test.YtkpeklealgicpabGreatDoorQj

set_option maxRecDepth 100000
set_option maxHeartbeats 8000000
namespace Go.Proofs.YtkpeklealgicpabGreatDoor
open Go.RowKit
theorem ysu {B b:Nat} {Tb:World→Prop} {w0:World} (k:ItoaOk B Tb) (n c:List UInt8) (hc:c≠[]) (cv vv fv ea wa:Value) (ws:List (List UInt8)) (W:World) (hS:PSt B b Tb w0 ws W) (hlen:(yaj (ws++([w_drop,c]))).length≤1000000) :
  Calls Tryz.prog 97 #[.pointer (some ⟨b,0,none⟩),.agg (cmL { cm0 with kind:=4,name:=n,column:=c } cv vv fv ea wa).toArray] W (ya0 B b Tb w0 (ws++([w_drop,c])) W):=by
 have L:∀ p q:List (List UInt8),p++q=ws++([w_drop,c])→(yaj p).length≤1000000:=fun p q e=>Nat.le_trans (yaD p q) (by rw [e];exact hlen)
 have hp:=ybs k hS (.cells (cmL { cm0 with kind:=4,name:=n,column:=c } cv vv fv ea wa).toArray 31) [w_drop,c] 2 #[.string ⟨w_drop.toArray⟩,.string ⟨c.toArray⟩] rfl rfl (by intro x hx;simp at hx;rcases hx with rfl|rfl <;> first|assumption|decide) (L _ ([]) (by simp only [List.append_nil])) (by decide)
 have B0:=yaa (((Below.refl W.heap.size W).alloc (Nat.le_refl _) (.cells (cmL { cm0 with kind:=4,name:=n,column:=c } cv vv fv ea wa).toArray 31)).drew)
 have hbW:b < W.heap.size:=hS.pr.lt
 have HP:=yaa hp
 clear hp hlen hS L k hc hbW
 unfold cmL
 simp only [cm0]
 go_enter Tryz.func97,Tryz.ntmps97
 go_wp2_with fail
 go_region_law (first|(go_simp;refine HP.out.mono ?_;rintro e w2 ⟨rfl,s2,o2⟩;dsimp only))
 all_goals
  try simp only [Exit.inBlock]
  go_end0
  exact ⟨rfl,s2,fun q ob hq hne hty=>o2 q ob (yak (b:=b) B0.out q ob hq hne hty) hne hty⟩
theorem ysv {B b:Nat} {Tb:World→Prop} {w0:World} (k:ItoaOk B Tb) (n c o:List UInt8) (hc:c≠[]) (ho:o≠[]) (cv vv fv ea wa:Value) (ws:List (List UInt8)) (W:World) (hS:PSt B b Tb w0 ws W) (hlen:(yaj (ws++([w_rename,c,w_to,o]))).length≤1000000) :
  Calls Tryz.prog 97 #[.pointer (some ⟨b,0,none⟩),.agg (cmL { cm0 with kind:=5,name:=n,column:=c,other:=o } cv vv fv ea wa).toArray] W (ya0 B b Tb w0 (ws++([w_rename,c,w_to,o])) W):=by
 have L:∀ p q:List (List UInt8),p++q=ws++([w_rename,c,w_to,o])→(yaj p).length≤1000000:=fun p q e=>Nat.le_trans (yaD p q) (by rw [e];exact hlen)
 have hp:=ybs k hS (.cells (cmL { cm0 with kind:=5,name:=n,column:=c,other:=o } cv vv fv ea wa).toArray 31) [w_rename,c,w_to,o] 4 #[.string ⟨w_rename.toArray⟩,.string ⟨c.toArray⟩,.string ⟨w_to.toArray⟩,.string ⟨o.toArray⟩] rfl rfl (by intro x hx;simp at hx;rcases hx with rfl|rfl|rfl|rfl <;> first|assumption|decide) (L _ ([]) (by simp only [List.append_nil])) (by decide)
 have B0:=yaa (((Below.refl W.heap.size W).alloc (Nat.le_refl _) (.cells (cmL { cm0 with kind:=5,name:=n,column:=c,other:=o } cv vv fv ea wa).toArray 31)).drew)
 have hbW:b < W.heap.size:=hS.pr.lt
 have HP:=yaa hp
 clear hp hlen hS L k hc ho hbW
 unfold cmL
 simp only [cm0]
 go_enter Tryz.func97,Tryz.ntmps97
 go_wp2_with fail
 go_region_law (first|(go_simp;refine HP.out.mono ?_;rintro e w2 ⟨rfl,s2,o2⟩;dsimp only))
 all_goals
  try simp only [Exit.inBlock]
  go_end0
  exact ⟨rfl,s2,fun q ob hq hne hty=>o2 q ob (yak (b:=b) B0.out q ob hq hne hty) hne hty⟩
theorem ysx {B b:Nat} {Tb:World→Prop} {w0:World} (k:ItoaOk B Tb) (n o:List UInt8) (ho:o≠[]) (cv vv fv ea wa:Value) (ws:List (List UInt8)) (W:World) (hS:PSt B b Tb w0 ws W) (hlen:(yaj (ws++([w_rename,w_to,o]))).length≤1000000) :
  Calls Tryz.prog 97 #[.pointer (some ⟨b,0,none⟩),.agg (cmL { cm0 with kind:=7,name:=n,other:=o } cv vv fv ea wa).toArray] W (ya0 B b Tb w0 (ws++([w_rename,w_to,o])) W):=by
 have L:∀ p q:List (List UInt8),p++q=ws++([w_rename,w_to,o])→(yaj p).length≤1000000:=fun p q e=>Nat.le_trans (yaD p q) (by rw [e];exact hlen)
 have hp:=ybs k hS (.cells (cmL { cm0 with kind:=7,name:=n,other:=o } cv vv fv ea wa).toArray 31) [w_rename,w_to,o] 3 #[.string ⟨w_rename.toArray⟩,.string ⟨w_to.toArray⟩,.string ⟨o.toArray⟩] rfl rfl (by intro x hx;simp at hx;rcases hx with rfl|rfl|rfl <;> first|assumption|decide) (L _ ([]) (by simp only [List.append_nil])) (by decide)
 have B0:=yaa (((Below.refl W.heap.size W).alloc (Nat.le_refl _) (.cells (cmL { cm0 with kind:=7,name:=n,other:=o } cv vv fv ea wa).toArray 31)).drew)
 have hbW:b < W.heap.size:=hS.pr.lt
 have HP:=yaa hp
 clear hp hlen hS L k ho hbW
 unfold cmL
 simp only [cm0]
 go_enter Tryz.func97,Tryz.ntmps97
 go_wp2_with fail
 go_region_law (first|(go_simp;refine HP.out.mono ?_;rintro e w2 ⟨rfl,s2,o2⟩;dsimp only))
 all_goals
  try simp only [Exit.inBlock]
  go_end0
  exact ⟨rfl,s2,fun q ob hq hne hty=>o2 q ob (yak (b:=b) B0.out q ob hq hne hty) hne hty⟩
theorem ysw {B b:Nat} {Tb:World→Prop} {w0:World} (k:ItoaOk B Tb) (n c:List UInt8) (hc:c≠[]) (t:Int) (ht:atL yaB t≠[]) (cv vv fv ea wa:Value) (ws:List (List UInt8)) (W:World) (hS:PSt B b Tb w0 ws W) (hlen:(yaj (ws++([w_retype]++yaV ⟨c,t⟩))).length≤1000000) :
  Calls Tryz.prog 97 #[.pointer (some ⟨b,0,none⟩),.agg (cmL { cm0 with kind:=6,name:=n,column:=c,ty:=t } cv vv fv ea wa).toArray] W (ya0 B b Tb w0 (ws++([w_retype]++yaV ⟨c,t⟩)) W):=by
 have L:∀ p q:List (List UInt8),p++q=ws++([w_retype]++yaV ⟨c,t⟩)→(yaj p).length≤1000000:=fun p q e=>Nat.le_trans (yaD p q) (by rw [e];exact hlen)
 have hp:=ycb k hS (.cells (cmL { cm0 with kind:=6,name:=n,column:=c,ty:=t } cv vv fv ea wa).toArray 31) [w_retype] 1 #[.string ⟨w_retype.toArray⟩] rfl rfl (by intro x hx;simp at hx;subst hx <;> first|assumption|decide) (L _ (yaV ⟨c,t⟩) (by simp only [List.append_assoc])) (by decide)
 have B0:=yaa (((Below.refl W.heap.size W).alloc (Nat.le_refl _) (.cells (cmL { cm0 with kind:=6,name:=n,column:=c,ty:=t } cv vv fv ea wa).toArray 31)))
 have hbW:b < W.heap.size:=hS.pr.lt
 have HQ:=yaa (fun w1 (s1:PSt B b Tb w0 (ws++[w_retype]) w1)=>yf0 k s1 ⟨c,t⟩ hc ht (L _ [] (by simp only [List.append_assoc,List.append_nil])))
 have HP:=yaa hp
 clear hp hlen hS L k hc ht
 unfold cmL
 simp only [cm0]
 go_enter Tryz.func97,Tryz.ntmps97
 go_wp2_with fail
 refine HP.out.mono ?_
 rintro e w1 ⟨rfl,s1,o1⟩
 have kb:=o1 _ _ (heap_alloc_new W _) (by simp;omega) (by intro c f e;cases e)
 have d3:w1.cell? ⟨W.heap.size,3,none⟩=some (.string ⟨c.toArray⟩):=by rw [Lib.cell_of_heap kb];rfl
 have d5:w1.cell? ⟨W.heap.size,5,none⟩=some (.int .i64 t):=by rw [Lib.cell_of_heap kb];rfl
 have HZ:=yaa (HQ.out w1 s1)
 have O1:=yaa o1
 clear s1 o1 HP HQ kb
 go_wp2_with (go_at_call 96;refine HZ.out.mono ?_;rintro e w2 ⟨rfl,s2,o2⟩)
 try simp only [Exit.inBlock]
 go_end0
 refine ⟨rfl, ?_,fun q ob hq hne hty=>o2 q ob (O1.out q ob (yak (b:=b) B0.out q ob hq hne hty) hne hty) hne hty⟩
 have:=s2
 rw [List.append_assoc] at this
 exact this
theorem yst {B b:Nat} {Tb:World→Prop} {w0:World} (k:ItoaOk B Tb) (n c:List UInt8) (hc:c≠[]) (t:Int) (ht:atL yaB t≠[]) (v:Vl) (hv:ybJ v=true) (cv vv fv ea wa:Value) (ws:List (List UInt8)) (W:World) (hS:PSt B b Tb w0 ws W) (hlen:(yaj (ws++([w_add]++(yaV ⟨c,t⟩++([w_default]++[yaI v]))))).length≤1000000) :
  Calls Tryz.prog 97 #[.pointer (some ⟨b,0,none⟩),.agg (cmL { cm0 with kind:=3,name:=n,column:=c,ty:=t,val:=v } cv vv fv ea wa).toArray] W (ya0 B b Tb w0 (ws++([w_add]++(yaV ⟨c,t⟩++([w_default]++[yaI v])))) W):=by
 have L:∀ p q:List (List UInt8),p++q=ws++([w_add]++(yaV ⟨c,t⟩++([w_default]++[yaI v])))→(yaj p).length≤1000000:=fun p q e=>Nat.le_trans (yaD p q) (by rw [e];exact hlen)
 have hp:=ycb k hS (.cells (cmL { cm0 with kind:=3,name:=n,column:=c,ty:=t,val:=v } cv vv fv ea wa).toArray 31) [w_add] 1 #[.string ⟨w_add.toArray⟩] rfl rfl (by intro x hx;simp at hx;subst hx <;> first|assumption|decide) (L _ (yaV ⟨c,t⟩++([w_default]++[yaI v])) (by simp only [List.append_assoc])) (by decide)
 have B0:=yaa (((Below.refl W.heap.size W).alloc (Nat.le_refl _) (.cells (cmL { cm0 with kind:=3,name:=n,column:=c,ty:=t,val:=v } cv vv fv ea wa).toArray 31)))
 have hbW:b < W.heap.size:=hS.pr.lt
 have HQ:=yaa (fun w1 (s1:PSt B b Tb w0 (ws++[w_add]) w1)=>yf0 k s1 ⟨c,t⟩ hc ht (L _ ([w_default]++[yaI v]) (by simp only [List.append_assoc])))
 have HD:=yaa (fun w2 (s2:PSt B b Tb w0 (ws++[w_add]++yaV ⟨c,t⟩) w2)=>ybG k s2 [w_default] 1 #[.string ⟨w_default.toArray⟩] rfl rfl (by intro x hx;simp at hx;subst hx;decide) (L _ [yaI v] (by simp only [List.append_assoc])) (by decide))
 have HV:=yaa (fun w3 (s3:PSt B b Tb w0 (ws++[w_add]++yaV ⟨c,t⟩++[w_default]) w3)=>yh5 k s3 v hv (L _ [] (by simp only [List.append_assoc,List.append_nil])))
 have HP:=yaa hp
 clear hp hlen hS L k hc ht hv
 unfold cmL
 simp only [cm0]
 go_enter Tryz.func97,Tryz.ntmps97
 go_wp2_with fail
 refine HP.out.mono ?_
 rintro e w1 ⟨rfl,s1,o1⟩
 have kb:=o1 _ _ (heap_alloc_new W _) (by simp;omega) (by intro c f e;cases e)
 have d3:w1.cell? ⟨W.heap.size,3,none⟩=some (.string ⟨c.toArray⟩):=by rw [Lib.cell_of_heap kb];rfl
 have d5:w1.cell? ⟨W.heap.size,5,none⟩=some (.int .i64 t):=by rw [Lib.cell_of_heap kb];rfl
 have HZ:=yaa (HQ.out w1 s1)
 have O1:=yaa o1
 have KB:=yaa kb
 clear s1 o1 HP HQ kb
 go_wp2_with fail
 refine HZ.out.mono ?_
 rintro e w2 ⟨rfl,s2,o2⟩
 have kb2:=o2 _ _ KB.out (by simp;omega) (by intro c f e;cases e)
 have HY:=yaa (HD.out w2 s2)
 have O2:=yaa o2
 have KB2:=yaa kb2
 clear s2 o2 HD HZ kb2 d3 d5
 go_wp2_with fail
 refine HY.out.mono ?_
 rintro e w3 ⟨rfl,s3,o3⟩
 have kb3:=o3 _ _ KB2.out (by simp;omega) (by intro c f e;cases e)
 have d6:w3.cell? ⟨W.heap.size,6,none⟩=some (.int .i64 v.k):=by rw [Lib.cell_of_heap kb3];rfl
 have d7:w3.cell? ⟨W.heap.size,7,none⟩=some (.int .i64 v.n):=by rw [Lib.cell_of_heap kb3];rfl
 have d8:w3.cell? ⟨W.heap.size,8,none⟩=some (.string ⟨v.s.toArray⟩):=by rw [Lib.cell_of_heap kb3];rfl
 have HX:=yaa (HV.out w3 s3)
 have O3:=yaa o3
 clear s3 o3 HV HY kb3
 go_wp2_with (go_at_call 99;refine HX.out.mono ?_;rintro e w4 ⟨rfl,s4,o4⟩)
 try simp only [Exit.inBlock]
 go_end0
 refine ⟨rfl, ?_,fun q ob hq hne hty=>o4 q ob (O3.out q ob (O2.out q ob (O1.out q ob (yak (b:=b) B0.out q ob hq hne hty) hne hty) hne hty) hne hty) hne hty⟩
 have:=s4
 simp only [List.append_assoc] at this
 exact this
theorem ysA {B b:Nat} {Tb:World→Prop} {w0:World} (k:ItoaOk B Tb) (n c:List UInt8) (hn:n≠[]) (hc:c≠[]) (t:Int) (ht:atL yaB t≠[]) (v:Vl) (hv:ybJ v=true) (cv vv fv ea wa:Value) (ws:List (List UInt8)) (W:World) (hS:PSt B b Tb w0 ws W) (hlen:(yaj (ws++([w_alter,w_table,n]++([w_add]++(yaV ⟨c,t⟩++([w_default]++[yaI v])))))).length≤1000000) :
  Calls Tryz.prog 46 #[.pointer (some ⟨b,0,none⟩),.agg (cmL { cm0 with kind:=3,name:=n,column:=c,ty:=t,val:=v } cv vv fv ea wa).toArray] W (ya0 B b Tb w0 (ws++([w_alter,w_table,n]++([w_add]++(yaV ⟨c,t⟩++([w_default]++[yaI v]))))) W):=by
 have L:∀ p q:List (List UInt8),p++q=ws++([w_alter,w_table,n]++([w_add]++(yaV ⟨c,t⟩++([w_default]++[yaI v]))))→(yaj p).length≤1000000:=fun p q e=>Nat.le_trans (yaD p q) (by rw [e];exact hlen)
 have hp:=ybs k hS (.cells (cmL { cm0 with kind:=3,name:=n,column:=c,ty:=t,val:=v } cv vv fv ea wa).toArray 31) [w_alter,w_table,n] 3 #[.string ⟨w_alter.toArray⟩,.string ⟨w_table.toArray⟩,.string ⟨n.toArray⟩] rfl rfl (by intro x hx;simp at hx;rcases hx with rfl|rfl|rfl <;> first|assumption|decide) (L _ ([w_add]++(yaV ⟨c,t⟩++([w_default]++[yaI v]))) (by simp only [List.append_assoc])) (by decide)
 have B0:=yaa (((Below.refl W.heap.size W).alloc (Nat.le_refl _) (.cells (cmL { cm0 with kind:=3,name:=n,column:=c,ty:=t,val:=v } cv vv fv ea wa).toArray 31)).drew)
 have hbW:b < W.heap.size:=hS.pr.lt
 have HQ:=yaa (fun w1 (s1:PSt B b Tb w0 (ws++[w_alter,w_table,n]) w1)=>yst k n c hc t ht v hv cv vv fv ea wa (ws++[w_alter,w_table,n]) w1 s1 (L _ [] (by simp only [List.append_assoc,List.append_nil])))
 have HP:=yaa hp
 clear hp hlen hS L k hn hc ht hv
 unfold cmL
 simp only [cm0]
 go_enter Tryz.func46,Tryz.ntmps46
 go_wp2_with fail
 go_region_law (first|(go_simp;refine HP.out.mono ?_;rintro e w2 ⟨rfl,s2,o2⟩;dsimp only))
 all_goals
  have kb:=o2 _ _ (show (W.alloc _).drew.heap[W.heap.size]?=_ from heap_alloc_new W _) (by simp;omega) (by intro c f e;cases e)
  have HZ:=yaa (HQ.out w2 s2)
  have O2:=yaa o2
  clear s2 o2 HP HQ
  go_wp2_with (first|(refine yag 31 _ rfl rfl _ (cmL { cm0 with kind:=3,name:=n,column:=c,ty:=t,val:=v } cv vv fv ea wa) 31 _ rfl (by exact kb) Tryz.underlying31 rfl Tryz.size31 ?_)|(go_at_call 97;refine HZ.out.mono ?_;rintro e w3 ⟨rfl,s3,o3⟩))
  try simp only [Exit.inBlock]
  go_end0
  refine ⟨rfl, ?_,fun q ob hq hne hty=>o3 q ob (O2.out q ob (yak (b:=b) B0.out q ob hq hne hty) hne hty) hne hty⟩
  have:=s3
  simp only [List.append_assoc] at this
  exact this
theorem ysB {B b:Nat} {Tb:World→Prop} {w0:World} (k:ItoaOk B Tb) (n c:List UInt8) (hn:n≠[]) (hc:c≠[]) (cv vv fv ea wa:Value) (ws:List (List UInt8)) (W:World) (hS:PSt B b Tb w0 ws W) (hlen:(yaj (ws++([w_alter,w_table,n]++([w_drop,c])))).length≤1000000) :
  Calls Tryz.prog 46 #[.pointer (some ⟨b,0,none⟩),.agg (cmL { cm0 with kind:=4,name:=n,column:=c } cv vv fv ea wa).toArray] W (ya0 B b Tb w0 (ws++([w_alter,w_table,n]++([w_drop,c]))) W):=by
 have L:∀ p q:List (List UInt8),p++q=ws++([w_alter,w_table,n]++([w_drop,c]))→(yaj p).length≤1000000:=fun p q e=>Nat.le_trans (yaD p q) (by rw [e];exact hlen)
 have hp:=ybs k hS (.cells (cmL { cm0 with kind:=4,name:=n,column:=c } cv vv fv ea wa).toArray 31) [w_alter,w_table,n] 3 #[.string ⟨w_alter.toArray⟩,.string ⟨w_table.toArray⟩,.string ⟨n.toArray⟩] rfl rfl (by intro x hx;simp at hx;rcases hx with rfl|rfl|rfl <;> first|assumption|decide) (L _ ([w_drop,c]) (by simp only [List.append_assoc])) (by decide)
 have B0:=yaa (((Below.refl W.heap.size W).alloc (Nat.le_refl _) (.cells (cmL { cm0 with kind:=4,name:=n,column:=c } cv vv fv ea wa).toArray 31)).drew)
 have hbW:b < W.heap.size:=hS.pr.lt
 have HQ:=yaa (fun w1 (s1:PSt B b Tb w0 (ws++[w_alter,w_table,n]) w1)=>ysu k n c hc cv vv fv ea wa (ws++[w_alter,w_table,n]) w1 s1 (L _ [] (by simp only [List.append_assoc,List.append_nil])))
 have HP:=yaa hp
 clear hp hlen hS L k hn hc
 unfold cmL
 simp only [cm0]
 go_enter Tryz.func46,Tryz.ntmps46
 go_wp2_with fail
 go_region_law (first|(go_simp;refine HP.out.mono ?_;rintro e w2 ⟨rfl,s2,o2⟩;dsimp only))
 all_goals
  have kb:=o2 _ _ (show (W.alloc _).drew.heap[W.heap.size]?=_ from heap_alloc_new W _) (by simp;omega) (by intro c f e;cases e)
  have HZ:=yaa (HQ.out w2 s2)
  have O2:=yaa o2
  clear s2 o2 HP HQ
  go_wp2_with (first|(refine yag 31 _ rfl rfl _ (cmL { cm0 with kind:=4,name:=n,column:=c } cv vv fv ea wa) 31 _ rfl (by exact kb) Tryz.underlying31 rfl Tryz.size31 ?_)|(go_at_call 97;refine HZ.out.mono ?_;rintro e w3 ⟨rfl,s3,o3⟩))
  try simp only [Exit.inBlock]
  go_end0
  refine ⟨rfl, ?_,fun q ob hq hne hty=>o3 q ob (O2.out q ob (yak (b:=b) B0.out q ob hq hne hty) hne hty) hne hty⟩
  have:=s3
  simp only [List.append_assoc] at this
  exact this
theorem ysC {B b:Nat} {Tb:World→Prop} {w0:World} (k:ItoaOk B Tb) (n c o:List UInt8) (hn:n≠[]) (hc:c≠[]) (ho:o≠[]) (cv vv fv ea wa:Value) (ws:List (List UInt8)) (W:World) (hS:PSt B b Tb w0 ws W) (hlen:(yaj (ws++([w_alter,w_table,n]++([w_rename,c,w_to,o])))).length≤1000000) :
  Calls Tryz.prog 46 #[.pointer (some ⟨b,0,none⟩),.agg (cmL { cm0 with kind:=5,name:=n,column:=c,other:=o } cv vv fv ea wa).toArray] W (ya0 B b Tb w0 (ws++([w_alter,w_table,n]++([w_rename,c,w_to,o]))) W):=by
 have L:∀ p q:List (List UInt8),p++q=ws++([w_alter,w_table,n]++([w_rename,c,w_to,o]))→(yaj p).length≤1000000:=fun p q e=>Nat.le_trans (yaD p q) (by rw [e];exact hlen)
 have hp:=ybs k hS (.cells (cmL { cm0 with kind:=5,name:=n,column:=c,other:=o } cv vv fv ea wa).toArray 31) [w_alter,w_table,n] 3 #[.string ⟨w_alter.toArray⟩,.string ⟨w_table.toArray⟩,.string ⟨n.toArray⟩] rfl rfl (by intro x hx;simp at hx;rcases hx with rfl|rfl|rfl <;> first|assumption|decide) (L _ ([w_rename,c,w_to,o]) (by simp only [List.append_assoc])) (by decide)
 have B0:=yaa (((Below.refl W.heap.size W).alloc (Nat.le_refl _) (.cells (cmL { cm0 with kind:=5,name:=n,column:=c,other:=o } cv vv fv ea wa).toArray 31)).drew)
 have hbW:b < W.heap.size:=hS.pr.lt
 have HQ:=yaa (fun w1 (s1:PSt B b Tb w0 (ws++[w_alter,w_table,n]) w1)=>ysv k n c o hc ho cv vv fv ea wa (ws++[w_alter,w_table,n]) w1 s1 (L _ [] (by simp only [List.append_assoc,List.append_nil])))
 have HP:=yaa hp
 clear hp hlen hS L k hn hc ho
 unfold cmL
 simp only [cm0]
 go_enter Tryz.func46,Tryz.ntmps46
 go_wp2_with fail
 go_region_law (first|(go_simp;refine HP.out.mono ?_;rintro e w2 ⟨rfl,s2,o2⟩;dsimp only))
 all_goals
  have kb:=o2 _ _ (show (W.alloc _).drew.heap[W.heap.size]?=_ from heap_alloc_new W _) (by simp;omega) (by intro c f e;cases e)
  have HZ:=yaa (HQ.out w2 s2)
  have O2:=yaa o2
  clear s2 o2 HP HQ
  go_wp2_with (first|(refine yag 31 _ rfl rfl _ (cmL { cm0 with kind:=5,name:=n,column:=c,other:=o } cv vv fv ea wa) 31 _ rfl (by exact kb) Tryz.underlying31 rfl Tryz.size31 ?_)|(go_at_call 97;refine HZ.out.mono ?_;rintro e w3 ⟨rfl,s3,o3⟩))
  try simp only [Exit.inBlock]
  go_end0
  refine ⟨rfl, ?_,fun q ob hq hne hty=>o3 q ob (O2.out q ob (yak (b:=b) B0.out q ob hq hne hty) hne hty) hne hty⟩
  have:=s3
  simp only [List.append_assoc] at this
  exact this
theorem ysD {B b:Nat} {Tb:World→Prop} {w0:World} (k:ItoaOk B Tb) (n c:List UInt8) (hn:n≠[]) (hc:c≠[]) (t:Int) (ht:atL yaB t≠[]) (cv vv fv ea wa:Value) (ws:List (List UInt8)) (W:World) (hS:PSt B b Tb w0 ws W) (hlen:(yaj (ws++([w_alter,w_table,n]++([w_retype]++yaV ⟨c,t⟩)))).length≤1000000) :
  Calls Tryz.prog 46 #[.pointer (some ⟨b,0,none⟩),.agg (cmL { cm0 with kind:=6,name:=n,column:=c,ty:=t } cv vv fv ea wa).toArray] W (ya0 B b Tb w0 (ws++([w_alter,w_table,n]++([w_retype]++yaV ⟨c,t⟩))) W):=by
 have L:∀ p q:List (List UInt8),p++q=ws++([w_alter,w_table,n]++([w_retype]++yaV ⟨c,t⟩))→(yaj p).length≤1000000:=fun p q e=>Nat.le_trans (yaD p q) (by rw [e];exact hlen)
 have hp:=ybs k hS (.cells (cmL { cm0 with kind:=6,name:=n,column:=c,ty:=t } cv vv fv ea wa).toArray 31) [w_alter,w_table,n] 3 #[.string ⟨w_alter.toArray⟩,.string ⟨w_table.toArray⟩,.string ⟨n.toArray⟩] rfl rfl (by intro x hx;simp at hx;rcases hx with rfl|rfl|rfl <;> first|assumption|decide) (L _ ([w_retype]++yaV ⟨c,t⟩) (by simp only [List.append_assoc])) (by decide)
 have B0:=yaa (((Below.refl W.heap.size W).alloc (Nat.le_refl _) (.cells (cmL { cm0 with kind:=6,name:=n,column:=c,ty:=t } cv vv fv ea wa).toArray 31)).drew)
 have hbW:b < W.heap.size:=hS.pr.lt
 have HQ:=yaa (fun w1 (s1:PSt B b Tb w0 (ws++[w_alter,w_table,n]) w1)=>ysw k n c hc t ht cv vv fv ea wa (ws++[w_alter,w_table,n]) w1 s1 (L _ [] (by simp only [List.append_assoc,List.append_nil])))
 have HP:=yaa hp
 clear hp hlen hS L k hn hc ht
 unfold cmL
 simp only [cm0]
 go_enter Tryz.func46,Tryz.ntmps46
 go_wp2_with fail
 go_region_law (first|(go_simp;refine HP.out.mono ?_;rintro e w2 ⟨rfl,s2,o2⟩;dsimp only))
 all_goals
  have kb:=o2 _ _ (show (W.alloc _).drew.heap[W.heap.size]?=_ from heap_alloc_new W _) (by simp;omega) (by intro c f e;cases e)
  have HZ:=yaa (HQ.out w2 s2)
  have O2:=yaa o2
  clear s2 o2 HP HQ
  go_wp2_with (first|(refine yag 31 _ rfl rfl _ (cmL { cm0 with kind:=6,name:=n,column:=c,ty:=t } cv vv fv ea wa) 31 _ rfl (by exact kb) Tryz.underlying31 rfl Tryz.size31 ?_)|(go_at_call 97;refine HZ.out.mono ?_;rintro e w3 ⟨rfl,s3,o3⟩))
  try simp only [Exit.inBlock]
  go_end0
  refine ⟨rfl, ?_,fun q ob hq hne hty=>o3 q ob (O2.out q ob (yak (b:=b) B0.out q ob hq hne hty) hne hty) hne hty⟩
  have:=s3
  simp only [List.append_assoc] at this
  exact this
theorem ysE {B b:Nat} {Tb:World→Prop} {w0:World} (k:ItoaOk B Tb) (n o:List UInt8) (hn:n≠[]) (ho:o≠[]) (cv vv fv ea wa:Value) (ws:List (List UInt8)) (W:World) (hS:PSt B b Tb w0 ws W) (hlen:(yaj (ws++([w_alter,w_table,n]++([w_rename,w_to,o])))).length≤1000000) :
  Calls Tryz.prog 46 #[.pointer (some ⟨b,0,none⟩),.agg (cmL { cm0 with kind:=7,name:=n,other:=o } cv vv fv ea wa).toArray] W (ya0 B b Tb w0 (ws++([w_alter,w_table,n]++([w_rename,w_to,o]))) W):=by
 have L:∀ p q:List (List UInt8),p++q=ws++([w_alter,w_table,n]++([w_rename,w_to,o]))→(yaj p).length≤1000000:=fun p q e=>Nat.le_trans (yaD p q) (by rw [e];exact hlen)
 have hp:=ybs k hS (.cells (cmL { cm0 with kind:=7,name:=n,other:=o } cv vv fv ea wa).toArray 31) [w_alter,w_table,n] 3 #[.string ⟨w_alter.toArray⟩,.string ⟨w_table.toArray⟩,.string ⟨n.toArray⟩] rfl rfl (by intro x hx;simp at hx;rcases hx with rfl|rfl|rfl <;> first|assumption|decide) (L _ ([w_rename,w_to,o]) (by simp only [List.append_assoc])) (by decide)
 have B0:=yaa (((Below.refl W.heap.size W).alloc (Nat.le_refl _) (.cells (cmL { cm0 with kind:=7,name:=n,other:=o } cv vv fv ea wa).toArray 31)).drew)
 have hbW:b < W.heap.size:=hS.pr.lt
 have HQ:=yaa (fun w1 (s1:PSt B b Tb w0 (ws++[w_alter,w_table,n]) w1)=>ysx k n o ho cv vv fv ea wa (ws++[w_alter,w_table,n]) w1 s1 (L _ [] (by simp only [List.append_assoc,List.append_nil])))
 have HP:=yaa hp
 clear hp hlen hS L k hn ho
 unfold cmL
 simp only [cm0]
 go_enter Tryz.func46,Tryz.ntmps46
 go_wp2_with fail
 go_region_law (first|(go_simp;refine HP.out.mono ?_;rintro e w2 ⟨rfl,s2,o2⟩;dsimp only))
 all_goals
  have kb:=o2 _ _ (show (W.alloc _).drew.heap[W.heap.size]?=_ from heap_alloc_new W _) (by simp;omega) (by intro c f e;cases e)
  have HZ:=yaa (HQ.out w2 s2)
  have O2:=yaa o2
  clear s2 o2 HP HQ
  go_wp2_with (first|(refine yag 31 _ rfl rfl _ (cmL { cm0 with kind:=7,name:=n,other:=o } cv vv fv ea wa) 31 _ rfl (by exact kb) Tryz.underlying31 rfl Tryz.size31 ?_)|(go_at_call 97;refine HZ.out.mono ?_;rintro e w3 ⟨rfl,s3,o3⟩))
  try simp only [Exit.inBlock]
  go_end0
  refine ⟨rfl, ?_,fun q ob hq hne hty=>o3 q ob (O2.out q ob (yak (b:=b) B0.out q ob hq hne hty) hne hty) hne hty⟩
  have:=s3
  simp only [List.append_assoc] at this
  exact this
theorem ycc {B b:Nat} {Tb:World→Prop} {w0:World} {ws:List (List UInt8)} {W:World} (k:ItoaOk B Tb) (h:PSt B b Tb w0 ws W) (ts:List (List UInt8)) (n:Nat) (cs:Array Value) (hcs:cs.toList=ts.map fun x=>Value.string ⟨x.toArray⟩) (hn:ts.length=n) (hne:∀ x ∈ ts,x≠[]) (hlen:(yaj (ws++ts)).length≤1000000) (hsm:n≤1000000) :
  Calls Tryz.prog 94 #[.pointer (some ⟨b,0,none⟩),.slice (some ⟨W.heap.size,0,none⟩) n n] (W.drew.alloc (.cells cs 9)) (ya0 B b Tb w0 (ws++ts) W.drew) :=
 ybG k (h.below k (Below.refl _ _).drew) ts n cs hcs hn hne hlen hsm
theorem yco {B b:Nat} {Tb:World→Prop} {w0:World} {ws:List (List UInt8)} {W:World} (k:ItoaOk B Tb) (h:PSt B b Tb w0 ws W) (o o':Obj) (ts:List (List UInt8)) (n:Nat) (cs:Array Value) (hcs:cs.toList=ts.map fun x=>Value.string ⟨x.toArray⟩) (hn:ts.length=n) (hne:∀ x ∈ ts,x≠[]) (hlen:(yaj (ws++ts)).length≤1000000) (hsm:n≤1000000) :
  Calls Tryz.prog 94 #[.pointer (some ⟨b,0,none⟩),.slice (some ⟨W.heap.size+1+1,0,none⟩) n n] (((W.alloc o).alloc o').alloc (.cells cs 9)) (ya0 B b Tb w0 (ws++ts) ((W.alloc o).alloc o')):=by
 have h1:=h.below k ((Below.refl W.heap.size W).alloc (Nat.le_refl _) o)
 have:=ycb k h1 o' ts n cs hcs hn hne hlen hsm
 rw [show (W.alloc o).heap.size=W.heap.size+1 by simp] at this
 exact this
theorem yc8 {B b:Nat} {Tb:World→Prop} {w0:World} (ao:Option Addr) (ca:Nat) (f:Value) (ws:List (List UInt8)) (W:World) (hS:PSt B b Tb w0 ws W):Calls Tryz.prog 139 #[.pointer (some ⟨b,0,none⟩),.slice ao 0 ca,f] W (ya0 B b Tb w0 ws W):=by
 have H:=yaa hS
 clear hS
 go_enter Tryz.func139,Tryz.ntmps139
 go_wp2
 go_loopw [6,7,10] (fun _ _ i wl=>i=.int .i64 0∧wl=W) (fun _ _ _ _=>0)
 case atStart=>exact ⟨rfl,rfl⟩
 case round =>
  obtain ⟨rfl,rfl⟩:=hrel
  go_wp2
  go_end0
  exact ⟨rfl,H.out,Lib.OthersKept.refl _ _ _⟩
theorem yhT {B b:Nat} {Tb:World→Prop} {w0:World} (k:ItoaOk B Tb) (hw:w0.heap.size≤B) (n:List UInt8) (hn:n≠[]) (l:List (List UInt8)) (hl0:l≠[]) (hl:∀ x ∈ l,x≠[]) (h5:l.length≤5) (a:Bool) (x:Ex) (hr:RightW a x) (o:List UInt8) (ho:o=[]) (m:Int) (hm:m < 0) (cv vv fv ea wa:Value) (hi:CmIn 0 w0 { cm0 with kind:=13,name:=n,fields:=l,all:=a,wh:=x,order:=o,limit:=m } cv vv fv ea wa) (ws:List (List UInt8)) (W:World) (hS:PSt B b Tb w0 ws W) (hlen:(yaj (ws++([w_select]++(yal (fun s=>[s]) l++([w_from,n]++(yap { cm0 with kind:=13,name:=n,fields:=l,all:=a,wh:=x,order:=o,limit:=m })))))).length≤1000000) :
  Calls Tryz.prog 102 #[.pointer (some ⟨b,0,none⟩),.agg (cmL { cm0 with kind:=13,name:=n,fields:=l,all:=a,wh:=x,order:=o,limit:=m } cv vv fv ea wa).toArray] W (ya0 B b Tb w0 (ws++([w_select]++(yal (fun s=>[s]) l++([w_from,n]++(yap { cm0 with kind:=13,name:=n,fields:=l,all:=a,wh:=x,order:=o,limit:=m }))))) W):=by
 have L:∀ p q:List (List UInt8),p++q=ws++([w_select]++(yal (fun s=>[s]) l++([w_from,n]++(yap { cm0 with kind:=13,name:=n,fields:=l,all:=a,wh:=x,order:=o,limit:=m }))))→(yaj p).length≤1000000:=fun p q e=>Nat.le_trans (yaD p q) (by rw [e];exact hlen)
 have hp:=yaa (yco k hS (.cells #[.pointer (some ⟨b,0,none⟩)] 117) (.cells (cmL { cm0 with kind:=13,name:=n,fields:=l,all:=a,wh:=x,order:=o,limit:=m } cv vv fv ea wa).toArray 31) [w_select] 1 #[.string ⟨w_select.toArray⟩] rfl rfl (by intro x hx;simp at hx;subst hx;decide) (L _ (yal (fun s=>[s]) l++([w_from,n]++(yap { cm0 with kind:=13,name:=n,fields:=l,all:=a,wh:=x,order:=o,limit:=m }))) (by simp only [List.append_assoc])) (by decide))
 have b1:=(Below.refl W.heap.size W).alloc (Nat.le_refl _) (.cells #[.pointer (some ⟨b,0,none⟩)] 117)
 have B0:=yaa (b1.alloc (by simp) (.cells (cmL { cm0 with kind:=13,name:=n,fields:=l,all:=a,wh:=x,order:=o,limit:=m } cv vv fv ea wa).toArray 31))
 have hbW:b < W.heap.size:=hS.pr.lt
 obtain ⟨ao,ca,e0,h1⟩:=hi.fields.slice
 obtain ⟨g,og,rfl,hg,hc⟩:=h1 (List.length_pos_iff.2 hl0)
 have e1:fv=.slice (some ⟨g,og,none⟩) l.length ca:=e0
 have HS2:=yaa (fun w1 (s1:PSt B b Tb w0 (ws++[w_select]) w1) (hv:w1.heap[W.heap.size]?=some (.cells #[.pointer (some ⟨b,0,none⟩)] 117))=>yc7 k l g og ca W.heap.size (by omega) (fun i x hx=>by have:=hc _ _ (ybc stC (m:=1) (fun _=>rfl) l i 0 x _ hx rfl);rw [Nat.mul_one] at this;exact this) hl (by omega) (ws++[w_select]) w1 s1 hv (by omega) (L _ ([w_from,n]++(yap { cm0 with kind:=13,name:=n,fields:=l,all:=a,wh:=x,order:=o,limit:=m })) (by simp only [List.append_assoc])))
 have HF:=yaa (fun w3 (s3:PSt B b Tb w0 (ws++[w_select]++yal (fun s=>[s]) l) w3)=>ycc k s3 [w_from,n] 2 #[.string ⟨w_from.toArray⟩,.string ⟨n.toArray⟩] rfl rfl (by intro x hx;simp at hx;rcases hx with rfl|rfl <;> first|assumption|decide) (L _ (yap { cm0 with kind:=13,name:=n,fields:=l,all:=a,wh:=x,order:=o,limit:=m }) (by simp only [List.append_assoc])) (by decide))
 have HWh:=yaa (fun w4 (s4:PSt B b Tb w0 (ws++[w_select]++yal (fun s=>[s]) l++[w_from,n]) w4)=>ybw k hw { cm0 with kind:=13,name:=n,fields:=l,all:=a,wh:=x,order:=o,limit:=m } cv vv fv ea wa hi.wh hr (ws++[w_select]++yal (fun s=>[s]) l++[w_from,n]) w4 s4 (L _ ([]) (by simp only [List.append_assoc,List.append_nil])))
 have qm:¬ ((0:Int)≤m):=by omega
 have K:=yaa k
 have hcm:∀ w1:World,w1.heap[W.heap.size+1]?=some (.cells (cmL { cm0 with kind:=13,name:=n,fields:=l,all:=a,wh:=x,order:=o,limit:=m } cv vv fv ea wa).toArray 31)→(w1.cell? ⟨W.heap.size+1,1,none⟩=some (.string ⟨n.toArray⟩)∧w1.cell? ⟨W.heap.size+1,10,none⟩=some fv∧w1.cell? ⟨W.heap.size+1,24,none⟩=some (.string ⟨o.toArray⟩)∧w1.cell? ⟨W.heap.size+1,25,none⟩=some (.int .i64 m)):=fun w1 kb=>⟨by rw [Lib.cell_of_heap kb];rfl,by rw [Lib.cell_of_heap kb];rfl,by rw [Lib.cell_of_heap kb];rfl,by rw [Lib.cell_of_heap kb];rfl⟩
 have HC:=yaa hcm
 have hvv:∀ w1:World,w1.heap[W.heap.size]?=some (.cells #[.pointer (some ⟨b,0,none⟩)] 117)→w1.cell? ⟨W.heap.size,0,none⟩=some (.pointer (some ⟨b,0,none⟩)):=fun w1 kb=>by rw [Lib.cell_of_heap kb];rfl
 have HVV:=yaa hvv
 clear hcm hvv hlen hS L k hn hr hi hw  h1 hm hl h5 hg hc
 have ql:((l.length:Int) == 0)=false:=by simp [hl0]
 have qz:¬ ((l.length:Int)=0):=by simp [hl0]
 subst e1
 subst ho
 unfold cmL
 simp only [cm0]
 go_enter Tryz.func102,Tryz.ntmps102
 go_wp2_with fail
 refine hp.out.mono ?_
 rintro e w1 ⟨rfl,s1,o1⟩
 have ka:((W.alloc (.cells #[.pointer (some ⟨b,0,none⟩)] 117)).alloc (.cells (cmL { cm0 with kind:=13,name:=n,fields:=l,all:=a,wh:=x,order:=[],limit:=m } cv vv (.slice (some ⟨g,og,none⟩) l.length ca) ea wa).toArray 31)).heap[W.heap.size+1]?=some (.cells (cmL { cm0 with kind:=13,name:=n,fields:=l,all:=a,wh:=x,order:=[],limit:=m } cv vv (.slice (some ⟨g,og,none⟩) l.length ca) ea wa).toArray 31):=by
  have:=heap_alloc_new (W.alloc (.cells #[.pointer (some ⟨b,0,none⟩)] 117)) (.cells (cmL { cm0 with kind:=13,name:=n,fields:=l,all:=a,wh:=x,order:=[],limit:=m } cv vv (.slice (some ⟨g,og,none⟩) l.length ca) ea wa).toArray 31)
  rwa [show (W.alloc (.cells #[.pointer (some ⟨b,0,none⟩)] 117)).heap.size=W.heap.size+1 by simp] at this
 have kv:((W.alloc (.cells #[.pointer (some ⟨b,0,none⟩)] 117)).alloc (.cells (cmL { cm0 with kind:=13,name:=n,fields:=l,all:=a,wh:=x,order:=[],limit:=m } cv vv (.slice (some ⟨g,og,none⟩) l.length ca) ea wa).toArray 31)).heap[W.heap.size]?=some (.cells #[.pointer (some ⟨b,0,none⟩)] 117):=(Below.heap_alloc _ _ _ (by simp)).trans (heap_alloc_new W _)
 have ka:=yaa (o1 _ _ ka (by simp;omega) (by intro c f e;cases e))
 have kv:=yaa (o1 _ _ kv (by simp;omega) (by intro c f e;cases e))
 obtain ⟨d1,d10,d24,d25⟩:=HC.out w1 ka.out
 have dv:=HVV.out w1 kv.out
 clear d1
 clear d24
 clear d25
 have l1:W.heap.size < w1.heap.size:=(ltS kv.out)
 have l2:W.heap.size+1 < w1.heap.size:=(ltS ka.out)
 have l3:W.heap.size≠w1.heap.size:=Nat.ne_of_lt l1
 have l4:W.heap.size+1≠w1.heap.size:=Nat.ne_of_lt l2
 have O1:=yaa o1
 have HZ:=yaa (HS2.out w1 s1 kv.out)
 clear s1 o1 hp HS2
 have O2:Hid (Lib.OthersKept 5 (some b) w1 w1):=Lib.OthersKept.refl _ _ _
 go_wp2_with fail
 refine HZ.out.mono ?_
 rintro e w3 ⟨rfl,s3,o3⟩
 clear dv d10
 have ka:=yaa (o3 _ _ ka.out (by simp;omega) (by intro c f e;cases e))
 have kv:=yaa (o3 _ _ kv.out (by simp;omega) (by intro c f e;cases e))
 obtain ⟨d1,d10,d24,d25⟩:=HC.out w3 ka.out
 have dv:=HVV.out w3 kv.out
 clear d10
 clear d24
 clear d25
 clear l1 l2 l3 l4
 have l1:W.heap.size < w3.heap.size:=(ltS kv.out)
 have l2:W.heap.size+1 < w3.heap.size:=(ltS ka.out)
 have l3:W.heap.size≠w3.heap.size:=Nat.ne_of_lt l1
 have l4:W.heap.size+1≠w3.heap.size:=Nat.ne_of_lt l2
 have O3:=yaa o3
 have HY3:=yaa (HF.out w3 s3)
 clear s3 o3 HZ HF
 go_wp2_with fail
 go_region_law (first|(go_simp;refine HY3.out.mono ?_;rintro e w4 ⟨rfl,s4,o4⟩;dsimp only))
 all_goals
  have o4':Lib.OthersKept 5 (some b) w3 w4:=fun q ob hq hne hty=>o4 q ob hq hne hty
  clear dv d1
  have ka:=yaa (o4' _ _ ka.out (by simp;omega) (by intro c f e;cases e))
  have kv:=yaa (o4' _ _ kv.out (by simp;omega) (by intro c f e;cases e))
  obtain ⟨d1,d10,d24,d25⟩:=HC.out w4 ka.out
  have dv:=HVV.out w4 kv.out
  clear d1
  clear d10
  clear d24
  clear d25
  clear l1 l2 l3 l4
  have l1:W.heap.size < w4.heap.size:=(ltS kv.out)
  have l2:W.heap.size+1 < w4.heap.size:=(ltS ka.out)
  have l3:W.heap.size≠w4.heap.size:=Nat.ne_of_lt l1
  have l4:W.heap.size+1≠w4.heap.size:=Nat.ne_of_lt l2
  have O4:=yaa o4'
  have HY4:=yaa (HWh.out w4 s4)
  clear s4 o4 o4' HY3 HWh
  go_wp2_with (first|(refine yag 31 _ rfl rfl _ (cmL { cm0 with kind:=13,name:=n,fields:=l,all:=a,wh:=x,order:=[],limit:=m } cv vv (.slice (some ⟨g,og,none⟩) l.length ca) ea wa) 31 _ rfl (by exact ka.out) Tryz.underlying31 rfl Tryz.size31 ?_)|fail)
  refine HY4.out.mono ?_
  rintro e w5 ⟨rfl,s5,o5⟩
  clear dv
  have ka:=yaa (o5 _ _ ka.out (by simp;omega) (by intro c f e;cases e))
  have kv:=yaa (o5 _ _ kv.out (by simp;omega) (by intro c f e;cases e))
  obtain ⟨d1,d10,d24,d25⟩:=HC.out w5 ka.out
  have dv:=HVV.out w5 kv.out
  clear d1
  clear d10
  clear l1 l2 l3 l4
  have l1:W.heap.size < w5.heap.size:=(ltS kv.out)
  have l2:W.heap.size+1 < w5.heap.size:=(ltS ka.out)
  have l3:W.heap.size≠w5.heap.size:=Nat.ne_of_lt l1
  have l4:W.heap.size+1≠w5.heap.size:=Nat.ne_of_lt l2
  have O5:=yaa o5
  have KEPT:Hid (Lib.OthersKept 5 (some b) W w5):=fun q ob hq hne hty=>O5.out q ob (O4.out q ob (O3.out q ob (O2.out q ob (O1.out q ob (yak (b:=b) B0.out q ob hq hne hty) hne hty) hne hty) hne hty) hne hty) hne hty
  clear o5 HY4
  go_wp2
  try simp only [Exit.inBlock]
  go_end0
  refine ⟨rfl, ?_,KEPT.out⟩
  have:=s5
  simp only [List.append_assoc] at this
  exact this
theorem yhV {B b:Nat} {Tb:World→Prop} {w0:World} (k:ItoaOk B Tb) (hw:w0.heap.size≤B) (n:List UInt8) (hn:n≠[]) (l:List (List UInt8)) (hl0:l≠[]) (hl:∀ x ∈ l,x≠[]) (h5:l.length≤5) (a:Bool) (x:Ex) (hr:RightW a x) (o:List UInt8) (ho:o≠[]) (m:Int) (hm:m < 0) (cv vv fv ea wa:Value) (hi:CmIn 0 w0 { cm0 with kind:=13,name:=n,fields:=l,all:=a,wh:=x,order:=o,limit:=m } cv vv fv ea wa) (ws:List (List UInt8)) (W:World) (hS:PSt B b Tb w0 ws W) (hlen:(yaj (ws++([w_select]++(yal (fun s=>[s]) l++([w_from,n]++(yap { cm0 with kind:=13,name:=n,fields:=l,all:=a,wh:=x,order:=o,limit:=m }++([w_order,w_by,o]))))))).length≤1000000) :
  Calls Tryz.prog 102 #[.pointer (some ⟨b,0,none⟩),.agg (cmL { cm0 with kind:=13,name:=n,fields:=l,all:=a,wh:=x,order:=o,limit:=m } cv vv fv ea wa).toArray] W (ya0 B b Tb w0 (ws++([w_select]++(yal (fun s=>[s]) l++([w_from,n]++(yap { cm0 with kind:=13,name:=n,fields:=l,all:=a,wh:=x,order:=o,limit:=m }++([w_order,w_by,o])))))) W):=by
 have L:∀ p q:List (List UInt8),p++q=ws++([w_select]++(yal (fun s=>[s]) l++([w_from,n]++(yap { cm0 with kind:=13,name:=n,fields:=l,all:=a,wh:=x,order:=o,limit:=m }++([w_order,w_by,o])))))→(yaj p).length≤1000000:=fun p q e=>Nat.le_trans (yaD p q) (by rw [e];exact hlen)
 have hp:=yaa (yco k hS (.cells #[.pointer (some ⟨b,0,none⟩)] 117) (.cells (cmL { cm0 with kind:=13,name:=n,fields:=l,all:=a,wh:=x,order:=o,limit:=m } cv vv fv ea wa).toArray 31) [w_select] 1 #[.string ⟨w_select.toArray⟩] rfl rfl (by intro x hx;simp at hx;subst hx;decide) (L _ (yal (fun s=>[s]) l++([w_from,n]++(yap { cm0 with kind:=13,name:=n,fields:=l,all:=a,wh:=x,order:=o,limit:=m }++([w_order,w_by,o])))) (by simp only [List.append_assoc])) (by decide))
 have b1:=(Below.refl W.heap.size W).alloc (Nat.le_refl _) (.cells #[.pointer (some ⟨b,0,none⟩)] 117)
 have B0:=yaa (b1.alloc (by simp) (.cells (cmL { cm0 with kind:=13,name:=n,fields:=l,all:=a,wh:=x,order:=o,limit:=m } cv vv fv ea wa).toArray 31))
 have hbW:b < W.heap.size:=hS.pr.lt
 obtain ⟨ao,ca,e0,h1⟩:=hi.fields.slice
 obtain ⟨g,og,rfl,hg,hc⟩:=h1 (List.length_pos_iff.2 hl0)
 have e1:fv=.slice (some ⟨g,og,none⟩) l.length ca:=e0
 have HS2:=yaa (fun w1 (s1:PSt B b Tb w0 (ws++[w_select]) w1) (hv:w1.heap[W.heap.size]?=some (.cells #[.pointer (some ⟨b,0,none⟩)] 117))=>yc7 k l g og ca W.heap.size (by omega) (fun i x hx=>by have:=hc _ _ (ybc stC (m:=1) (fun _=>rfl) l i 0 x _ hx rfl);rw [Nat.mul_one] at this;exact this) hl (by omega) (ws++[w_select]) w1 s1 hv (by omega) (L _ ([w_from,n]++(yap { cm0 with kind:=13,name:=n,fields:=l,all:=a,wh:=x,order:=o,limit:=m }++([w_order,w_by,o]))) (by simp only [List.append_assoc])))
 have HF:=yaa (fun w3 (s3:PSt B b Tb w0 (ws++[w_select]++yal (fun s=>[s]) l) w3)=>ycc k s3 [w_from,n] 2 #[.string ⟨w_from.toArray⟩,.string ⟨n.toArray⟩] rfl rfl (by intro x hx;simp at hx;rcases hx with rfl|rfl <;> first|assumption|decide) (L _ (yap { cm0 with kind:=13,name:=n,fields:=l,all:=a,wh:=x,order:=o,limit:=m }++([w_order,w_by,o])) (by simp only [List.append_assoc])) (by decide))
 have HWh:=yaa (fun w4 (s4:PSt B b Tb w0 (ws++[w_select]++yal (fun s=>[s]) l++[w_from,n]) w4)=>ybw k hw { cm0 with kind:=13,name:=n,fields:=l,all:=a,wh:=x,order:=o,limit:=m } cv vv fv ea wa hi.wh hr (ws++[w_select]++yal (fun s=>[s]) l++[w_from,n]) w4 s4 (L _ ([w_order,w_by,o]) (by simp only [List.append_assoc])))
 have HO:=yaa (fun w5 (s5:PSt B b Tb w0 (ws++[w_select]++yal (fun s=>[s]) l++[w_from,n]++yap { cm0 with kind:=13,name:=n,fields:=l,all:=a,wh:=x,order:=o,limit:=m }) w5)=>ycc k s5 [w_order,w_by,o] 3 #[.string ⟨w_order.toArray⟩,.string ⟨w_by.toArray⟩,.string ⟨o.toArray⟩] rfl rfl (by intro x hx;simp at hx;rcases hx with rfl|rfl|rfl <;> first|assumption|decide) (L _ ([]) (by simp only [List.append_assoc,List.append_nil])) (by decide))
 have qo:o.isEmpty=false:=by cases o with|nil=>exact absurd rfl ho|cons _ _=>rfl
 have qm:¬ ((0:Int)≤m):=by omega
 have K:=yaa k
 have hcm:∀ w1:World,w1.heap[W.heap.size+1]?=some (.cells (cmL { cm0 with kind:=13,name:=n,fields:=l,all:=a,wh:=x,order:=o,limit:=m } cv vv fv ea wa).toArray 31)→(w1.cell? ⟨W.heap.size+1,1,none⟩=some (.string ⟨n.toArray⟩)∧w1.cell? ⟨W.heap.size+1,10,none⟩=some fv∧w1.cell? ⟨W.heap.size+1,24,none⟩=some (.string ⟨o.toArray⟩)∧w1.cell? ⟨W.heap.size+1,25,none⟩=some (.int .i64 m)):=fun w1 kb=>⟨by rw [Lib.cell_of_heap kb];rfl,by rw [Lib.cell_of_heap kb];rfl,by rw [Lib.cell_of_heap kb];rfl,by rw [Lib.cell_of_heap kb];rfl⟩
 have HC:=yaa hcm
 have hvv:∀ w1:World,w1.heap[W.heap.size]?=some (.cells #[.pointer (some ⟨b,0,none⟩)] 117)→w1.cell? ⟨W.heap.size,0,none⟩=some (.pointer (some ⟨b,0,none⟩)):=fun w1 kb=>by rw [Lib.cell_of_heap kb];rfl
 have HVV:=yaa hvv
 clear hcm hvv hlen hS L k hn hr hi hw  h1 hm hl h5 hg hc ho
 have ql:((l.length:Int) == 0)=false:=by simp [hl0]
 have qz:¬ ((l.length:Int)=0):=by simp [hl0]
 subst e1
 unfold cmL
 simp only [cm0]
 go_enter Tryz.func102,Tryz.ntmps102
 go_wp2_with fail
 refine hp.out.mono ?_
 rintro e w1 ⟨rfl,s1,o1⟩
 have ka:((W.alloc (.cells #[.pointer (some ⟨b,0,none⟩)] 117)).alloc (.cells (cmL { cm0 with kind:=13,name:=n,fields:=l,all:=a,wh:=x,order:=o,limit:=m } cv vv (.slice (some ⟨g,og,none⟩) l.length ca) ea wa).toArray 31)).heap[W.heap.size+1]?=some (.cells (cmL { cm0 with kind:=13,name:=n,fields:=l,all:=a,wh:=x,order:=o,limit:=m } cv vv (.slice (some ⟨g,og,none⟩) l.length ca) ea wa).toArray 31):=by
  have:=heap_alloc_new (W.alloc (.cells #[.pointer (some ⟨b,0,none⟩)] 117)) (.cells (cmL { cm0 with kind:=13,name:=n,fields:=l,all:=a,wh:=x,order:=o,limit:=m } cv vv (.slice (some ⟨g,og,none⟩) l.length ca) ea wa).toArray 31)
  rwa [show (W.alloc (.cells #[.pointer (some ⟨b,0,none⟩)] 117)).heap.size=W.heap.size+1 by simp] at this
 have kv:((W.alloc (.cells #[.pointer (some ⟨b,0,none⟩)] 117)).alloc (.cells (cmL { cm0 with kind:=13,name:=n,fields:=l,all:=a,wh:=x,order:=o,limit:=m } cv vv (.slice (some ⟨g,og,none⟩) l.length ca) ea wa).toArray 31)).heap[W.heap.size]?=some (.cells #[.pointer (some ⟨b,0,none⟩)] 117):=(Below.heap_alloc _ _ _ (by simp)).trans (heap_alloc_new W _)
 have ka:=yaa (o1 _ _ ka (by simp;omega) (by intro c f e;cases e))
 have kv:=yaa (o1 _ _ kv (by simp;omega) (by intro c f e;cases e))
 obtain ⟨d1,d10,d24,d25⟩:=HC.out w1 ka.out
 have dv:=HVV.out w1 kv.out
 clear d1
 clear d24
 clear d25
 have l1:W.heap.size < w1.heap.size:=(ltS kv.out)
 have l2:W.heap.size+1 < w1.heap.size:=(ltS ka.out)
 have l3:W.heap.size≠w1.heap.size:=Nat.ne_of_lt l1
 have l4:W.heap.size+1≠w1.heap.size:=Nat.ne_of_lt l2
 have O1:=yaa o1
 have HZ:=yaa (HS2.out w1 s1 kv.out)
 clear s1 o1 hp HS2
 have O2:Hid (Lib.OthersKept 5 (some b) w1 w1):=Lib.OthersKept.refl _ _ _
 go_wp2_with fail
 refine HZ.out.mono ?_
 rintro e w3 ⟨rfl,s3,o3⟩
 clear dv d10
 have ka:=yaa (o3 _ _ ka.out (by simp;omega) (by intro c f e;cases e))
 have kv:=yaa (o3 _ _ kv.out (by simp;omega) (by intro c f e;cases e))
 obtain ⟨d1,d10,d24,d25⟩:=HC.out w3 ka.out
 have dv:=HVV.out w3 kv.out
 clear d10
 clear d24
 clear d25
 clear l1 l2 l3 l4
 have l1:W.heap.size < w3.heap.size:=(ltS kv.out)
 have l2:W.heap.size+1 < w3.heap.size:=(ltS ka.out)
 have l3:W.heap.size≠w3.heap.size:=Nat.ne_of_lt l1
 have l4:W.heap.size+1≠w3.heap.size:=Nat.ne_of_lt l2
 have O3:=yaa o3
 have HY3:=yaa (HF.out w3 s3)
 clear s3 o3 HZ HF
 go_wp2_with fail
 go_region_law (first|(go_simp;refine HY3.out.mono ?_;rintro e w4 ⟨rfl,s4,o4⟩;dsimp only))
 all_goals
  have o4':Lib.OthersKept 5 (some b) w3 w4:=fun q ob hq hne hty=>o4 q ob hq hne hty
  clear dv d1
  have ka:=yaa (o4' _ _ ka.out (by simp;omega) (by intro c f e;cases e))
  have kv:=yaa (o4' _ _ kv.out (by simp;omega) (by intro c f e;cases e))
  obtain ⟨d1,d10,d24,d25⟩:=HC.out w4 ka.out
  have dv:=HVV.out w4 kv.out
  clear d1
  clear d10
  clear d24
  clear d25
  clear l1 l2 l3 l4
  have l1:W.heap.size < w4.heap.size:=(ltS kv.out)
  have l2:W.heap.size+1 < w4.heap.size:=(ltS ka.out)
  have l3:W.heap.size≠w4.heap.size:=Nat.ne_of_lt l1
  have l4:W.heap.size+1≠w4.heap.size:=Nat.ne_of_lt l2
  have O4:=yaa o4'
  have HY4:=yaa (HWh.out w4 s4)
  clear s4 o4 o4' HY3 HWh
  go_wp2_with (first|(refine yag 31 _ rfl rfl _ (cmL { cm0 with kind:=13,name:=n,fields:=l,all:=a,wh:=x,order:=o,limit:=m } cv vv (.slice (some ⟨g,og,none⟩) l.length ca) ea wa) 31 _ rfl (by exact ka.out) Tryz.underlying31 rfl Tryz.size31 ?_)|fail)
  refine HY4.out.mono ?_
  rintro e w5 ⟨rfl,s5,o5⟩
  clear dv
  have ka:=yaa (o5 _ _ ka.out (by simp;omega) (by intro c f e;cases e))
  have kv:=yaa (o5 _ _ kv.out (by simp;omega) (by intro c f e;cases e))
  obtain ⟨d1,d10,d24,d25⟩:=HC.out w5 ka.out
  have dv:=HVV.out w5 kv.out
  clear d1
  clear d10
  clear l1 l2 l3 l4
  have l1:W.heap.size < w5.heap.size:=(ltS kv.out)
  have l2:W.heap.size+1 < w5.heap.size:=(ltS ka.out)
  have l3:W.heap.size≠w5.heap.size:=Nat.ne_of_lt l1
  have l4:W.heap.size+1≠w5.heap.size:=Nat.ne_of_lt l2
  have O5:=yaa o5
  have KEPT:Hid (Lib.OthersKept 5 (some b) W w5):=fun q ob hq hne hty=>O5.out q ob (O4.out q ob (O3.out q ob (O2.out q ob (O1.out q ob (yak (b:=b) B0.out q ob hq hne hty) hne hty) hne hty) hne hty) hne hty) hne hty
  clear o5 HY4
  have HY5:=yaa (HO.out w5 s5)
  clear s5 HO
  go_wp2_with fail
  go_region_law (first|(go_simp;refine HY5.out.mono ?_;rintro e w6 ⟨rfl,s6,o6⟩;dsimp only))
  all_goals
   have o6':Lib.OthersKept 5 (some b) w5 w6:=fun q ob hq hne hty=>o6 q ob hq hne hty
   clear dv d24 d25
   have ka:=yaa (o6' _ _ ka.out (by simp;omega) (by intro c f e;cases e))
   have kv:=yaa (o6' _ _ kv.out (by simp;omega) (by intro c f e;cases e))
   obtain ⟨d1,d10,d24,d25⟩:=HC.out w6 ka.out
   have dv:=HVV.out w6 kv.out
   clear d1
   clear d10
   clear d24
   clear l1 l2 l3 l4
   have l1:W.heap.size < w6.heap.size:=(ltS kv.out)
   have l2:W.heap.size+1 < w6.heap.size:=(ltS ka.out)
   have l3:W.heap.size≠w6.heap.size:=Nat.ne_of_lt l1
   have l4:W.heap.size+1≠w6.heap.size:=Nat.ne_of_lt l2
   have KEP2:Hid (Lib.OthersKept 5 (some b) W w6):=fun q ob hq hne hty=>o6' q ob (KEPT.out q ob hq hne hty) hne hty
   clear o6 o6' HY5
   go_wp2
   try simp only [Exit.inBlock]
   go_end0
   refine ⟨rfl, ?_,KEP2.out⟩
   have:=s6
   simp only [List.append_assoc] at this
   exact this
theorem yhX {B b:Nat} {Tb:World→Prop} {w0:World} (k:ItoaOk B Tb) (hw:w0.heap.size≤B) (n:List UInt8) (hn:n≠[]) (l:List (List UInt8)) (hl0:l=[]) (a:Bool) (x:Ex) (hr:RightW a x) (o:List UInt8) (ho:o=[]) (m:Int) (hm:m < 0) (cv vv fv ea wa:Value) (hi:CmIn 0 w0 { cm0 with kind:=13,name:=n,fields:=l,all:=a,wh:=x,order:=o,limit:=m } cv vv fv ea wa) (ws:List (List UInt8)) (W:World) (hS:PSt B b Tb w0 ws W) (hlen:(yaj (ws++([w_select]++([[42]]++([w_from,n]++(yap { cm0 with kind:=13,name:=n,fields:=l,all:=a,wh:=x,order:=o,limit:=m })))))).length≤1000000) :
  Calls Tryz.prog 102 #[.pointer (some ⟨b,0,none⟩),.agg (cmL { cm0 with kind:=13,name:=n,fields:=l,all:=a,wh:=x,order:=o,limit:=m } cv vv fv ea wa).toArray] W (ya0 B b Tb w0 (ws++([w_select]++([[42]]++([w_from,n]++(yap { cm0 with kind:=13,name:=n,fields:=l,all:=a,wh:=x,order:=o,limit:=m }))))) W):=by
 have L:∀ p q:List (List UInt8),p++q=ws++([w_select]++([[42]]++([w_from,n]++(yap { cm0 with kind:=13,name:=n,fields:=l,all:=a,wh:=x,order:=o,limit:=m }))))→(yaj p).length≤1000000:=fun p q e=>Nat.le_trans (yaD p q) (by rw [e];exact hlen)
 have hp:=yaa (yco k hS (.cells #[.pointer (some ⟨b,0,none⟩)] 117) (.cells (cmL { cm0 with kind:=13,name:=n,fields:=l,all:=a,wh:=x,order:=o,limit:=m } cv vv fv ea wa).toArray 31) [w_select] 1 #[.string ⟨w_select.toArray⟩] rfl rfl (by intro x hx;simp at hx;subst hx;decide) (L _ ([[42]]++([w_from,n]++(yap { cm0 with kind:=13,name:=n,fields:=l,all:=a,wh:=x,order:=o,limit:=m }))) (by simp only [List.append_assoc])) (by decide))
 have b1:=(Below.refl W.heap.size W).alloc (Nat.le_refl _) (.cells #[.pointer (some ⟨b,0,none⟩)] 117)
 have B0:=yaa (b1.alloc (by simp) (.cells (cmL { cm0 with kind:=13,name:=n,fields:=l,all:=a,wh:=x,order:=o,limit:=m } cv vv fv ea wa).toArray 31))
 have hbW:b < W.heap.size:=hS.pr.lt
 obtain ⟨ao,ca,e0,h1⟩:=hi.fields.slice
 have e1:fv=.slice ao 0 ca:=by rw [e0];simp [hl0]
 have HS1:=yaa (fun w1 (s1:PSt B b Tb w0 (ws++[w_select]) w1)=>ybG k s1 [[42]] 1 #[.string ⟨#[42]⟩] rfl rfl (by intro x hx;simp at hx;subst hx;decide) (L _ ([w_from,n]++(yap { cm0 with kind:=13,name:=n,fields:=l,all:=a,wh:=x,order:=o,limit:=m })) (by simp only [List.append_assoc])) (by decide))
 have HS2:=yaa (fun (f:Value) w2 (s2:PSt B b Tb w0 (ws++[w_select]++[[42]]) w2)=>yc8 (Tb:=Tb) (w0:=w0) ao ca f (ws++[w_select]++[[42]]) w2 s2)
 have HF:=yaa (fun w3 (s3:PSt B b Tb w0 (ws++[w_select]++[[42]]) w3)=>ycc k s3 [w_from,n] 2 #[.string ⟨w_from.toArray⟩,.string ⟨n.toArray⟩] rfl rfl (by intro x hx;simp at hx;rcases hx with rfl|rfl <;> first|assumption|decide) (L _ (yap { cm0 with kind:=13,name:=n,fields:=l,all:=a,wh:=x,order:=o,limit:=m }) (by simp only [List.append_assoc])) (by decide))
 have HWh:=yaa (fun w4 (s4:PSt B b Tb w0 (ws++[w_select]++[[42]]++[w_from,n]) w4)=>ybw k hw { cm0 with kind:=13,name:=n,fields:=l,all:=a,wh:=x,order:=o,limit:=m } cv vv fv ea wa hi.wh hr (ws++[w_select]++[[42]]++[w_from,n]) w4 s4 (L _ ([]) (by simp only [List.append_assoc,List.append_nil])))
 have qm:¬ ((0:Int)≤m):=by omega
 have K:=yaa k
 have hcm:∀ w1:World,w1.heap[W.heap.size+1]?=some (.cells (cmL { cm0 with kind:=13,name:=n,fields:=l,all:=a,wh:=x,order:=o,limit:=m } cv vv fv ea wa).toArray 31)→(w1.cell? ⟨W.heap.size+1,1,none⟩=some (.string ⟨n.toArray⟩)∧w1.cell? ⟨W.heap.size+1,10,none⟩=some fv∧w1.cell? ⟨W.heap.size+1,24,none⟩=some (.string ⟨o.toArray⟩)∧w1.cell? ⟨W.heap.size+1,25,none⟩=some (.int .i64 m)):=fun w1 kb=>⟨by rw [Lib.cell_of_heap kb];rfl,by rw [Lib.cell_of_heap kb];rfl,by rw [Lib.cell_of_heap kb];rfl,by rw [Lib.cell_of_heap kb];rfl⟩
 have HC:=yaa hcm
 have hvv:∀ w1:World,w1.heap[W.heap.size]?=some (.cells #[.pointer (some ⟨b,0,none⟩)] 117)→w1.cell? ⟨W.heap.size,0,none⟩=some (.pointer (some ⟨b,0,none⟩)):=fun w1 kb=>by rw [Lib.cell_of_heap kb];rfl
 have HVV:=yaa hvv
 clear hcm hvv hlen hS L k hn hr hi hw  h1 hm
 subst e1
 subst hl0
 subst ho
 unfold cmL
 simp only [cm0]
 go_enter Tryz.func102,Tryz.ntmps102
 go_wp2_with fail
 refine hp.out.mono ?_
 rintro e w1 ⟨rfl,s1,o1⟩
 have ka:((W.alloc (.cells #[.pointer (some ⟨b,0,none⟩)] 117)).alloc (.cells (cmL { cm0 with kind:=13,name:=n,fields:=[],all:=a,wh:=x,order:=[],limit:=m } cv vv (.slice ao 0 ca) ea wa).toArray 31)).heap[W.heap.size+1]?=some (.cells (cmL { cm0 with kind:=13,name:=n,fields:=[],all:=a,wh:=x,order:=[],limit:=m } cv vv (.slice ao 0 ca) ea wa).toArray 31):=by
  have:=heap_alloc_new (W.alloc (.cells #[.pointer (some ⟨b,0,none⟩)] 117)) (.cells (cmL { cm0 with kind:=13,name:=n,fields:=[],all:=a,wh:=x,order:=[],limit:=m } cv vv (.slice ao 0 ca) ea wa).toArray 31)
  rwa [show (W.alloc (.cells #[.pointer (some ⟨b,0,none⟩)] 117)).heap.size=W.heap.size+1 by simp] at this
 have kv:((W.alloc (.cells #[.pointer (some ⟨b,0,none⟩)] 117)).alloc (.cells (cmL { cm0 with kind:=13,name:=n,fields:=[],all:=a,wh:=x,order:=[],limit:=m } cv vv (.slice ao 0 ca) ea wa).toArray 31)).heap[W.heap.size]?=some (.cells #[.pointer (some ⟨b,0,none⟩)] 117):=(Below.heap_alloc _ _ _ (by simp)).trans (heap_alloc_new W _)
 have ka:=yaa (o1 _ _ ka (by simp;omega) (by intro c f e;cases e))
 have kv:=yaa (o1 _ _ kv (by simp;omega) (by intro c f e;cases e))
 obtain ⟨d1,d10,d24,d25⟩:=HC.out w1 ka.out
 have dv:=HVV.out w1 kv.out
 clear d1
 clear d24
 clear d25
 have l1:W.heap.size < w1.heap.size:=(ltS kv.out)
 have l2:W.heap.size+1 < w1.heap.size:=(ltS ka.out)
 have l3:W.heap.size≠w1.heap.size:=Nat.ne_of_lt l1
 have l4:W.heap.size+1≠w1.heap.size:=Nat.ne_of_lt l2
 have O1:=yaa o1
 have HY:=yaa (HS1.out w1 s1)
 clear s1 o1 hp HS1
 go_wp2_with fail
 refine HY.out.mono ?_
 rintro e w2 ⟨rfl,s2,o2⟩
 clear dv d10
 have ka:=yaa (o2 _ _ ka.out (by simp;omega) (by intro c f e;cases e))
 have kv:=yaa (o2 _ _ kv.out (by simp;omega) (by intro c f e;cases e))
 obtain ⟨d1,d10,d24,d25⟩:=HC.out w2 ka.out
 have dv:=HVV.out w2 kv.out
 clear d1
 clear d24
 clear d25
 clear l1 l2 l3 l4
 have l1:W.heap.size < w2.heap.size:=(ltS kv.out)
 have l2:W.heap.size+1 < w2.heap.size:=(ltS ka.out)
 have l3:W.heap.size≠w2.heap.size:=Nat.ne_of_lt l1
 have l4:W.heap.size+1≠w2.heap.size:=Nat.ne_of_lt l2
 have O2:=yaa o2
 have HZ:=yaa (fun f=>HS2.out f w2 s2)
 clear s2 o2 HY HS2
 go_wp2_with fail
 refine (HZ.out _).mono ?_
 rintro e w3 ⟨rfl,s3,o3⟩
 clear dv d10
 have ka:=yaa (o3 _ _ ka.out (by simp;omega) (by intro c f e;cases e))
 have kv:=yaa (o3 _ _ kv.out (by simp;omega) (by intro c f e;cases e))
 obtain ⟨d1,d10,d24,d25⟩:=HC.out w3 ka.out
 have dv:=HVV.out w3 kv.out
 clear d10
 clear d24
 clear d25
 clear l1 l2 l3 l4
 have l1:W.heap.size < w3.heap.size:=(ltS kv.out)
 have l2:W.heap.size+1 < w3.heap.size:=(ltS ka.out)
 have l3:W.heap.size≠w3.heap.size:=Nat.ne_of_lt l1
 have l4:W.heap.size+1≠w3.heap.size:=Nat.ne_of_lt l2
 have O3:=yaa o3
 have HY3:=yaa (HF.out w3 s3)
 clear s3 o3 HZ HF
 go_wp2_with fail
 go_region_law (first|(go_simp;refine HY3.out.mono ?_;rintro e w4 ⟨rfl,s4,o4⟩;dsimp only))
 all_goals
  have o4':Lib.OthersKept 5 (some b) w3 w4:=fun q ob hq hne hty=>o4 q ob hq hne hty
  clear dv d1
  have ka:=yaa (o4' _ _ ka.out (by simp;omega) (by intro c f e;cases e))
  have kv:=yaa (o4' _ _ kv.out (by simp;omega) (by intro c f e;cases e))
  obtain ⟨d1,d10,d24,d25⟩:=HC.out w4 ka.out
  have dv:=HVV.out w4 kv.out
  clear d1
  clear d10
  clear d24
  clear d25
  clear l1 l2 l3 l4
  have l1:W.heap.size < w4.heap.size:=(ltS kv.out)
  have l2:W.heap.size+1 < w4.heap.size:=(ltS ka.out)
  have l3:W.heap.size≠w4.heap.size:=Nat.ne_of_lt l1
  have l4:W.heap.size+1≠w4.heap.size:=Nat.ne_of_lt l2
  have O4:=yaa o4'
  have HY4:=yaa (HWh.out w4 s4)
  clear s4 o4 o4' HY3 HWh
  go_wp2_with (first|(refine yag 31 _ rfl rfl _ (cmL { cm0 with kind:=13,name:=n,fields:=[],all:=a,wh:=x,order:=[],limit:=m } cv vv (.slice ao 0 ca) ea wa) 31 _ rfl (by exact ka.out) Tryz.underlying31 rfl Tryz.size31 ?_)|fail)
  refine HY4.out.mono ?_
  rintro e w5 ⟨rfl,s5,o5⟩
  clear dv
  have ka:=yaa (o5 _ _ ka.out (by simp;omega) (by intro c f e;cases e))
  have kv:=yaa (o5 _ _ kv.out (by simp;omega) (by intro c f e;cases e))
  obtain ⟨d1,d10,d24,d25⟩:=HC.out w5 ka.out
  have dv:=HVV.out w5 kv.out
  clear d1
  clear d10
  clear l1 l2 l3 l4
  have l1:W.heap.size < w5.heap.size:=(ltS kv.out)
  have l2:W.heap.size+1 < w5.heap.size:=(ltS ka.out)
  have l3:W.heap.size≠w5.heap.size:=Nat.ne_of_lt l1
  have l4:W.heap.size+1≠w5.heap.size:=Nat.ne_of_lt l2
  have O5:=yaa o5
  have KEPT:Hid (Lib.OthersKept 5 (some b) W w5):=fun q ob hq hne hty=>O5.out q ob (O4.out q ob (O3.out q ob (O2.out q ob (O1.out q ob (yak (b:=b) B0.out q ob hq hne hty) hne hty) hne hty) hne hty) hne hty) hne hty
  clear o5 HY4
  go_wp2
  try simp only [Exit.inBlock]
  go_end0
  refine ⟨rfl, ?_,KEPT.out⟩
  have:=s5
  simp only [List.append_assoc] at this
  exact this
theorem yhZ {B b:Nat} {Tb:World→Prop} {w0:World} (k:ItoaOk B Tb) (hw:w0.heap.size≤B) (n:List UInt8) (hn:n≠[]) (l:List (List UInt8)) (hl0:l=[]) (a:Bool) (x:Ex) (hr:RightW a x) (o:List UInt8) (ho:o≠[]) (m:Int) (hm:m < 0) (cv vv fv ea wa:Value) (hi:CmIn 0 w0 { cm0 with kind:=13,name:=n,fields:=l,all:=a,wh:=x,order:=o,limit:=m } cv vv fv ea wa) (ws:List (List UInt8)) (W:World) (hS:PSt B b Tb w0 ws W) (hlen:(yaj (ws++([w_select]++([[42]]++([w_from,n]++(yap { cm0 with kind:=13,name:=n,fields:=l,all:=a,wh:=x,order:=o,limit:=m }++([w_order,w_by,o]))))))).length≤1000000) :
  Calls Tryz.prog 102 #[.pointer (some ⟨b,0,none⟩),.agg (cmL { cm0 with kind:=13,name:=n,fields:=l,all:=a,wh:=x,order:=o,limit:=m } cv vv fv ea wa).toArray] W (ya0 B b Tb w0 (ws++([w_select]++([[42]]++([w_from,n]++(yap { cm0 with kind:=13,name:=n,fields:=l,all:=a,wh:=x,order:=o,limit:=m }++([w_order,w_by,o])))))) W):=by
 have L:∀ p q:List (List UInt8),p++q=ws++([w_select]++([[42]]++([w_from,n]++(yap { cm0 with kind:=13,name:=n,fields:=l,all:=a,wh:=x,order:=o,limit:=m }++([w_order,w_by,o])))))→(yaj p).length≤1000000:=fun p q e=>Nat.le_trans (yaD p q) (by rw [e];exact hlen)
 have hp:=yaa (yco k hS (.cells #[.pointer (some ⟨b,0,none⟩)] 117) (.cells (cmL { cm0 with kind:=13,name:=n,fields:=l,all:=a,wh:=x,order:=o,limit:=m } cv vv fv ea wa).toArray 31) [w_select] 1 #[.string ⟨w_select.toArray⟩] rfl rfl (by intro x hx;simp at hx;subst hx;decide) (L _ ([[42]]++([w_from,n]++(yap { cm0 with kind:=13,name:=n,fields:=l,all:=a,wh:=x,order:=o,limit:=m }++([w_order,w_by,o])))) (by simp only [List.append_assoc])) (by decide))
 have b1:=(Below.refl W.heap.size W).alloc (Nat.le_refl _) (.cells #[.pointer (some ⟨b,0,none⟩)] 117)
 have B0:=yaa (b1.alloc (by simp) (.cells (cmL { cm0 with kind:=13,name:=n,fields:=l,all:=a,wh:=x,order:=o,limit:=m } cv vv fv ea wa).toArray 31))
 have hbW:b < W.heap.size:=hS.pr.lt
 obtain ⟨ao,ca,e0,h1⟩:=hi.fields.slice
 have e1:fv=.slice ao 0 ca:=by rw [e0];simp [hl0]
 have HS1:=yaa (fun w1 (s1:PSt B b Tb w0 (ws++[w_select]) w1)=>ybG k s1 [[42]] 1 #[.string ⟨#[42]⟩] rfl rfl (by intro x hx;simp at hx;subst hx;decide) (L _ ([w_from,n]++(yap { cm0 with kind:=13,name:=n,fields:=l,all:=a,wh:=x,order:=o,limit:=m }++([w_order,w_by,o]))) (by simp only [List.append_assoc])) (by decide))
 have HS2:=yaa (fun (f:Value) w2 (s2:PSt B b Tb w0 (ws++[w_select]++[[42]]) w2)=>yc8 (Tb:=Tb) (w0:=w0) ao ca f (ws++[w_select]++[[42]]) w2 s2)
 have HF:=yaa (fun w3 (s3:PSt B b Tb w0 (ws++[w_select]++[[42]]) w3)=>ycc k s3 [w_from,n] 2 #[.string ⟨w_from.toArray⟩,.string ⟨n.toArray⟩] rfl rfl (by intro x hx;simp at hx;rcases hx with rfl|rfl <;> first|assumption|decide) (L _ (yap { cm0 with kind:=13,name:=n,fields:=l,all:=a,wh:=x,order:=o,limit:=m }++([w_order,w_by,o])) (by simp only [List.append_assoc])) (by decide))
 have HWh:=yaa (fun w4 (s4:PSt B b Tb w0 (ws++[w_select]++[[42]]++[w_from,n]) w4)=>ybw k hw { cm0 with kind:=13,name:=n,fields:=l,all:=a,wh:=x,order:=o,limit:=m } cv vv fv ea wa hi.wh hr (ws++[w_select]++[[42]]++[w_from,n]) w4 s4 (L _ ([w_order,w_by,o]) (by simp only [List.append_assoc])))
 have HO:=yaa (fun w5 (s5:PSt B b Tb w0 (ws++[w_select]++[[42]]++[w_from,n]++yap { cm0 with kind:=13,name:=n,fields:=l,all:=a,wh:=x,order:=o,limit:=m }) w5)=>ycc k s5 [w_order,w_by,o] 3 #[.string ⟨w_order.toArray⟩,.string ⟨w_by.toArray⟩,.string ⟨o.toArray⟩] rfl rfl (by intro x hx;simp at hx;rcases hx with rfl|rfl|rfl <;> first|assumption|decide) (L _ ([]) (by simp only [List.append_assoc,List.append_nil])) (by decide))
 have qo:o.isEmpty=false:=by cases o with|nil=>exact absurd rfl ho|cons _ _=>rfl
 have qm:¬ ((0:Int)≤m):=by omega
 have K:=yaa k
 have hcm:∀ w1:World,w1.heap[W.heap.size+1]?=some (.cells (cmL { cm0 with kind:=13,name:=n,fields:=l,all:=a,wh:=x,order:=o,limit:=m } cv vv fv ea wa).toArray 31)→(w1.cell? ⟨W.heap.size+1,1,none⟩=some (.string ⟨n.toArray⟩)∧w1.cell? ⟨W.heap.size+1,10,none⟩=some fv∧w1.cell? ⟨W.heap.size+1,24,none⟩=some (.string ⟨o.toArray⟩)∧w1.cell? ⟨W.heap.size+1,25,none⟩=some (.int .i64 m)):=fun w1 kb=>⟨by rw [Lib.cell_of_heap kb];rfl,by rw [Lib.cell_of_heap kb];rfl,by rw [Lib.cell_of_heap kb];rfl,by rw [Lib.cell_of_heap kb];rfl⟩
 have HC:=yaa hcm
 have hvv:∀ w1:World,w1.heap[W.heap.size]?=some (.cells #[.pointer (some ⟨b,0,none⟩)] 117)→w1.cell? ⟨W.heap.size,0,none⟩=some (.pointer (some ⟨b,0,none⟩)):=fun w1 kb=>by rw [Lib.cell_of_heap kb];rfl
 have HVV:=yaa hvv
 clear hcm hvv hlen hS L k hn hr hi hw  h1 hm ho
 subst e1
 subst hl0
 unfold cmL
 simp only [cm0]
 go_enter Tryz.func102,Tryz.ntmps102
 go_wp2_with fail
 refine hp.out.mono ?_
 rintro e w1 ⟨rfl,s1,o1⟩
 have ka:((W.alloc (.cells #[.pointer (some ⟨b,0,none⟩)] 117)).alloc (.cells (cmL { cm0 with kind:=13,name:=n,fields:=[],all:=a,wh:=x,order:=o,limit:=m } cv vv (.slice ao 0 ca) ea wa).toArray 31)).heap[W.heap.size+1]?=some (.cells (cmL { cm0 with kind:=13,name:=n,fields:=[],all:=a,wh:=x,order:=o,limit:=m } cv vv (.slice ao 0 ca) ea wa).toArray 31):=by
  have:=heap_alloc_new (W.alloc (.cells #[.pointer (some ⟨b,0,none⟩)] 117)) (.cells (cmL { cm0 with kind:=13,name:=n,fields:=[],all:=a,wh:=x,order:=o,limit:=m } cv vv (.slice ao 0 ca) ea wa).toArray 31)
  rwa [show (W.alloc (.cells #[.pointer (some ⟨b,0,none⟩)] 117)).heap.size=W.heap.size+1 by simp] at this
 have kv:((W.alloc (.cells #[.pointer (some ⟨b,0,none⟩)] 117)).alloc (.cells (cmL { cm0 with kind:=13,name:=n,fields:=[],all:=a,wh:=x,order:=o,limit:=m } cv vv (.slice ao 0 ca) ea wa).toArray 31)).heap[W.heap.size]?=some (.cells #[.pointer (some ⟨b,0,none⟩)] 117):=(Below.heap_alloc _ _ _ (by simp)).trans (heap_alloc_new W _)
 have ka:=yaa (o1 _ _ ka (by simp;omega) (by intro c f e;cases e))
 have kv:=yaa (o1 _ _ kv (by simp;omega) (by intro c f e;cases e))
 obtain ⟨d1,d10,d24,d25⟩:=HC.out w1 ka.out
 have dv:=HVV.out w1 kv.out
 clear d1
 clear d24
 clear d25
 have l1:W.heap.size < w1.heap.size:=(ltS kv.out)
 have l2:W.heap.size+1 < w1.heap.size:=(ltS ka.out)
 have l3:W.heap.size≠w1.heap.size:=Nat.ne_of_lt l1
 have l4:W.heap.size+1≠w1.heap.size:=Nat.ne_of_lt l2
 have O1:=yaa o1
 have HY:=yaa (HS1.out w1 s1)
 clear s1 o1 hp HS1
 go_wp2_with fail
 refine HY.out.mono ?_
 rintro e w2 ⟨rfl,s2,o2⟩
 clear dv d10
 have ka:=yaa (o2 _ _ ka.out (by simp;omega) (by intro c f e;cases e))
 have kv:=yaa (o2 _ _ kv.out (by simp;omega) (by intro c f e;cases e))
 obtain ⟨d1,d10,d24,d25⟩:=HC.out w2 ka.out
 have dv:=HVV.out w2 kv.out
 clear d1
 clear d24
 clear d25
 clear l1 l2 l3 l4
 have l1:W.heap.size < w2.heap.size:=(ltS kv.out)
 have l2:W.heap.size+1 < w2.heap.size:=(ltS ka.out)
 have l3:W.heap.size≠w2.heap.size:=Nat.ne_of_lt l1
 have l4:W.heap.size+1≠w2.heap.size:=Nat.ne_of_lt l2
 have O2:=yaa o2
 have HZ:=yaa (fun f=>HS2.out f w2 s2)
 clear s2 o2 HY HS2
 go_wp2_with fail
 refine (HZ.out _).mono ?_
 rintro e w3 ⟨rfl,s3,o3⟩
 clear dv d10
 have ka:=yaa (o3 _ _ ka.out (by simp;omega) (by intro c f e;cases e))
 have kv:=yaa (o3 _ _ kv.out (by simp;omega) (by intro c f e;cases e))
 obtain ⟨d1,d10,d24,d25⟩:=HC.out w3 ka.out
 have dv:=HVV.out w3 kv.out
 clear d10
 clear d24
 clear d25
 clear l1 l2 l3 l4
 have l1:W.heap.size < w3.heap.size:=(ltS kv.out)
 have l2:W.heap.size+1 < w3.heap.size:=(ltS ka.out)
 have l3:W.heap.size≠w3.heap.size:=Nat.ne_of_lt l1
 have l4:W.heap.size+1≠w3.heap.size:=Nat.ne_of_lt l2
 have O3:=yaa o3
 have HY3:=yaa (HF.out w3 s3)
 clear s3 o3 HZ HF
 go_wp2_with fail
 go_region_law (first|(go_simp;refine HY3.out.mono ?_;rintro e w4 ⟨rfl,s4,o4⟩;dsimp only))
 all_goals
  have o4':Lib.OthersKept 5 (some b) w3 w4:=fun q ob hq hne hty=>o4 q ob hq hne hty
  clear dv d1
  have ka:=yaa (o4' _ _ ka.out (by simp;omega) (by intro c f e;cases e))
  have kv:=yaa (o4' _ _ kv.out (by simp;omega) (by intro c f e;cases e))
  obtain ⟨d1,d10,d24,d25⟩:=HC.out w4 ka.out
  have dv:=HVV.out w4 kv.out
  clear d1
  clear d10
  clear d24
  clear d25
  clear l1 l2 l3 l4
  have l1:W.heap.size < w4.heap.size:=(ltS kv.out)
  have l2:W.heap.size+1 < w4.heap.size:=(ltS ka.out)
  have l3:W.heap.size≠w4.heap.size:=Nat.ne_of_lt l1
  have l4:W.heap.size+1≠w4.heap.size:=Nat.ne_of_lt l2
  have O4:=yaa o4'
  have HY4:=yaa (HWh.out w4 s4)
  clear s4 o4 o4' HY3 HWh
  go_wp2_with (first|(refine yag 31 _ rfl rfl _ (cmL { cm0 with kind:=13,name:=n,fields:=[],all:=a,wh:=x,order:=o,limit:=m } cv vv (.slice ao 0 ca) ea wa) 31 _ rfl (by exact ka.out) Tryz.underlying31 rfl Tryz.size31 ?_)|fail)
  refine HY4.out.mono ?_
  rintro e w5 ⟨rfl,s5,o5⟩
  clear dv
  have ka:=yaa (o5 _ _ ka.out (by simp;omega) (by intro c f e;cases e))
  have kv:=yaa (o5 _ _ kv.out (by simp;omega) (by intro c f e;cases e))
  obtain ⟨d1,d10,d24,d25⟩:=HC.out w5 ka.out
  have dv:=HVV.out w5 kv.out
  clear d1
  clear d10
  clear l1 l2 l3 l4
  have l1:W.heap.size < w5.heap.size:=(ltS kv.out)
  have l2:W.heap.size+1 < w5.heap.size:=(ltS ka.out)
  have l3:W.heap.size≠w5.heap.size:=Nat.ne_of_lt l1
  have l4:W.heap.size+1≠w5.heap.size:=Nat.ne_of_lt l2
  have O5:=yaa o5
  have KEPT:Hid (Lib.OthersKept 5 (some b) W w5):=fun q ob hq hne hty=>O5.out q ob (O4.out q ob (O3.out q ob (O2.out q ob (O1.out q ob (yak (b:=b) B0.out q ob hq hne hty) hne hty) hne hty) hne hty) hne hty) hne hty
  clear o5 HY4
  have HY5:=yaa (HO.out w5 s5)
  clear s5 HO
  go_wp2_with fail
  go_region_law (first|(go_simp;refine HY5.out.mono ?_;rintro e w6 ⟨rfl,s6,o6⟩;dsimp only))
  all_goals
   have o6':Lib.OthersKept 5 (some b) w5 w6:=fun q ob hq hne hty=>o6 q ob hq hne hty
   clear dv d24 d25
   have ka:=yaa (o6' _ _ ka.out (by simp;omega) (by intro c f e;cases e))
   have kv:=yaa (o6' _ _ kv.out (by simp;omega) (by intro c f e;cases e))
   obtain ⟨d1,d10,d24,d25⟩:=HC.out w6 ka.out
   have dv:=HVV.out w6 kv.out
   clear d1
   clear d10
   clear d24
   clear l1 l2 l3 l4
   have l1:W.heap.size < w6.heap.size:=(ltS kv.out)
   have l2:W.heap.size+1 < w6.heap.size:=(ltS ka.out)
   have l3:W.heap.size≠w6.heap.size:=Nat.ne_of_lt l1
   have l4:W.heap.size+1≠w6.heap.size:=Nat.ne_of_lt l2
   have KEP2:Hid (Lib.OthersKept 5 (some b) W w6):=fun q ob hq hne hty=>o6' q ob (KEPT.out q ob hq hne hty) hne hty
   clear o6 o6' HY5
   go_wp2
   try simp only [Exit.inBlock]
   go_end0
   refine ⟨rfl, ?_,KEP2.out⟩
   have:=s6
   simp only [List.append_assoc] at this
   exact this
theorem yhU {B b:Nat} {Tb:World→Prop} {w0:World} (k:ItoaOk B Tb) (hw:w0.heap.size≤B) (n:List UInt8) (hn:n≠[]) (l:List (List UInt8)) (hl0:l≠[]) (hl:∀ x ∈ l,x≠[]) (h5:l.length≤5) (a:Bool) (x:Ex) (hr:RightW a x) (o:List UInt8) (ho:o=[]) (m:Int) (hm:0≤m∧m≤999999999) (cv vv fv ea wa:Value) (hi:CmIn 0 w0 { cm0 with kind:=13,name:=n,fields:=l,all:=a,wh:=x,order:=o,limit:=m } cv vv fv ea wa) (ws:List (List UInt8)) (W:World) (hS:PSt B b Tb w0 ws W) (hlen:(yaj (ws++([w_select]++(yal (fun s=>[s]) l++([w_from,n]++(yap { cm0 with kind:=13,name:=n,fields:=l,all:=a,wh:=x,order:=o,limit:=m }++([w_limit,Lib.itoa m]))))))).length≤1000000) :
  Calls Tryz.prog 102 #[.pointer (some ⟨b,0,none⟩),.agg (cmL { cm0 with kind:=13,name:=n,fields:=l,all:=a,wh:=x,order:=o,limit:=m } cv vv fv ea wa).toArray] W (ya0 B b Tb w0 (ws++([w_select]++(yal (fun s=>[s]) l++([w_from,n]++(yap { cm0 with kind:=13,name:=n,fields:=l,all:=a,wh:=x,order:=o,limit:=m }++([w_limit,Lib.itoa m])))))) W):=by
 have L:∀ p q:List (List UInt8),p++q=ws++([w_select]++(yal (fun s=>[s]) l++([w_from,n]++(yap { cm0 with kind:=13,name:=n,fields:=l,all:=a,wh:=x,order:=o,limit:=m }++([w_limit,Lib.itoa m])))))→(yaj p).length≤1000000:=fun p q e=>Nat.le_trans (yaD p q) (by rw [e];exact hlen)
 have hp:=yaa (yco k hS (.cells #[.pointer (some ⟨b,0,none⟩)] 117) (.cells (cmL { cm0 with kind:=13,name:=n,fields:=l,all:=a,wh:=x,order:=o,limit:=m } cv vv fv ea wa).toArray 31) [w_select] 1 #[.string ⟨w_select.toArray⟩] rfl rfl (by intro x hx;simp at hx;subst hx;decide) (L _ (yal (fun s=>[s]) l++([w_from,n]++(yap { cm0 with kind:=13,name:=n,fields:=l,all:=a,wh:=x,order:=o,limit:=m }++([w_limit,Lib.itoa m])))) (by simp only [List.append_assoc])) (by decide))
 have b1:=(Below.refl W.heap.size W).alloc (Nat.le_refl _) (.cells #[.pointer (some ⟨b,0,none⟩)] 117)
 have B0:=yaa (b1.alloc (by simp) (.cells (cmL { cm0 with kind:=13,name:=n,fields:=l,all:=a,wh:=x,order:=o,limit:=m } cv vv fv ea wa).toArray 31))
 have hbW:b < W.heap.size:=hS.pr.lt
 obtain ⟨ao,ca,e0,h1⟩:=hi.fields.slice
 obtain ⟨g,og,rfl,hg,hc⟩:=h1 (List.length_pos_iff.2 hl0)
 have e1:fv=.slice (some ⟨g,og,none⟩) l.length ca:=e0
 have HS2:=yaa (fun w1 (s1:PSt B b Tb w0 (ws++[w_select]) w1) (hv:w1.heap[W.heap.size]?=some (.cells #[.pointer (some ⟨b,0,none⟩)] 117))=>yc7 k l g og ca W.heap.size (by omega) (fun i x hx=>by have:=hc _ _ (ybc stC (m:=1) (fun _=>rfl) l i 0 x _ hx rfl);rw [Nat.mul_one] at this;exact this) hl (by omega) (ws++[w_select]) w1 s1 hv (by omega) (L _ ([w_from,n]++(yap { cm0 with kind:=13,name:=n,fields:=l,all:=a,wh:=x,order:=o,limit:=m }++([w_limit,Lib.itoa m]))) (by simp only [List.append_assoc])))
 have HF:=yaa (fun w3 (s3:PSt B b Tb w0 (ws++[w_select]++yal (fun s=>[s]) l) w3)=>ycc k s3 [w_from,n] 2 #[.string ⟨w_from.toArray⟩,.string ⟨n.toArray⟩] rfl rfl (by intro x hx;simp at hx;rcases hx with rfl|rfl <;> first|assumption|decide) (L _ (yap { cm0 with kind:=13,name:=n,fields:=l,all:=a,wh:=x,order:=o,limit:=m }++([w_limit,Lib.itoa m])) (by simp only [List.append_assoc])) (by decide))
 have HWh:=yaa (fun w4 (s4:PSt B b Tb w0 (ws++[w_select]++yal (fun s=>[s]) l++[w_from,n]) w4)=>ybw k hw { cm0 with kind:=13,name:=n,fields:=l,all:=a,wh:=x,order:=o,limit:=m } cv vv fv ea wa hi.wh hr (ws++[w_select]++yal (fun s=>[s]) l++[w_from,n]) w4 s4 (L _ ([w_limit,Lib.itoa m]) (by simp only [List.append_assoc])))
 have HI:=yaa (fun w6 (s6:PSt B b Tb w0 (ws++[w_select]++yal (fun s=>[s]) l++[w_from,n]++yap { cm0 with kind:=13,name:=n,fields:=l,all:=a,wh:=x,order:=o,limit:=m }) w6)=>k.itoa m w6 s6.tb (by omega) hm.2)
 have HL:=yaa (fun w7 (s7:PSt B b Tb w0 (ws++[w_select]++yal (fun s=>[s]) l++[w_from,n]++yap { cm0 with kind:=13,name:=n,fields:=l,all:=a,wh:=x,order:=o,limit:=m }) w7)=>ybG k s7 [w_limit,Lib.itoa m] 2 #[.string ⟨w_limit.toArray⟩,.string ⟨(Lib.itoa m).toArray⟩] rfl rfl (by intro x hx;simp at hx;rcases hx with rfl|rfl <;> first|exact yeA m|decide) (L _ [] (by simp only [List.append_assoc,List.append_nil])) (by decide))
 have qm:(0:Int)≤m:=hm.1
 have K:=yaa k
 have hcm:∀ w1:World,w1.heap[W.heap.size+1]?=some (.cells (cmL { cm0 with kind:=13,name:=n,fields:=l,all:=a,wh:=x,order:=o,limit:=m } cv vv fv ea wa).toArray 31)→(w1.cell? ⟨W.heap.size+1,1,none⟩=some (.string ⟨n.toArray⟩)∧w1.cell? ⟨W.heap.size+1,10,none⟩=some fv∧w1.cell? ⟨W.heap.size+1,24,none⟩=some (.string ⟨o.toArray⟩)∧w1.cell? ⟨W.heap.size+1,25,none⟩=some (.int .i64 m)):=fun w1 kb=>⟨by rw [Lib.cell_of_heap kb];rfl,by rw [Lib.cell_of_heap kb];rfl,by rw [Lib.cell_of_heap kb];rfl,by rw [Lib.cell_of_heap kb];rfl⟩
 have HC:=yaa hcm
 have hvv:∀ w1:World,w1.heap[W.heap.size]?=some (.cells #[.pointer (some ⟨b,0,none⟩)] 117)→w1.cell? ⟨W.heap.size,0,none⟩=some (.pointer (some ⟨b,0,none⟩)):=fun w1 kb=>by rw [Lib.cell_of_heap kb];rfl
 have HVV:=yaa hvv
 clear hcm hvv hlen hS L k hn hr hi hw  h1 hm hl h5 hg hc
 have ql:((l.length:Int) == 0)=false:=by simp [hl0]
 have qz:¬ ((l.length:Int)=0):=by simp [hl0]
 subst e1
 subst ho
 unfold cmL
 simp only [cm0]
 go_enter Tryz.func102,Tryz.ntmps102
 go_wp2_with fail
 refine hp.out.mono ?_
 rintro e w1 ⟨rfl,s1,o1⟩
 have ka:((W.alloc (.cells #[.pointer (some ⟨b,0,none⟩)] 117)).alloc (.cells (cmL { cm0 with kind:=13,name:=n,fields:=l,all:=a,wh:=x,order:=[],limit:=m } cv vv (.slice (some ⟨g,og,none⟩) l.length ca) ea wa).toArray 31)).heap[W.heap.size+1]?=some (.cells (cmL { cm0 with kind:=13,name:=n,fields:=l,all:=a,wh:=x,order:=[],limit:=m } cv vv (.slice (some ⟨g,og,none⟩) l.length ca) ea wa).toArray 31):=by
  have:=heap_alloc_new (W.alloc (.cells #[.pointer (some ⟨b,0,none⟩)] 117)) (.cells (cmL { cm0 with kind:=13,name:=n,fields:=l,all:=a,wh:=x,order:=[],limit:=m } cv vv (.slice (some ⟨g,og,none⟩) l.length ca) ea wa).toArray 31)
  rwa [show (W.alloc (.cells #[.pointer (some ⟨b,0,none⟩)] 117)).heap.size=W.heap.size+1 by simp] at this
 have kv:((W.alloc (.cells #[.pointer (some ⟨b,0,none⟩)] 117)).alloc (.cells (cmL { cm0 with kind:=13,name:=n,fields:=l,all:=a,wh:=x,order:=[],limit:=m } cv vv (.slice (some ⟨g,og,none⟩) l.length ca) ea wa).toArray 31)).heap[W.heap.size]?=some (.cells #[.pointer (some ⟨b,0,none⟩)] 117):=(Below.heap_alloc _ _ _ (by simp)).trans (heap_alloc_new W _)
 have ka:=yaa (o1 _ _ ka (by simp;omega) (by intro c f e;cases e))
 have kv:=yaa (o1 _ _ kv (by simp;omega) (by intro c f e;cases e))
 obtain ⟨d1,d10,d24,d25⟩:=HC.out w1 ka.out
 have dv:=HVV.out w1 kv.out
 clear d1
 clear d24
 clear d25
 have l1:W.heap.size < w1.heap.size:=(ltS kv.out)
 have l2:W.heap.size+1 < w1.heap.size:=(ltS ka.out)
 have l3:W.heap.size≠w1.heap.size:=Nat.ne_of_lt l1
 have l4:W.heap.size+1≠w1.heap.size:=Nat.ne_of_lt l2
 have O1:=yaa o1
 have HZ:=yaa (HS2.out w1 s1 kv.out)
 clear s1 o1 hp HS2
 have O2:Hid (Lib.OthersKept 5 (some b) w1 w1):=Lib.OthersKept.refl _ _ _
 go_wp2_with fail
 refine HZ.out.mono ?_
 rintro e w3 ⟨rfl,s3,o3⟩
 clear dv d10
 have ka:=yaa (o3 _ _ ka.out (by simp;omega) (by intro c f e;cases e))
 have kv:=yaa (o3 _ _ kv.out (by simp;omega) (by intro c f e;cases e))
 obtain ⟨d1,d10,d24,d25⟩:=HC.out w3 ka.out
 have dv:=HVV.out w3 kv.out
 clear d10
 clear d24
 clear d25
 clear l1 l2 l3 l4
 have l1:W.heap.size < w3.heap.size:=(ltS kv.out)
 have l2:W.heap.size+1 < w3.heap.size:=(ltS ka.out)
 have l3:W.heap.size≠w3.heap.size:=Nat.ne_of_lt l1
 have l4:W.heap.size+1≠w3.heap.size:=Nat.ne_of_lt l2
 have O3:=yaa o3
 have HY3:=yaa (HF.out w3 s3)
 clear s3 o3 HZ HF
 go_wp2_with fail
 go_region_law (first|(go_simp;refine HY3.out.mono ?_;rintro e w4 ⟨rfl,s4,o4⟩;dsimp only))
 all_goals
  have o4':Lib.OthersKept 5 (some b) w3 w4:=fun q ob hq hne hty=>o4 q ob hq hne hty
  clear dv d1
  have ka:=yaa (o4' _ _ ka.out (by simp;omega) (by intro c f e;cases e))
  have kv:=yaa (o4' _ _ kv.out (by simp;omega) (by intro c f e;cases e))
  obtain ⟨d1,d10,d24,d25⟩:=HC.out w4 ka.out
  have dv:=HVV.out w4 kv.out
  clear d1
  clear d10
  clear d24
  clear d25
  clear l1 l2 l3 l4
  have l1:W.heap.size < w4.heap.size:=(ltS kv.out)
  have l2:W.heap.size+1 < w4.heap.size:=(ltS ka.out)
  have l3:W.heap.size≠w4.heap.size:=Nat.ne_of_lt l1
  have l4:W.heap.size+1≠w4.heap.size:=Nat.ne_of_lt l2
  have O4:=yaa o4'
  have HY4:=yaa (HWh.out w4 s4)
  clear s4 o4 o4' HY3 HWh
  go_wp2_with (first|(refine yag 31 _ rfl rfl _ (cmL { cm0 with kind:=13,name:=n,fields:=l,all:=a,wh:=x,order:=[],limit:=m } cv vv (.slice (some ⟨g,og,none⟩) l.length ca) ea wa) 31 _ rfl (by exact ka.out) Tryz.underlying31 rfl Tryz.size31 ?_)|fail)
  refine HY4.out.mono ?_
  rintro e w5 ⟨rfl,s5,o5⟩
  clear dv
  have ka:=yaa (o5 _ _ ka.out (by simp;omega) (by intro c f e;cases e))
  have kv:=yaa (o5 _ _ kv.out (by simp;omega) (by intro c f e;cases e))
  obtain ⟨d1,d10,d24,d25⟩:=HC.out w5 ka.out
  have dv:=HVV.out w5 kv.out
  clear d1
  clear d10
  clear l1 l2 l3 l4
  have l1:W.heap.size < w5.heap.size:=(ltS kv.out)
  have l2:W.heap.size+1 < w5.heap.size:=(ltS ka.out)
  have l3:W.heap.size≠w5.heap.size:=Nat.ne_of_lt l1
  have l4:W.heap.size+1≠w5.heap.size:=Nat.ne_of_lt l2
  have O5:=yaa o5
  have KEPT:Hid (Lib.OthersKept 5 (some b) W w5):=fun q ob hq hne hty=>O5.out q ob (O4.out q ob (O3.out q ob (O2.out q ob (O1.out q ob (yak (b:=b) B0.out q ob hq hne hty) hne hty) hne hty) hne hty) hne hty) hne hty
  clear o5 HY4
  have HY6:=yaa (HI.out w5.drew (s5.below K.out (Below.refl _ _).drew))
  have SS:=yaa s5
  clear s5 HI
  go_wp2_with fail
  go_region_law (first|(go_simp;refine HY6.out.mono ?_;rintro e w7 ⟨rfl,b7⟩;dsimp only;have kv7:=yaa (yak (b:=b) b7 _ _ (show w5.drew.heap[W.heap.size]?=_ from kv.out) (by simp;omega) (by intro c f e;cases e));have ka7:=yaa (yak (b:=b) b7 _ _ (show w5.drew.heap[W.heap.size+1]?=_ from ka.out) (by simp;omega) (by intro c f e;cases e));have dv7:=HVV.out w7 kv7.out;have m1:W.heap.size < w7.heap.size:=(ltS kv7.out);have m3:W.heap.size≠w7.heap.size:=Nat.ne_of_lt m1)|(go_simp;refine (HL.out w7 (SS.out.below K.out ((Below.refl _ _).drew.trans b7))).mono ?_;rintro e w8 ⟨rfl,s8,o8⟩;dsimp only))
  all_goals
   try simp only [Exit.inBlock]
   go_end0
   refine ⟨rfl, ?_,fun q ob hq hne hty=>o8 q ob (yak (b:=b) ((Below.refl _ _).drew.trans b7) q ob (KEPT.out q ob hq hne hty) hne hty) hne hty⟩
   have:=s8
   simp only [List.append_assoc] at this
   exact this
theorem yhY {B b:Nat} {Tb:World→Prop} {w0:World} (k:ItoaOk B Tb) (hw:w0.heap.size≤B) (n:List UInt8) (hn:n≠[]) (l:List (List UInt8)) (hl0:l=[]) (a:Bool) (x:Ex) (hr:RightW a x) (o:List UInt8) (ho:o=[]) (m:Int) (hm:0≤m∧m≤999999999) (cv vv fv ea wa:Value) (hi:CmIn 0 w0 { cm0 with kind:=13,name:=n,fields:=l,all:=a,wh:=x,order:=o,limit:=m } cv vv fv ea wa) (ws:List (List UInt8)) (W:World) (hS:PSt B b Tb w0 ws W) (hlen:(yaj (ws++([w_select]++([[42]]++([w_from,n]++(yap { cm0 with kind:=13,name:=n,fields:=l,all:=a,wh:=x,order:=o,limit:=m }++([w_limit,Lib.itoa m]))))))).length≤1000000) :
  Calls Tryz.prog 102 #[.pointer (some ⟨b,0,none⟩),.agg (cmL { cm0 with kind:=13,name:=n,fields:=l,all:=a,wh:=x,order:=o,limit:=m } cv vv fv ea wa).toArray] W (ya0 B b Tb w0 (ws++([w_select]++([[42]]++([w_from,n]++(yap { cm0 with kind:=13,name:=n,fields:=l,all:=a,wh:=x,order:=o,limit:=m }++([w_limit,Lib.itoa m])))))) W):=by
 have L:∀ p q:List (List UInt8),p++q=ws++([w_select]++([[42]]++([w_from,n]++(yap { cm0 with kind:=13,name:=n,fields:=l,all:=a,wh:=x,order:=o,limit:=m }++([w_limit,Lib.itoa m])))))→(yaj p).length≤1000000:=fun p q e=>Nat.le_trans (yaD p q) (by rw [e];exact hlen)
 have hp:=yaa (yco k hS (.cells #[.pointer (some ⟨b,0,none⟩)] 117) (.cells (cmL { cm0 with kind:=13,name:=n,fields:=l,all:=a,wh:=x,order:=o,limit:=m } cv vv fv ea wa).toArray 31) [w_select] 1 #[.string ⟨w_select.toArray⟩] rfl rfl (by intro x hx;simp at hx;subst hx;decide) (L _ ([[42]]++([w_from,n]++(yap { cm0 with kind:=13,name:=n,fields:=l,all:=a,wh:=x,order:=o,limit:=m }++([w_limit,Lib.itoa m])))) (by simp only [List.append_assoc])) (by decide))
 have b1:=(Below.refl W.heap.size W).alloc (Nat.le_refl _) (.cells #[.pointer (some ⟨b,0,none⟩)] 117)
 have B0:=yaa (b1.alloc (by simp) (.cells (cmL { cm0 with kind:=13,name:=n,fields:=l,all:=a,wh:=x,order:=o,limit:=m } cv vv fv ea wa).toArray 31))
 have hbW:b < W.heap.size:=hS.pr.lt
 obtain ⟨ao,ca,e0,h1⟩:=hi.fields.slice
 have e1:fv=.slice ao 0 ca:=by rw [e0];simp [hl0]
 have HS1:=yaa (fun w1 (s1:PSt B b Tb w0 (ws++[w_select]) w1)=>ybG k s1 [[42]] 1 #[.string ⟨#[42]⟩] rfl rfl (by intro x hx;simp at hx;subst hx;decide) (L _ ([w_from,n]++(yap { cm0 with kind:=13,name:=n,fields:=l,all:=a,wh:=x,order:=o,limit:=m }++([w_limit,Lib.itoa m]))) (by simp only [List.append_assoc])) (by decide))
 have HS2:=yaa (fun (f:Value) w2 (s2:PSt B b Tb w0 (ws++[w_select]++[[42]]) w2)=>yc8 (Tb:=Tb) (w0:=w0) ao ca f (ws++[w_select]++[[42]]) w2 s2)
 have HF:=yaa (fun w3 (s3:PSt B b Tb w0 (ws++[w_select]++[[42]]) w3)=>ycc k s3 [w_from,n] 2 #[.string ⟨w_from.toArray⟩,.string ⟨n.toArray⟩] rfl rfl (by intro x hx;simp at hx;rcases hx with rfl|rfl <;> first|assumption|decide) (L _ (yap { cm0 with kind:=13,name:=n,fields:=l,all:=a,wh:=x,order:=o,limit:=m }++([w_limit,Lib.itoa m])) (by simp only [List.append_assoc])) (by decide))
 have HWh:=yaa (fun w4 (s4:PSt B b Tb w0 (ws++[w_select]++[[42]]++[w_from,n]) w4)=>ybw k hw { cm0 with kind:=13,name:=n,fields:=l,all:=a,wh:=x,order:=o,limit:=m } cv vv fv ea wa hi.wh hr (ws++[w_select]++[[42]]++[w_from,n]) w4 s4 (L _ ([w_limit,Lib.itoa m]) (by simp only [List.append_assoc])))
 have HI:=yaa (fun w6 (s6:PSt B b Tb w0 (ws++[w_select]++[[42]]++[w_from,n]++yap { cm0 with kind:=13,name:=n,fields:=l,all:=a,wh:=x,order:=o,limit:=m }) w6)=>k.itoa m w6 s6.tb (by omega) hm.2)
 have HL:=yaa (fun w7 (s7:PSt B b Tb w0 (ws++[w_select]++[[42]]++[w_from,n]++yap { cm0 with kind:=13,name:=n,fields:=l,all:=a,wh:=x,order:=o,limit:=m }) w7)=>ybG k s7 [w_limit,Lib.itoa m] 2 #[.string ⟨w_limit.toArray⟩,.string ⟨(Lib.itoa m).toArray⟩] rfl rfl (by intro x hx;simp at hx;rcases hx with rfl|rfl <;> first|exact yeA m|decide) (L _ [] (by simp only [List.append_assoc,List.append_nil])) (by decide))
 have qm:(0:Int)≤m:=hm.1
 have K:=yaa k
 have hcm:∀ w1:World,w1.heap[W.heap.size+1]?=some (.cells (cmL { cm0 with kind:=13,name:=n,fields:=l,all:=a,wh:=x,order:=o,limit:=m } cv vv fv ea wa).toArray 31)→(w1.cell? ⟨W.heap.size+1,1,none⟩=some (.string ⟨n.toArray⟩)∧w1.cell? ⟨W.heap.size+1,10,none⟩=some fv∧w1.cell? ⟨W.heap.size+1,24,none⟩=some (.string ⟨o.toArray⟩)∧w1.cell? ⟨W.heap.size+1,25,none⟩=some (.int .i64 m)):=fun w1 kb=>⟨by rw [Lib.cell_of_heap kb];rfl,by rw [Lib.cell_of_heap kb];rfl,by rw [Lib.cell_of_heap kb];rfl,by rw [Lib.cell_of_heap kb];rfl⟩
 have HC:=yaa hcm
 have hvv:∀ w1:World,w1.heap[W.heap.size]?=some (.cells #[.pointer (some ⟨b,0,none⟩)] 117)→w1.cell? ⟨W.heap.size,0,none⟩=some (.pointer (some ⟨b,0,none⟩)):=fun w1 kb=>by rw [Lib.cell_of_heap kb];rfl
 have HVV:=yaa hvv
 clear hcm hvv hlen hS L k hn hr hi hw  h1 hm
 subst e1
 subst hl0
 subst ho
 unfold cmL
 simp only [cm0]
 go_enter Tryz.func102,Tryz.ntmps102
 go_wp2_with fail
 refine hp.out.mono ?_
 rintro e w1 ⟨rfl,s1,o1⟩
 have ka:((W.alloc (.cells #[.pointer (some ⟨b,0,none⟩)] 117)).alloc (.cells (cmL { cm0 with kind:=13,name:=n,fields:=[],all:=a,wh:=x,order:=[],limit:=m } cv vv (.slice ao 0 ca) ea wa).toArray 31)).heap[W.heap.size+1]?=some (.cells (cmL { cm0 with kind:=13,name:=n,fields:=[],all:=a,wh:=x,order:=[],limit:=m } cv vv (.slice ao 0 ca) ea wa).toArray 31):=by
  have:=heap_alloc_new (W.alloc (.cells #[.pointer (some ⟨b,0,none⟩)] 117)) (.cells (cmL { cm0 with kind:=13,name:=n,fields:=[],all:=a,wh:=x,order:=[],limit:=m } cv vv (.slice ao 0 ca) ea wa).toArray 31)
  rwa [show (W.alloc (.cells #[.pointer (some ⟨b,0,none⟩)] 117)).heap.size=W.heap.size+1 by simp] at this
 have kv:((W.alloc (.cells #[.pointer (some ⟨b,0,none⟩)] 117)).alloc (.cells (cmL { cm0 with kind:=13,name:=n,fields:=[],all:=a,wh:=x,order:=[],limit:=m } cv vv (.slice ao 0 ca) ea wa).toArray 31)).heap[W.heap.size]?=some (.cells #[.pointer (some ⟨b,0,none⟩)] 117):=(Below.heap_alloc _ _ _ (by simp)).trans (heap_alloc_new W _)
 have ka:=yaa (o1 _ _ ka (by simp;omega) (by intro c f e;cases e))
 have kv:=yaa (o1 _ _ kv (by simp;omega) (by intro c f e;cases e))
 obtain ⟨d1,d10,d24,d25⟩:=HC.out w1 ka.out
 have dv:=HVV.out w1 kv.out
 clear d1
 clear d24
 clear d25
 have l1:W.heap.size < w1.heap.size:=(ltS kv.out)
 have l2:W.heap.size+1 < w1.heap.size:=(ltS ka.out)
 have l3:W.heap.size≠w1.heap.size:=Nat.ne_of_lt l1
 have l4:W.heap.size+1≠w1.heap.size:=Nat.ne_of_lt l2
 have O1:=yaa o1
 have HY:=yaa (HS1.out w1 s1)
 clear s1 o1 hp HS1
 go_wp2_with fail
 refine HY.out.mono ?_
 rintro e w2 ⟨rfl,s2,o2⟩
 clear dv d10
 have ka:=yaa (o2 _ _ ka.out (by simp;omega) (by intro c f e;cases e))
 have kv:=yaa (o2 _ _ kv.out (by simp;omega) (by intro c f e;cases e))
 obtain ⟨d1,d10,d24,d25⟩:=HC.out w2 ka.out
 have dv:=HVV.out w2 kv.out
 clear d1
 clear d24
 clear d25
 clear l1 l2 l3 l4
 have l1:W.heap.size < w2.heap.size:=(ltS kv.out)
 have l2:W.heap.size+1 < w2.heap.size:=(ltS ka.out)
 have l3:W.heap.size≠w2.heap.size:=Nat.ne_of_lt l1
 have l4:W.heap.size+1≠w2.heap.size:=Nat.ne_of_lt l2
 have O2:=yaa o2
 have HZ:=yaa (fun f=>HS2.out f w2 s2)
 clear s2 o2 HY HS2
 go_wp2_with fail
 refine (HZ.out _).mono ?_
 rintro e w3 ⟨rfl,s3,o3⟩
 clear dv d10
 have ka:=yaa (o3 _ _ ka.out (by simp;omega) (by intro c f e;cases e))
 have kv:=yaa (o3 _ _ kv.out (by simp;omega) (by intro c f e;cases e))
 obtain ⟨d1,d10,d24,d25⟩:=HC.out w3 ka.out
 have dv:=HVV.out w3 kv.out
 clear d10
 clear d24
 clear d25
 clear l1 l2 l3 l4
 have l1:W.heap.size < w3.heap.size:=(ltS kv.out)
 have l2:W.heap.size+1 < w3.heap.size:=(ltS ka.out)
 have l3:W.heap.size≠w3.heap.size:=Nat.ne_of_lt l1
 have l4:W.heap.size+1≠w3.heap.size:=Nat.ne_of_lt l2
 have O3:=yaa o3
 have HY3:=yaa (HF.out w3 s3)
 clear s3 o3 HZ HF
 go_wp2_with fail
 go_region_law (first|(go_simp;refine HY3.out.mono ?_;rintro e w4 ⟨rfl,s4,o4⟩;dsimp only))
 all_goals
  have o4':Lib.OthersKept 5 (some b) w3 w4:=fun q ob hq hne hty=>o4 q ob hq hne hty
  clear dv d1
  have ka:=yaa (o4' _ _ ka.out (by simp;omega) (by intro c f e;cases e))
  have kv:=yaa (o4' _ _ kv.out (by simp;omega) (by intro c f e;cases e))
  obtain ⟨d1,d10,d24,d25⟩:=HC.out w4 ka.out
  have dv:=HVV.out w4 kv.out
  clear d1
  clear d10
  clear d24
  clear d25
  clear l1 l2 l3 l4
  have l1:W.heap.size < w4.heap.size:=(ltS kv.out)
  have l2:W.heap.size+1 < w4.heap.size:=(ltS ka.out)
  have l3:W.heap.size≠w4.heap.size:=Nat.ne_of_lt l1
  have l4:W.heap.size+1≠w4.heap.size:=Nat.ne_of_lt l2
  have O4:=yaa o4'
  have HY4:=yaa (HWh.out w4 s4)
  clear s4 o4 o4' HY3 HWh
  go_wp2_with (first|(refine yag 31 _ rfl rfl _ (cmL { cm0 with kind:=13,name:=n,fields:=[],all:=a,wh:=x,order:=[],limit:=m } cv vv (.slice ao 0 ca) ea wa) 31 _ rfl (by exact ka.out) Tryz.underlying31 rfl Tryz.size31 ?_)|fail)
  refine HY4.out.mono ?_
  rintro e w5 ⟨rfl,s5,o5⟩
  clear dv
  have ka:=yaa (o5 _ _ ka.out (by simp;omega) (by intro c f e;cases e))
  have kv:=yaa (o5 _ _ kv.out (by simp;omega) (by intro c f e;cases e))
  obtain ⟨d1,d10,d24,d25⟩:=HC.out w5 ka.out
  have dv:=HVV.out w5 kv.out
  clear d1
  clear d10
  clear l1 l2 l3 l4
  have l1:W.heap.size < w5.heap.size:=(ltS kv.out)
  have l2:W.heap.size+1 < w5.heap.size:=(ltS ka.out)
  have l3:W.heap.size≠w5.heap.size:=Nat.ne_of_lt l1
  have l4:W.heap.size+1≠w5.heap.size:=Nat.ne_of_lt l2
  have O5:=yaa o5
  have KEPT:Hid (Lib.OthersKept 5 (some b) W w5):=fun q ob hq hne hty=>O5.out q ob (O4.out q ob (O3.out q ob (O2.out q ob (O1.out q ob (yak (b:=b) B0.out q ob hq hne hty) hne hty) hne hty) hne hty) hne hty) hne hty
  clear o5 HY4
  have HY6:=yaa (HI.out w5.drew (s5.below K.out (Below.refl _ _).drew))
  have SS:=yaa s5
  clear s5 HI
  go_wp2_with fail
  go_region_law (first|(go_simp;refine HY6.out.mono ?_;rintro e w7 ⟨rfl,b7⟩;dsimp only;have kv7:=yaa (yak (b:=b) b7 _ _ (show w5.drew.heap[W.heap.size]?=_ from kv.out) (by simp;omega) (by intro c f e;cases e));have ka7:=yaa (yak (b:=b) b7 _ _ (show w5.drew.heap[W.heap.size+1]?=_ from ka.out) (by simp;omega) (by intro c f e;cases e));have dv7:=HVV.out w7 kv7.out;have m1:W.heap.size < w7.heap.size:=(ltS kv7.out);have m3:W.heap.size≠w7.heap.size:=Nat.ne_of_lt m1)|(go_simp;refine (HL.out w7 (SS.out.below K.out ((Below.refl _ _).drew.trans b7))).mono ?_;rintro e w8 ⟨rfl,s8,o8⟩;dsimp only))
  all_goals
   try simp only [Exit.inBlock]
   go_end0
   refine ⟨rfl, ?_,fun q ob hq hne hty=>o8 q ob (yak (b:=b) ((Below.refl _ _).drew.trans b7) q ob (KEPT.out q ob hq hne hty) hne hty) hne hty⟩
   have:=s8
   simp only [List.append_assoc] at this
   exact this
end Go.Proofs.YtkpeklealgicpabGreatDoor
