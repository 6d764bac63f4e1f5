/-
  The document's reader in memory: expressions in brackets.
  The document's reader in memory: expressions of two.
  The document's reader in memory: expressions, whole.
  The document's reader in memory, with its command.
  The document's reader in memory: structs into its command; Where.
  The document's reader in memory: lists that grow.
  The document's reader in memory: Command, all but insert.
  ParseOf of the document: all cases.
  The document's ParseOf, of the one text that the laws' first look takes.
  Same of two commands in memory: alike, or of another kind; the laws' first look at texts, showBegun.
  What is printed of words, part by part: the document's way.
  'Digits' of package overhaulref.
  The document's ValueText and Commas.
  The document's ExprText.
  Regions that draw their order, with calls, of which one operation makes memory: what it leaves, and those behind it, hangs on where.
-/
import Derived.Deep.AppendLies
import Derived.Deep.RegionHeldLaw
import Derived.Laws.IdiomStrings
import Derived.Test.YtkpeklealgicpabGreatDoorQa
import Derived.Test.YtkpeklealgicpabGreatDoorQd
import Derived.Test.YtkpeklealgicpabGreatDoorQg
import Derived.Test.YtkpeklealgicpabGreatDoorQh
import Derived.Test.YtkpeklealgicpabGreatDoorQi
import Derived.Test.YtkpeklealgicpabGreatDoorQj
import Derived.Test.YtkpeklealgicpabGreatDoorQl

set_option maxRecDepth 100000
set_option maxHeartbeats 8000000
namespace Go.Proofs.YtkpeklealgicpabGreatDoor
open Go.RowKit
def ops7:List (List UInt8):=[ymO,ysX,[43],[45],[124,124],[60],[61]]
theorem yfZ (t:List UInt8) (k:Nat) (op:List UInt8) (h:ops7[k]?=some op):t=op↔ybM t=5+k:=by
 constructor
 ·rintro rfl
  match k,h with
  | 0,h=>cases h;decide
  | 1,h=>cases h;decide
  | 2,h=>cases h;decide
  | 3,h=>cases h;decide
  | 4,h=>cases h;decide
  | 5,h=>cases h;decide
  | 6,h=>cases h;decide
 ·intro hk
  unfold ybM at hk
  by_cases a0:t=ymO
  ·rw [if_pos a0] at hk
   have:k=0:=by omega
   subst this
   cases h
   exact a0
  rw [if_neg a0] at hk
  by_cases a1:t=ysX
  ·rw [if_pos a1] at hk
   have:k=1:=by omega
   subst this
   cases h
   exact a1
  rw [if_neg a1] at hk
  by_cases a2:t=[43]
  ·rw [if_pos a2] at hk
   have:k=2:=by omega
   subst this
   cases h
   exact a2
  rw [if_neg a2] at hk
  by_cases a3:t=[45]
  ·rw [if_pos a3] at hk
   have:k=3:=by omega
   subst this
   cases h
   exact a3
  rw [if_neg a3] at hk
  by_cases a4:t=[124,124]
  ·rw [if_pos a4] at hk
   have:k=4:=by omega
   subst this
   cases h
   exact a4
  rw [if_neg a4] at hk
  by_cases a5:t=[60]
  ·rw [if_pos a5] at hk
   have:k=5:=by omega
   subst this
   cases h
   exact a5
  rw [if_neg a5] at hk
  by_cases a6:t=[61]
  ·rw [if_pos a6] at hk
   have:k=6:=by omega
   subst this
   cases h
   exact a6
  rw [if_neg a6] at hk
  omega
theorem yfX (t:List UInt8):ybM t=0∨(5≤ybM t∧ybM t≤11):=by
 unfold ybM
 repeat' split
 all_goals omega
def yeb (t:List UInt8) (k:Nat):Nat:=if ybM t < 5+k then ybM t else 0
theorem ymv {t:List UInt8} {k:Nat} {op:List UInt8} (h:ops7[k]?=some op) (e:t=op):yeb t (k+1)=5+k:=by
 have:=(yfZ t k op h).1 e
 unfold yeb;rw [if_pos (by omega),this]
theorem yoJ {t:List UInt8} {k:Nat} {op:List UInt8} (h:ops7[k]?=some op) (e:t≠op):yeb t (k+1)=yeb t k:=by
 have h1:ybM t≠5+k:=fun hh=>e ((yfZ t k op h).2 hh)
 unfold yeb
 by_cases h2:ybM t < 5+k
 ·rw [if_pos h2,if_pos (by omega)]
 ·rw [if_neg h2,if_neg (by omega)]
theorem ysn {w W W':World} {b k:Nat} {x:Value} (hb:b < w.heap.size) (h:W.cell? ⟨b,k,none⟩=some x∧Below w.heap.size w W) (hB:Below W.heap.size W W'):W'.cell? ⟨b,k,none⟩=some x∧Below w.heap.size w W' :=
 ⟨(hB.cell (p:=⟨b,k,none⟩) (Nat.lt_of_lt_of_le hb h.2.size)).trans h.1,h.2.trans (hB.mono h.2.size)⟩
theorem ofT {A B:Prop} (h:A∧B):B:=h.2
theorem yme {w:World} {base rb:Nat} {v:Value} {T:List Tk} {en:Int} {i:Nat} {F:Bool} {cs:List Value} (h:Rd w base rb v T en (i,F) cs) (f:Nat) (hf:f < 60) (ht:txS T (i,F)=[40])
  (ih:∀ (W:World) (s:Sx),Rd W base rb v T en s cs→Calls Tryz.prog 67 #[.pointer (some ⟨rb,0,none⟩),.int .i64 ((60 - f:Nat):Int)] W fun e w'=>ymV W base rb v T en (ybq T f s) cs e w')
  (hb:(ybm T w_is (ybq T f (i+1,F)).2).1=true) :
  Calls Tryz.prog 67 #[.pointer (some ⟨rb,0,none⟩),.int .i64 ((59 - f:Nat):Int)] w fun e w'=>ymV w base rb v T en (.mk 4 vl0 [] [(ybq T f (i+1,F)).1],(ycl T [41] (ycl T w_null (ybm T w_is (ybq T f (i+1,F)).2).2).2).2) cs e w':=by
 have H:=yaa h
 have hlt:=h.rb_lt
 have hle:(i:Int)≤2000:=by have:=h.le;have:=h.few;simp only at *;omega
 obtain ⟨hF,ex,hm⟩:=ycq (T:=T) (i:=i) (F:=F) (by rw [ht];decide)
 have hx:∀ W,Rd W base rb v T en (i,F) cs→Calls Tryz.prog 115 #[.pointer (some ⟨rb,0,none⟩)] W fun e w'=>e=.returned (.string ⟨#[40]⟩)∧Below W.heap.size W w':=fun W hh=>by have:=ya6 hh;rw [ht] at this;exact this
 have ih1:=fun W=>ih W (i+1,F)
 have hm0:((60 - f:Nat):Int)=((59 - f:Nat):Int)+1:=by omega
 have hm1:((59 - f:Nat):Int) < 60:=by omega
 have hm2:0≤((59 - f:Nat):Int):=by omega
 rw [hm0] at ih1
 have t1:∀ W,Rd W base rb v T en (ybq T f (i+1,F)).2 cs→Calls Tryz.prog 60 #[.pointer (some ⟨rb,0,none⟩),.string ⟨#[105,115]⟩] W fun e w'=>e=.returned (.bool true)∧Rd w' base rb v T en (ybm T w_is (ybq T f (i+1,F)).2).2 cs∧W.grownBy w' (some rb):=fun W hh=>by have:=yek hh w_is (by decide);rw [hb] at this;exact this
 have t2:∀ W,Rd W base rb v T en (ybm T w_is (ybq T f (i+1,F)).2).2 cs→Calls Tryz.prog 62 #[.pointer (some ⟨rb,0,none⟩),.string ⟨#[110,117,108,108]⟩] W fun e w'=>e=.returned (.tuple #[])∧Rd w' base rb v T en (ycl T w_null (ybm T w_is (ybq T f (i+1,F)).2).2).2 cs∧W.grownBy w' (some rb):=fun W hh=>ydA hh w_null (by decide)
 have t3:∀ W,Rd W base rb v T en (ycl T w_null (ybm T w_is (ybq T f (i+1,F)).2).2).2 cs→Calls Tryz.prog 62 #[.pointer (some ⟨rb,0,none⟩),.string ⟨#[41]⟩] W fun e w'=>e=.returned (.tuple #[])∧Rd w' base rb v T en (ycl T [41] (ycl T w_null (ybm T w_is (ybq T f (i+1,F)).2).2).2).2 cs∧W.grownBy w' (some rb):=fun W hh=>ydA hh [41] (by decide)
 generalize (ycl T [41] (ycl T w_null (ybm T w_is (ybq T f (i+1,F)).2).2).2).2=s4 at *
 generalize (ycl T w_null (ybm T w_is (ybq T f (i+1,F)).2).2).2=s3 at *
 generalize (ybm T w_is (ybq T f (i+1,F)).2).2=s2 at *
 generalize ybq T f (i+1,F)=p at *
 generalize ((59 - f:Nat):Int)=m at *
 have hm3:(m == 60)=false:=by rw [beq_eq_false_iff_ne];omega
 clear h ih ht ex hm0 hf hb
 go_enter Tryz.func67,Tryz.ntmps67
 go_wp2_with (first|(refine yao 4 29 z29 rfl rfl rfl Tryz.alloc29 ?_;intro W0 eb heb k0 b0;have R0:=yaa (H.out.below b0))|(go_at_call 115;refine (hx _ R0.out).mono ?_;rintro e w1 ⟨rfl,b1⟩;have R1:=yaa (R0.out.below b1);have k1:=(b1.block eb (ltS k0)).trans k0;obtain ⟨⟨c0,c1,c2,c3⟩,f1,f3⟩:=rd4 R1.out.blk))
 refine (ih1 _ (yie R1.out hm)).mono ?_
 rintro e w3 ⟨⟨u,rfl,x3⟩,R3,g3⟩
 obtain ⟨k,x,nm,ao,na,ca,rfl⟩:=ExAt.form x3
 have hne:eb≠rb:=by have:=heb.out;omega
 have k2:=(heap_setCell_other w1 ⟨rb,1,none⟩ eb (.int .i64 ((i:Int)+1)) hne).trans k1
 have k3:=ybr g3 k2 hne
 have X3:=yaa x3
 have HR3:=yaa R3
 rw [ycg] at X3
 have hb3:=g3.size
 rw [ycg] at hb3
 have he1:=(ltS k1)
 have hr1:=R1.out.rb_lt
 unfold exV
 clear x3 R3
 go_wp2_with (first|(refine yao 7 29 z29 rfl rfl rfl Tryz.alloc29 ?_;intro w4 ab hab k4 b4)|(refine yai 29 _ _ rfl rfl ab z29 (exL k x nm (.slice ao na ca)) 29 rfl rfl (by exact k4) rfl Tryz.size29 (yca _ _ _ _ _ _) ?_;intro w5 k5 p5;have B5:=ycw hab b4 p5;have R5:=yaa (HR3.out.below B5);have X5:=yaa (X3.out.under B5);have e5:=(B5.block eb (ltS k3)).trans k3;clear p5))
 have hane:ab≠rb:=by have:=hab.out;omega
 refine (t1 _ R5.out).mono ?_
 rintro e w6 ⟨rfl,R6,g6⟩
 go_wp2_with fail
 refine (t2 _ R6).mono ?_
 rintro e w7 ⟨rfl,R7,g7⟩
 go_wp2_with fail
 refine (t3 _ R7).mono ?_
 rintro e w8 ⟨rfl,R8,g8⟩
 have G:=yab g6 (yab g7 g8)
 have k8:=ybr G k5 hane
 have e8:=ybr G e5 hne
 have X8:=yaa (X5.out.grown hr1 G)
 have HR8:=yaa R8
 clear R6 R7 R8 g6 g7 g8
 go_wp2_with (first|(refine yag 29 _ rfl rfl ab (exL k x nm (.slice ao na ca)) 29 _ rfl (by exact k8) Tryz.underlying29 rfl Tryz.size29 ?_)|(refine yai 29 _ _ rfl rfl eb z29 (exL 4 vl0 [] (.slice (some ⟨w8.heap.size,0,none⟩) 1 1)) 29 rfl rfl (by exact (ydB _ (ltS e8)).trans e8) rfl Tryz.size29 (yca _ _ _ _ _ _) ?_;intro w9 k9 p9))
 have hE:=heb.out
 have n1:(w8.alloc (.cells (exL k x nm (.slice ao na ca)).toArray 29)).heap[w8.heap.size]?=some (.cells (exL k x nm (.slice ao na ca)).toArray 29):=heap_alloc_new _ _
 have n6:w9.heap[w8.heap.size]?=some (.cells (exL k x nm (.slice ao na ca)).toArray 29):=by
  rw [p9.out]
  exact (yaY eb _ _ 0 _ (by have:=(ltS e8);omega)).trans n1
 have x9:ExAt w1.heap.size w9 (exV k x nm (.slice ao na ca)) p.1:=by
  rw [p9.out]
  exact (X8.out.alloc _).putAll he1 0 _
 have b0s:=b0.size
 have b1s:=b1.size
 have b5s:=B5.size
 have gs:=G.size
 refine bodyPost_ret (yaJ Tryz.results67 _ _ eb _ 29 _ rfl k9 Tryz.underlying29 rfl Tryz.size29) rfl ⟨⟨_,rfl, ?_⟩,Rd.putNew p9 (HR8.out.below ((Below.refl _ _).alloc (Nat.le_refl _) _)) (by omega), ?_⟩
 ·exact (yo8 n6 (by omega) x9 4 1).weak (by omega)
 ·exact ybd p9 (yab (yae b0 _) (yab (yae b1 _) (yab (yaE _ rb 1 _) (yab g3 (yab (yae B5 _) (yab G (yae ((Below.refl _ _).alloc (Nat.le_refl _) _) _))))))) (by omega)
theorem ylZ {T:List Tk} {s s2:Sx} {K:Nat} (ho:yhQ T s=(K,s2)) (hk:ybM (txS T s)≠0):(ycl T (txS T s) s).2=s2:=by
 obtain ⟨j,G⟩:=s
 have hne:txS T (j,G)≠[]:=by intro e;rw [e] at hk;exact hk (by decide)
 obtain ⟨rfl,e3,-⟩:=ycq hne
 unfold yhQ at ho
 rw [if_neg hk] at ho
 rw [← (Prod.mk.inj ho).2]
 unfold ycl ybm
 simp [e3]
theorem yow {w:World} {base rb:Nat} {v:Value} {T:List Tk} {en:Int} {i:Nat} {F:Bool} {cs:List Value} (h:Rd w base rb v T en (i,F) cs) (f:Nat) (hf:f < 60) (ht:txS T (i,F)=[40])
  (ih:∀ (W:World) (s:Sx),Rd W base rb v T en s cs→Calls Tryz.prog 67 #[.pointer (some ⟨rb,0,none⟩),.int .i64 ((60 - f:Nat):Int)] W fun e w'=>ymV W base rb v T en (ybq T f s) cs e w')
  (p:Ex×Sx) (hp:ybq T f (i+1,F)=p) (hb:ybm T w_is p.2=(false,p.2)) (K:Nat) (s2:Sx) (ho:yhQ T p.2=(K,s2)) (q:Ex×Sx) (hq:ybq T f s2=q) (s4:Sx) (hs4:(ycl T [41] q.2).2=s4) :
  Calls Tryz.prog 67 #[.pointer (some ⟨rb,0,none⟩),.int .i64 ((59 - f:Nat):Int)] w fun e w'=>ymV w base rb v T en (.mk (K:Nat) vl0 [] [p.1,q.1],s4) cs e w':=by
 have H:=yaa h
 have hlt:=h.rb_lt
 have hle:(i:Int)≤2000:=by have:=h.le;have:=h.few;simp only at *;omega
 obtain ⟨hF,ex,hm⟩:=ycq (T:=T) (i:=i) (F:=F) (by rw [ht];decide)
 have hx:∀ W,Rd W base rb v T en (i,F) cs→Calls Tryz.prog 115 #[.pointer (some ⟨rb,0,none⟩)] W fun e w'=>e=.returned (.string ⟨#[40]⟩)∧Below W.heap.size W w':=fun W hh=>by have:=ya6 hh;rw [ht] at this;exact this
 have ih1:=fun W=>ih W (i+1,F)
 have ih2:=fun W=>ih W s2
 have hm0:((60 - f:Nat):Int)=((59 - f:Nat):Int)+1:=by omega
 have hm1:((59 - f:Nat):Int) < 60:=by omega
 have hm2:0≤((59 - f:Nat):Int):=by omega
 rw [hm0,hp] at ih1
 rw [hm0,hq] at ih2
 have t1:∀ W,Rd W base rb v T en p.2 cs→Calls Tryz.prog 60 #[.pointer (some ⟨rb,0,none⟩),.string ⟨#[105,115]⟩] W fun e w'=>e=.returned (.bool false)∧Rd w' base rb v T en p.2 cs∧W.grownBy w' (some rb):=fun W hh=>by have:=yek hh w_is (by decide);rw [hb] at this;exact this
 have t2:∀ W,Rd W base rb v T en p.2 cs→Calls Tryz.prog 115 #[.pointer (some ⟨rb,0,none⟩)] W fun e w'=>e=.returned (.string ⟨(txS T p.2).toArray⟩)∧Below W.heap.size W w':=fun W hh=>ya6 hh
 have t4:∀ W,Rd W base rb v T en q.2 cs→Calls Tryz.prog 62 #[.pointer (some ⟨rb,0,none⟩),.string ⟨#[41]⟩] W fun e w'=>e=.returned (.tuple #[])∧Rd w' base rb v T en s4 cs∧W.grownBy w' (some rb):=fun W hh=>by have:=ydA hh [41] (by decide);rw [hs4] at this;exact this
 have HO:Hid (yhQ T p.2=(K,s2)):=ho
 have t3:ybM (txS T p.2)≠0→∀ W,Rd W base rb v T en p.2 cs→Calls Tryz.prog 62 #[.pointer (some ⟨rb,0,none⟩),.string ⟨(txS T p.2).toArray⟩] W fun e w'=>e=.returned (.tuple #[])∧Rd w' base rb v T en s2 cs∧W.grownBy w' (some rb):=by
  intro hk W hh
  have hne:txS T p.2≠[]:=by intro e;rw [e] at hk;exact hk (by decide)
  have:=ydA hh (txS T p.2) hne
  have e:(ycl T (txS T p.2) p.2).2=s2:=ylZ HO.out hk
  rw [e] at this
  exact this
 have t5:ybM (txS T p.2)=0→K=0∧s2=(p.2.1,true):=by
  intro hk
  have e1:=HO.out
  unfold yhQ at e1
  rw [if_pos hk] at e1
  exact ⟨(Prod.mk.inj e1).1.symm,(Prod.mk.inj e1).2.symm⟩
 have t6:ybM (txS T p.2)≠0→K=ybM (txS T p.2):=by
  intro hk
  have e1:=HO.out
  unfold yhQ at e1
  rw [if_neg hk] at e1
  exact (Prod.mk.inj e1).1.symm
 have T3:=yaa t3
 have T5:=yaa t5
 have T6:=yaa t6
 generalize ((59 - f:Nat):Int)=m at *
 generalize hT2:txS T p.2=t at *
 have hm3:(m == 60)=false:=by rw [beq_eq_false_iff_ne];omega
 clear h ih ht ex hm0 hf hb ho t3 t5 t6 hp hq hs4 HO hT2
 go_enter Tryz.func67,Tryz.ntmps67
 go_wp2_with (first|(refine yao 4 29 z29 rfl rfl rfl Tryz.alloc29 ?_;intro W0 eb heb k0 b0;have R0:=yaa (H.out.below b0))|(go_at_call 115;refine (hx _ R0.out).mono ?_;rintro e w1 ⟨rfl,b1⟩;have R1:=yaa (R0.out.below b1);have k1:=(b1.block eb (ltS k0)).trans k0;obtain ⟨⟨c0,c1,c2,c3⟩,f1,f3⟩:=rd4 R1.out.blk))
 refine (ih1 _ (yie R1.out hm)).mono ?_
 rintro e w3 ⟨⟨u,rfl,x3⟩,R3,g3⟩
 obtain ⟨k,x,nm,ao,na,ca,rfl⟩:=ExAt.form x3
 have hne:eb≠rb:=by have:=heb.out;omega
 have k2:=(heap_setCell_other w1 ⟨rb,1,none⟩ eb (.int .i64 ((i:Int)+1)) hne).trans k1
 have k3:=ybr g3 k2 hne
 have X3:=yaa x3
 have HR3:=yaa R3
 rw [ycg] at X3
 have hb3:=g3.size
 rw [ycg] at hb3
 have he1:=(ltS k1)
 have hr1:=R1.out.rb_lt
 unfold exV
 clear x3 R3
 go_wp2_with (first|(refine yao 7 29 z29 rfl rfl rfl Tryz.alloc29 ?_;intro w4 ab hab k4 b4)|(refine yai 29 _ _ rfl rfl ab z29 (exL k x nm (.slice ao na ca)) 29 rfl rfl (by exact k4) rfl Tryz.size29 (yca _ _ _ _ _ _) ?_;intro w5 k5 p5;have B5:=ycw hab b4 p5;have R5:=yaa (HR3.out.below B5);have X5:=yaa (X3.out.under B5);have e5:=(B5.block eb (ltS k3)).trans k3;clear p5))
 have hane:ab≠rb:=by have:=hab.out;omega
 refine (t1 _ R5.out).mono ?_
 rintro e w6 ⟨rfl,R6,g6⟩
 have k6:=ybr g6 k5 hane
 have e6:=ybr g6 e5 hne
 have X6:=yaa (X5.out.grown hr1 g6)
 have HR6:=yaa R6
 have G6:w.grownBy w6 (some rb):=yab (yae b0 _) (yab (yae b1 _) (yab (yaE _ rb 1 _) (yab g3 (yab (yae B5 _) g6))))
 have hw6:w1.heap.size≤w6.heap.size:=Nat.le_trans hb3 (Nat.le_trans B5.size g6.size)
 obtain ⟨wX,hX⟩:∃ wX,wX=w6.alloc (.cells (ops7.map fun x=>Value.string ⟨x.toArray⟩).toArray 9):=⟨_,rfl⟩
 have bX:Below w6.heap.size w6 wX:=by rw [hX];exact (Below.refl _ _).alloc (Nat.le_refl _) _
 have cX:∀ j op,ops7[j]?=some op→wX.cell? ⟨w6.heap.size,j,none⟩=some (.string ⟨op.toArray⟩):=by
  intro j op hj
  rw [hX]
  refine (Lib.cell_of_heap (heap_alloc_new w6 (.cells (ops7.map fun x=>Value.string ⟨x.toArray⟩).toArray 9)) j).trans ?_
  simp [hj]
 have lX:w6.heap.size < wX.heap.size:=by rw [hX];simp
 have HX:=yaa hX
 have CX:=yaa cX
 clear R6 g6 k3 k2 k1 k0 hX cX
 go_wp2
 go_loopw [8,10] (fun kd n wl=>∃ a:Nat,a≤7∧n=.int .i64 a∧kd=.int .i64 (yeb t a:Nat)∧Below wX.heap.size wX wl) (fun _ n _=>7 - (intOf n).toNat)
 case atStart =>
  refine ⟨0,by decide,rfl, ?_,by rw [HX.out];exact Below.refl _ _⟩
  have:yeb t 0=0:=by unfold yeb;rcases yfX t with h|h;rw [h];rfl;rw [if_neg (by omega)]
  rw [this];rfl
 case round =>
  obtain ⟨a,ha,rfl,rfl,hnx⟩:=hrel
  by_cases hlt7:a < 7
  ·obtain ⟨op,hop⟩:∃ op,ops7[a]?=some op:=⟨ops7[a]'(by simpa [ops7] using hlt7),List.getElem?_eq_getElem _⟩
   have c0:=(hnx.cell (p:=⟨w6.heap.size,a,none⟩) lX).trans (CX.out a op hop)
   have HP:=yaa hop
   have hlt':(a:Int) < 7:=by omega
   have tt:∀ W,Below wX.heap.size wX W→Calls Tryz.prog 115 #[.pointer (some ⟨rb,0,none⟩)] W fun e w'=>e=.returned (.string ⟨t.toArray⟩)∧Below W.heap.size W w':=fun W hW=>t2 W ((HR6.out.below bX).below hW)
   clear hop
   by_cases he:t=op
   ·have hs:=ymv HP.out he
    have HS:=yaa hs
    subst he
    generalize yeb t a=sa at *
    clear hs
    go_wp2_with fail
    go_region_held3 (fun w'=>w'.cell? ⟨w6.heap.size,a,none⟩=some (.string ⟨t.toArray⟩)∧Below wX.heap.size wX w') (first|exact ⟨c0,hnx.drew⟩|exact ysn lX (by assumption) (by assumption)) (first|(go_at_call 115;refine (tt _ (ofT (by assumption))).mono ?_;rintro e w' ⟨rfl,hb⟩))
    rename_i hH
    have q8:=hH.2
    clear hH
    go_wp2
    go_roundw
    case rel=>exact ⟨a+1,by omega,by go_num,by rw [HS.out];go_num,q8⟩
    case measure=>simp [intOf];omega
   ·have hs:=yoJ HP.out he
    have HS:=yaa hs
    have hq:(t == op)=false:=by simpa using he
    generalize yeb t a=sa at *
    clear hs he
    go_wp2_with fail
    go_region_held3 (fun w'=>w'.cell? ⟨w6.heap.size,a,none⟩=some (.string ⟨op.toArray⟩)∧Below wX.heap.size wX w') (first|exact ⟨c0,hnx.drew⟩|exact ysn lX (by assumption) (by assumption)) (first|(go_at_call 115;refine (tt _ (ofT (by assumption))).mono ?_;rintro e w' ⟨rfl,hb⟩))
    rename_i hH
    have q8:=hH.2
    clear hH
    go_wp2
    go_roundw
    case rel=>exact ⟨a+1,by omega,by go_num,by rw [HS.out],q8⟩
    case measure=>simp [intOf];omega
  ·have ha7:a=7:=by omega
   subst ha7
   have hs:yeb t 7=ybM t:=by unfold yeb;rw [if_pos (by rcases yfX t with h|h <;> omega)]
   rw [hs]
   have kX:=(bX.block ab (ltS k6)).trans k6
   have eX:=(bX.block eb (ltS e6)).trans e6
   have kX:=(hnx.block ab (ltS kX)).trans kX
   have eX:=(hnx.block eb (ltS eX)).trans eX
   have XX:=yaa ((X6.out.under bX).under hnx)
   have RX:=yaa ((HR6.out.below bX).below hnx)
   have GX:w.grownBy wr (some rb):=yab G6 (yab (yae bX _) (yae hnx _))
   have sX:w1.heap.size≤wr.heap.size:=Nat.le_trans hw6 (Nat.le_trans bX.size hnx.size)
   clear hs k6 e6 X6
   by_cases hK:ybM t=0
   ·obtain ⟨rfl,rfl⟩:=T5.out hK
    rw [hK]
    obtain ⟨⟨c0,c1,c2,c3⟩,f1,f3⟩:=rd4 RX.out.blk
    have RF:=yaa (show Rd (wr.setCell ⟨rb,3,none⟩ (.bool true)) base rb v T en (p.2.1,true) cs from Rd.fail (i:=p.2.1) (F:=p.2.2) RX.out)
    clear T3 T5 T6 CX HX hK
    go_wp2_with fail
    refine (ih2 _ RF.out).mono ?_
    rintro e wE ⟨⟨u',rfl,xE⟩,RE,gE⟩
    obtain ⟨k',x',nm',ao',na',ca',rfl⟩:=ExAt.form xE
    have XE:=yaa xE
    have HRE:=yaa RE
    have gXE:=yab (yaE wr rb 3 (.bool true)) gE
    have kE:=ybr gXE kX hane
    have eE:=ybr gXE eX hne
    have X1:=yaa (XX.out.grown hr1 gXE)
    have sE:=gXE.size
    rw [ycg] at XE
    unfold exV
    clear xE RE
    go_wp2_with (first|(refine yao 11 29 z29 rfl rfl rfl Tryz.alloc29 ?_;intro w10 bb hbb k10 b10)|(refine yai 29 _ _ rfl rfl bb z29 (exL k' x' nm' (.slice ao' na' ca')) 29 rfl rfl (by exact k10) rfl Tryz.size29 (yca _ _ _ _ _ _) ?_;intro w11 k11 p11;have B11:=ycw hbb b10 p11;have R11:=yaa (HRE.out.below B11);have Y11:=yaa (XE.out.under B11);have X11:=yaa (X1.out.under B11);have e11:=(B11.block eb (ltS eE)).trans eE;have a11:=(B11.block ab (ltS kE)).trans kE;clear p11))
    have hbne:bb≠rb:=by have:=hbb.out;omega
    refine (t4 _ R11.out).mono ?_
    rintro e w12 ⟨rfl,R12,g12⟩
    have k12:=ybr g12 k11 hbne
    have e12:=ybr g12 e11 hne
    have a12:=ybr g12 a11 hane
    have Y12:=yaa (Y11.out.grown (by omega) g12)
    have X12:=yaa (X11.out.grown hr1 g12)
    have HR12:=yaa R12
    clear R12
    go_wp2_with (first|(refine yag 29 _ rfl rfl ab (exL k x nm (.slice ao na ca)) 29 _ rfl (by exact a12) Tryz.underlying29 rfl Tryz.size29 ?_)|(refine yag 29 _ rfl rfl bb (exL k' x' nm' (.slice ao' na' ca')) 29 _ rfl (by exact k12) Tryz.underlying29 rfl Tryz.size29 ?_)|(refine yai 29 _ _ rfl rfl eb z29 (exL 0 vl0 [] (.slice (some ⟨w12.heap.size,0,none⟩) 2 2)) 29 rfl rfl (by exact (ydB _ (ltS e12)).trans e12) rfl Tryz.size29 (yca _ _ _ _ _ _) ?_;intro w13 k13 p13))
    have hE:=heb.out
    have n1:(w12.alloc (.cells (exL k x nm (.slice ao na ca)++exL k' x' nm' (.slice ao' na' ca')).toArray 29)).heap[w12.heap.size]?=some (.cells (exL k x nm (.slice ao na ca)++exL k' x' nm' (.slice ao' na' ca')).toArray 29):=heap_alloc_new _ _
    have n6:w13.heap[w12.heap.size]?=some (.cells (exL k x nm (.slice ao na ca)++exL k' x' nm' (.slice ao' na' ca')).toArray 29):=by
     rw [p13.out]
     exact (yaY eb _ _ 0 _ (by have:=(ltS e12);omega)).trans n1
    have x13:ExAt w1.heap.size w13 (exV k x nm (.slice ao na ca)) p.1:=by
     rw [p13.out]
     exact (X12.out.alloc _).putAll he1 0 _
    have y13:ExAt w1.heap.size w13 (exV k' x' nm' (.slice ao' na' ca')) q.1:=by
     rw [p13.out]
     exact ((Y12.out.weak (by omega)).alloc _).putAll he1 0 _
    have b0s:=b0.size
    have b1s:=b1.size
    have b11s:=B11.size
    have gs:=g12.size
    refine bodyPost_ret (yaJ Tryz.results67 _ _ eb _ 29 _ rfl k13 Tryz.underlying29 rfl Tryz.size29) rfl ⟨⟨_,rfl, ?_⟩,Rd.putNew p13 (HR12.out.below ((Below.refl _ _).alloc (Nat.le_refl _) _)) (by omega), ?_⟩
    ·exact (yo9 n6 (by omega) x13 y13 0 2).weak (by omega)
    ·exact ybd p13 (yab GX (yab gXE (yab (yae B11 _) (yab g12 (yae ((Below.refl _ _).alloc (Nat.le_refl _) _) _))))) (by omega)
   ·have hk:=yfX t
    have T3:=T3.out hK
    have hKK:=T6.out hK
    have cK:wr.cell? ⟨w6.heap.size,ybM t - 5,none⟩=some (.string ⟨t.toArray⟩):=by
     obtain ⟨op,hop⟩:∃ op,ops7[ybM t - 5]?=some op:=⟨ops7[ybM t - 5]'(by simp [ops7];omega),List.getElem?_eq_getElem _⟩
     have:t=op:=(yfZ t (ybM t - 5) op hop).2 (by omega)
     rw [← this] at hop
     exact (hnx.cell (p:=⟨w6.heap.size,ybM t - 5,none⟩) lX).trans (CX.out _ _ hop)
    have hK5:(5:Int)≤(ybM t:Nat):=by omega
    have hK11:((ybM t:Nat):Int)≤11:=by omega
    have hK0:(((ybM t:Nat):Int) == 0)=false:=by rw [beq_eq_false_iff_ne];omega
    have hKs:(((ybM t:Nat):Int) - 5).toNat=ybM t - 5:=by omega
    have cK2:=cK
    rw [← hKs] at cK
    rw [← hKK] at *
    clear T5 T6 CX HX hK hk hKK hKs
    go_wp2_with fail
    refine (T3 _ RX.out).mono ?_
    rintro e wN ⟨rfl,RN,gN⟩
    go_wp2_with fail
    refine (ih2 _ RN).mono ?_
    rintro e wE ⟨⟨u',rfl,xE⟩,RE,gE⟩
    obtain ⟨k',x',nm',ao',na',ca',rfl⟩:=ExAt.form xE
    have XE:=yaa xE
    have HRE:=yaa RE
    have gXE:=yab gN gE
    have kE:=ybr gXE kX hane
    have eE:=ybr gXE eX hne
    have X1:=yaa (XX.out.grown hr1 gXE)
    have sE:=gXE.size
    have sN:=gN.size
    unfold exV
    clear xE RE
    go_wp2_with (first|(refine yao 11 29 z29 rfl rfl rfl Tryz.alloc29 ?_;intro w10 bb hbb k10 b10)|(refine yai 29 _ _ rfl rfl bb z29 (exL k' x' nm' (.slice ao' na' ca')) 29 rfl rfl (by exact k10) rfl Tryz.size29 (yca _ _ _ _ _ _) ?_;intro w11 k11 p11;have B11:=ycw hbb b10 p11;have R11:=yaa (HRE.out.below B11);have Y11:=yaa (XE.out.under B11);have X11:=yaa (X1.out.under B11);have e11:=(B11.block eb (ltS eE)).trans eE;have a11:=(B11.block ab (ltS kE)).trans kE;clear p11))
    have hbne:bb≠rb:=by have:=hbb.out;omega
    refine (t4 _ R11.out).mono ?_
    rintro e w12 ⟨rfl,R12,g12⟩
    have k12:=ybr g12 k11 hbne
    have e12:=ybr g12 e11 hne
    have a12:=ybr g12 a11 hane
    have Y12:=yaa (Y11.out.grown (by omega) g12)
    have X12:=yaa (X11.out.grown hr1 g12)
    have HR12:=yaa R12
    clear R12
    go_wp2_with (first|(refine yag 29 _ rfl rfl ab (exL k x nm (.slice ao na ca)) 29 _ rfl (by exact a12) Tryz.underlying29 rfl Tryz.size29 ?_)|(refine yag 29 _ rfl rfl bb (exL k' x' nm' (.slice ao' na' ca')) 29 _ rfl (by exact k12) Tryz.underlying29 rfl Tryz.size29 ?_)|(refine yai 29 _ _ rfl rfl eb z29 (exL (K:Nat) vl0 [] (.slice (some ⟨w12.heap.size,0,none⟩) 2 2)) 29 rfl rfl (by exact (ydB _ (ltS e12)).trans e12) rfl Tryz.size29 (yca _ _ _ _ _ _) ?_;intro w13 k13 p13))
    have hE:=heb.out
    have n1:(w12.alloc (.cells (exL k x nm (.slice ao na ca)++exL k' x' nm' (.slice ao' na' ca')).toArray 29)).heap[w12.heap.size]?=some (.cells (exL k x nm (.slice ao na ca)++exL k' x' nm' (.slice ao' na' ca')).toArray 29):=heap_alloc_new _ _
    have n6:w13.heap[w12.heap.size]?=some (.cells (exL k x nm (.slice ao na ca)++exL k' x' nm' (.slice ao' na' ca')).toArray 29):=by
     rw [p13.out]
     exact (yaY eb _ _ 0 _ (by have:=(ltS e12);omega)).trans n1
    have x13:ExAt w1.heap.size w13 (exV k x nm (.slice ao na ca)) p.1:=by
     rw [p13.out]
     exact (X12.out.alloc _).putAll he1 0 _
    have y13:ExAt w1.heap.size w13 (exV k' x' nm' (.slice ao' na' ca')) q.1:=by
     rw [p13.out]
     exact ((Y12.out.weak (by omega)).alloc _).putAll he1 0 _
    have b0s:=b0.size
    have b1s:=b1.size
    have b11s:=B11.size
    have gs:=g12.size
    refine bodyPost_ret (yaJ Tryz.results67 _ _ eb _ 29 _ rfl k13 Tryz.underlying29 rfl Tryz.size29) rfl ⟨⟨_,rfl, ?_⟩,Rd.putNew p13 (HR12.out.below ((Below.refl _ _).alloc (Nat.le_refl _) _)) (by omega), ?_⟩
    ·exact (yo9 n6 (by omega) x13 y13 (K:Nat) 2).weak (by omega)
    ·exact ybd p13 (yab GX (yab gXE (yab (yae B11 _) (yab g12 (yae ((Below.refl _ _).alloc (Nat.le_refl _) _) _))))) (by omega)
theorem you {base rb:Nat} {v:Value} {T:List Tk} {en:Int} {cs:List Value} (f:Nat):∀ (_:f≤60) (w:World) (s:Sx),Rd w base rb v T en s cs →
  Calls Tryz.prog 67 #[.pointer (some ⟨rb,0,none⟩),.int .i64 ((60 - f:Nat):Int)] w fun e w'=>ymV w base rb v T en (ybq T f s) cs e w':=by
 induction f with
 | zero =>
  intro _ w s h
  obtain ⟨i,F⟩:=s
  rw [ybq]
  by_cases h1:txS T (i,F)=[40]∨txS T (i,F)=w_not
  ·rw [if_pos h1]
   exact ymd h h1
  ·rw [if_neg h1]
   rw [not_or] at h1
   cases hV:yez (txS T (i,F)) with
   | true=>rw [if_pos rfl];exact yiG h _ h1.1 h1.2 hV
   | false=>rw [if_neg (by simp)];exact yiF h _ h1.1 h1.2 hV
 | succ f ih =>
  intro hf w s h
  obtain ⟨i,F⟩:=s
  have ih:=fun W s=>ih (by omega) W s
  have e:((60 - (f+1):Nat):Int)=((59 - f:Nat):Int):=by omega
  rw [e]
  by_cases h1:txS T (i,F)=w_not
  ·exact yov h f (by omega) h1 ih
  by_cases h2:txS T (i,F)=[40]
  ·rw [ybq,if_neg h1,if_pos h2]
   unfold ygc ykF
   cases hb:(ybm T w_is (ybq T f (i+1,F)).2).1 with
   | true =>
    simp only [hb,if_true]
    exact yme h f (by omega) h2 ih hb
   | false =>
    simp only [hb,Bool.false_eq_true,if_false]
    have hb2:ybm T w_is (ybq T f (i+1,F)).2=(false,(ybq T f (i+1,F)).2):=by
     revert hb
     unfold ybm
     split
     ·intro hb;cases hb
     ·intro _;rfl
    exact yow h f (by omega) h2 ih _ rfl hb2 _ _ rfl _ rfl _ rfl
  ·rw [ybq,if_neg h1,if_neg h2]
   cases hV:yez (txS T (i,F)) with
   | true=>rw [if_pos rfl];exact yiG h _ h2 h1 hV
   | false=>rw [if_neg (by simp)];exact yiF h _ h2 h1 hV
def RdC (w:World) (base rb:Nat) (v:Value) (T:List Tk) (en:Int) (L:Value×Value×Value) (s:Sx) (c:Cm):Prop :=
 ∃ ea wa,Rd w base rb v T en s (cmL c L.1 L.2.1 L.2.2 ea wa)∧CmIn (rb+1) w c L.1 L.2.1 L.2.2 ea wa
theorem RdC.rb_lt {w:World} {base rb:Nat} {v:Value} {T:List Tk} {en:Int} {L:Value×Value×Value} {s:Sx} {c:Cm} (h:RdC w base rb v T en L s c):rb < w.heap.size:=by
 obtain ⟨ea,wa,h1,h2⟩:=h
 exact h1.rb_lt
theorem yfU {w:World} {base rb:Nat} {v:Value} {T:List Tk} {en:Int} {L:Value×Value×Value} {s:Sx} {c:Cm} {f:Nat} {args:Array Value} {s':Sx} {Q:Ending→World→Prop} (h:RdC w base rb v T en L s c)
  (k:∀ cs,Rd w base rb v T en s cs→Calls Tryz.prog f args w fun e w'=>Q e w'∧Rd w' base rb v T en s' cs∧w.grownBy w' (some rb)) :
  Calls Tryz.prog f args w fun e w'=>Q e w'∧RdC w' base rb v T en L s' c∧w.grownBy w' (some rb):=by
 obtain ⟨ea,wa,h1,h2⟩:=h
 refine (k _ h1).mono ?_
 rintro e w' ⟨hq,hr,hg⟩
 exact ⟨hq,⟨ea,wa,hr,h2.grown (Nat.lt_succ_self rb) hg⟩,hg⟩
theorem ysq {w:World} {base rb:Nat} {v:Value} {T:List Tk} {en:Int} {L:Value×Value×Value} {s:Sx} {c:Cm} {s':Sx} (h:RdC w base rb v T en L s c) (W:List UInt8) (hW:W≠[]) (e:ycl T W s=((),s')) :
  Calls Tryz.prog 62 #[.pointer (some ⟨rb,0,none⟩),.string ⟨W.toArray⟩] w fun e w'=>e=.returned (.tuple #[])∧RdC w' base rb v T en L s' c∧w.grownBy w' (some rb) :=
 yfU h fun cs hr=>by have:=ydA hr W hW;rw [e] at this;exact this
theorem yg4 {w:World} {base rb:Nat} {v:Value} {T:List Tk} {en:Int} {L:Value×Value×Value} {s:Sx} {c:Cm} {b:Bool} {s':Sx} (h:RdC w base rb v T en L s c) (W:List UInt8) (hW:W≠[]) (e:ybm T W s=(b,s')) :
  Calls Tryz.prog 60 #[.pointer (some ⟨rb,0,none⟩),.string ⟨W.toArray⟩] w fun e w'=>e=.returned (.bool b)∧RdC w' base rb v T en L s' c∧w.grownBy w' (some rb) :=
 yfU h fun cs hr=>by have:=yek hr W hW;rw [e] at this;exact this
theorem ysp {w:World} {base rb:Nat} {v:Value} {T:List Tk} {en:Int} {L:Value×Value×Value} {s:Sx} {c:Cm} {n:List UInt8} {s':Sx} (h:RdC w base rb v T en L s c) (e:ydm T s=(n,s')) :
  Calls Tryz.prog 63 #[.pointer (some ⟨rb,0,none⟩)] w fun e w'=>e=.returned (.string ⟨n.toArray⟩)∧RdC w' base rb v T en L s' c∧w.grownBy w' (some rb) :=
 yfU h fun cs hr=>by have:=ymg hr;rw [e] at this;exact this
theorem yuC {w:World} {base rb:Nat} {v:Value} {T:List Tk} {en:Int} {L:Value×Value×Value} {s:Sx} {c:Cm} {x:Ex} {s':Sx} (h:RdC w base rb v T en L s c) (e:ybq T 60 s=(x,s')) :
  Calls Tryz.prog 67 #[.pointer (some ⟨rb,0,none⟩),.int .i64 0] w fun e w'=>(∃ a,e=.returned (.agg (exL x.k x.v x.nm a).toArray)∧ExAt w.heap.size w' (exV x.k x.v x.nm a) x)∧RdC w' base rb v T en L s' c∧w.grownBy w' (some rb) :=
 yfU h fun cs hr=>by
  have:=you (T:=T) (cs:=cs) 60 (Nat.le_refl _) w s hr
  rw [e] at this
  refine this.mono ?_
  rintro e w' ⟨⟨u,rfl,hu⟩,hr,hg⟩
  obtain ⟨k,y,nm,ao,n,ca,rfl⟩:=hu.form
  obtain ⟨rfl,rfl,rfl⟩:=hu.parts
  exact ⟨⟨_,rfl,hu⟩,hr,hg⟩
theorem yj6 {T:List Tk} {W:List UInt8} {s s':Sx} (h:ybm T W s=(false,s')):s'=s:=by
 revert h
 unfold ybm
 split
 ·intro h;cases h
 ·intro h;cases h;rfl
theorem Rd.field {w:World} {base rb:Nat} {v:Value} {T:List Tk} {en:Int} {s:Sx} {cs:List Value} (h:Rd w base rb v T en s cs) (k:Nat) (x:Value):Rd (w.setCell ⟨rb,4+k,none⟩ x) base rb v T en s (cs.set k x):=by
 refine ⟨?_,h.own.kept (yaE w rb _ _) (.inr h.ne),h.lt,h.le,h.few,h.toks,h.ist⟩
 have:=heap_setCell_same _ rb (4+k) _ 50 x h.blk
 rw [this]
 rw [show 4+k=k+1+1+1+1 by omega]
 simp
theorem yoK {w:World} {base rb:Nat} {v:Value} {T:List Tk} {en:Int} {L:Value×Value×Value} {s:Sx} {c:Cm} (h:RdC w base rb v T en L s c) (n:Int):RdC (w.setCell ⟨rb,4,none⟩ (.int .i64 n)) base rb v T en L s { c with kind:=n }:=by
 obtain ⟨ea,wa,h1,h2⟩:=h
 have q:=h2.put (Nat.lt_succ_self rb) 4 (.int .i64 n)
 exact ⟨ea,wa,h1.field 0 (.int .i64 n),⟨q.cols,q.vals,q.fields,q.expr,q.wh⟩⟩
theorem yne {w:World} {base rb:Nat} {v:Value} {T:List Tk} {en:Int} {L:Value×Value×Value} {s:Sx} {c:Cm} (h:RdC w base rb v T en L s c):(∃ x,w.cell? ⟨rb,4,none⟩=some x)∧w.frozen? ⟨rb,4,none⟩=false:=by
 obtain ⟨ea,wa,h1,h2⟩:=h
 exact ⟨⟨_,(Lib.cell_of_heap h1.blk _).trans rfl⟩,Lib.frozen_of_heap h1.blk _⟩
theorem yoL {w:World} {base rb:Nat} {v:Value} {T:List Tk} {en:Int} {L:Value×Value×Value} {s:Sx} {c:Cm} (h:RdC w base rb v T en L s c) (n:List UInt8):RdC (w.setCell ⟨rb,5,none⟩ (.string ⟨n.toArray⟩)) base rb v T en L s { c with name:=n }:=by
 obtain ⟨ea,wa,h1,h2⟩:=h
 have q:=h2.put (Nat.lt_succ_self rb) 5 (.string ⟨n.toArray⟩)
 exact ⟨ea,wa,h1.field 1 (.string ⟨n.toArray⟩),⟨q.cols,q.vals,q.fields,q.expr,q.wh⟩⟩
theorem ynf {w:World} {base rb:Nat} {v:Value} {T:List Tk} {en:Int} {L:Value×Value×Value} {s:Sx} {c:Cm} (h:RdC w base rb v T en L s c):(∃ x,w.cell? ⟨rb,5,none⟩=some x)∧w.frozen? ⟨rb,5,none⟩=false:=by
 obtain ⟨ea,wa,h1,h2⟩:=h
 exact ⟨⟨_,(Lib.cell_of_heap h1.blk _).trans rfl⟩,Lib.frozen_of_heap h1.blk _⟩
theorem yjZ {w:World} {base rb:Nat} {v:Value} {T:List Tk} {en:Int} {L:Value×Value×Value} {s:Sx} {c:Cm} (h:RdC w base rb v T en L s c) (n:List UInt8):RdC (w.setCell ⟨rb,7,none⟩ (.string ⟨n.toArray⟩)) base rb v T en L s { c with column:=n }:=by
 obtain ⟨ea,wa,h1,h2⟩:=h
 have q:=h2.put (Nat.lt_succ_self rb) 7 (.string ⟨n.toArray⟩)
 exact ⟨ea,wa,h1.field 3 (.string ⟨n.toArray⟩),⟨q.cols,q.vals,q.fields,q.expr,q.wh⟩⟩
theorem yje {w:World} {base rb:Nat} {v:Value} {T:List Tk} {en:Int} {L:Value×Value×Value} {s:Sx} {c:Cm} (h:RdC w base rb v T en L s c):(∃ x,w.cell? ⟨rb,7,none⟩=some x)∧w.frozen? ⟨rb,7,none⟩=false:=by
 obtain ⟨ea,wa,h1,h2⟩:=h
 exact ⟨⟨_,(Lib.cell_of_heap h1.blk _).trans rfl⟩,Lib.frozen_of_heap h1.blk _⟩
theorem ymx {w:World} {base rb:Nat} {v:Value} {T:List Tk} {en:Int} {L:Value×Value×Value} {s:Sx} {c:Cm} (h:RdC w base rb v T en L s c) (n:Bool):RdC (w.setCell ⟨rb,21,none⟩ (.bool n)) base rb v T en L s { c with all:=n }:=by
 obtain ⟨ea,wa,h1,h2⟩:=h
 have q:=h2.put (Nat.lt_succ_self rb) 21 (.bool n)
 exact ⟨ea,wa,h1.field 17 (.bool n),⟨q.cols,q.vals,q.fields,q.expr,q.wh⟩⟩
theorem ykL {w:World} {base rb:Nat} {v:Value} {T:List Tk} {en:Int} {L:Value×Value×Value} {s:Sx} {c:Cm} (h:RdC w base rb v T en L s c):(∃ x,w.cell? ⟨rb,21,none⟩=some x)∧w.frozen? ⟨rb,21,none⟩=false:=by
 obtain ⟨ea,wa,h1,h2⟩:=h
 exact ⟨⟨_,(Lib.cell_of_heap h1.blk _).trans rfl⟩,Lib.frozen_of_heap h1.blk _⟩
section
variable {P:Program} {ops:Array Oper} {rest:List Oper} {op:Oper} {a:Act} {w:World} {Q:Exit→Act→World→Prop} {base rb:Nat} {v:Value} {T:List Tk} {en:Int} {L:Value×Value×Value} {s:Sx} {c:Cm}
theorem Rd.putIn {w w':World} {s:Sx} {cs cs' xs:List Value} {o:Nat} (h:Rd w base rb v T en s cs) (p:Hid (w'=putAll w rb o xs)) (hb:w'.heap[rb]?=some (.cells (v::.int .i64 ((s.1:Nat):Int)::.int .i64 en::.bool s.2::cs').toArray 50)):Rd w' base rb v T en s cs':=by
 refine ⟨hb, ?_,h.lt,h.le,h.few,h.toks,h.ist⟩
 rw [p.out]
 exact h.own.kept (yb5 rb xs w o) (.inr h.ne)
theorem yoU (h:RdC w base rb v T en L s c) (x:Vl) (X Y:Operand) (hi:(P.info? 24).map (·.size)=some 3) (hgd:op.guard=none) (ho:op.op=.store 24 X Y) (hx:a.eval X=.pointer (some ⟨rb,10,none⟩)) (hy:a.eval Y=.agg #[.int .i64 x.k,.int .i64 x.n,.string ⟨x.s.toArray⟩])
  (k:∀ w',RdC w' base rb v T en L s { c with val:=x }→w.grownBy w' (some rb)→wpList P ops Q rest (a.put op.dst undef) w'):wpList P ops Q (op::rest) a w:=by
 obtain ⟨ea,wa,h1,h2⟩:=h
 refine ybE 24 X Y hgd ho rb ([v,.int .i64 ((s.1:Nat):Int),.int .i64 en,.bool s.2]++(cmL c L.1 L.2.1 L.2.2 ea wa).take 6) [.int .i64 c.val.k,.int .i64 c.val.n,.string ⟨c.val.s.toArray⟩] ((cmL c L.1 L.2.1 L.2.2 ea wa).drop 9) [.int .i64 x.k,.int .i64 x.n,.string ⟨x.s.toArray⟩] 50 hx hy h1.blk rfl hi (by intro z hz;simp only [List.mem_cons,List.not_mem_nil,or_false] at hz;rcases hz with rfl|rfl|rfl <;> rfl) ?_
 intro w' hk hp
 have q:=h2.putAll (Nat.lt_succ_self rb) 10 [.int .i64 x.k,.int .i64 x.n,.string ⟨x.s.toArray⟩]
 refine k w' ⟨ea,wa,h1.putIn hp hk, ?_⟩ (by rw [hp.out];exact yb5 rb _ w _)
 rw [hp.out]
 exact ⟨q.cols,q.vals,q.fields,q.expr,q.wh⟩
theorem yfb (h:RdC w base rb v T en L s c) (x:Ex) (ea':Value) (hu:ExAt (rb+1) w (exV x.k x.v x.nm ea') x) (X Y:Operand) (hi:(P.info? 29).map (·.size)=some 6) (hgd:op.guard=none) (ho:op.op=.store 29 X Y) (hx:a.eval X=.pointer (some ⟨rb,15,none⟩)) (hy:a.eval Y=.agg (exL x.k x.v x.nm ea').toArray)
  (k:∀ w',RdC w' base rb v T en L s { c with expr:=x }→w.grownBy w' (some rb)→wpList P ops Q rest (a.put op.dst undef) w'):wpList P ops Q (op::rest) a w:=by
 obtain ⟨ea,wa,h1,h2⟩:=h
 obtain ⟨k',y',nm',ao',n',ca',e'⟩:=hu.form
 have ho1:=hu.one
 refine ybE 29 X Y hgd ho rb ([v,.int .i64 ((s.1:Nat):Int),.int .i64 en,.bool s.2]++(cmL c L.1 L.2.1 L.2.2 ea wa).take 11) (exL c.expr.k c.expr.v c.expr.nm ea) ((cmL c L.1 L.2.1 L.2.2 ea wa).drop 17) (exL x.k x.v x.nm ea') 50 hx hy h1.blk rfl hi (by intro z hz;simp only [List.mem_cons,List.not_mem_nil,or_false] at hz;rcases hz with rfl|rfl|rfl|rfl|rfl|rfl <;> first|rfl|exact ho1) ?_
 intro w' hk hp
 have q:=h2.putAll (Nat.lt_succ_self rb) 15 (exL x.k x.v x.nm ea')
 have u:=hu.putAll (Nat.lt_succ_self rb) 15 (exL x.k x.v x.nm ea')
 refine k w' ⟨ea',wa,h1.putIn hp hk, ?_⟩ (by rw [hp.out];exact yb5 rb _ w _)
 rw [hp.out]
 exact ⟨q.cols,q.vals,q.fields,u,q.wh⟩
theorem ye2 (h:RdC w base rb v T en L s c) (x:Ex) (ea':Value) (hu:ExAt (rb+1) w (exV x.k x.v x.nm ea') x) (X Y:Operand) (hi:(P.info? 29).map (·.size)=some 6) (hgd:op.guard=none) (ho:op.op=.store 29 X Y) (hx:a.eval X=.pointer (some ⟨rb,22,none⟩)) (hy:a.eval Y=.agg (exL x.k x.v x.nm ea').toArray)
  (k:∀ w',RdC w' base rb v T en L s { c with wh:=x }→w.grownBy w' (some rb)→wpList P ops Q rest (a.put op.dst undef) w'):wpList P ops Q (op::rest) a w:=by
 obtain ⟨ea,wa,h1,h2⟩:=h
 have ho1:=hu.one
 refine ybE 29 X Y hgd ho rb ([v,.int .i64 ((s.1:Nat):Int),.int .i64 en,.bool s.2]++(cmL c L.1 L.2.1 L.2.2 ea wa).take 18) (exL c.wh.k c.wh.v c.wh.nm wa) ((cmL c L.1 L.2.1 L.2.2 ea wa).drop 24) (exL x.k x.v x.nm ea') 50 hx hy h1.blk rfl hi (by intro z hz;simp only [List.mem_cons,List.not_mem_nil,or_false] at hz;rcases hz with rfl|rfl|rfl|rfl|rfl|rfl <;> first|rfl|exact ho1) ?_
 intro w' hk hp
 have q:=h2.putAll (Nat.lt_succ_self rb) 22 (exL x.k x.v x.nm ea')
 have u:=hu.putAll (Nat.lt_succ_self rb) 22 (exL x.k x.v x.nm ea')
 refine k w' ⟨ea,ea',h1.putIn hp hk, ?_⟩ (by rw [hp.out];exact yb5 rb _ w _)
 rw [hp.out]
 exact ⟨q.cols,q.vals,q.fields,q.expr,u⟩
end
theorem ysZ {w:World} {base rb:Nat} {v:Value} {T:List Tk} {en:Int} {L:Value×Value×Value} {s s':Sx} {c c':Cm} (h:RdC w base rb v T en L s c) (e:yfK T c s=(c',s')) :
  Calls Tryz.prog 66 #[.pointer (some ⟨rb,0,none⟩)] w fun e w'=>e=.returned (.tuple #[])∧RdC w' base rb v T en L s' c'∧w.grownBy w' (some rb):=by
 obtain ⟨b,s1,h1⟩:∃ b s1,ybm T w_where s=(b,s1):=⟨_,_,rfl⟩
 obtain ⟨⟨x0,c0⟩,z0⟩:=ykL h
 have H1:=yaa (ymx h true)
 have hlt:=h.rb_lt
 have E:=yaa e
 have T1:=yaa h1
 clear h e h1
 cases b with
 | false =>
  go_enter Tryz.func66,Tryz.ntmps66
  go_wp2_with fail
  refine (yg4 H1.out w_where (by decide) T1.out).mono ?_
  rintro e w1 ⟨rfl,R1,g1⟩
  go_wp2
  go_end0
  have e1:yfK T c s=({ c with all:=true },s):=by unfold yfK ykF;rw [T1.out];rfl
  have:=E.out
  rw [e1] at this
  cases this
  rw [yj6 T1.out] at R1
  exact ⟨rfl,R1,yab (yaE _ rb _ _) g1⟩
 | true =>
  obtain ⟨x,s2,h2⟩:∃ x s2,ybq T 60 s1=(x,s2):=⟨_,_,rfl⟩
  have T2:=yaa h2
  clear h2
  go_enter Tryz.func66,Tryz.ntmps66
  go_wp2_with fail
  refine (yg4 H1.out w_where (by decide) T1.out).mono ?_
  rintro e w1 ⟨rfl,R1,g1⟩
  obtain ⟨⟨x1,c1⟩,z1⟩:=ykL R1
  have R2:=yaa (ymx R1 false)
  clear R1
  go_wp2_with fail
  refine (yuC R2.out T2.out).mono ?_
  rintro e w3 ⟨⟨ea,rfl,hu⟩,R3,g3⟩
  have HU:=yaa (hu.weak (B':=rb+1) (by rw [ycg];have:=g1.size;rw [ycg] at this;omega))
  have HR3:=yaa R3
  clear hu R3
  go_wp2_with (refine ye2 HR3.out x ea HU.out _ _ Tryz.size29 rfl rfl rfl rfl ?_;intro w4 R4 g4)
  go_end0
  have e1:yfK T c s=({ c with all:=false,wh:=x },s2):=by unfold yfK ykF ygc;rw [T1.out];simp only [if_true];rw [T2.out];rfl
  have:=E.out
  rw [e1] at this
  cases this
  exact ⟨rfl,R4,yab (yaE _ rb _ _) (yab g1 (yab (yaE _ rb _ _) (yab g3 g4)))⟩
abbrev ykf:Value:=.slice none 0 0
theorem yet {w:World} {base rb:Nat} {v:Value} {T:List Tk} {en:Int} {s s1 s2 s3 s4 s5 s6 s7 s8 s9 s10 s11 s12:Sx} {n7:List UInt8} {n9:List UInt8} {x11:Ex} {c12:Cm} (h:RdC w base rb v T en (ykf,ykf,ykf) s cm0) (e1:ybm T w_create s=(false,s1)) (e2:ybm T w_drop s1=(false,s2)) (e3:ybm T w_alter s2=(false,s3)) (e4:ybm T w_insert s3=(false,s4)) (e5:ybm T w_delete s4=(false,s5)) (e6:ybm T w_update s5=(true,s6)) (e7:ydm T s6=(n7,s7)) (e8:ycl T w_set s7=((),s8)) (e9:ydm T s8=(n9,s9)) (e10:ycl T [61] s9=((),s10)) (e11:ybq T 60 s10=(x11,s11)) (e12:yfK T { cm0 with kind:=12,name:=n7,column:=n9,expr:=x11 } s11=(c12,s12)) :
  Calls Tryz.prog 23 #[.pointer (some ⟨rb,0,none⟩)] w fun e w'=>e=.returned (.tuple #[])∧(∃ L',RdC w' base rb v T en L' s12 c12)∧w.grownBy w' (some rb):=by
 have R0:=yaa h
 clear h
 have E1:=yaa e1
 have E2:=yaa e2
 have E3:=yaa e3
 have E4:=yaa e4
 have E5:=yaa e5
 have E6:=yaa e6
 have E7:=yaa e7
 have E8:=yaa e8
 have E9:=yaa e9
 have E10:=yaa e10
 have E11:=yaa e11
 have E12:=yaa e12
 clear e1 e2 e3 e4 e5 e6 e7 e8 e9 e10 e11 e12
 go_enter Tryz.func23,Tryz.ntmps23
 go_wp2_with fail
 refine (yg4 R0.out w_create (by decide) E1.out).mono ?_
 rintro e w1 ⟨rfl,r1,g1⟩
 have R1:=yaa r1
 clear r1
 go_wp2_with fail
 refine (yg4 R1.out w_drop (by decide) E2.out).mono ?_
 rintro e w2 ⟨rfl,r2,g2⟩
 have R2:=yaa r2
 clear r2
 go_wp2_with fail
 refine (yg4 R2.out w_alter (by decide) E3.out).mono ?_
 rintro e w3 ⟨rfl,r3,g3⟩
 have R3:=yaa r3
 clear r3
 go_wp2_with fail
 refine (yg4 R3.out w_insert (by decide) E4.out).mono ?_
 rintro e w4 ⟨rfl,r4,g4⟩
 have R4:=yaa r4
 clear r4
 go_wp2_with fail
 refine (yg4 R4.out w_delete (by decide) E5.out).mono ?_
 rintro e w5 ⟨rfl,r5,g5⟩
 have R5:=yaa r5
 clear r5
 go_wp2_with fail
 refine (yg4 R5.out w_update (by decide) E6.out).mono ?_
 rintro e w6 ⟨rfl,r6,g6⟩
 obtain ⟨⟨xkind6,ckind6⟩,zkind6⟩:=yne r6
 have R6:=yaa (yoK r6 12)
 clear r6
 go_wp2_with fail
 refine (ysp R6.out E7.out).mono ?_
 rintro e w7 ⟨rfl,r7,g7⟩
 obtain ⟨⟨xname7,cname7⟩,zname7⟩:=ynf r7
 have R7:=yaa (yoL r7 n7)
 clear r7
 go_wp2_with fail
 refine (ysq R7.out w_set (by decide) E8.out).mono ?_
 rintro e w8 ⟨rfl,r8,g8⟩
 have R8:=yaa r8
 clear r8
 go_wp2_with fail
 refine (ysp R8.out E9.out).mono ?_
 rintro e w9 ⟨rfl,r9,g9⟩
 obtain ⟨⟨xcolumn9,ccolumn9⟩,zcolumn9⟩:=yje r9
 have R9:=yaa (yjZ r9 n9)
 clear r9
 go_wp2_with fail
 refine (ysq R9.out [61] (by decide) E10.out).mono ?_
 rintro e w10 ⟨rfl,r10,g10⟩
 have R10:=yaa r10
 clear r10
 go_wp2_with fail
 refine (yuC R10.out E11.out).mono ?_
 rintro e w11 ⟨⟨ea11,rfl,hu11⟩,r11,g11⟩
 have R11:=yaa r11
 clear r11
 have HU11:=yaa (hu11.weak (B':=rb+1) (R10.out.rb_lt))
 clear hu11
 go_wp2_with (refine yfb R11.out x11 ea11 HU11.out _ _ Tryz.size29 rfl rfl rfl rfl ?_;intro v11 rv11 gv11;have RV11:=yaa rv11;clear rv11)
 refine (ysZ RV11.out E12.out).mono ?_
 rintro e w12 ⟨rfl,r12,g12⟩
 have R12:=yaa r12
 clear r12
 go_wp2
 first|go_end0|((try simp only [Exit.inBlock,Exit.then]);refine bodyPost_ret (results_none rfl _ _ _) rfl ?_)
 exact ⟨rfl,⟨_,R12.out⟩,yab g1 (yab g2 (yab g3 (yab g4 (yab g5 (yab g6 (yab (yaE _ rb _ _) (yab g7 (yab (yaE _ rb _ _) (yab g8 (yab g9 (yab (yaE _ rb _ _) (yab g10 (yab g11 (yab gv11 (g12)))))))))))))))⟩
abbrev rdZ:List Value:=.slice none 0 0::.int .i64 0::.int .i64 0::.bool false::cmZ
theorem Tryz.size50:(Tryz.prog.info? 50).map (·.size)=some 30:=by kernel_rfl
theorem yoX:(#[.slice none 0 0,.int .i64 0,.int .i64 0,.bool false,.int .i64 0,.string ⟨#[]⟩,.string ⟨#[]⟩,.string ⟨#[]⟩,.slice none 0 0,.int .i64 0,.int .i64 0,.int .i64 0,.string ⟨#[]⟩,.slice none 0 0,.slice none 0 0,.int .i64 0,.int .i64 0,.int .i64 0,.string ⟨#[]⟩,.string ⟨#[]⟩,.slice none 0 0,.bool false,.int .i64 0,.int .i64 0,.int .i64 0,.string ⟨#[]⟩,.string ⟨#[]⟩,.slice none 0 0,.string ⟨#[]⟩,.int .i64 0]:Array Value)=rdZ.toArray:=rfl
theorem Tryz.alloc50 (w:World):(Instr.alloc 50 true (.tuple #[])).run Tryz.prog w=.ok (.pointer (some ⟨w.heap.size,0,none⟩)) (w.alloc (.cells rdZ.toArray 50)):=by
 rw [← yoX]
 simp [Instr.alloc,Tryz.zeroValue50,go_sem]
theorem yh6 (tmps:Array Value) (w:World) (rb:Nat) (cs:List Value) (x y:Value) (h2:tmps.getD 2 undef=.pointer (some ⟨rb,0,none⟩)) (h3:tmps.getD 3 undef=x) (h4:tmps.getD 4 undef=y)
  (hl:cs.length=26) (hr:w.heap[rb]?=some (.cells cs.toArray 31)):(results Tryz.f9 tmps).run Tryz.prog w=.ok (.tuple #[.agg cs.toArray,x,y]) w:=by
 have h:=run_loadVar_mid (P:=Tryz.prog) w rb 0 31 cs _ (fun j v hv=>by rw [Nat.zero_add,Lib.cell_of_heap hr];simpa using hv) Tryz.underlying31 rfl (by rw [hl];exact Tryz.size31)
 have h2':tmps[2]?.getD undef=.pointer (some ⟨rb,0,none⟩):=by simpa using h2
 have h3':tmps[3]?.getD undef=x:=by simpa using h3
 have h4':tmps[4]?.getD undef=y:=by simpa using h4
 simp [results,Tryz.results9,h2',h3',h4',asAddr,h]
theorem ygm {w w1 w3:World} {rb:Nat} {xs:List Value} (hr:w.heap.size≤rb) (h:Below w.heap.size w w1) (p3:w3=putAll w1 rb 0 xs):Below w.heap.size w w3:=by
 subst p3
 exact h.trans ⟨(yaX rb _ w1 0).1,(yaX rb _ w1 0).2.1,(yaX rb _ w1 0).2.2,Nat.le_of_eq (ybB rb _ w1 0).symm,fun k hk=>yaY rb _ w1 0 k (by omega)⟩
theorem yqO {w:World} {base rb:Nat} {v:Value} {s:List UInt8} {en:Int} (hb:w.heap[rb]?=some (.cells (v::.int .i64 0::.int .i64 en::.bool false::cmZ).toArray 50)) (ho:w.ownsRow base 63 3 v (yaU s).1.length (ybA (yaU s).1)) (hlt:∀ g,v.ownBlock=some g→g < rb) :
  RdC w base rb v (yaU s).1 en (ykf,ykf,ykf) (0,false) cm0 :=
 ⟨.slice none 0 0,.slice none 0 0,⟨hb,ho,hlt,Nat.zero_le _,ygW s,yfE s,yjY s⟩,ypD _ _ cm0 rfl rfl rfl rfl rfl⟩
theorem ypg {w:World} {base:Nat} {e:TypeId} {size:Nat} {v:Value} {n:Nat} {xs:List Value} (h:w.ownsRow base e size v n xs):∀ g,v.ownBlock=some g→g < w.heap.size:=by
 intro g hg
 rcases h.2 with ⟨hv,_⟩|⟨g',cap,cur,hv,_,hh,_⟩
 ·rw [hv] at hg;cases hg
 ·rw [hv] at hg
  cases hg
  exact (ltS hh)
theorem yhh {w w3 w4:World} {pb:Nat} (h:Below w.heap.size w w3) (hp:w.heap.size≤pb) (g:w3.grownBy w4 (some pb)):Below w.heap.size w w4 :=
 h.trans ⟨g.os,g.tape,g.output,g.size,fun k hk=>g.block k (by have:=h.size;omega) (by simp only [ne_eq,Option.some.injEq];omega)⟩
theorem RdC.cells {w:World} {base rb:Nat} {v:Value} {T:List Tk} {en:Int} {L:Value×Value×Value} {s:Sx} {c:Cm} (h:RdC w base rb v T en L s c):w.cell? ⟨rb,1,none⟩=some (.int .i64 ((s.1:Nat):Int))∧w.cell? ⟨rb,3,none⟩=some (.bool s.2):=by
 obtain ⟨ea,wa,h1,-⟩:=h
 obtain ⟨⟨-,c1,-,c3⟩,-⟩:=rd4 h1.blk
 exact ⟨c1,c3⟩
theorem ymt {s:List UInt8} (hs:s.length≤9223372036854775000) (hE:(yaU s).2.2=0) (W:World):Calls Tryz.prog 22 #[.string ⟨s.toArray⟩] W fun e w'=>∃ ao cap A,e=.returned (.tuple #[.slice ao (yaU s).1.length cap,.int .i64 A,.int .i64 0])∧Hid (w'.ownsRow W.heap.size 63 3 (.slice ao (yaU s).1.length cap) (yaU s).1.length (ybA (yaU s).1))∧Below W.heap.size W w':=by
 refine (yjW ⟨s.toArray⟩ W (by rw [yam];exact hs)).mono ?_
 rintro e w' ⟨v,rfl,ho,hb⟩
 have ho':w'.ownsRow W.heap.size 63 3 v (yaU s).1.length (ybA (yaU s).1):=ho
 obtain ⟨ao,cap,rfl⟩:=ycC ho'
 refine ⟨ao,cap,((yaU s).2.1:Nat), ?_,ho',hb⟩
 show Ending.returned (.tuple #[_,.int .i64 ((yaU s).2.1:Nat),.int .i64 ((yaU s).2.2:Nat)])=_
 rw [hE];rfl
theorem ysJ {v:Value} {n:Int} (hv:v.oneCell'=true):∀ x ∈ (v::.int .i64 0::.int .i64 n::.bool false::cmZ:List Value),x.oneCell'=true:=by
 intro x hx
 simp only [List.mem_cons] at hx
 rcases hx with rfl|rfl|rfl|rfl|hx
 ·exact hv
 ·rfl
 ·rfl
 ·rfl
 ·exact (ypD 0 default cm0 rfl rfl rfl rfl rfl).one x (by simpa [cmZ,cmL] using hx)
structure Made (w w1 w3:World) (s:List UInt8) (rb pb:Nat) (v:Value) (en:Int):Prop where
 rd:RdC w3 w1.heap.size pb v (yaU s).1 en (ykf,ykf,ykf) (0,false) cm0
 res:w3.heap[rb]?=some (.cells cmZ.toArray 31)
 lt:rb < pb
 le:w.heap.size≤rb
 bel:Below w.heap.size w w3
theorem yqy {w W0 w1 w2 w3:World} {s:List UInt8} {rb pb:Nat} {v:Value} {en:Int} (hrb:Hid (rb=w.heap.size)) (k0:W0.heap[rb]?=some (.cells cmZ.toArray 31)) (b0:Below w.heap.size w W0) (ho:Hid (w1.ownsRow W0.heap.size 63 3 v (yaU s).1.length (ybA (yaU s).1))) (b1:Below W0.heap.size W0 w1)
  (hpb:Hid (pb=w1.heap.size)) (b2:Below w1.heap.size w1 w2) (k3:w3.heap[pb]?=some (.cells (v::.int .i64 0::.int .i64 en::.bool false::cmZ).toArray 50)) (p3:Hid (w3=putAll w2 pb 0 (v::.int .i64 0::.int .i64 en::.bool false::cmZ))):Made w W0 w3 s rb pb v en:=by
 have B1:=b0.trans (b1.mono b0.size)
 have B2:=B1.trans (b2.mono B1.size)
 have z0:=(ltS k0)
 have z1:=b1.size
 have e1:=hrb.out
 have e2:=hpb.out
 have hs3:w1.heap.size≤w3.heap.size:=by rw [p3.out,ybB];exact b2.size
 have up:∀ k,k < w1.heap.size→w3.heap[k]?=w1.heap[k]?:=fun k hk=>by rw [p3.out];exact (yaY pb _ w2 0 k (by omega)).trans (b2.block k hk)
 refine ⟨yqO k3 ?_ (fun g hg=>by have:=ypg ho.out g hg;omega), ?_,by omega,by omega,ygm (by omega) B2 p3.out⟩
 ·refine ho.out.kept (w':=w3) (row:=some pb) ⟨?_, ?_, ?_,hs3,fun k hk _=>up k hk⟩ (.inr fun h=>by have:=ypg ho.out _ h;omega)
  ·rw [p3.out,(yaX pb _ w2 0).1,b2.os]
  ·rw [p3.out,(yaX pb _ w2 0).2.1,b2.tape]
  ·rw [p3.out,(yaX pb _ w2 0).2.2,b2.output]
 ·exact (up rb (by omega)).trans ((b1.block rb z0).trans k0)
theorem Rd.range {w:World} {base rb:Nat} {v:Value} {T:List Tk} {en:Int} {s:Sx} {cs:List Value} (h:Rd w base rb v T en s cs):w.rangeAt rb 4 cs:=by
 intro j x hx
 rw [Lib.cell_of_heap h.blk,Nat.add_comm 4 j]
 simpa using hx
theorem yug {w:World} (s:List UInt8) (j:Nat) (c:Cm) (hs:s.length≤9223372036854775000) (hE:(yaU s).2.2=0) (hj:¬ j < (yaU s).1.length)
  (hcm:∀ (W:World) (base pb:Nat) (v:Value),RdC W base pb v (yaU s).1 (s.length:Nat) (ykf,ykf,ykf) (0,false) cm0→Calls Tryz.prog 23 #[.pointer (some ⟨pb,0,none⟩)] W fun e w'=>e=.returned (.tuple #[])∧(∃ L',RdC w' base pb v (yaU s).1 (s.length:Nat) L' (j,false) c)∧W.grownBy w' (some pb))
  (hck:∀ (W:World) (cv vv fv ea wa:Value),CmIn 0 W c cv vv fv ea wa→Calls Tryz.prog 13 #[.agg (cmL c cv vv fv ea wa).toArray] W fun e w'=>e=.returned (.int .i64 0)∧Below W.heap.size W w') :
  Calls Tryz.prog 9 #[.string ⟨s.toArray⟩] w fun e w'=>(∃ u,e=.returned (.tuple #[u,.int .i64 0,.int .i64 0])∧ys9 w.heap.size w' u c)∧Below w.heap.size w w':=by
 have hsc:=ymt hs hE
 have hz:(⟨s.toArray⟩:ByteArray).size=s.length:=yam s
 have hjlt:¬ ((j:Int) < (((yaU s).1.length:Nat):Int)):=by omega
 clear hE hs hj
 go_enter Tryz.func9,Tryz.ntmps9
 go_wp2_with (first|(refine yao 2 31 cmZ rfl rfl rfl Tryz.alloc31 ?_;intro W0 rb hrb k0 b0)|(go_at_call 22;refine (hsc _).mono ?_;rintro e w1 ⟨ao,cap,A,rfl,ho,b1⟩)|(refine yao 8 50 rdZ rfl rfl rfl Tryz.alloc50 ?_;intro w2 pb hpb k2 b2)|(refine yai 50 _ _ rfl rfl pb rdZ (.slice ao (yaU s).1.length cap::.int .i64 0::.int .i64 ((s.length:Nat):Int)::.bool false::cmZ) 50 rfl rfl (by exact k2) rfl Tryz.size50 (by exact ysJ rfl) ?_;intro w3 k3 p3))
 have M:=yaa (yqy hrb k0 b0 ho b1 hpb b2 k3 p3)
 clear p3 k0 b0 ho b1 b2 k2 k3 hsc
 refine (hcm _ _ _ _ M.out.rd).mono ?_
 rintro e w4 ⟨rfl,⟨L',R4⟩,g4⟩
 have k4:w4.heap[rb]?=some (.cells cmZ.toArray 31):=(g4.block rb (ltS M.out.res) (by have:=M.out.lt;simp only [ne_eq,Option.some.injEq];omega)).trans M.out.res
 have B4:=yaa (yhh M.out.bel (by have:=M.out.lt;have:=M.out.le;omega) g4)
 have c1:w4.cell? ⟨pb,1,none⟩=some (.int .i64 ((j:Nat):Int)):=R4.cells.1
 have c3:w4.cell? ⟨pb,3,none⟩=some (.bool false):=R4.cells.2
 obtain ⟨ea,wa,r4,i4⟩:=R4
 obtain ⟨cv,vv,fv⟩:=L'
 have HR:=yaa r4
 have HI:=yaa i4
 clear r4 i4 g4 hcm
 go_wp2_with (first|(go_at_call 13;refine (hck _ _ _ _ _ _ (HI.out.weak (Nat.zero_le _))).mono ?_;rintro e w5 ⟨rfl,b5⟩;have k5:=(b5.block rb (ltS k4)).trans k4;have HR5:=yaa (HR.out.below b5);have HI5:=yaa (HI.out.under b5))|(refine wpList_load_mid rfl 31 _ rfl pb 4 rfl (cmL c cv vv fv ea wa) _ (by first|exact HR5.out.range|exact HR.out.range) Tryz.underlying31 rfl Tryz.size31 ?_)|(refine yai 31 _ _ rfl rfl rb cmZ (cmL c cv vv fv ea wa) 31 rfl rfl (by exact k5) rfl Tryz.size31 (by exact HI5.out.one) ?_;intro w6 k6 p6))
 have B6:=ygm M.out.le (B4.out.trans (b5.mono B4.out.size)) p6.out
 have m6:CmIn (pb+1) w6 c cv vv fv ea wa:=by
  rw [p6.out]
  exact HI5.out.putAll (by have:=M.out.lt;omega) 0 _
 exact bodyPost_ret (yh6 _ _ rb (cmL c cv vv fv ea wa) _ _ rfl rfl rfl rfl k6) rfl ⟨⟨_,rfl,cv,vv,fv,ea,wa,rfl,m6.weak (by have:=M.out.lt;have:=M.out.le;omega)⟩,B6⟩
theorem yg2:ybH (yaN smallC) (ybF smallC)=0:=by kernel_rfl
theorem yl7 (w:World):Calls Tryz.prog 9 #[.string ⟨smallL.toArray⟩] w fun e w'=>(∃ u,e=.returned (.tuple #[u,.int .i64 0,.int .i64 0])∧ys9 w.heap.size w' u smallC)∧Below w.heap.size w w':=by
 have h16:(yaU smallL).1.length=16:=by kernel_rfl
 refine yug smallL 16 smallC (by decide) (by kernel_rfl) (by omega) (fun W base pb v h=>?_) (fun W cv vv fv ea wa hi=>?_)
 ·exact yet (s1:=(0,false)) (s2:=(0,false)) (s3:=(0,false)) (s4:=(0,false)) (s5:=(0,false)) (s6:=(1,false)) (s7:=(2,false)) (s8:=(3,false)) (s9:=(4,false)) (s10:=(5,false)) (s11:=(10,false)) (s12:=(16,false)) (n7:=[116]) (n9:=[97]) (x11:=smallC.expr) (c12:=smallC) h (by kernel_rfl) (by kernel_rfl) (by kernel_rfl) (by kernel_rfl) (by kernel_rfl) (by kernel_rfl) (by kernel_rfl) (by kernel_rfl) (by kernel_rfl) (by kernel_rfl) (by kernel_rfl) (by kernel_rfl)
 ·have q:=yd3 smallC cv vv fv ea wa hi yeS
  rw [yg2] at q
  exact q
theorem ygS (c:Cm) (cv vv fv ea wa cv' vv' fv' ea' wa':Value) (w:World) (h:CmIn 0 w c cv vv fv ea wa) (h':CmIn 0 w c cv' vv' fv' ea' wa') (hf:CmFit c) :
  Calls Tryz.prog 20 #[.agg (cmL c cv vv fv ea wa).toArray,.agg (cmL c cv' vv' fv' ea' wa').toArray] w fun e w'=>e=.returned (.bool true)∧Below w.heap.size w w':=by
 obtain ⟨a1,c1,e1⟩:=h.cols.form
 obtain ⟨a2,c2,e2⟩:=h.vals.form
 obtain ⟨a3,c3,e3⟩:=h.fields.form
 obtain ⟨a1',c1',e1'⟩:=h'.cols.form
 obtain ⟨a2',c2',e2'⟩:=h'.vals.form
 obtain ⟨a3',c3',e3'⟩:=h'.fields.form
 subst e1 e2 e3 e1' e2' e3'
 refine ymp c c a1 a2 a3 a1' a2' a3' c1 c2 c3 c1' c2' c3' ea wa ea' wa' w (yaa rfl) (yaa rfl) (yaa rfl) (yaa rfl) (fun W hW=>?_) (yaa rfl) (yaa rfl) (fun W hW=>?_) (fun W hW=>?_) (fun W hW=>?_) (yaa rfl) (fun W hW=>?_) (yaa rfl) (yaa rfl)
 ·refine (yfk c.cols c.cols _ _ W (h.cols.under hW) (h'.cols.under hW) hf.cols).mono ?_
  rintro e w' ⟨⟨b,rfl,hb⟩,bel⟩
  rw [hb.2 rfl]
  exact ⟨rfl,bel⟩
 ·refine (yfm c.vals c.vals _ _ W (h.vals.under hW) (h'.vals.under hW) hf.vals).mono ?_
  rintro e w' ⟨⟨b,rfl,hb⟩,bel⟩
  rw [hb.2 rfl]
  exact ⟨rfl,bel⟩
 ·refine (yfl c.fields c.fields _ _ W (h.fields.under hW) (h'.fields.under hW) hf.fields).mono ?_
  rintro e w' ⟨⟨b,rfl,hb⟩,bel⟩
  rw [hb.2 rfl]
  exact ⟨rfl,bel⟩
 ·exact yiP _ c.expr c.expr _ _ w (Nat.le_refl _) h.expr h'.expr hf.expr true (by simp) W hW
 ·exact yiP _ c.wh c.wh _ _ w (Nat.le_refl _) h.wh h'.wh hf.wh true (by simp) W hW
theorem ymq (c d:Cm) (cv vv fv ea wa cv' vv' fv' ea' wa':Value) (w:World) (h:CmIn 0 w c cv vv fv ea wa) (h':CmIn 0 w d cv' vv' fv' ea' wa') (hk:c.kind≠d.kind) :
  Calls Tryz.prog 20 #[.agg (cmL c cv vv fv ea wa).toArray,.agg (cmL d cv' vv' fv' ea' wa').toArray] w fun e w'=>e=.returned (.bool false)∧Below w.heap.size w w':=by
 obtain ⟨a1,c1,e1⟩:=h.cols.form
 obtain ⟨a2,c2,e2⟩:=h.vals.form
 obtain ⟨a3,c3,e3⟩:=h.fields.form
 obtain ⟨a1',c1',e1'⟩:=h'.cols.form
 obtain ⟨a2',c2',e2'⟩:=h'.vals.form
 obtain ⟨a3',c3',e3'⟩:=h'.fields.form
 subst e1 e2 e3 e1' e2' e3'
 exact yph c d a1 a2 a3 a1' a2' a3' c1 c2 c3 c1' c2' c3' ea wa ea' wa' w hk
theorem ymr (c:Cm) (w:World) {EP:Prop} (hl:LaidIf EP w)
  (hp:∀ W,Calls Tryz.prog 9 #[.string ⟨#[117,112,100,97,116,101,32,116,32,115,101,116,32,97,32,61,32,40,97,32,43,32,49,41,32,119,104,101,114,101,32,40,98,32,61,32,39,120,39,41,32]⟩] W fun e w'=>(∃ cv vv fv ea wa,e=.returned (.tuple #[.agg (cmL c cv vv fv ea wa).toArray,.int .i64 0,.int .i64 0])∧Hid (CmIn W.heap.size w' c cv vv fv ea wa))∧Below W.heap.size W w')
  (hs:∀ (W:World) (cv vv fv ea wa:Value),CmIn 0 W c cv vv fv ea wa→LaidIf EP W→Calls Tryz.prog 17 #[.agg (cmL c cv vv fv ea wa).toArray] W fun e w'=>e=.returned (.tuple #[.string ⟨#[117,112,100,97,116,101,32,116,32,115,101,116,32,97,32,61,32,40,97,32,43,32,49,41,32,119,104,101,114,101,32,40,98,32,61,32,39,120,39,41]⟩,.int .i64 0])∧Below W.heap.size W w')
  (hm:∀ (W:World) (cv vv fv ea wa:Value),CmIn 0 W c cv vv fv ea wa→Calls Tryz.prog 20 #[.agg (cmL c cv vv fv ea wa).toArray,.agg (cmL c cv vv fv ea wa).toArray] W fun e w'=>e=.returned (.bool true)∧Below W.heap.size W w')
  (hz:∀ (W:World) (cv vv fv ea wa:Value),CmIn 0 W c cv vv fv ea wa→Calls Tryz.prog 20 #[.agg (cmL c cv vv fv ea wa).toArray,.agg #[.int .i64 0,.string ⟨#[]⟩,.string ⟨#[]⟩,.string ⟨#[]⟩,.slice none 0 0,.int .i64 0,.int .i64 0,.int .i64 0,.string ⟨#[]⟩,.slice none 0 0,.slice none 0 0,.int .i64 0,.int .i64 0,.int .i64 0,.string ⟨#[]⟩,.string ⟨#[]⟩,.slice none 0 0,.bool false,.int .i64 0,.int .i64 0,.int .i64 0,.string ⟨#[]⟩,.string ⟨#[]⟩,.slice none 0 0,.string ⟨#[]⟩,.int .i64 0]] W fun e w'=>e=.returned (.bool false)∧Below W.heap.size W w') :
  Calls Tryz.prog 19 #[] w fun e w'=>e=.returned (.bool true)∧Below w.heap.size w w':=by
 have HL:=yaa hl
 have hp:=hp w
 clear hl
 go_enter Tryz.func19,Tryz.ntmps19
 go_wp2_with fail
 refine hp.mono ?_
 rintro e w1 ⟨⟨cv,vv,fv,ea,wa,rfl,i1⟩,b1⟩
 clear hp
 go_wp2_with (first|(refine yao 1 31 cmZ rfl rfl rfl Tryz.alloc31 ?_;intro w2 cb hcb k2 b2)|(refine yai 31 _ _ rfl rfl cb cmZ (cmL c cv vv fv ea wa) 31 rfl rfl (by exact k2) rfl Tryz.size31 (by exact i1.out.one) ?_;intro w3 k3 p3;have b3:=ycw hcb b2 p3;have i3:=yaa (i1.out.under b3);have B3:=yaa (b1.trans (b3.mono b1.size));clear p3)|(refine ycu 31 _ (by rfl) rfl cb (cmL c cv vv fv ea wa) 31 _ rfl (by exact k3) Tryz.underlying31 rfl Tryz.size31 ?_))
 refine (hs _ _ _ _ _ _ (i3.out.weak (Nat.zero_le _)) (HL.out.below B3.out)).mono ?_
 rintro e w4 ⟨rfl,b4⟩
 have k4:=(b4.block cb (ltS k3)).trans k3
 have i4:=yaa (i3.out.under b4)
 have B4:=yaa (B3.out.trans (b4.mono B3.out.size))
 clear b1 b2 b3 b4 i1 i3 k2 k3
 go_wp2_with (refine ycu 31 _ (by rfl) rfl cb (cmL c cv vv fv ea wa) 31 _ rfl (by exact k4) Tryz.underlying31 rfl Tryz.size31 ?_)
 refine (hm _ _ _ _ _ _ (i4.out.weak (Nat.zero_le _))).mono ?_
 rintro e w5 ⟨rfl,b5⟩
 have k5:=(b5.block cb (ltS k4)).trans k4
 have i5:=yaa (i4.out.under b5)
 have B5:=yaa (B4.out.trans (b5.mono B4.out.size))
 clear b5 i4 k4
 go_wp2_with (refine ycu 31 _ (by rfl) rfl cb (cmL c cv vv fv ea wa) 31 _ rfl (by exact k5) Tryz.underlying31 rfl Tryz.size31 ?_)
 refine (hz _ _ _ _ _ _ (i5.out.weak (Nat.zero_le _))).mono ?_
 rintro e w6 ⟨rfl,b6⟩
 go_wp2
 go_ret
 exact ⟨rfl,B5.out.trans (b6.mono B5.out.size)⟩
theorem yj4:ybh smallC=[117,112,100,97,116,101,32,116,32,115,101,116,32,97,32,61,32,40,97,32,43,32,49,41,32,119,104,101,114,101,32,40,98,32,61,32,39,120,39,41]:=by kernel_rfl
theorem yjU (w:World) {EP:Prop} (hl:LaidIf EP w):Calls Tryz.prog 19 #[] w fun e w'=>e=.returned (.bool true)∧Below w.heap.size w w':=by
 refine ymr smallC w hl (fun W=>?_) (fun W cv vv fv ea wa hi hL=>?_) (fun W cv vv fv ea wa hi=>?_) (fun W cv vv fv ea wa hi=>?_)
 ·refine (yl7 W).mono ?_
  rintro e w' ⟨⟨u,rfl,cv,vv,fv,ea,wa,rfl,hi⟩,hb⟩
  exact ⟨⟨cv,vv,fv,ea,wa,rfl,hi⟩,hb⟩
 ·have h:=yiN smallC cv vv fv ea wa hi yeS hL
  rw [yj4,yg2] at h
  exact h
 ·exact ygS smallC cv vv fv ea wa cv vv fv ea wa W hi hi yeS
 ·exact ymq smallC cm0 cv vv fv ea wa (.slice none 0 0) (.slice none 0 0) (.slice none 0 0) (.slice none 0 0) (.slice none 0 0) W hi (ypD 0 W cm0 rfl rfl rfl rfl rfl) (by decide)
theorem ycY {a b:List (List UInt8)} (ha:a≠[]) (hb:b≠[]):yaj (a++b)=yaj a++(ygZ (ycj [] a) (b.headD [])++yaj b):=by
 cases a with
 | nil=>exact absurd rfl ha
 | cons w ws =>
  cases b with
  | nil=>exact absurd rfl hb
  | cons v vs =>
   rw [List.cons_append,yaj,ydl,ygk,ybo,yaj,yaj]
   simp
structure Wd (ws:List (List UInt8)):Prop where
 ne:ws≠[]
 h1:ws.headD []≠[41]
 h2:ws.headD []≠[44]
 h3:ycj [] ws≠[40]
theorem Wd.app {a b:List (List UInt8)} (ha:Wd a) (hb:Wd b):yaj (a++b)=yaj a++(32::yaj b):=by
 rw [ycY ha.ne hb.ne,ygZ,if_pos ⟨ha.h3,hb.h1,hb.h2⟩];rfl
theorem Wd.both {a b:List (List UInt8)} (ha:Wd a) (hb:Wd b):Wd (a++b):=by
 obtain ⟨w,ws,rfl⟩:∃ w ws,a=w::ws:=List.exists_cons_of_ne_nil ha.ne
 obtain ⟨v,vs,rfl⟩:∃ w ws,b=w::ws:=List.exists_cons_of_ne_nil hb.ne
 refine ⟨by simp,by simpa using ha.h1,by simpa using ha.h2, ?_⟩
 rw [yb2,ybo]
 have:=hb.h3
 rwa [ybo] at this
theorem Wd.opn {a:List (List UInt8)} (ha:Wd a):yaj ([40]::a)=40::yaj a:=by
 have:=ycY (a:=[[40]]) (by simp) ha.ne
 rw [List.singleton_append] at this
 rw [this,ygZ,if_neg (by simp [ycj])]
 simp [yaj,ygk]
theorem yoO {a:List (List UInt8)} (ha:a≠[]):yaj (a++[[41]])=yaj a++[41]:=by
 rw [ycY ha (by simp),ygZ,if_neg (by simp)]
 simp [yaj,ygk]
theorem ybi (w:List UInt8):yaj [w]=w:=by simp [yaj,ygk]
theorem Wd.one {w:List UInt8} (h1:w≠[41]) (h2:w≠[44]) (h3:w≠[40]):Wd [w]:=⟨by simp,by simpa using h1,by simpa using h2,by simpa [ycj] using h3⟩
theorem Wd.shut (a:List (List UInt8)):Wd ([40]::(a++[[41]])):=by
 refine ⟨by simp,by simp,by simp, ?_⟩
 rw [ybo,yb2]
 simp [ycj]
theorem yq2 {n:List UInt8} (h:yan n=true):Wd [n]:=by
 have:=ydz h
 refine Wd.one ?_ ?_ ?_ <;> (rintro rfl;revert this;decide)
theorem ymR (v:Vl):Wd [yaI v]:=by
 have hi:∀ n:Int,∀ c:UInt8,c < 45→Lib.itoa n≠[c]:=by
  intro n c hc e
  unfold Lib.itoa at e
  split at e
  ·have:=(List.cons.inj e).1;subst this;revert hc;decide
  ·have key:∀ u:Nat,∀ x ∈ Lib.decDigits u,48≤x:=by
    intro u
    induction u using Nat.strongRecOn with
    | _ u ih =>
     intro x hx
     rw [Lib.decDigits] at hx
     split at hx
     ·rename_i h10
      simp only [List.mem_singleton] at hx
      subst hx
      have:∀ k:Fin 10,(48:UInt8)≤UInt8.ofNat (48+k.1):=by decide
      exact this ⟨u,h10⟩
     ·rename_i h10
      rcases List.mem_append.1 hx with h|h
      ·exact ih _ (by omega) x h
      ·simp only [List.mem_singleton] at h
       subst h
       have:∀ k:Fin 10,(48:UInt8)≤UInt8.ofNat (48+k.1):=by decide
       exact this ⟨u % 10,Nat.mod_lt _ (by decide)⟩
   have:=key _ c (by rw [e];simp)
   exact absurd (UInt8.lt_of_lt_of_le hc (UInt8.le_trans (by decide:(45:UInt8)≤48) this)) (UInt8.lt_irrefl _)
 unfold yaI
 split
 ·exact Wd.one (hi _ _ (by decide)) (hi _ _ (by decide)) (hi _ _ (by decide))
 ·split
  ·exact Wd.one (by simp) (by simp) (by simp)
  ·split
   ·split <;> exact Wd.one (by decide) (by decide) (by decide)
   ·exact Wd.one (by decide) (by decide) (by decide)
theorem ysY {k:Int} (h:5≤k∧k≤11):Wd [atL ya3 k]:=by
 have:k=5∨k=6∨k=7∨k=8∨k=9∨k=10∨k=11:=by omega
 rcases this with rfl|rfl|rfl|rfl|rfl|rfl|rfl <;> exact Wd.one (by decide) (by decide) (by decide)
theorem yfL (a:Ex):yat (.mk 3 vl0 [] [a])=[w_not]++yat a:=by simp [yat,yb9]
theorem ye0 (a:Ex):yat (.mk 4 vl0 [] [a])=[40]::((yat a++[w_is,w_null])++[[41]]):=by simp [yat,yb9]
theorem yfM {k:Int} (h:5≤k∧k≤11) (a b:Ex):yat (.mk k vl0 [] [a,b])=[40]::((yat a++([atL ya3 k]++yat b))++[[41]]):=by
 rw [yat,if_neg (by omega),if_neg (by omega),if_neg (by omega),if_neg (by omega)]
 simp [yb9]
theorem yha:Wd [w_is,w_null]:=⟨by simp,by decide,by decide,by decide⟩
theorem yck {x:Ex} (h:RightE x):Wd (yat x):=by
 induction h with
 | val v h=>simpa [yat] using ymR v
 | col nm h=>simpa [yat] using yq2 h
 | not a h ih=>rw [yfL];exact (Wd.one (by decide) (by decide) (by decide)).both ih
 | null a h ih=>rw [ye0];exact Wd.shut _
 | two k hk a b ha hb iha ihb=>rw [yfM hk];exact Wd.shut _
theorem yeR {a:List (List UInt8)} (ha:Wd a):yaj ([40]::(a++[[41]]))=40::(yaj a++[41]):=by
 have e:yaj ([40]::(a++[[41]]))=yaj ([40]::a)++[41]:=by
  rw [← List.cons_append];exact yoO (by simp)
 rw [e,ha.opn];rfl
def ycM (x:Ex):List UInt8:=yaj (yat x)
theorem ym8 (v:Vl):ycM (.mk 1 v [] [])=yaI v:=by simp [ycM,yat,ybi]
theorem ym5 (nm:List UInt8):ycM (.mk 2 vl0 nm [])=nm:=by simp [ycM,yat,ybi]
theorem ym6 {a:Ex} (h:RightE a):ycM (.mk 3 vl0 [] [a])=w_not++[32]++ycM a:=by
 rw [ycM,yfL,(Wd.one (by decide) (by decide) (by decide)).app (yck h),ybi];simp [ycM]
theorem ykD {a:Ex} (h:RightE a):ycM (.mk 4 vl0 [] [a])=[40]++ycM a++[32,105,115,32,110,117,108,108,41]:=by
 rw [ycM,ye0,yeR ((yck h).both yha),(yck h).app yha]
 have:yaj [w_is,w_null]=[105,115,32,110,117,108,108]:=by decide
 rw [this];simp [ycM]
theorem ym7 {k:Int} (hk:5≤k∧k≤11) {a b:Ex} (ha:RightE a) (hb:RightE b):ycM (.mk k vl0 [] [a,b])=[40]++ycM a++[32]++atL ya3 k++[32]++ycM b++[41]:=by
 have h2:=(ysY hk).both (yck hb)
 rw [ycM,yfM hk,yeR ((yck ha).both h2),(yck ha).app h2,(ysY hk).app (yck hb),ybi]
 simp [ycM]
theorem ybL:∀ (k u:Nat),u < 10 ^ (k+1)→1≤(Lib.decDigits u).length∧(Lib.decDigits u).length≤k+1:=by
 intro k
 induction k with
 | zero =>
  intro u h
  rw [Lib.decDigits,dif_pos (by simpa using h)]
  simp
 | succ k ih =>
  intro u h
  rw [Lib.decDigits]
  split
  ·simp
  ·have:=ih (u / 10) (by rw [Nat.pow_succ] at h;omega)
   simp;omega
theorem ym4 (u:Nat) (w:World) (hu:u < 10) :
  (convert 69 9 (.slice (some ⟨w.heap.size,0,none⟩) 1 1)).run Tryz.prog (w.alloc (.cells #[.int .u8 (48+(u:Int))] 5))=.ok (.string ⟨#[UInt8.ofNat (48+u)]⟩) (w.alloc (.cells #[.int .u8 (48+(u:Int))] 5)):=by
 have h:=run_convert_bytes_back (P:=Tryz.prog) (w.alloc (.cells #[.int .u8 (48+(u:Int))] 5)) 69 9 5 ⟨w.heap.size,0,none⟩ 1 [UInt8.ofNat (48+u)] Tryz.underlying69 Tryz.underlying5 Tryz.underlying9 (by
  intro j hj
  have:j=0:=by simpa using hj
  subst this
  have e:((48+u) % 256:Nat)=48+u:=by omega
  simp [Addr.add,e])
 exact h
theorem yi4 (u:Nat) (w:World) (hu:u < 10):Calls Tryz.prog 50 #[.int .i64 (u:Int)] w fun e w'=>e=.returned (.string ⟨(Lib.decDigits u).toArray⟩)∧Below w.heap.size w w':=by
 rw [Lib.decDigits,dif_pos hu]
 have hc:=ym4 u w hu
 go_enter Tryz.func50,Tryz.ntmps50
 go_wp2
 go_ret
 exact ⟨rfl,(Below.refl _ _).alloc (Nat.le_refl _) _⟩
theorem yi5 (u:Nat) (w:World) (h10:10≤u) (hm:u < 1000000000000000000) (A B:List UInt8) (hA:A.length≤30) (hB:B.length≤30)
  (h1:∀ W:World,Calls Tryz.prog 50 #[.int .i64 ((u:Int) / 10)] W fun e w'=>e=.returned (.string ⟨A.toArray⟩)∧Below W.heap.size W w')
  (h2:∀ W:World,Calls Tryz.prog 50 #[.int .i64 ((u:Int) % 10)] W fun e w'=>e=.returned (.string ⟨B.toArray⟩)∧Below W.heap.size W w') :
  Calls Tryz.prog 50 #[.int .i64 (u:Int)] w fun e w'=>e=.returned (.string ⟨(A++B).toArray⟩)∧Below w.heap.size w w':=by
 have sA:=yam A
 have sB:=yam B
 go_enter Tryz.func50,Tryz.ntmps50
 go_wp2_with fail
 refine (h1 _).mono ?_
 rintro e w1 ⟨rfl,b1⟩
 go_wp2_with fail
 refine (h2 _).mono ?_
 rintro e w2 ⟨rfl,b2⟩
 go_wp2
 go_ret
 refine ⟨?_,b1.trans (b2.mono b1.size)⟩
 rw [← yaz]
 rfl
theorem yc4:∀ (u:Nat),u < 1000000000000000000→∀ w:World,Calls Tryz.prog 50 #[.int .i64 (u:Int)] w fun e w'=>e=.returned (.string ⟨(Lib.decDigits u).toArray⟩)∧Below w.heap.size w w':=by
 intro u
 induction u using Nat.strongRecOn with
 | _ u ih =>
  intro hu w
  by_cases h:u < 10
  ·exact yi4 u w h
  ·have e:Lib.decDigits u=Lib.decDigits (u / 10)++Lib.decDigits (u % 10):=by
    rw [Lib.decDigits,dif_neg h]
    congr 1
    rw [Lib.decDigits,dif_pos (Nat.mod_lt _ (by decide))]
   rw [e]
   have l1:=ybL 17 (u / 10) (by omega)
   have l2:=ybL 17 (u % 10) (by omega)
   exact yi5 u w (by omega) hu _ _ (by omega) (by omega) (fun W=>ih (u / 10) (by omega) (by omega) W) (fun W=>ih (u % 10) (by omega) (by omega) W)
theorem yhp (n:Int) (w:World) (h0:n < 0) (h1:-10 < n) (A:List UInt8) (hA:A.length≤30)
  (hd:∀ W:World,Calls Tryz.prog 50 #[.int .i64 (-n)] W fun e w'=>e=.returned (.string ⟨A.toArray⟩)∧Below W.heap.size W w') :
  Calls Tryz.prog 50 #[.int .i64 n] w fun e w'=>e=.returned (.string ⟨(45::A).toArray⟩)∧Below w.heap.size w w':=by
 have sA:=yam A
 go_enter Tryz.func50,Tryz.ntmps50
 go_wp2_with fail
 refine (hd _).mono ?_
 rintro e w1 ⟨rfl,b1⟩
 go_wp2
 go_ret
 refine ⟨?_,b1⟩
 rw [show (45::A)=[45]++A from rfl,← yaz]
 rfl
theorem yhq (n:Int) (w:World) (h0:n≤-10) (h1:-999999999999999999≤n) (A B:List UInt8) (hA:A.length≤30) (hB:B.length≤30)
  (ha:∀ W:World,Calls Tryz.prog 50 #[.int .i64 (wrap64 (-n.tdiv 10))] W fun e w'=>e=.returned (.string ⟨A.toArray⟩)∧Below W.heap.size W w')
  (hb:∀ W:World,Calls Tryz.prog 50 #[.int .i64 (wrap64 (-n.tmod 10))] W fun e w'=>e=.returned (.string ⟨B.toArray⟩)∧Below W.heap.size W w') :
  Calls Tryz.prog 50 #[.int .i64 n] w fun e w'=>e=.returned (.string ⟨(45::(A++B)).toArray⟩)∧Below w.heap.size w w':=by
 have sA:=yam A
 have sB:=yam B
 go_enter Tryz.func50,Tryz.ntmps50
 go_wp2_with fail
 refine (ha _).mono ?_
 rintro e w1 ⟨rfl,b1⟩
 go_wp2_with fail
 refine (hb _).mono ?_
 rintro e w2 ⟨rfl,b2⟩
 go_wp2
 go_ret
 refine ⟨?_,b1.trans (b2.mono b1.size)⟩
 rw [show (45::(A++B))=([45]++A)++B from rfl,← yaz,← yaz]
 rfl
theorem yfj (n:Int) (w:World) (h0:-999999999999999999≤n) (h1:n≤999999999999999999) :
  Calls Tryz.prog 50 #[.int .i64 n] w fun e w'=>e=.returned (.string ⟨(Lib.itoa n).toArray⟩)∧Below w.heap.size w w':=by
 unfold Lib.itoa
 by_cases h:n < 0
 ·rw [if_pos h]
  obtain ⟨u,rfl⟩:∃ u:Nat,n = -(u:Int):=⟨n.natAbs,by omega⟩
  have hu:(-(u:Int)).natAbs=u:=by omega
  rw [hu]
  by_cases h2:u < 10
  ·have l:=ybL 17 u (by omega)
   refine yhp _ w h (by omega) _ (by omega) fun W=>?_
   have:=yc4 u (by omega) W
   rw [show - -(u:Int)=(u:Int) by omega]
   exact this
  ·have e:Lib.decDigits u=Lib.decDigits (u / 10)++Lib.decDigits (u % 10):=by
    rw [Lib.decDigits,dif_neg h2]
    congr 1
    rw [Lib.decDigits,dif_pos (Nat.mod_lt _ (by decide))]
   have l1:=ybL 17 (u / 10) (by omega)
   have l2:=ybL 17 (u % 10) (by omega)
   have q:wrap64 (-(-(u:Int)).tdiv 10)=((u / 10:Nat):Int):=by
    rw [Int.neg_tdiv,Int.neg_neg,Int.tdiv_eq_ediv_of_nonneg (by omega)]
    unfold wrap64
    omega
   have r:wrap64 (-(-(u:Int)).tmod 10)=((u % 10:Nat):Int):=by
    rw [Int.neg_tmod,Int.neg_neg,Int.tmod_eq_emod_of_nonneg (by omega)]
    unfold wrap64
    omega
   rw [e]
   refine yhq _ w (by omega) (by omega) _ _ (by omega) (by omega) (fun W=>?_) (fun W=>?_)
   ·rw [q];exact yc4 _ (by omega) W
   ·rw [r];exact yc4 _ (by omega) W
 ·rw [if_neg h]
  obtain ⟨u,rfl⟩:∃ u:Nat,n=(u:Int):=⟨n.toNat,by omega⟩
  rw [Int.toNat_natCast]
  exact yc4 u (by omega) w
theorem yeW (v:Vl) (hv:ybJ v=true) (w:World) :
  Calls Tryz.prog 49 #[.agg #[.int .i64 v.k,.int .i64 v.n,.string ⟨v.s.toArray⟩]] w fun e w'=>e=.returned (.string ⟨(yaI v).toArray⟩)∧Below w.heap.size w w':=by
 have hs:=ygf hv
 obtain ⟨vk,vn,vs⟩:=v
 have b0:=(Below.refl w.heap.size w).alloc (Nat.le_refl _) (.cells #[.int .i64 vk,.int .i64 vn,.string ⟨vs.toArray⟩] 24)
 have hr:vk=1→-999999999≤vn∧vn≤999999999:=by
  rintro rfl
  have:=yel hv
  simp only [ybT] at this
  simp at this
  exact yey this.1
 clear hv
 unfold yaI
 by_cases h1:vk=1
 ·have hd:=fun W=>yfj vn W (by have:=hr h1;omega) (by have:=hr h1;omega)
  rw [if_pos h1]
  subst h1
  clear hr
  go_enter Tryz.func49,Tryz.ntmps49
  go_wp2_with (go_at_call 50;refine (hd _).mono ?_;rintro e w1 ⟨rfl,b1⟩)
  go_ret
  exact ⟨rfl,b0.trans (b1.mono (by simp))⟩
 ·rw [if_neg h1]
  have h1':(vk == 1)=false:=by simpa using h1
  clear hr
  by_cases h2:vk=2
  ·have e:(⟨#[39]⟩++⟨vs.toArray⟩++⟨#[39]⟩:ByteArray)=⟨(39::(vs++[39])).toArray⟩:=by
    apply ByteArray.ext
    simp [ByteArray.data_append]
   have z1:¬ (9223372036854775807 < 1+vs.length):=by simp at hs;omega
   have z2:¬ (9223372036854775807 < 1+vs.length+1):=by simp at hs;omega
   rw [if_pos h2,← e]
   subst h2
   clear e h1 h1'
   go_enter Tryz.func49,Tryz.ntmps49
   go_wp2
   go_ret
   exact ⟨rfl,b0⟩
  ·rw [if_neg h2]
   have h2':(vk == 2)=false:=by simpa using h2
   by_cases h3:vk=3
   ·rw [if_pos h3]
    subst h3
    by_cases h4:vn=1
    ·subst h4
     go_enter Tryz.func49,Tryz.ntmps49
     go_wp2
     go_ret
     exact ⟨rfl,b0⟩
    ·rw [if_neg h4]
     have h4':(vn == 1)=false:=by simpa using h4
     go_enter Tryz.func49,Tryz.ntmps49
     go_wp2
     go_ret
     exact ⟨rfl,b0⟩
   ·rw [if_neg h3]
    have h3':(vk == 3)=false:=by simpa using h3
    go_enter Tryz.func49,Tryz.ntmps49
    go_wp2
    go_ret
    exact ⟨rfl,b0⟩
def yaR:List (List UInt8)→List UInt8
 | []=>[]
 | [x]=>x
 | x::y::r=>x++([44,32]++yaR (y::r))
theorem yeq:∀ (l:List (List UInt8)) (x:List UInt8),l≠[]→yaR (l++[x])=yaR l++([44,32]++x)
 | [],_,h=>absurd rfl h
 | [y],x,_=>by simp [yaR]
 | y::z::r,x,_=>by
  have:=yeq (z::r) x (by simp)
  rw [List.cons_append,List.cons_append,yaR,← List.cons_append,this,yaR]
  simp
theorem yhl (l:List (List UInt8)) (k:Nat) (x:List UInt8) (h:l[k]?=some x):yaR (l.take (k+1))=if k=0 then x else yaR (l.take k)++([44,32]++x):=by
 rw [List.take_add_one,h]
 by_cases h0:k=0
 ·subst h0;simp [yaR]
 ·rw [if_neg h0]
  refine yeq _ x ?_
  intro e
  have h1:=congrArg List.length e
  have h2:=(List.getElem?_eq_some_iff.1 h).1
  rw [List.length_take,List.length_nil] at h1
  omega
theorem ycx:∀ (l:List (List UInt8)),(∀ x ∈ l,x.length≤3000)→(yaR l).length≤3002*l.length
 | [],_=>by simp [yaR]
 | [x],h=>by have:=h x (by simp);simp [yaR];omega
 | x::y::r,h=>by
  have h1:=h x (by simp)
  have h2:=ycx (y::r) (fun z hz=>h z (by simp [List.mem_cons.1 hz]))
  rw [yaR]
  simp only [List.length_append,List.length_cons,List.length_nil] at h2 ⊢
  omega
theorem ycy {α:Type} (f:α→List (List UInt8)):∀ (l:List α),(∀ x ∈ l,Wd (f x))→l≠[]→yaj (yal f l)=yaR (l.map fun x=>yaj (f x))∧yal f l≠[]∧(yal f l).headD []≠[41]∧(yal f l).headD []≠[44]∧ycj [] (yal f l)≠[40]
 | [],_,h=>absurd rfl h
 | [x],h,_=>by
  have hx:=h x (by simp)
  exact ⟨rfl,hx.ne,hx.h1,hx.h2,hx.h3⟩
 | x::y::r,h,_=>by
  have hx:=h x (by simp)
  obtain ⟨e,n,q1,q2,q3⟩:=ycy f (y::r) (fun z hz=>h z (by simp [List.mem_cons.1 hz])) (by simp)
  have hw:Wd (yal f (y::r)):=⟨n,q1,q2,q3⟩
  have e1:yal f (x::y::r)=(f x++[[44]])++yal f (y::r):=by rw [yal];simp
  have s1:yaj (f x++[[44]])=yaj (f x)++[44]:=by
   rw [ycY hx.ne (by simp),ygZ,if_neg (by simp)]
   simp [yaj,ygk]
  have l1:ycj [] (f x++[[44]])=[44]:=by rw [yb2];rfl
  obtain ⟨v,vs,hv⟩:∃ v vs,f x=v::vs:=List.exists_cons_of_ne_nil hx.ne
  obtain ⟨u,us,hu⟩:∃ v vs,yal f (y::r)=v::vs:=List.exists_cons_of_ne_nil n
  refine ⟨?_, ?_, ?_, ?_, ?_⟩
  ·rw [e1,ycY (by simp) n,s1,l1,ygZ,if_pos ⟨by decide,q1,q2⟩,e]
   simp [yaR]
  ·rw [e1,hv];simp
  ·have:=hx.h1;rw [hv] at this;rw [e1,hv];simpa using this
  ·have:=hx.h2;rw [hv] at this;rw [e1,hv];simpa using this
  ·rw [e1,yb2,l1,hu,ybo]
   rw [hu,ybo] at q3
   exact q3
theorem ygh {α:Type} {f:α→List (List UInt8)} {l:List α} (h:∀ x ∈ l,Wd (f x)) (hl:l≠[]):Wd (yal f l):=by
 obtain ⟨-,n,q1,q2,q3⟩:=ycy f l h hl
 exact ⟨n,q1,q2,q3⟩
theorem yfg (l:List (List UInt8)) (g o ca:Nat) (w:World) (hrow:∀ k x,l[k]?=some x→w.cell? ⟨g,o+k,none⟩=some (.string ⟨x.toArray⟩)) (hn:l.length≤1000) (hx:∀ x ∈ l,x.length≤3000) :
  Calls Tryz.prog 48 #[.slice (some ⟨g,o,none⟩) l.length ca] w fun e w'=>e=.returned (.string ⟨(yaR l).toArray⟩)∧w'=w:=by
 have HROW:=yaa hrow
 have HX:=yaa hx
 obtain ⟨n,HN⟩:∃ n,Hid (l.length=n):=⟨_,yaa rfl⟩
 rw [HN.out] at hn ⊢
 clear hrow hx
 go_enter Tryz.func48,Tryz.ntmps48
 go_wp2
 go_loopw [3,4] (fun s i wl=>∃ k:Nat,k≤n∧i=.int .i64 k∧s=.string ⟨(yaR (l.take k)).toArray⟩∧wl=w) (fun _ i _=>n - (intOf i).toNat)
 case atStart=>exact ⟨0,Nat.zero_le _,rfl,rfl,rfl⟩
 case round =>
  obtain ⟨k,hk,rfl,rfl,hw⟩:=hrel
  by_cases hlt:k < n
  ·obtain ⟨x,hx⟩:∃ x,l[k]?=some x:=⟨l[k]'(by have:=HN.out;omega),List.getElem?_eq_getElem (by have:=HN.out;omega)⟩
   have c0:=HROW.out k x hx
   rw [← hw] at c0
   have HT:=yaa (yhl l k x hx)
   have hlt':(k:Int) < (n:Int):=by omega
   have hl1:(yaR (l.take k)).length≤3002*1000:=by
    refine Nat.le_trans (ycx _ fun y hy=>HX.out y (List.mem_of_mem_take hy)) ?_
    have:(l.take k).length≤1000:=by rw [List.length_take];omega
    omega
   have hl2:x.length≤3000:=HX.out x (List.mem_of_getElem? hx)
   have z1:=yam (yaR (l.take k))
   have z2:=yam x
   by_cases h0:k=0
   ·have h0':¬ ((0:Int) < (k:Int)):=by omega
    have HZ:Hid (yaR (l.take (k+1))=yaR (l.take k)++x):=by
     show _=_
     rw [HT.out,if_pos h0,h0];simp [yaR]
    have HW:=yaa hw
    clear hx HT hw h0
    generalize yaR (l.take k)=S at hl1 z1 HZ
    go_wp2
    go_roundw
    case rel=>exact ⟨k+1,by omega,by go_num,by rw [HZ.out,← yaz],HW.out⟩
    case measure=>simp [intOf];omega
   ·have h0':((0:Int) < (k:Int)):=by omega
    have HZ:Hid (yaR (l.take (k+1))=(yaR (l.take k)++[44,32])++x):=by
     show _=_
     rw [HT.out,if_neg h0];simp
    have HW:=yaa hw
    clear hx HT hw h0
    generalize yaR (l.take k)=S at hl1 z1 HZ
    go_wp2
    go_roundw
    case rel=>exact ⟨k+1,by omega,by go_num,by rw [HZ.out,← yaz,← yaz],HW.out⟩
    case measure=>simp [intOf];omega
  ·have hk':k=n:=by omega
   have HE:Hid (l.take k=l):=by show _=_;rw [hk',← HN.out];exact List.take_length
   rw [HE.out]
   have HW:=yaa hw
   clear hw HE hk'
   go_wp2
   go_ret
   exact ⟨rfl,HW.out⟩
structure InArgs (W:World) (g o:Nat) (k:Int) (v:Vl) (nm:List UInt8) (a:Value):Prop where
 lt:g < W.heap.size
 c0:W.cell? ⟨g,o,none⟩=some (.int .i64 k)
 c1:W.cell? ⟨g,o+1,none⟩=some (.int .i64 v.k)
 c2:W.cell? ⟨g,o+2,none⟩=some (.int .i64 v.n)
 c3:W.cell? ⟨g,o+3,none⟩=some (.string ⟨v.s.toArray⟩)
 c4:W.cell? ⟨g,o+4,none⟩=some (.string ⟨nm.toArray⟩)
 c5:W.cell? ⟨g,o+5,none⟩=some a
theorem ys3 (v:Vl) (hv:ybJ v=true) (ao:Option Addr) (n ca:Nat) (W:World) :
  Calls Tryz.prog 47 #[exV 1 v [] (.slice ao n ca)] W fun e w'=>e=.returned (.string ⟨(yaI v).toArray⟩)∧Below W.heap.size W w':=by
 have hd:=fun W=>yeW v hv W
 have b0:=(Below.refl W.heap.size W).alloc (Nat.le_refl _) (.cells #[.int .i64 1,.int .i64 v.k,.int .i64 v.n,.string ⟨v.s.toArray⟩,.string ⟨#[]⟩,.slice ao n ca] 29)
 unfold exV
 clear hv
 go_enter Tryz.func47,Tryz.ntmps47
 go_wp2_with (go_at_call 49;refine (hd _).mono ?_;rintro e w1 ⟨rfl,b1⟩)
 go_ret
 exact ⟨rfl,b0.trans (b1.mono (by simp))⟩
theorem ys0 (nm:List UInt8) (ao:Option Addr) (n ca:Nat) (W:World) :
  Calls Tryz.prog 47 #[exV 2 vl0 nm (.slice ao n ca)] W fun e w'=>e=.returned (.string ⟨nm.toArray⟩)∧Below W.heap.size W w':=by
 have b0:=(Below.refl W.heap.size W).alloc (Nat.le_refl _) (.cells #[.int .i64 2,.int .i64 0,.int .i64 0,.string ⟨#[]⟩,.string ⟨nm.toArray⟩,.slice ao n ca] 29)
 unfold exV vl0
 go_enter Tryz.func47,Tryz.ntmps47
 go_wp2
 go_ret
 exact ⟨rfl,b0⟩
theorem ys1 (g o ca:Nat) (k:Int) (v:Vl) (nm:List UInt8) (a:Value) (S:List UInt8) (W:World) (hi:InArgs W g o k v nm a) (hS:S.length≤1000000) (R:ByteArray) (hR:Hid (⟨#[110,111,116,32]⟩++⟨S.toArray⟩=R))
  (hc:∀ W',Below W.heap.size W W'→Calls Tryz.prog 47 #[exV k v nm a] W' fun e w'=>e=.returned (.string ⟨S.toArray⟩)∧Below W'.heap.size W' w') :
  Calls Tryz.prog 47 #[exV 3 vl0 [] (.slice (some ⟨g,o,none⟩) 1 ca)] W fun e w'=>e=.returned (.string R)∧Below W.heap.size W w':=by
 have b0:=(Below.refl W.heap.size W).alloc (Nat.le_refl _) (.cells #[.int .i64 3,.int .i64 0,.int .i64 0,.string ⟨#[]⟩,.string ⟨#[]⟩,.slice (some ⟨g,o,none⟩) 1 ca] 29)
 have hq:=hc _ b0
 obtain ⟨lt,c0,c1,c2,c3,c4,c5⟩:=hi
 have zS:=yam S
 unfold exV at hq
 unfold exV vl0
 clear hc
 go_enter Tryz.func47,Tryz.ntmps47
 go_wp2_with (go_at_call 47;refine hq.mono ?_;rintro e w1 ⟨rfl,b1⟩)
 go_ret
 refine ⟨?_,b0.trans (b1.mono (by simp))⟩
 rw [← hR.out];rfl
theorem yq6 (g o ca:Nat) (k:Int) (v:Vl) (nm:List UInt8) (a:Value) (S:List UInt8) (W:World) (hi:InArgs W g o k v nm a) (hS:S.length≤1000000) (R:ByteArray) (hR:Hid ((⟨#[40]⟩++⟨S.toArray⟩)++⟨#[32,105,115,32,110,117,108,108,41]⟩=R))
  (hc:∀ W',Below W.heap.size W W'→Calls Tryz.prog 47 #[exV k v nm a] W' fun e w'=>e=.returned (.string ⟨S.toArray⟩)∧Below W'.heap.size W' w') :
  Calls Tryz.prog 47 #[exV 4 vl0 [] (.slice (some ⟨g,o,none⟩) 1 ca)] W fun e w'=>e=.returned (.string R)∧Below W.heap.size W w':=by
 have b0:=(Below.refl W.heap.size W).alloc (Nat.le_refl _) (.cells #[.int .i64 4,.int .i64 0,.int .i64 0,.string ⟨#[]⟩,.string ⟨#[]⟩,.slice (some ⟨g,o,none⟩) 1 ca] 29)
 have hq:=hc _ b0
 obtain ⟨lt,c0,c1,c2,c3,c4,c5⟩:=hi
 have zS:=yam S
 unfold exV at hq
 unfold exV vl0
 clear hc
 go_enter Tryz.func47,Tryz.ntmps47
 go_wp2_with (go_at_call 47;refine hq.mono ?_;rintro e w1 ⟨rfl,b1⟩)
 go_ret
 refine ⟨?_,b0.trans (b1.mono (by simp))⟩
 rw [← hR.out];rfl
theorem ymk {ops:Array Oper} {L0 listed:Array Bool} {a0 a:Act} {V:Nat→Value} {i d:Nat} {o:Oper} (hd:RunAt ops L0 a0 V listed a) (ho:ops[i]?=some o) (h0:L0.getD i true=false) (hdst:o.dst=some d) (hlt:d < a0.tmps.size)
  (one:∀ j k o p d,ops[j]?=some o→ops[k]?=some p→L0.getD j true=false→L0.getD k true=false→o.dst=some d→p.dst=some d→j=k) :
  RunAt ops L0 a0 V (listed.setIfInBounds i true) (a.put o.dst (V i)):=by
 have hput:a.put o.dst (V i)={ a with tmps:=a.tmps.setIfInBounds d (V i) }:=by rw [hdst];rfl
 have hget:∀ j,(listed.setIfInBounds i true).getD j true=if j=i then true else listed.getD j true:=by
  intro j
  by_cases e:j=i
  ·subst e;rw [if_pos rfl];simp [Array.getD]
  ·rw [if_neg e]
   by_cases hj:j < listed.size
   ·simp [Array.getD,hj,Ne.symm e]
   ·simp [Array.getD,hj]
 rw [hput]
 refine ⟨by simpa using hd.size,hd.defers, ?_, ?_, ?_,by simpa using hd.frame⟩
 ·intro j hj
  rw [hget]
  by_cases e:j=i
  ·rw [if_pos e]
  ·rw [if_neg e];exact hd.more j hj
 ·intro j p d' hj hj0 hl hpd
  rw [hget] at hl
  by_cases e:j=i
  ·subst e
   rw [ho] at hj;cases hj
   rw [hdst] at hpd;cases hpd
   rw [Array.getElem?_setIfInBounds_self,if_pos (by rw [hd.frame];exact hlt)]
  ·rw [if_neg e] at hl
   have hne:d≠d':=by
    intro e2
    subst e2
    exact e (one j i p o d hj ho hj0 h0 hpd hdst)
   rw [Array.getElem?_setIfInBounds_ne hne]
   exact hd.new j p d' hj hj0 hl hpd
 ·intro d' hd'
  have hne:d≠d':=by
   intro e2
   subst e2
   exact hd' i o ho h0 hdst
  rw [Array.getElem?_setIfInBounds_ne hne]
  exact hd.old d' hd'
theorem yoz {ops:Array Oper} {listed:Array Bool} {i fuel:Nat} (hsz:listed.size=ops.size) (hu:listed.getD i true=false) (hir:i < ops.size) (hl:left ops listed≤fuel+1):left ops (listed.setIfInBounds i true)≤fuel:=by
 have hc:=yfh (fun j=>!listed.getD j true) i (by simpa using hu) (List.range ops.size) (List.mem_range.2 hir)
 have e:left ops (listed.setIfInBounds i true)=(List.range ops.size).countP (fun j=>!listed.getD j true&&j != i):=by
  unfold left
  apply List.countP_congr
  intro j hj
  have hj':=List.mem_range.1 hj
  by_cases e:j=i
  ·subst e;simp [Array.getD,hsz,hj']
  ·simp [Array.getD,hsz,hj',Ne.symm e,e]
 unfold left at hl
 omega
theorem yqQ {P:Program} {md:Region.Mode} {ops:Array Oper} {Q:Exit→Act→World→Prop} {S:World→Prop} {J:Array Bool→Act→World→Prop} (back:∀ (j:Nat) (o:Oper),ops[j]?=some o→∀ e ∈ o.after,e.on < j)
  (hsz:∀ listed a w,J listed a w→listed.size=ops.size) (hS:∀ listed a w,J listed a w→S w)
  (hq:∀ listed a w,J listed a w→(∀ j,j < ops.size→listed.getD j true=true)→Q .normal a w)
  (step:∀ (i:Nat) (o:Oper) listed a w,ops[i]?=some o→listed.getD i true=false→(∀ e ∈ o.after,Region.binds md e=true→listed.getD e.on false=true)→J listed a w →
   ∀ K:Act→World→Prop,(∀ a' w',J (listed.setIfInBounds i true) a' w'→K a' w')→wpOp P ops Q i K a w) :
  ∀ (fuel:Nat) (listed:Array Bool) (a:Act) (w:World),J listed a w→left ops listed≤fuel→wpAnyH P md ops Q S fuel listed a w:=by
 have none:∀ listed a w,J listed a w→Region.ready md ops listed=[]→∀ j,j < ops.size→listed.getD j true=true:=by
  intro listed a w hJ hr j
  induction j using Nat.strongRecOn with
  | _ j ih =>
   intro hj
   apply Classical.byContradiction
   intro hn
   have hn':listed.getD j true=false:=by simpa using hn
   have hm:j ∈ Region.ready md ops listed:=by
    unfold Region.ready
    rw [List.mem_filter,Bool.and_eq_true]
    refine ⟨List.mem_range.2 hj,by simp [hn'], ?_⟩
    rw [Array.getElem?_eq_getElem hj]
    simp only [Option.map_some,Option.getD_some,Array.all_eq_true_iff_forall_mem]
    intro e he
    have hlt:=back j _ (Array.getElem?_eq_getElem hj) e he
    have:=ih e.on hlt (by omega)
    have hz:=hsz _ _ _ hJ
    have h2:listed.getD e.on false=true:=by
     simp only [Array.getD] at this ⊢
     split at this
     ·rename_i h;simp only [h,dif_pos];exact this
     ·rename_i h;omega
    rw [h2];simp
   rw [hr] at hm
   cases hm
 intro fuel
 induction fuel with
 | zero =>
  intro listed a w hJ hl
  have hr:Region.ready md ops listed=[]:=by
   cases hh:Region.ready md ops listed with
   | nil=>rfl
   | cons i r =>
    exfalso
    have hi:i ∈ Region.ready md ops listed:=by rw [hh];simp
    unfold Region.ready at hi
    rw [List.mem_filter] at hi
    have hu:(!listed.getD i true)=true:=by
     have:=hi.2
     rw [Bool.and_eq_true] at this
     exact this.1
    have:0 < left ops listed:=List.countP_pos_iff.2 ⟨i,hi.1,hu⟩
    omega
  exact ⟨hr,hq listed a w hJ (none listed a w hJ hr)⟩
 | succ fuel ih =>
  intro listed a w hJ hl
  refine ⟨fun hr=>hq listed a w hJ (none listed a w hJ hr),fun i hi=>?_⟩
  unfold Region.ready at hi
  rw [List.mem_filter,Bool.and_eq_true] at hi
  obtain ⟨hir,hu,hall⟩:=hi
  have hisz:=List.mem_range.1 hir
  have hu':listed.getD i true=false:=by simpa using hu
  obtain ⟨o,ho⟩:∃ o,ops[i]?=some o:=⟨ops[i],Array.getElem?_eq_getElem hisz⟩
  rw [ho] at hall
  simp only [Option.map_some,Option.getD_some,Array.all_eq_true_iff_forall_mem] at hall
  refine step i o listed a w ho hu' (fun e he hb=>by
   have:=hall e he
   rw [hb] at this
   simpa using this) hJ _ (fun a' w' hJ'=>⟨hS _ _ _ hJ',ih _ _ _ hJ' (yoz (hsz _ _ _ hJ) hu' hisz hl)⟩)
theorem yoA {P:Program} {ops:Array Oper} {Q:Exit→Act→World→Prop} {j:Nat} {o:Oper} {v:Value} {a:Act} {w w':World} {K:Act→World→Prop} (hj:ops[j]?=some o) (hw:Region.wanted o (yielded ops a.tmps)=true)
  (he:(execOp a.eval o).run P w=.ok (.value v) w') (hK:K (a.put o.dst v) w'):wpOp P ops Q j K a w:=by
 unfold wpOp
 rw [hj]
 simp only [hw,if_true,Oper.wp,he,Oper.upon]
 exact .inl hK
section
variable {P:Program} {R:Array Oper} {n m:Nat} {dls:List (Option Tmp)} {a0:Act} {V:Nat→Nat→Value} {Q:Exit→Act→World→Prop} {S:World→Prop} {T:Nat→World→Prop} {X:Nat→Bool} {jb:Nat}
def Jb (R:Array Oper) (n:Nat) (a0:Act) (V:Nat→Nat→Value) (S:World→Prop) (T:Nat→World→Prop) (X:Nat→Bool) (jb:Nat) (listed:Array Bool) (a:Act) (w:World):Prop :=
 ∃ b,RunAt R (Array.replicate n false) a0 (V b) listed a∧S w∧(listed.getD jb true=true→T b w)∧∀ j,X j=true→listed.getD j true=true→listed.getD jb true=true
def ObM (P:Program) (R:Array Oper) (n:Nat) (a0:Act) (V:Nat→Nat→Value) (Q:Exit→Act→World→Prop) (S:World→Prop) (T:Nat→World→Prop) (j:Nat):Prop :=
 ∀ b o listed a W,R[j]?=some o→RunAt R (Array.replicate n false) a0 (V b) listed a→(∀ e ∈ o.after,Region.binds .any e=true→listed.getD e.on false=true)→S W →
  ∀ K:Act→World→Prop,(∀ b' w',S w'→T b' w'→K (a.put o.dst (V b' j)) w')→wpOp P R Q j K a W
def xOk (R:Array Oper) (X:Nat→Bool) (jb:Nat):Bool:=(List.range R.size).all fun j=>!X j || ((R[j]?).map fun o=>o.after.any fun e=>Region.binds .any e&&(e.on == jb || X e.on)).getD false
theorem yq3 (hm:P.follows .mixedOrders=true) (hsz:R.size=n) (hb:ypu R m=true) (hdl:R.toList.map (·.dst)=dls) (hnd:dls.Nodup) (ha:a0.tmps.size=m) (jb:Nat) (X:Nat→Bool) (hx:xOk R X jb=true) (hxn:∀ j,X j=true→j < n) (hjb:X jb=false) (hjn:jb < n)
  (hV:∀ b b' j,X j=false→j≠jb→V b j=V b' j) (hT:∀ b w w',T b w→Below w.heap.size w w'→T b w')
  (hob:∀ b W0 j,j < n→j≠jb→ObR P R n a0 (V b) Q (fun w=>S w∧Below W0.heap.size W0 w∧(X j=true→T b w)) j)
  (hoM:ObM P R n a0 V Q S T jb) {id:Nat} {w:World} (hS:S w.drew)
  (hq:∀ b w',S w'→T b w'→Q .normal { tmps:=(ydW a0.tmps.toList (dls.zip ((List.range n).map (V b)))).toArray,defers:=a0.defers } w'):(Code.region id R true).wp P Q a0 w:=by
 have hob0:∀ b j,j < n→ObR P R n a0 (V b) (fun _ _ _=>False) (fun _=>False) j:=fun b j hj o listed a W _ _ _ hS=>hS.elim
 have hk:=yeN (P:=P) (Q:=fun _ _ _=>False) (S:=fun _=>False) hsz hb hdl hnd ha (hob0 0)
 have hg0:∀ j,j < n→(Array.replicate n false).getD j true=false:=fun j hj=>by simp [Array.getD];omega
 have hjs:∀ {j:Nat} {o:Oper},R[j]?=some o→j < n:=fun h=>by have:=(ltS h);omega
 have hlt:∀ d,some d ∈ dls→d < a0.tmps.size:=by
  intro d hd
  obtain ⟨j,hj⟩:=List.getElem?_of_mem hd
  have hjn:j < R.size:=by have:=(List.getElem?_eq_some_iff.1 hj).1;rw [← hdl] at this;simpa using this
  have ho:R[j]?=some R[j]:=Array.getElem?_eq_getElem hjn
  obtain ⟨d',h1,h2⟩:=hk.dst j _ ho (hg0 j (by omega))
  have:dls[j]?=some (R[j]).dst:=by rw [← hdl,List.getElem?_map,Array.getElem?_toList,ho];rfl
  rw [hj,h1] at this
  cases this
  exact h2
 have hset:∀ (listed:Array Bool) (i j:Nat),(listed.setIfInBounds i true).getD j true=if j=i then true else listed.getD j true:=by
  intro listed i j
  by_cases e:j=i
  ·subst e;rw [if_pos rfl];simp [Array.getD]
  ·rw [if_neg e]
   by_cases hj:j < listed.size
   ·simp [Array.getD,hj,Ne.symm e]
   ·simp [Array.getD,hj]
 refine wp_region_held_drew (S:=S) hm hS (fun hHeld=>?_)
 rw [hsz]
 refine yqQ (J:=Jb R n a0 V S T X jb) (fun j o ho=>hk.back j o ho (hg0 j (hjs ho))) (fun _ _ _ h=>?_) (fun _ _ _ h=>?_) ?_ ?_ _ _ _ _ ⟨0,⟨by rw [hsz];simp,rfl,fun _ h=>h,fun j o d _ h1 h2 _=>(by rw [h1] at h2;cases h2),fun _ _=>rfl,rfl⟩,hHeld,fun h=>absurd h (by rw [hg0 jb hjn];simp),fun j h1 h2=>absurd h2 (by rw [hg0 j (hxn j h1)];simp)⟩ ?_
 ·obtain ⟨b,h1,-⟩:=h;exact h1.size
 ·obtain ⟨b,-,h1,-⟩:=h;exact h1
 ·rintro listed a' w' ⟨b,hd,hS',hTt,-⟩ hall
  rw [ygQ hsz hdl hnd hlt hd hall]
  exact hq b w' hS' (hTt (hall jb (by omega)))
 ·rintro i o listed a' w' ho hu hdep ⟨b,hd,hS',hTt,hC⟩ K hK
  obtain ⟨d,hdst,hdl'⟩:=hk.dst i o ho (hg0 i (hjs ho))
  by_cases e:i=jb
  ·subst e
   refine hoM b o listed a' w' ho hd hdep hS' K (fun b' w'' hS'' hT''=>hK _ _ ⟨b', ?_,hS'',fun _=>hT'',fun j _ _=>by rw [hset,if_pos rfl]⟩)
   refine ymk (V:=V b') ?_ ho (hg0 i (hjs ho)) hdst hdl' hk.one
   refine ⟨hd.size,hd.defers,hd.more,fun j p d' hj hj0 hl hpd=>?_,hd.old,hd.frame⟩
   rw [hd.new j p d' hj hj0 hl hpd]
   have h1:j≠i:=by rintro rfl;rw [hu] at hl;cases hl
   have h2:X j=false:=by
    cases hX:X j
    ·rfl
    ·rw [hC j hX hl] at hu;cases hu
   rw [hV b b' j h2 h1]
  ·have hL:X i=true→listed.getD jb true=true:=by
    intro hX
    have h1:=List.all_eq_true.1 hx i (List.mem_range.2 (by rw [hsz];exact hjs ho))
    rw [hX,ho] at h1
    simp only [Bool.not_true,Bool.false_or,Option.map_some,Option.getD_some,Array.any_eq_true'] at h1
    obtain ⟨ed,hm1,hm2⟩:=h1
    rw [Bool.and_eq_true,Bool.or_eq_true] at hm2
    have h3:=hdep ed hm1 hm2.1
    have h4:listed.getD ed.on true=true:=by
     simp only [Array.getD] at h3 ⊢
     split at h3
     ·rename_i h;simp only [h,dif_pos];exact h3
     ·cases h3
    rcases hm2.2 with h5|h5
    ·rw [show ed.on=jb by simpa using h5] at h4;exact h4
    ·exact hC _ h5 h4
   have hX:X i=true→T b w':=fun h=>hTt (hL h)
   refine hob b w' i (hjs ho) e o listed a' w' ho hd hdep ⟨hS',Below.refl _ _,hX⟩ K (fun w'' hh=>hK _ _ ⟨b,ymk hd ho (hg0 i (hjs ho)) hdst hdl' hk.one,hh.1,fun hl=>?_,fun j h1 h2=>?_⟩)
   ·rw [hset,if_neg (fun h=>e h.symm)] at hl
    exact hT b w' w'' (hTt hl) hh.2.1
   ·rw [hset] at h2 ⊢
    rw [if_neg (fun h=>e h.symm)]
    by_cases e2:j=i
    ·subst e2;exact hL h1
    ·rw [if_neg e2] at h2;exact hC j h1 h2
 ·unfold left
  rw [hsz]
  exact Nat.le_trans List.countP_le_length (by simp)
end
end Go.Proofs.YtkpeklealgicpabGreatDoor
