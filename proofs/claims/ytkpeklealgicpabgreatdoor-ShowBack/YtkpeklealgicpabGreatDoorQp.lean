/-
  The document's reader in memory: structs into its command; Where.
  The document's reader in memory: lists that grow.
  The document's reader in memory: Command, all but insert.
  ParseOf of the document: all cases.
  The document's ParseOf, of the one text that the laws' first look takes.
  The laws' first look at commands, commandBegun: it answers true.
  Same of two commands in memory: alike, or of another kind; the laws' first look at texts, showBegun.
  The law ShowBack: its call.
  The law ShowBack: its call.
  The law ShowBack: its call.
  The law ShowBack: its call.
  What is shown is parsed to the same command.
  The law ShowBack: its call, of any command and any text.
-/
import Derived.Deep.AppendLies
import Derived.Deep.RegionHeldLaw
import Derived.Test.YtkpeklealgicpabGreatDoorQa
import Derived.Test.YtkpeklealgicpabGreatDoorQg
import Derived.Test.YtkpeklealgicpabGreatDoorQl
import Derived.Test.YtkpeklealgicpabGreatDoorQm
import Derived.Test.YtkpeklealgicpabGreatDoorQo

set_option maxRecDepth 100000
set_option maxHeartbeats 8000000
namespace Go.Proofs.YtkpeklealgicpabGreatDoor
open Go.RowKit
section
variable {P:Program} {ops:Array Oper} {rest:List Oper} {op:Oper} {a:Act} {w:World} {Q:Exit→Act→World→Prop} {base rb:Nat} {v:Value} {T:List Tk} {en:Int} {L:Value×Value×Value} {s:Sx} {c:Cm}
theorem Rd.putIn {w w':World} {s:Sx} {cs cs' xs:List Value} {o:Nat} (h:Rd w base rb v T en s cs) (p:Hid (w'=putAll w rb o xs)) (hb:w'.heap[rb]?=some (.cells (v::.int .i64 ((s.1:Nat):Int)::.int .i64 en::.bool s.2::cs').toArray 50)):Rd w' base rb v T en s cs':=by
 refine ⟨hb, ?_,h.lt,h.le,h.few,h.toks,h.ist⟩
 rw [p.out]
 exact h.own.kept (ybN rb xs w o) (.inr h.ne)
theorem ypH (h:RdC w base rb v T en L s c) (x:Vl) (X Y:Operand) (hi:(P.info? 24).map (·.size)=some 3) (hgd:op.guard=none) (ho:op.op=.store 24 X Y) (hx:a.eval X=.pointer (some ⟨rb,10,none⟩)) (hy:a.eval Y=.agg #[.int .i64 x.k,.int .i64 x.n,.string ⟨x.s.toArray⟩])
  (k:∀ w',RdC w' base rb v T en L s { c with val:=x }→w.grownBy w' (some rb)→wpList P ops Q rest (a.put op.dst undef) w'):wpList P ops Q (op::rest) a w:=by
 obtain ⟨ea,wa,h1,h2⟩:=h
 refine ybj 24 X Y hgd ho rb ([v,.int .i64 ((s.1:Nat):Int),.int .i64 en,.bool s.2]++(cmL c L.1 L.2.1 L.2.2 ea wa).take 6) [.int .i64 c.val.k,.int .i64 c.val.n,.string ⟨c.val.s.toArray⟩] ((cmL c L.1 L.2.1 L.2.2 ea wa).drop 9) [.int .i64 x.k,.int .i64 x.n,.string ⟨x.s.toArray⟩] 50 hx hy h1.blk rfl hi (by intro z hz;simp only [List.mem_cons,List.not_mem_nil,or_false] at hz;rcases hz with rfl|rfl|rfl <;> rfl) ?_
 intro w' hk hp
 have q:=h2.putAll (Nat.lt_succ_self rb) 10 [.int .i64 x.k,.int .i64 x.n,.string ⟨x.s.toArray⟩]
 refine k w' ⟨ea,wa,h1.putIn hp hk, ?_⟩ (by rw [hp.out];exact ybN rb _ w _)
 rw [hp.out]
 exact ⟨q.cols,q.vals,q.fields,q.expr,q.wh⟩
theorem yfY (h:RdC w base rb v T en L s c) (x:Ex) (ea':Value) (hu:ExAt (rb+1) w (exV x.k x.v x.nm ea') x) (X Y:Operand) (hi:(P.info? 29).map (·.size)=some 6) (hgd:op.guard=none) (ho:op.op=.store 29 X Y) (hx:a.eval X=.pointer (some ⟨rb,15,none⟩)) (hy:a.eval Y=.agg (exL x.k x.v x.nm ea').toArray)
  (k:∀ w',RdC w' base rb v T en L s { c with expr:=x }→w.grownBy w' (some rb)→wpList P ops Q rest (a.put op.dst undef) w'):wpList P ops Q (op::rest) a w:=by
 obtain ⟨ea,wa,h1,h2⟩:=h
 obtain ⟨k',y',nm',ao',n',ca',e'⟩:=hu.form
 have ho1:=hu.one
 refine ybj 29 X Y hgd ho rb ([v,.int .i64 ((s.1:Nat):Int),.int .i64 en,.bool s.2]++(cmL c L.1 L.2.1 L.2.2 ea wa).take 11) (exL c.expr.k c.expr.v c.expr.nm ea) ((cmL c L.1 L.2.1 L.2.2 ea wa).drop 17) (exL x.k x.v x.nm ea') 50 hx hy h1.blk rfl hi (by intro z hz;simp only [List.mem_cons,List.not_mem_nil,or_false] at hz;rcases hz with rfl|rfl|rfl|rfl|rfl|rfl <;> first|rfl|exact ho1) ?_
 intro w' hk hp
 have q:=h2.putAll (Nat.lt_succ_self rb) 15 (exL x.k x.v x.nm ea')
 have u:=hu.putAll (Nat.lt_succ_self rb) 15 (exL x.k x.v x.nm ea')
 refine k w' ⟨ea',wa,h1.putIn hp hk, ?_⟩ (by rw [hp.out];exact ybN rb _ w _)
 rw [hp.out]
 exact ⟨q.cols,q.vals,q.fields,u,q.wh⟩
theorem yfN (h:RdC w base rb v T en L s c) (x:Ex) (ea':Value) (hu:ExAt (rb+1) w (exV x.k x.v x.nm ea') x) (X Y:Operand) (hi:(P.info? 29).map (·.size)=some 6) (hgd:op.guard=none) (ho:op.op=.store 29 X Y) (hx:a.eval X=.pointer (some ⟨rb,22,none⟩)) (hy:a.eval Y=.agg (exL x.k x.v x.nm ea').toArray)
  (k:∀ w',RdC w' base rb v T en L s { c with wh:=x }→w.grownBy w' (some rb)→wpList P ops Q rest (a.put op.dst undef) w'):wpList P ops Q (op::rest) a w:=by
 obtain ⟨ea,wa,h1,h2⟩:=h
 have ho1:=hu.one
 refine ybj 29 X Y hgd ho rb ([v,.int .i64 ((s.1:Nat):Int),.int .i64 en,.bool s.2]++(cmL c L.1 L.2.1 L.2.2 ea wa).take 18) (exL c.wh.k c.wh.v c.wh.nm wa) ((cmL c L.1 L.2.1 L.2.2 ea wa).drop 24) (exL x.k x.v x.nm ea') 50 hx hy h1.blk rfl hi (by intro z hz;simp only [List.mem_cons,List.not_mem_nil,or_false] at hz;rcases hz with rfl|rfl|rfl|rfl|rfl|rfl <;> first|rfl|exact ho1) ?_
 intro w' hk hp
 have q:=h2.putAll (Nat.lt_succ_self rb) 22 (exL x.k x.v x.nm ea')
 have u:=hu.putAll (Nat.lt_succ_self rb) 22 (exL x.k x.v x.nm ea')
 refine k w' ⟨ea,ea',h1.putIn hp hk, ?_⟩ (by rw [hp.out];exact ybN rb _ w _)
 rw [hp.out]
 exact ⟨q.cols,q.vals,q.fields,q.expr,u⟩
end
theorem ytl {w:World} {base rb:Nat} {v:Value} {T:List Tk} {en:Int} {L:Value×Value×Value} {s s':Sx} {c c':Cm} (h:RdC w base rb v T en L s c) (e:ygs T c s=(c',s')) :
  Calls Tryz.prog 66 #[.pointer (some ⟨rb,0,none⟩)] w fun e w'=>e=.returned (.tuple #[])∧RdC w' base rb v T en L s' c'∧w.grownBy w' (some rb):=by
 obtain ⟨b,s1,h1⟩:∃ b s1,ybG T w_where s=(b,s1):=⟨_,_,rfl⟩
 obtain ⟨⟨x0,c0⟩,z0⟩:=ylv h
 have H1:=yae (ynk h true)
 have hlt:=h.rb_lt
 have E:=yae e
 have T1:=yae h1
 clear h e h1
 cases b with
 | false =>
  go_enter Tryz.func66,Tryz.ntmps66
  go_wp2_with fail
  refine (yhK H1.out w_where (by decide) T1.out).mono ?_
  rintro e w1 ⟨rfl,R1,g1⟩
  go_wp2
  go_end0
  have e1:ygs T c s=({ c with all:=true },s):=by unfold ygs ylo;rw [T1.out];rfl
  have:=E.out
  rw [e1] at this
  cases this
  rw [ykR T1.out] at R1
  exact ⟨rfl,R1,yaa (yaw _ rb _ _) g1⟩
 | true =>
  obtain ⟨x,s2,h2⟩:∃ x s2,ybO T 60 s1=(x,s2):=⟨_,_,rfl⟩
  have T2:=yae h2
  clear h2
  go_enter Tryz.func66,Tryz.ntmps66
  go_wp2_with fail
  refine (yhK H1.out w_where (by decide) T1.out).mono ?_
  rintro e w1 ⟨rfl,R1,g1⟩
  obtain ⟨⟨x1,c1⟩,z1⟩:=ylv R1
  have R2:=yae (ynk R1 false)
  clear R1
  go_wp2_with fail
  refine (yuF R2.out T2.out).mono ?_
  rintro e w3 ⟨⟨ea,rfl,hu⟩,R3,g3⟩
  have HU:=yae (hu.weak (B':=rb+1) (by rw [ycU];have:=g1.size;rw [ycU] at this;omega))
  have HR3:=yae R3
  clear hu R3
  go_wp2_with (refine yfN HR3.out x ea HU.out _ _ Tryz.size29 rfl rfl rfl rfl ?_;intro w4 R4 g4)
  go_end0
  have e1:ygs T c s=({ c with all:=false,wh:=x },s2):=by unfold ygs ylo thenS;rw [T1.out];simp only [if_true];rw [T2.out];rfl
  have:=E.out
  rw [e1] at this
  cases this
  exact ⟨rfl,R4,yaa (yaw _ rb _ _) (yaa g1 (yaa (yaw _ rb _ _) (yaa g3 g4)))⟩
abbrev yk1:Value:=.slice none 0 0
theorem yfg {w:World} {base rb:Nat} {v:Value} {T:List Tk} {en:Int} {s s1 s2 s3 s4 s5 s6 s7 s8 s9 s10 s11 s12:Sx} {n7:List UInt8} {n9:List UInt8} {x11:Ex} {c12:Cm} (h:RdC w base rb v T en (yk1,yk1,yk1) s cm0) (e1:ybG T w_create s=(false,s1)) (e2:ybG T w_drop s1=(false,s2)) (e3:ybG T w_alter s2=(false,s3)) (e4:ybG T w_insert s3=(false,s4)) (e5:ybG T w_delete s4=(false,s5)) (e6:ybG T w_update s5=(true,s6)) (e7:yd5 T s6=(n7,s7)) (e8:yc4 T w_set s7=((),s8)) (e9:yd5 T s8=(n9,s9)) (e10:yc4 T [61] s9=((),s10)) (e11:ybO T 60 s10=(x11,s11)) (e12:ygs T { cm0 with kind:=12,name:=n7,column:=n9,expr:=x11 } s11=(c12,s12)) :
  Calls Tryz.prog 23 #[.pointer (some ⟨rb,0,none⟩)] w fun e w'=>e=.returned (.tuple #[])∧(∃ L',RdC w' base rb v T en L' s12 c12)∧w.grownBy w' (some rb):=by
 have R0:=yae h
 clear h
 have E1:=yae e1
 have E2:=yae e2
 have E3:=yae e3
 have E4:=yae e4
 have E5:=yae e5
 have E6:=yae e6
 have E7:=yae e7
 have E8:=yae e8
 have E9:=yae e9
 have E10:=yae e10
 have E11:=yae e11
 have E12:=yae e12
 clear e1 e2 e3 e4 e5 e6 e7 e8 e9 e10 e11 e12
 go_enter Tryz.func23,Tryz.ntmps23
 go_wp2_with fail
 refine (yhK R0.out w_create (by decide) E1.out).mono ?_
 rintro e w1 ⟨rfl,r1,g1⟩
 have R1:=yae r1
 clear r1
 go_wp2_with fail
 refine (yhK R1.out w_drop (by decide) E2.out).mono ?_
 rintro e w2 ⟨rfl,r2,g2⟩
 have R2:=yae r2
 clear r2
 go_wp2_with fail
 refine (yhK R2.out w_alter (by decide) E3.out).mono ?_
 rintro e w3 ⟨rfl,r3,g3⟩
 have R3:=yae r3
 clear r3
 go_wp2_with fail
 refine (yhK R3.out w_insert (by decide) E4.out).mono ?_
 rintro e w4 ⟨rfl,r4,g4⟩
 have R4:=yae r4
 clear r4
 go_wp2_with fail
 refine (yhK R4.out w_delete (by decide) E5.out).mono ?_
 rintro e w5 ⟨rfl,r5,g5⟩
 have R5:=yae r5
 clear r5
 go_wp2_with fail
 refine (yhK R5.out w_update (by decide) E6.out).mono ?_
 rintro e w6 ⟨rfl,r6,g6⟩
 obtain ⟨⟨xkind6,ckind6⟩,zkind6⟩:=yn2 r6
 have R6:=yae (ypx r6 12)
 clear r6
 go_wp2_with fail
 refine (ysU R6.out E7.out).mono ?_
 rintro e w7 ⟨rfl,r7,g7⟩
 obtain ⟨⟨xname7,cname7⟩,zname7⟩:=yn3 r7
 have R7:=yae (ypy r7 n7)
 clear r7
 go_wp2_with fail
 refine (ysV R7.out w_set (by decide) E8.out).mono ?_
 rintro e w8 ⟨rfl,r8,g8⟩
 have R8:=yae r8
 clear r8
 go_wp2_with fail
 refine (ysU R8.out E9.out).mono ?_
 rintro e w9 ⟨rfl,r9,g9⟩
 obtain ⟨⟨xcolumn9,ccolumn9⟩,zcolumn9⟩:=yjX r9
 have R9:=yae (ykK r9 n9)
 clear r9
 go_wp2_with fail
 refine (ysV R9.out [61] (by decide) E10.out).mono ?_
 rintro e w10 ⟨rfl,r10,g10⟩
 have R10:=yae r10
 clear r10
 go_wp2_with fail
 refine (yuF R10.out E11.out).mono ?_
 rintro e w11 ⟨⟨ea11,rfl,hu11⟩,r11,g11⟩
 have R11:=yae r11
 clear r11
 have HU11:=yae (hu11.weak (B':=rb+1) (R10.out.rb_lt))
 clear hu11
 go_wp2_with (refine yfY R11.out x11 ea11 HU11.out _ _ Tryz.size29 rfl rfl rfl rfl ?_;intro v11 rv11 gv11;have RV11:=yae rv11;clear rv11)
 refine (ytl RV11.out E12.out).mono ?_
 rintro e w12 ⟨rfl,r12,g12⟩
 have R12:=yae r12
 clear r12
 go_wp2
 first|go_end0|((try simp only [Exit.inBlock,Exit.then]);refine bodyPost_ret (results_none rfl _ _ _) rfl ?_)
 exact ⟨rfl,⟨_,R12.out⟩,yaa g1 (yaa g2 (yaa g3 (yaa g4 (yaa g5 (yaa g6 (yaa (yaw _ rb _ _) (yaa g7 (yaa (yaw _ rb _ _) (yaa g8 (yaa g9 (yaa (yaw _ rb _ _) (yaa g10 (yaa g11 (yaa gv11 (g12)))))))))))))))⟩
abbrev rdZ:List Value:=.slice none 0 0::.int .i64 0::.int .i64 0::.bool false::cmZ
theorem Tryz.size50:(Tryz.prog.info? 50).map (·.size)=some 30:=by kernel_rfl
theorem ypK:(#[.slice none 0 0,.int .i64 0,.int .i64 0,.bool false,.int .i64 0,.string ⟨#[]⟩,.string ⟨#[]⟩,.string ⟨#[]⟩,.slice none 0 0,.int .i64 0,.int .i64 0,.int .i64 0,.string ⟨#[]⟩,.slice none 0 0,.slice none 0 0,.int .i64 0,.int .i64 0,.int .i64 0,.string ⟨#[]⟩,.string ⟨#[]⟩,.slice none 0 0,.bool false,.int .i64 0,.int .i64 0,.int .i64 0,.string ⟨#[]⟩,.string ⟨#[]⟩,.slice none 0 0,.string ⟨#[]⟩,.int .i64 0]:Array Value)=rdZ.toArray:=rfl
theorem Tryz.alloc50 (w:World):(Instr.alloc 50 true (.tuple #[])).run Tryz.prog w=.ok (.pointer (some ⟨w.heap.size,0,none⟩)) (w.alloc (.cells rdZ.toArray 50)):=by
 rw [← ypK]
 simp [Instr.alloc,Tryz.zeroValue50,go_sem]
theorem yiT (tmps:Array Value) (w:World) (rb:Nat) (cs:List Value) (x y:Value) (h2:tmps.getD 2 undef=.pointer (some ⟨rb,0,none⟩)) (h3:tmps.getD 3 undef=x) (h4:tmps.getD 4 undef=y)
  (hl:cs.length=26) (hr:w.heap[rb]?=some (.cells cs.toArray 31)):(results Tryz.f9 tmps).run Tryz.prog w=.ok (.tuple #[.agg cs.toArray,x,y]) w:=by
 have h:=run_loadVar_mid (P:=Tryz.prog) w rb 0 31 cs _ (fun j v hv=>by rw [Nat.zero_add,Lib.cell_of_heap hr];simpa using hv) Tryz.underlying31 rfl (by rw [hl];exact Tryz.size31)
 have h2':tmps[2]?.getD undef=.pointer (some ⟨rb,0,none⟩):=by simpa using h2
 have h3':tmps[3]?.getD undef=x:=by simpa using h3
 have h4':tmps[4]?.getD undef=y:=by simpa using h4
 simp [results,Tryz.results9,h2',h3',h4',asAddr,h]
theorem ygY {w w1 w3:World} {rb:Nat} {xs:List Value} (hr:w.heap.size≤rb) (h:Below w.heap.size w w1) (p3:w3=putAll w1 rb 0 xs):Below w.heap.size w w3:=by
 subst p3
 exact h.trans ⟨(yaj rb _ w1 0).1,(yaj rb _ w1 0).2.1,(yaj rb _ w1 0).2.2,Nat.le_of_eq (yaQ rb _ w1 0).symm,fun k hk=>yag rb _ w1 0 k (by omega)⟩
theorem yrv {w:World} {base rb:Nat} {v:Value} {s:List UInt8} {en:Int} (hb:w.heap[rb]?=some (.cells (v::.int .i64 0::.int .i64 en::.bool false::cmZ).toArray 50)) (ho:w.ownsRow base 63 3 v (yaH s).1.length (ybM (yaH s).1)) (hlt:∀ g,v.ownBlock=some g→g < rb) :
  RdC w base rb v (yaH s).1 en (yk1,yk1,yk1) (0,false) cm0 :=
 ⟨.slice none 0 0,.slice none 0 0,⟨hb,ho,hlt,Nat.zero_le _,yfC s,yeN s,ykJ s⟩,yb6 _ _ cm0 rfl rfl rfl rfl rfl⟩
theorem ypV {w:World} {base:Nat} {e:TypeId} {size:Nat} {v:Value} {n:Nat} {xs:List Value} (h:w.ownsRow base e size v n xs):∀ g,v.ownBlock=some g→g < w.heap.size:=by
 intro g hg
 rcases h.2 with ⟨hv,_⟩|⟨g',cap,cur,hv,_,hh,_⟩
 ·rw [hv] at hg;cases hg
 ·rw [hv] at hg
  cases hg
  exact (ltS hh)
theorem yh1 {w w3 w4:World} {pb:Nat} (h:Below w.heap.size w w3) (hp:w.heap.size≤pb) (g:w3.grownBy w4 (some pb)):Below w.heap.size w w4 :=
 h.trans ⟨g.os,g.tape,g.output,g.size,fun k hk=>g.block k (by have:=h.size;omega) (by simp only [ne_eq,Option.some.injEq];omega)⟩
theorem RdC.cells {w:World} {base rb:Nat} {v:Value} {T:List Tk} {en:Int} {L:Value×Value×Value} {s:Sx} {c:Cm} (h:RdC w base rb v T en L s c):w.cell? ⟨rb,1,none⟩=some (.int .i64 ((s.1:Nat):Int))∧w.cell? ⟨rb,3,none⟩=some (.bool s.2):=by
 obtain ⟨ea,wa,h1,-⟩:=h
 obtain ⟨⟨-,c1,-,c3⟩,-⟩:=rd4 h1.blk
 exact ⟨c1,c3⟩
theorem ynd {s:List UInt8} (hs:s.length≤9223372036854775000) (hE:(yaH s).2.2=0) (W:World):Calls Tryz.prog 22 #[.string ⟨s.toArray⟩] W fun e w'=>∃ ao cap A,e=.returned (.tuple #[.slice ao (yaH s).1.length cap,.int .i64 A,.int .i64 0])∧Hid (w'.ownsRow W.heap.size 63 3 (.slice ao (yaH s).1.length cap) (yaH s).1.length (ybM (yaH s).1))∧Below W.heap.size W w':=by
 refine (ykH ⟨s.toArray⟩ W (by rw [yaN];exact hs)).mono ?_
 rintro e w' ⟨v,rfl,ho,hb⟩
 have ho':w'.ownsRow W.heap.size 63 3 v (yaH s).1.length (ybM (yaH s).1):=ho
 obtain ⟨ao,cap,rfl⟩:=ybV ho'
 refine ⟨ao,cap,((yaH s).2.1:Nat), ?_,ho',hb⟩
 show Ending.returned (.tuple #[_,.int .i64 ((yaH s).2.1:Nat),.int .i64 ((yaH s).2.2:Nat)])=_
 rw [hE];rfl
theorem ytd {v:Value} {n:Int} (hv:v.oneCell'=true):∀ x ∈ (v::.int .i64 0::.int .i64 n::.bool false::cmZ:List Value),x.oneCell'=true:=by
 intro x hx
 simp only [List.mem_cons] at hx
 rcases hx with rfl|rfl|rfl|rfl|hx
 ·exact hv
 ·rfl
 ·rfl
 ·rfl
 ·exact (yb6 0 default cm0 rfl rfl rfl rfl rfl).one x (by simpa [cmZ,cmL] using hx)
structure Made (w w1 w3:World) (s:List UInt8) (rb pb:Nat) (v:Value) (en:Int):Prop where
 rd:RdC w3 w1.heap.size pb v (yaH s).1 en (yk1,yk1,yk1) (0,false) cm0
 res:w3.heap[rb]?=some (.cells cmZ.toArray 31)
 lt:rb < pb
 le:w.heap.size≤rb
 bel:Below w.heap.size w w3
theorem yrf {w W0 w1 w2 w3:World} {s:List UInt8} {rb pb:Nat} {v:Value} {en:Int} (hrb:Hid (rb=w.heap.size)) (k0:W0.heap[rb]?=some (.cells cmZ.toArray 31)) (b0:Below w.heap.size w W0) (ho:Hid (w1.ownsRow W0.heap.size 63 3 v (yaH s).1.length (ybM (yaH s).1))) (b1:Below W0.heap.size W0 w1)
  (hpb:Hid (pb=w1.heap.size)) (b2:Below w1.heap.size w1 w2) (k3:w3.heap[pb]?=some (.cells (v::.int .i64 0::.int .i64 en::.bool false::cmZ).toArray 50)) (p3:Hid (w3=putAll w2 pb 0 (v::.int .i64 0::.int .i64 en::.bool false::cmZ))):Made w W0 w3 s rb pb v en:=by
 have B1:=b0.trans (b1.mono b0.size)
 have B2:=B1.trans (b2.mono B1.size)
 have z0:=(ltS k0)
 have z1:=b1.size
 have e1:=hrb.out
 have e2:=hpb.out
 have hs3:w1.heap.size≤w3.heap.size:=by rw [p3.out,yaQ];exact b2.size
 have up:∀ k,k < w1.heap.size→w3.heap[k]?=w1.heap[k]?:=fun k hk=>by rw [p3.out];exact (yag pb _ w2 0 k (by omega)).trans (b2.block k hk)
 refine ⟨yrv k3 ?_ (fun g hg=>by have:=ypV ho.out g hg;omega), ?_,by omega,by omega,ygY (by omega) B2 p3.out⟩
 ·refine ho.out.kept (w':=w3) (row:=some pb) ⟨?_, ?_, ?_,hs3,fun k hk _=>up k hk⟩ (.inr fun h=>by have:=ypV ho.out _ h;omega)
  ·rw [p3.out,(yaj pb _ w2 0).1,b2.os]
  ·rw [p3.out,(yaj pb _ w2 0).2.1,b2.tape]
  ·rw [p3.out,(yaj pb _ w2 0).2.2,b2.output]
 ·exact (up rb (by omega)).trans ((b1.block rb z0).trans k0)
theorem Rd.range {w:World} {base rb:Nat} {v:Value} {T:List Tk} {en:Int} {s:Sx} {cs:List Value} (h:Rd w base rb v T en s cs):w.rangeAt rb 4 cs:=by
 intro j x hx
 rw [Lib.cell_of_heap h.blk,Nat.add_comm 4 j]
 simpa using hx
theorem yuk {w:World} (s:List UInt8) (j:Nat) (c:Cm) (hs:s.length≤9223372036854775000) (hE:(yaH s).2.2=0) (hj:¬ j < (yaH s).1.length)
  (hcm:∀ (W:World) (base pb:Nat) (v:Value),RdC W base pb v (yaH s).1 (s.length:Nat) (yk1,yk1,yk1) (0,false) cm0→Calls Tryz.prog 23 #[.pointer (some ⟨pb,0,none⟩)] W fun e w'=>e=.returned (.tuple #[])∧(∃ L',RdC w' base pb v (yaH s).1 (s.length:Nat) L' (j,false) c)∧W.grownBy w' (some pb))
  (hck:∀ (W:World) (cv vv fv ea wa:Value),CmIn 0 W c cv vv fv ea wa→Calls Tryz.prog 13 #[.agg (cmL c cv vv fv ea wa).toArray] W fun e w'=>e=.returned (.int .i64 0)∧Below W.heap.size W w') :
  Calls Tryz.prog 9 #[.string ⟨s.toArray⟩] w fun e w'=>(∃ u,e=.returned (.tuple #[u,.int .i64 0,.int .i64 0])∧ypL w.heap.size w' u c)∧Below w.heap.size w w':=by
 have hsc:=ynd hs hE
 have hz:(⟨s.toArray⟩:ByteArray).size=s.length:=yaN s
 have hjlt:¬ ((j:Int) < (((yaH s).1.length:Nat):Int)):=by omega
 clear hE hs hj
 go_enter Tryz.func9,Tryz.ntmps9
 go_wp2_with (first|(refine yac 2 31 cmZ rfl rfl rfl Tryz.alloc31 ?_;intro W0 rb hrb k0 b0)|(go_at_call 22;refine (hsc _).mono ?_;rintro e w1 ⟨ao,cap,A,rfl,ho,b1⟩)|(refine yac 8 50 rdZ rfl rfl rfl Tryz.alloc50 ?_;intro w2 pb hpb k2 b2)|(refine yab 50 _ _ rfl rfl pb rdZ (.slice ao (yaH s).1.length cap::.int .i64 0::.int .i64 ((s.length:Nat):Int)::.bool false::cmZ) 50 rfl rfl (by exact k2) rfl Tryz.size50 (by exact ytd rfl) ?_;intro w3 k3 p3))
 have M:=yae (yrf hrb k0 b0 ho b1 hpb b2 k3 p3)
 clear p3 k0 b0 ho b1 b2 k2 k3 hsc
 refine (hcm _ _ _ _ M.out.rd).mono ?_
 rintro e w4 ⟨rfl,⟨L',R4⟩,g4⟩
 have k4:w4.heap[rb]?=some (.cells cmZ.toArray 31):=(g4.block rb (ltS M.out.res) (by have:=M.out.lt;simp only [ne_eq,Option.some.injEq];omega)).trans M.out.res
 have B4:=yae (yh1 M.out.bel (by have:=M.out.lt;have:=M.out.le;omega) g4)
 have c1:w4.cell? ⟨pb,1,none⟩=some (.int .i64 ((j:Nat):Int)):=R4.cells.1
 have c3:w4.cell? ⟨pb,3,none⟩=some (.bool false):=R4.cells.2
 obtain ⟨ea,wa,r4,i4⟩:=R4
 obtain ⟨cv,vv,fv⟩:=L'
 have HR:=yae r4
 have HI:=yae i4
 clear r4 i4 g4 hcm
 go_wp2_with (first|(go_at_call 13;refine (hck _ _ _ _ _ _ (HI.out.weak (Nat.zero_le _))).mono ?_;rintro e w5 ⟨rfl,b5⟩;have k5:=(b5.block rb (ltS k4)).trans k4;have HR5:=yae (HR.out.below b5);have HI5:=yae (HI.out.under b5))|(refine wpList_load_mid rfl 31 _ rfl pb 4 rfl (cmL c cv vv fv ea wa) _ (by first|exact HR5.out.range|exact HR.out.range) Tryz.underlying31 rfl Tryz.size31 ?_)|(refine yab 31 _ _ rfl rfl rb cmZ (cmL c cv vv fv ea wa) 31 rfl rfl (by exact k5) rfl Tryz.size31 (by exact HI5.out.one) ?_;intro w6 k6 p6))
 have B6:=ygY M.out.le (B4.out.trans (b5.mono B4.out.size)) p6.out
 have m6:CmIn (pb+1) w6 c cv vv fv ea wa:=by
  rw [p6.out]
  exact HI5.out.putAll (by have:=M.out.lt;omega) 0 _
 exact bodyPost_ret (yiT _ _ rb (cmL c cv vv fv ea wa) _ _ rfl rfl rfl rfl k6) rfl ⟨⟨_,rfl,cv,vv,fv,ea,wa,rfl,m6.weak (by have:=M.out.lt;have:=M.out.le;omega)⟩,B6⟩
theorem yhJ:yeb (ybQ smallC) (yeJ smallC)=0:=by kernel_rfl
theorem ymQ (w:World):Calls Tryz.prog 9 #[.string ⟨smallL.toArray⟩] w fun e w'=>(∃ u,e=.returned (.tuple #[u,.int .i64 0,.int .i64 0])∧ypL w.heap.size w' u smallC)∧Below w.heap.size w w':=by
 have h16:(yaH smallL).1.length=16:=by kernel_rfl
 refine yuk smallL 16 smallC (by decide) (by kernel_rfl) (by omega) (fun W base pb v h=>?_) (fun W cv vv fv ea wa hi=>?_)
 ·exact yfg (s1:=(0,false)) (s2:=(0,false)) (s3:=(0,false)) (s4:=(0,false)) (s5:=(0,false)) (s6:=(1,false)) (s7:=(2,false)) (s8:=(3,false)) (s9:=(4,false)) (s10:=(5,false)) (s11:=(10,false)) (s12:=(16,false)) (n7:=[116]) (n9:=[97]) (x11:=smallC.expr) (c12:=smallC) h (by kernel_rfl) (by kernel_rfl) (by kernel_rfl) (by kernel_rfl) (by kernel_rfl) (by kernel_rfl) (by kernel_rfl) (by kernel_rfl) (by kernel_rfl) (by kernel_rfl) (by kernel_rfl) (by kernel_rfl)
 ·have q:=yg0 smallC cv vv fv ea wa hi yew
  rw [yhJ] at q
  exact q
theorem yiY {c:Cm} (h1:c.kind=12) (h2:c.column=[97]) (h3:c.all=false) (h4:c.expr.k=7) (h5:c.wh.k=11) {W:World} {b:Nat} {t:TypeId} {cv vv fv ea wa:Value} (h:W.heap[b]?=some (.cells (cmL c cv vv fv ea wa).toArray t)) :
  W.cell? ⟨b,0,none⟩=some (.int .i64 12)∧W.cell? ⟨b,3,none⟩=some (.string ⟨#[97]⟩)∧W.cell? ⟨b,17,none⟩=some (.bool false)∧W.cell? ⟨b,11,none⟩=some (.int .i64 7)∧W.cell? ⟨b,18,none⟩=some (.int .i64 11):=by
 have e0:W.cell? ⟨b,0,none⟩=some (.int .i64 c.kind):=(Lib.cell_of_heap h _).trans rfl
 have e3:W.cell? ⟨b,3,none⟩=some (.string ⟨c.column.toArray⟩):=(Lib.cell_of_heap h _).trans rfl
 have e17:W.cell? ⟨b,17,none⟩=some (.bool c.all):=(Lib.cell_of_heap h _).trans rfl
 have e11:W.cell? ⟨b,11,none⟩=some (.int .i64 c.expr.k):=(Lib.cell_of_heap h _).trans rfl
 have e18:W.cell? ⟨b,18,none⟩=some (.int .i64 c.wh.k):=(Lib.cell_of_heap h _).trans rfl
 rw [h1] at e0
 rw [h2] at e3
 rw [h3] at e17
 rw [h4] at e11
 rw [h5] at e18
 exact ⟨e0,e3,e17,e11,e18⟩
theorem ylh (c:Cm) (h1:c.kind=12) (h2:c.column=[97]) (h3:c.all=false) (h4:c.expr.k=7) (h5:c.wh.k=11) (hf:CmFit c) (hq:yeb (ybQ c) (yc2 c)=0) (w:World) (hl:Laid w)
  (hp:∀ W,Laid W→Calls Tryz.prog 8 #[.string ⟨#[117,112,100,97,116,101,32,116,32,115,101,116,32,97,32,61,32,40,97,32,43,32,49,41,32,119,104,101,114,101,32,40,98,32,61,32,39,120,39,41,32]⟩] W fun e w'=>(∃ cv vv fv ea wa,e=.returned (.tuple #[.agg (cmL c cv vv fv ea wa).toArray,.int .i64 0,.int .i64 0])∧Hid (CmIn W.heap.size w' c cv vv fv ea wa))∧Below W.heap.size W w') :
  Calls Tryz.prog 10 #[] w fun e w'=>e=.returned (.bool true)∧Below w.heap.size w w':=by
 have hck:∀ (W:World) (cv vv fv ea wa:Value),CmIn 0 W c cv vv fv ea wa→Laid W→Calls Tryz.prog 12 #[.agg (cmL c cv vv fv ea wa).toArray] W fun e w'=>e=.returned (.int .i64 0)∧Below W.heap.size W w':=by
  intro W cv vv fv ea wa hi hL
  rw [← hq]
  exact yea c cv vv fv ea wa hi hf hL
 have HL:=yae hl
 have hp:=hp w hl
 have hm:=fun {W:World} {b:Nat} {cv vv fv ea wa:Value}=>@yiY c h1 h2 h3 h4 h5 W b 31 cv vv fv ea wa
 clear hl h1 h2 h3 h4 h5 hq hf
 go_enter Tryz.func10,Tryz.ntmps10
 go_wp2_with fail
 refine hp.mono ?_
 rintro e w2 ⟨⟨cv,vv,fv,ea,wa,rfl,hi⟩,b2⟩
 clear hp
 go_wp2_with (first|(refine yac 1 31 cmZ rfl rfl rfl Tryz.alloc31 ?_;intro w4 cb hcb k4 b4)|(refine yab 31 _ _ rfl rfl cb cmZ (cmL c cv vv fv ea wa) 31 rfl rfl (by exact k4) rfl Tryz.size31 (by exact hi.out.one) ?_;intro w6 k6 p6;have b6:=yaU hcb b4 p6;obtain ⟨m0,m3,m17,m11,m18⟩:=hm k6;clear p6)|(refine yam 31 _ (by rfl) rfl _ (cmL c cv vv fv ea wa) 31 _ rfl (by exact k6) Tryz.underlying31 rfl Tryz.size31 ?_)|(refine (hck _ _ _ _ _ _ ((hi.out.under b6).weak (Nat.zero_le _)) ((HL.out.below b2).below b6)).mono ?_;rintro e w7 ⟨rfl,b7⟩))
 go_ret
 have q6:Below w.heap.size w w6:=b2.trans (b6.mono b2.size)
 exact ⟨rfl,q6.trans (b7.mono q6.size)⟩
theorem yb5 (w:World) (hl:Laid w):Calls Tryz.prog 10 #[] w fun e w'=>e=.returned (.bool true)∧Below w.heap.size w w':=by
 refine ylh smallC rfl rfl rfl rfl rfl yew yiZ w hl fun W hL=>?_
 have h:=yhp smallL W (by decide) hL
 rw [yfE] at h
 refine h.mono ?_
 rintro e w' ⟨⟨u,rfl,cv,vv,fv,ea,wa,rfl,hi⟩,hb⟩
 exact ⟨⟨cv,vv,fv,ea,wa,rfl,hi⟩,hb⟩
theorem yhA (c:Cm) (cv vv fv ea wa cv' vv' fv' ea' wa':Value) (w:World) (h:CmIn 0 w c cv vv fv ea wa) (h':CmIn 0 w c cv' vv' fv' ea' wa') (hf:CmFit c) :
  Calls Tryz.prog 20 #[.agg (cmL c cv vv fv ea wa).toArray,.agg (cmL c cv' vv' fv' ea' wa').toArray] w fun e w'=>e=.returned (.bool true)∧Below w.heap.size w w':=by
 obtain ⟨a1,c1,e1⟩:=h.cols.form
 obtain ⟨a2,c2,e2⟩:=h.vals.form
 obtain ⟨a3,c3,e3⟩:=h.fields.form
 obtain ⟨a1',c1',e1'⟩:=h'.cols.form
 obtain ⟨a2',c2',e2'⟩:=h'.vals.form
 obtain ⟨a3',c3',e3'⟩:=h'.fields.form
 subst e1 e2 e3 e1' e2' e3'
 refine yry c c a1 a2 a3 a1' a2' a3' c1 c2 c3 c1' c2' c3' ea wa ea' wa' w (yae rfl) (yae rfl) (yae rfl) (yae rfl) (fun W hW=>?_) (yae rfl) (yae rfl) (fun W hW=>?_) (fun W hW=>?_) (fun W hW=>?_) (yae rfl) (fun W hW=>?_) (yae rfl) (yae rfl)
 ·refine (yjN c.cols c.cols _ _ W (h.cols.under hW) (h'.cols.under hW) hf.cols).mono ?_
  rintro e w' ⟨⟨b,rfl,hb⟩,bel⟩
  rw [hb.2 rfl]
  exact ⟨rfl,bel⟩
 ·refine (yjP c.vals c.vals _ _ W (h.vals.under hW) (h'.vals.under hW) hf.vals).mono ?_
  rintro e w' ⟨⟨b,rfl,hb⟩,bel⟩
  rw [hb.2 rfl]
  exact ⟨rfl,bel⟩
 ·refine (yjO c.fields c.fields _ _ W (h.fields.under hW) (h'.fields.under hW) hf.fields).mono ?_
  rintro e w' ⟨⟨b,rfl,hb⟩,bel⟩
  rw [hb.2 rfl]
  exact ⟨rfl,bel⟩
 ·exact ypX _ c.expr c.expr _ _ w (Nat.le_refl _) h.expr h'.expr hf.expr true (by simp) W hW
 ·exact ypX _ c.wh c.wh _ _ w (Nat.le_refl _) h.wh h'.wh hf.wh true (by simp) W hW
theorem ynb (c d:Cm) (cv vv fv ea wa cv' vv' fv' ea' wa':Value) (w:World) (h:CmIn 0 w c cv vv fv ea wa) (h':CmIn 0 w d cv' vv' fv' ea' wa') (hk:c.kind≠d.kind) :
  Calls Tryz.prog 20 #[.agg (cmL c cv vv fv ea wa).toArray,.agg (cmL d cv' vv' fv' ea' wa').toArray] w fun e w'=>e=.returned (.bool false)∧Below w.heap.size w w':=by
 obtain ⟨a1,c1,e1⟩:=h.cols.form
 obtain ⟨a2,c2,e2⟩:=h.vals.form
 obtain ⟨a3,c3,e3⟩:=h.fields.form
 obtain ⟨a1',c1',e1'⟩:=h'.cols.form
 obtain ⟨a2',c2',e2'⟩:=h'.vals.form
 obtain ⟨a3',c3',e3'⟩:=h'.fields.form
 subst e1 e2 e3 e1' e2' e3'
 exact ytg c d a1 a2 a3 a1' a2' a3' c1 c2 c3 c1' c2' c3' ea wa ea' wa' w hk
theorem ync (c:Cm) (w:World) (hl:Laid w)
  (hp:∀ W,Calls Tryz.prog 9 #[.string ⟨#[117,112,100,97,116,101,32,116,32,115,101,116,32,97,32,61,32,40,97,32,43,32,49,41,32,119,104,101,114,101,32,40,98,32,61,32,39,120,39,41,32]⟩] W fun e w'=>(∃ cv vv fv ea wa,e=.returned (.tuple #[.agg (cmL c cv vv fv ea wa).toArray,.int .i64 0,.int .i64 0])∧Hid (CmIn W.heap.size w' c cv vv fv ea wa))∧Below W.heap.size W w')
  (hs:∀ (W:World) (cv vv fv ea wa:Value),CmIn 0 W c cv vv fv ea wa→Laid W→Calls Tryz.prog 17 #[.agg (cmL c cv vv fv ea wa).toArray] W fun e w'=>e=.returned (.tuple #[.string ⟨#[117,112,100,97,116,101,32,116,32,115,101,116,32,97,32,61,32,40,97,32,43,32,49,41,32,119,104,101,114,101,32,40,98,32,61,32,39,120,39,41]⟩,.int .i64 0])∧Below W.heap.size W w')
  (hm:∀ (W:World) (cv vv fv ea wa:Value),CmIn 0 W c cv vv fv ea wa→Calls Tryz.prog 20 #[.agg (cmL c cv vv fv ea wa).toArray,.agg (cmL c cv vv fv ea wa).toArray] W fun e w'=>e=.returned (.bool true)∧Below W.heap.size W w')
  (hz:∀ (W:World) (cv vv fv ea wa:Value),CmIn 0 W c cv vv fv ea wa→Calls Tryz.prog 20 #[.agg (cmL c cv vv fv ea wa).toArray,.agg #[.int .i64 0,.string ⟨#[]⟩,.string ⟨#[]⟩,.string ⟨#[]⟩,.slice none 0 0,.int .i64 0,.int .i64 0,.int .i64 0,.string ⟨#[]⟩,.slice none 0 0,.slice none 0 0,.int .i64 0,.int .i64 0,.int .i64 0,.string ⟨#[]⟩,.string ⟨#[]⟩,.slice none 0 0,.bool false,.int .i64 0,.int .i64 0,.int .i64 0,.string ⟨#[]⟩,.string ⟨#[]⟩,.slice none 0 0,.string ⟨#[]⟩,.int .i64 0]] W fun e w'=>e=.returned (.bool false)∧Below W.heap.size W w') :
  Calls Tryz.prog 19 #[] w fun e w'=>e=.returned (.bool true)∧Below w.heap.size w w':=by
 have HL:=yae hl
 have hp:=hp w
 clear hl
 go_enter Tryz.func19,Tryz.ntmps19
 go_wp2_with fail
 refine hp.mono ?_
 rintro e w1 ⟨⟨cv,vv,fv,ea,wa,rfl,i1⟩,b1⟩
 clear hp
 go_wp2_with (first|(refine yac 1 31 cmZ rfl rfl rfl Tryz.alloc31 ?_;intro w2 cb hcb k2 b2)|(refine yab 31 _ _ rfl rfl cb cmZ (cmL c cv vv fv ea wa) 31 rfl rfl (by exact k2) rfl Tryz.size31 (by exact i1.out.one) ?_;intro w3 k3 p3;have b3:=yaU hcb b2 p3;have i3:=yae (i1.out.under b3);have B3:=yae (b1.trans (b3.mono b1.size));clear p3)|(refine yam 31 _ (by rfl) rfl cb (cmL c cv vv fv ea wa) 31 _ rfl (by exact k3) Tryz.underlying31 rfl Tryz.size31 ?_))
 refine (hs _ _ _ _ _ _ (i3.out.weak (Nat.zero_le _)) (HL.out.below B3.out)).mono ?_
 rintro e w4 ⟨rfl,b4⟩
 have k4:=(b4.block cb (ltS k3)).trans k3
 have i4:=yae (i3.out.under b4)
 have B4:=yae (B3.out.trans (b4.mono B3.out.size))
 clear b1 b2 b3 b4 i1 i3 k2 k3
 go_wp2_with (refine yam 31 _ (by rfl) rfl cb (cmL c cv vv fv ea wa) 31 _ rfl (by exact k4) Tryz.underlying31 rfl Tryz.size31 ?_)
 refine (hm _ _ _ _ _ _ (i4.out.weak (Nat.zero_le _))).mono ?_
 rintro e w5 ⟨rfl,b5⟩
 have k5:=(b5.block cb (ltS k4)).trans k4
 have i5:=yae (i4.out.under b5)
 have B5:=yae (B4.out.trans (b5.mono B4.out.size))
 clear b5 i4 k4
 go_wp2_with (refine yam 31 _ (by rfl) rfl cb (cmL c cv vv fv ea wa) 31 _ rfl (by exact k5) Tryz.underlying31 rfl Tryz.size31 ?_)
 refine (hz _ _ _ _ _ _ (i5.out.weak (Nat.zero_le _))).mono ?_
 rintro e w6 ⟨rfl,b6⟩
 go_wp2
 go_ret
 exact ⟨rfl,B5.out.trans (b6.mono B5.out.size)⟩
theorem ykP:yc6 smallC=[117,112,100,97,116,101,32,116,32,115,101,116,32,97,32,61,32,40,97,32,43,32,49,41,32,119,104,101,114,101,32,40,98,32,61,32,39,120,39,41]:=by kernel_rfl
theorem yb7 (w:World) (hl:Laid w):Calls Tryz.prog 19 #[] w fun e w'=>e=.returned (.bool true)∧Below w.heap.size w w':=by
 refine ync smallC w hl (fun W=>?_) (fun W cv vv fv ea wa hi hL=>?_) (fun W cv vv fv ea wa hi=>?_) (fun W cv vv fv ea wa hi=>?_)
 ·refine (ymQ W).mono ?_
  rintro e w' ⟨⟨u,rfl,cv,vv,fv,ea,wa,rfl,hi⟩,hb⟩
  exact ⟨⟨cv,vv,fv,ea,wa,rfl,hi⟩,hb⟩
 ·have h:=ygM smallC cv vv fv ea wa hi yew hL
  rw [ykP,yhJ] at h
  exact h
 ·exact yhA smallC cv vv fv ea wa cv vv fv ea wa W hi hi yew
 ·exact ynb smallC cm0 cv vv fv ea wa (.slice none 0 0) (.slice none 0 0) (.slice none 0 0) (.slice none 0 0) (.slice none 0 0) W hi (yb6 0 W cm0 rfl rfl rfl rfl rfl) (by decide)
theorem yir {W:World} {b:Nat} {t:TypeId} {c:Cm} {cv vv fv ea wa:Value} (h:W.heap[b]?=some (.cells (cmL c cv vv fv ea wa).toArray t)):W.cell? ⟨b,0,none⟩=some (.int .i64 c.kind):=(Lib.cell_of_heap h _).trans rfl
abbrev ybt (s:ByteArray) (c:Cm) (E:Int):Prop:=∀ W,Laid W→Calls Tryz.prog 8 #[.string s] W fun e w'=>(∃ A cv vv fv ea wa,e=.returned (.tuple #[.agg (cmL c cv vv fv ea wa).toArray,.int .i64 A,.int .i64 E])∧Hid (CmIn W.heap.size w' c cv vv fv ea wa))∧Below W.heap.size W w'
abbrev yhZ (c:Cm) (s:ByteArray):Prop:=∀ (W:World) (cv vv fv ea wa:Value),CmIn 0 W c cv vv fv ea wa→Laid W→Calls Tryz.prog 17 #[.agg (cmL c cv vv fv ea wa).toArray] W fun e w'=>e=.returned (.tuple #[.string s,.int .i64 0])∧Below W.heap.size W w'
abbrev yhW (c:Cm):Prop:=∀ (W:World) (cv vv fv ea wa cv' vv' fv' ea' wa':Value),CmIn 0 W c cv vv fv ea wa→CmIn 0 W c cv' vv' fv' ea' wa'→Calls Tryz.prog 20 #[.agg (cmL c cv vv fv ea wa).toArray,.agg (cmL c cv' vv' fv' ea' wa').toArray] W fun e w'=>e=.returned (.bool true)∧Below W.heap.size W w'
theorem yqj (c d:Cm) (S s:ByteArray) (E F:Int) (cv vv fv ea wa:Value) (w:World) (hi:CmIn 0 w c cv vv fv ea wa) (hl:Laid w) (hs1:∀ W,Below w.heap.size w W→Laid W→Calls Tryz.prog 17 #[.agg (cmL c cv vv fv ea wa).toArray] W fun e w'=>e=.returned (.tuple #[.string S,.int .i64 E])∧Below W.heap.size W w') (hE:(E == 0)=false) (hp2:ybt s d F) (hF:(F == 0)=false) (hk:Hid (d.kind=0)) :
  Calls Tryz.prog 7 #[.agg (cmL c cv vv fv ea wa).toArray,.string s] w fun e w'=>e=.returned (.bool true)∧Below w.heap.size w w':=by
 have HL:=yae hl
 have HI:=yae hi
 clear hl hi
 go_enter Tryz.func7,Tryz.ntmps7
 go_wp2_with (refine yaW 2 31 _ (cmL c cv vv fv ea wa) rfl rfl rfl rfl ?_;intro W0 rb hrb krb0 b0;have irb0:=yae (HI.out.under b0);have B0:=yae b0;clear b0)
 refine (yb7 _ (HL.out.below B0.out)).mono ?_
 rintro e W1 ⟨rfl,b1⟩
 have krb1:=(b1.block rb (ltS krb0)).trans krb0
 have irb1:=yae (irb0.out.under b1)
 have B1:Hid (Below w.heap.size w W1):=B0.out.trans (b1.mono B0.out.size)
 clear b1 krb0 irb0
 go_wp2_with fail
 refine (yb5 _ (HL.out.below B1.out)).mono ?_
 rintro e W2 ⟨rfl,b2⟩
 have krb2:=(b2.block rb (ltS krb1)).trans krb1
 have irb2:=yae (irb1.out.under b2)
 have B2:Hid (Below w.heap.size w W2):=B1.out.trans (b2.mono B1.out.size)
 clear b2 krb1 irb1
 go_wp2_with (refine yam 31 _ (by rfl) rfl rb (cmL c cv vv fv ea wa) 31 _ rfl (by exact krb2) Tryz.underlying31 rfl Tryz.size31 ?_)
 refine (hs1 _ B2.out (HL.out.below B2.out)).mono ?_
 rintro e W3 ⟨rfl,b3⟩
 have krb3:=(b3.block rb (ltS krb2)).trans krb2
 have irb3:=yae (irb2.out.under b3)
 have B3:Hid (Below w.heap.size w W3):=B2.out.trans (b3.mono B2.out.size)
 clear b3 krb2 irb2
 clear krb3 irb3
 go_wp2_with fail
 refine (hp2 _ (HL.out.below B3.out)).mono ?_
 rintro e P4 ⟨⟨A4,y1sb,y2sb,y3sb,y4sb,y5sb,rfl,isbp⟩,b4⟩
 have B4:Hid (Below w.heap.size w P4):=B3.out.trans (b4.mono B3.out.size)
 clear b4
 go_wp2_with (first|(refine yac 10 31 cmZ rfl rfl rfl Tryz.alloc31 ?_;intro q4 sb hsb kk4 bb4)|(refine yab 31 _ _ rfl rfl sb cmZ (cmL d y1sb y2sb y3sb y4sb y5sb) 31 rfl rfl (by exact kk4) rfl Tryz.size31 (by exact isbp.out.one) ?_;intro Q4 ksb5 ps4;have bs4:=yaU hsb bb4 ps4;have isb5:=yae (isbp.out.under bs4);have B5:Hid (Below w.heap.size w Q4):=B4.out.trans (bs4.mono B4.out.size);clear bs4 ;clear ps4;have hkk:=yir ksb5;rw [hk.out] at hkk))
 go_ret
 exact ⟨rfl,B5.out⟩
theorem yqd (c d:Cm) (S s:ByteArray) (F:Int) (cv vv fv ea wa:Value) (w:World) (hi:CmIn 0 w c cv vv fv ea wa) (hl:Laid w) (hs1:∀ W,Below w.heap.size w W→Laid W→Calls Tryz.prog 17 #[.agg (cmL c cv vv fv ea wa).toArray] W fun e w'=>e=.returned (.tuple #[.string S,.int .i64 0])∧Below W.heap.size W w') (hlen:(S.size:Int)≤2000) (hp1:ybt S c 0) (hm1:yhW c) (hp2:ybt s d F) (hF:(F == 0)=false) (hk:Hid (d.kind=0)) :
  Calls Tryz.prog 7 #[.agg (cmL c cv vv fv ea wa).toArray,.string s] w fun e w'=>e=.returned (.bool true)∧Below w.heap.size w w':=by
 have HL:=yae hl
 have HI:=yae hi
 clear hl hi
 go_enter Tryz.func7,Tryz.ntmps7
 go_wp2_with (refine yaW 2 31 _ (cmL c cv vv fv ea wa) rfl rfl rfl rfl ?_;intro W0 rb hrb krb0 b0;have irb0:=yae (HI.out.under b0);have B0:=yae b0;clear b0)
 refine (yb7 _ (HL.out.below B0.out)).mono ?_
 rintro e W1 ⟨rfl,b1⟩
 have krb1:=(b1.block rb (ltS krb0)).trans krb0
 have irb1:=yae (irb0.out.under b1)
 have B1:Hid (Below w.heap.size w W1):=B0.out.trans (b1.mono B0.out.size)
 clear b1 krb0 irb0
 go_wp2_with fail
 refine (yb5 _ (HL.out.below B1.out)).mono ?_
 rintro e W2 ⟨rfl,b2⟩
 have krb2:=(b2.block rb (ltS krb1)).trans krb1
 have irb2:=yae (irb1.out.under b2)
 have B2:Hid (Below w.heap.size w W2):=B1.out.trans (b2.mono B1.out.size)
 clear b2 krb1 irb1
 go_wp2_with (refine yam 31 _ (by rfl) rfl rb (cmL c cv vv fv ea wa) 31 _ rfl (by exact krb2) Tryz.underlying31 rfl Tryz.size31 ?_)
 refine (hs1 _ B2.out (HL.out.below B2.out)).mono ?_
 rintro e W3 ⟨rfl,b3⟩
 have krb3:=(b3.block rb (ltS krb2)).trans krb2
 have irb3:=yae (irb2.out.under b3)
 have B3:Hid (Below w.heap.size w W3):=B2.out.trans (b3.mono B2.out.size)
 clear b3 krb2 irb2
 go_wp2_with fail
 refine (hp1 _ (HL.out.below B3.out)).mono ?_
 rintro e P4 ⟨⟨A4,y1db,y2db,y3db,y4db,y5db,rfl,idbp⟩,b4⟩
 have krb4:=(b4.block rb (ltS krb3)).trans krb3
 have irb4:=yae (irb3.out.under b4)
 have B4:Hid (Below w.heap.size w P4):=B3.out.trans (b4.mono B3.out.size)
 clear b4 krb3 irb3
 go_wp2_with (first|(refine yac 7 31 cmZ rfl rfl rfl Tryz.alloc31 ?_;intro q4 db hdb kk4 bb4)|(refine yab 31 _ _ rfl rfl db cmZ (cmL c y1db y2db y3db y4db y5db) 31 rfl rfl (by exact kk4) rfl Tryz.size31 (by exact idbp.out.one) ?_;intro Q4 kdb5 ps4;have bs4:=yaU hdb bb4 ps4;have idb5:=yae (idbp.out.under bs4);have krb5:=(bs4.block rb (ltS krb4)).trans krb4;have irb5:=yae (irb4.out.under bs4);have B5:Hid (Below w.heap.size w Q4):=B4.out.trans (bs4.mono B4.out.size);clear bs4 krb4 irb4;clear ps4)|(refine yam 31 _ (by rfl) rfl rb (cmL c cv vv fv ea wa) 31 _ rfl (by exact krb5) Tryz.underlying31 rfl Tryz.size31 ?_)|(refine yam 31 _ (by rfl) rfl db (cmL c y1db y2db y3db y4db y5db) 31 _ rfl (by exact kdb5) Tryz.underlying31 rfl Tryz.size31 ?_))
 refine (hm1 _ _ _ _ _ _ _ _ _ _ _ (irb5.out.weak (Nat.zero_le _)) (idb5.out.weak (Nat.zero_le _))).mono ?_
 rintro e W6 ⟨rfl,b6⟩
 have krb6:=(b6.block rb (ltS krb5)).trans krb5
 have irb6:=yae (irb5.out.under b6)
 have kdb6:=(b6.block db (ltS kdb5)).trans kdb5
 have idb6:=yae (idb5.out.under b6)
 have B6:Hid (Below w.heap.size w W6):=B5.out.trans (b6.mono B5.out.size)
 clear b6 krb5 irb5 kdb5 idb5
 clear krb6 irb6 kdb6 idb6
 go_wp2_with fail
 refine (hp2 _ (HL.out.below B6.out)).mono ?_
 rintro e P7 ⟨⟨A7,y1sb,y2sb,y3sb,y4sb,y5sb,rfl,isbp⟩,b7⟩
 have B7:Hid (Below w.heap.size w P7):=B6.out.trans (b7.mono B6.out.size)
 clear b7
 go_wp2_with (first|(refine yac 10 31 cmZ rfl rfl rfl Tryz.alloc31 ?_;intro q7 sb hsb kk7 bb7)|(refine yab 31 _ _ rfl rfl sb cmZ (cmL d y1sb y2sb y3sb y4sb y5sb) 31 rfl rfl (by exact kk7) rfl Tryz.size31 (by exact isbp.out.one) ?_;intro Q7 ksb8 ps7;have bs7:=yaU hsb bb7 ps7;have isb8:=yae (isbp.out.under bs7);have B8:Hid (Below w.heap.size w Q7):=B7.out.trans (bs7.mono B7.out.size);clear bs7 ;clear ps7;have hkk:=yir ksb8;rw [hk.out] at hkk))
 go_ret
 exact ⟨rfl,B8.out⟩
theorem yqg (c d:Cm) (S s:ByteArray) (F:Int) (cv vv fv ea wa:Value) (w:World) (hi:CmIn 0 w c cv vv fv ea wa) (hl:Laid w) (hs1:∀ W,Below w.heap.size w W→Laid W→Calls Tryz.prog 17 #[.agg (cmL c cv vv fv ea wa).toArray] W fun e w'=>e=.returned (.tuple #[.string S,.int .i64 0])∧Below W.heap.size W w') (hlen:¬ (S.size:Int)≤2000) (hp2:ybt s d F) (hF:(F == 0)=false) (hk:Hid (d.kind=0)) :
  Calls Tryz.prog 7 #[.agg (cmL c cv vv fv ea wa).toArray,.string s] w fun e w'=>e=.returned (.bool true)∧Below w.heap.size w w':=by
 have HL:=yae hl
 have HI:=yae hi
 clear hl hi
 go_enter Tryz.func7,Tryz.ntmps7
 go_wp2_with (refine yaW 2 31 _ (cmL c cv vv fv ea wa) rfl rfl rfl rfl ?_;intro W0 rb hrb krb0 b0;have irb0:=yae (HI.out.under b0);have B0:=yae b0;clear b0)
 refine (yb7 _ (HL.out.below B0.out)).mono ?_
 rintro e W1 ⟨rfl,b1⟩
 have krb1:=(b1.block rb (ltS krb0)).trans krb0
 have irb1:=yae (irb0.out.under b1)
 have B1:Hid (Below w.heap.size w W1):=B0.out.trans (b1.mono B0.out.size)
 clear b1 krb0 irb0
 go_wp2_with fail
 refine (yb5 _ (HL.out.below B1.out)).mono ?_
 rintro e W2 ⟨rfl,b2⟩
 have krb2:=(b2.block rb (ltS krb1)).trans krb1
 have irb2:=yae (irb1.out.under b2)
 have B2:Hid (Below w.heap.size w W2):=B1.out.trans (b2.mono B1.out.size)
 clear b2 krb1 irb1
 go_wp2_with (refine yam 31 _ (by rfl) rfl rb (cmL c cv vv fv ea wa) 31 _ rfl (by exact krb2) Tryz.underlying31 rfl Tryz.size31 ?_)
 refine (hs1 _ B2.out (HL.out.below B2.out)).mono ?_
 rintro e W3 ⟨rfl,b3⟩
 have krb3:=(b3.block rb (ltS krb2)).trans krb2
 have irb3:=yae (irb2.out.under b3)
 have B3:Hid (Below w.heap.size w W3):=B2.out.trans (b3.mono B2.out.size)
 clear b3 krb2 irb2
 clear krb3 irb3
 go_wp2_with fail
 refine (hp2 _ (HL.out.below B3.out)).mono ?_
 rintro e P4 ⟨⟨A4,y1sb,y2sb,y3sb,y4sb,y5sb,rfl,isbp⟩,b4⟩
 have B4:Hid (Below w.heap.size w P4):=B3.out.trans (b4.mono B3.out.size)
 clear b4
 go_wp2_with (first|(refine yac 10 31 cmZ rfl rfl rfl Tryz.alloc31 ?_;intro q4 sb hsb kk4 bb4)|(refine yab 31 _ _ rfl rfl sb cmZ (cmL d y1sb y2sb y3sb y4sb y5sb) 31 rfl rfl (by exact kk4) rfl Tryz.size31 (by exact isbp.out.one) ?_;intro Q4 ksb5 ps4;have bs4:=yaU hsb bb4 ps4;have isb5:=yae (isbp.out.under bs4);have B5:Hid (Below w.heap.size w Q4):=B4.out.trans (bs4.mono B4.out.size);clear bs4 ;clear ps4;have hkk:=yir ksb5;rw [hk.out] at hkk))
 go_ret
 exact ⟨rfl,B5.out⟩
theorem yqi (c d x:Cm) (S s S2:ByteArray) (E G:Int) (cv vv fv ea wa:Value) (w:World) (hi:CmIn 0 w c cv vv fv ea wa) (hl:Laid w) (hs1:∀ W,Below w.heap.size w W→Laid W→Calls Tryz.prog 17 #[.agg (cmL c cv vv fv ea wa).toArray] W fun e w'=>e=.returned (.tuple #[.string S,.int .i64 E])∧Below W.heap.size W w') (hE:(E == 0)=false) (hp2:ybt s d 0) (hs2:yhZ d S2) (hlen2:2000 < (S2.size:Int)) (hp3:ybt S2 x G) :
  Calls Tryz.prog 7 #[.agg (cmL c cv vv fv ea wa).toArray,.string s] w fun e w'=>e=.returned (.bool true)∧Below w.heap.size w w':=by
 have HL:=yae hl
 have HI:=yae hi
 clear hl hi
 go_enter Tryz.func7,Tryz.ntmps7
 go_wp2_with (refine yaW 2 31 _ (cmL c cv vv fv ea wa) rfl rfl rfl rfl ?_;intro W0 rb hrb krb0 b0;have irb0:=yae (HI.out.under b0);have B0:=yae b0;clear b0)
 refine (yb7 _ (HL.out.below B0.out)).mono ?_
 rintro e W1 ⟨rfl,b1⟩
 have krb1:=(b1.block rb (ltS krb0)).trans krb0
 have irb1:=yae (irb0.out.under b1)
 have B1:Hid (Below w.heap.size w W1):=B0.out.trans (b1.mono B0.out.size)
 clear b1 krb0 irb0
 go_wp2_with fail
 refine (yb5 _ (HL.out.below B1.out)).mono ?_
 rintro e W2 ⟨rfl,b2⟩
 have krb2:=(b2.block rb (ltS krb1)).trans krb1
 have irb2:=yae (irb1.out.under b2)
 have B2:Hid (Below w.heap.size w W2):=B1.out.trans (b2.mono B1.out.size)
 clear b2 krb1 irb1
 go_wp2_with (refine yam 31 _ (by rfl) rfl rb (cmL c cv vv fv ea wa) 31 _ rfl (by exact krb2) Tryz.underlying31 rfl Tryz.size31 ?_)
 refine (hs1 _ B2.out (HL.out.below B2.out)).mono ?_
 rintro e W3 ⟨rfl,b3⟩
 have krb3:=(b3.block rb (ltS krb2)).trans krb2
 have irb3:=yae (irb2.out.under b3)
 have B3:Hid (Below w.heap.size w W3):=B2.out.trans (b3.mono B2.out.size)
 clear b3 krb2 irb2
 clear krb3 irb3
 go_wp2_with fail
 refine (hp2 _ (HL.out.below B3.out)).mono ?_
 rintro e P4 ⟨⟨A4,y1sb,y2sb,y3sb,y4sb,y5sb,rfl,isbp⟩,b4⟩
 have B4:Hid (Below w.heap.size w P4):=B3.out.trans (b4.mono B3.out.size)
 clear b4
 go_wp2_with (first|(refine yac 10 31 cmZ rfl rfl rfl Tryz.alloc31 ?_;intro q4 sb hsb kk4 bb4)|(refine yab 31 _ _ rfl rfl sb cmZ (cmL d y1sb y2sb y3sb y4sb y5sb) 31 rfl rfl (by exact kk4) rfl Tryz.size31 (by exact isbp.out.one) ?_;intro Q4 ksb5 ps4;have bs4:=yaU hsb bb4 ps4;have isb5:=yae (isbp.out.under bs4);have B5:Hid (Below w.heap.size w Q4):=B4.out.trans (bs4.mono B4.out.size);clear bs4 ;clear ps4)|(refine yam 31 _ (by rfl) rfl sb (cmL d y1sb y2sb y3sb y4sb y5sb) 31 _ rfl (by exact ksb5) Tryz.underlying31 rfl Tryz.size31 ?_))
 refine (hs2 _ _ _ _ _ _ (isb5.out.weak (Nat.zero_le _)) (HL.out.below B5.out)).mono ?_
 rintro e W6 ⟨rfl,b6⟩
 have ksb6:=(b6.block sb (ltS ksb5)).trans ksb5
 have isb6:=yae (isb5.out.under b6)
 have B6:Hid (Below w.heap.size w W6):=B5.out.trans (b6.mono B5.out.size)
 clear b6 ksb5 isb5
 go_wp2_with fail
 refine (hp3 _ (HL.out.below B6.out)).mono ?_
 rintro e P7 ⟨⟨A7,y1tb,y2tb,y3tb,y4tb,y5tb,rfl,itbp⟩,b7⟩
 have ksb7:=(b7.block sb (ltS ksb6)).trans ksb6
 have isb7:=yae (isb6.out.under b7)
 have B7:Hid (Below w.heap.size w P7):=B6.out.trans (b7.mono B6.out.size)
 clear b7 ksb6 isb6
 go_wp2_with (first|(refine yac 12 31 cmZ rfl rfl rfl Tryz.alloc31 ?_;intro q7 tb htb kk7 bb7)|(refine yab 31 _ _ rfl rfl tb cmZ (cmL x y1tb y2tb y3tb y4tb y5tb) 31 rfl rfl (by exact kk7) rfl Tryz.size31 (by exact itbp.out.one) ?_;intro Q7 ktb8 ps7;have bs7:=yaU htb bb7 ps7;have itb8:=yae (itbp.out.under bs7);have ksb8:=(bs7.block sb (ltS ksb7)).trans ksb7;have isb8:=yae (isb7.out.under bs7);have B8:Hid (Below w.heap.size w Q7):=B7.out.trans (bs7.mono B7.out.size);clear bs7 ksb7 isb7;clear ps7))
 go_ret
 exact ⟨rfl,B8.out⟩
theorem yqb (c d:Cm) (S s S2:ByteArray)  (cv vv fv ea wa:Value) (w:World) (hi:CmIn 0 w c cv vv fv ea wa) (hl:Laid w) (hs1:∀ W,Below w.heap.size w W→Laid W→Calls Tryz.prog 17 #[.agg (cmL c cv vv fv ea wa).toArray] W fun e w'=>e=.returned (.tuple #[.string S,.int .i64 0])∧Below W.heap.size W w') (hlen:(S.size:Int)≤2000) (hp1:ybt S c 0) (hm1:yhW c) (hp2:ybt s d 0) (hs2:yhZ d S2) (hlen2:¬ 2000 < (S2.size:Int)) (hp3:ybt S2 d 0) (hm2:yhW d) :
  Calls Tryz.prog 7 #[.agg (cmL c cv vv fv ea wa).toArray,.string s] w fun e w'=>e=.returned (.bool true)∧Below w.heap.size w w':=by
 have HL:=yae hl
 have HI:=yae hi
 clear hl hi
 go_enter Tryz.func7,Tryz.ntmps7
 go_wp2_with (refine yaW 2 31 _ (cmL c cv vv fv ea wa) rfl rfl rfl rfl ?_;intro W0 rb hrb krb0 b0;have irb0:=yae (HI.out.under b0);have B0:=yae b0;clear b0)
 refine (yb7 _ (HL.out.below B0.out)).mono ?_
 rintro e W1 ⟨rfl,b1⟩
 have krb1:=(b1.block rb (ltS krb0)).trans krb0
 have irb1:=yae (irb0.out.under b1)
 have B1:Hid (Below w.heap.size w W1):=B0.out.trans (b1.mono B0.out.size)
 clear b1 krb0 irb0
 go_wp2_with fail
 refine (yb5 _ (HL.out.below B1.out)).mono ?_
 rintro e W2 ⟨rfl,b2⟩
 have krb2:=(b2.block rb (ltS krb1)).trans krb1
 have irb2:=yae (irb1.out.under b2)
 have B2:Hid (Below w.heap.size w W2):=B1.out.trans (b2.mono B1.out.size)
 clear b2 krb1 irb1
 go_wp2_with (refine yam 31 _ (by rfl) rfl rb (cmL c cv vv fv ea wa) 31 _ rfl (by exact krb2) Tryz.underlying31 rfl Tryz.size31 ?_)
 refine (hs1 _ B2.out (HL.out.below B2.out)).mono ?_
 rintro e W3 ⟨rfl,b3⟩
 have krb3:=(b3.block rb (ltS krb2)).trans krb2
 have irb3:=yae (irb2.out.under b3)
 have B3:Hid (Below w.heap.size w W3):=B2.out.trans (b3.mono B2.out.size)
 clear b3 krb2 irb2
 go_wp2_with fail
 refine (hp1 _ (HL.out.below B3.out)).mono ?_
 rintro e P4 ⟨⟨A4,y1db,y2db,y3db,y4db,y5db,rfl,idbp⟩,b4⟩
 have krb4:=(b4.block rb (ltS krb3)).trans krb3
 have irb4:=yae (irb3.out.under b4)
 have B4:Hid (Below w.heap.size w P4):=B3.out.trans (b4.mono B3.out.size)
 clear b4 krb3 irb3
 go_wp2_with (first|(refine yac 7 31 cmZ rfl rfl rfl Tryz.alloc31 ?_;intro q4 db hdb kk4 bb4)|(refine yab 31 _ _ rfl rfl db cmZ (cmL c y1db y2db y3db y4db y5db) 31 rfl rfl (by exact kk4) rfl Tryz.size31 (by exact idbp.out.one) ?_;intro Q4 kdb5 ps4;have bs4:=yaU hdb bb4 ps4;have idb5:=yae (idbp.out.under bs4);have krb5:=(bs4.block rb (ltS krb4)).trans krb4;have irb5:=yae (irb4.out.under bs4);have B5:Hid (Below w.heap.size w Q4):=B4.out.trans (bs4.mono B4.out.size);clear bs4 krb4 irb4;clear ps4)|(refine yam 31 _ (by rfl) rfl rb (cmL c cv vv fv ea wa) 31 _ rfl (by exact krb5) Tryz.underlying31 rfl Tryz.size31 ?_)|(refine yam 31 _ (by rfl) rfl db (cmL c y1db y2db y3db y4db y5db) 31 _ rfl (by exact kdb5) Tryz.underlying31 rfl Tryz.size31 ?_))
 refine (hm1 _ _ _ _ _ _ _ _ _ _ _ (irb5.out.weak (Nat.zero_le _)) (idb5.out.weak (Nat.zero_le _))).mono ?_
 rintro e W6 ⟨rfl,b6⟩
 have krb6:=(b6.block rb (ltS krb5)).trans krb5
 have irb6:=yae (irb5.out.under b6)
 have kdb6:=(b6.block db (ltS kdb5)).trans kdb5
 have idb6:=yae (idb5.out.under b6)
 have B6:Hid (Below w.heap.size w W6):=B5.out.trans (b6.mono B5.out.size)
 clear b6 krb5 irb5 kdb5 idb5
 clear krb6 irb6 kdb6 idb6
 go_wp2_with fail
 refine (hp2 _ (HL.out.below B6.out)).mono ?_
 rintro e P7 ⟨⟨A7,y1sb,y2sb,y3sb,y4sb,y5sb,rfl,isbp⟩,b7⟩
 have B7:Hid (Below w.heap.size w P7):=B6.out.trans (b7.mono B6.out.size)
 clear b7
 go_wp2_with (first|(refine yac 10 31 cmZ rfl rfl rfl Tryz.alloc31 ?_;intro q7 sb hsb kk7 bb7)|(refine yab 31 _ _ rfl rfl sb cmZ (cmL d y1sb y2sb y3sb y4sb y5sb) 31 rfl rfl (by exact kk7) rfl Tryz.size31 (by exact isbp.out.one) ?_;intro Q7 ksb8 ps7;have bs7:=yaU hsb bb7 ps7;have isb8:=yae (isbp.out.under bs7);have B8:Hid (Below w.heap.size w Q7):=B7.out.trans (bs7.mono B7.out.size);clear bs7 ;clear ps7)|(refine yam 31 _ (by rfl) rfl sb (cmL d y1sb y2sb y3sb y4sb y5sb) 31 _ rfl (by exact ksb8) Tryz.underlying31 rfl Tryz.size31 ?_))
 refine (hs2 _ _ _ _ _ _ (isb8.out.weak (Nat.zero_le _)) (HL.out.below B8.out)).mono ?_
 rintro e W9 ⟨rfl,b9⟩
 have ksb9:=(b9.block sb (ltS ksb8)).trans ksb8
 have isb9:=yae (isb8.out.under b9)
 have B9:Hid (Below w.heap.size w W9):=B8.out.trans (b9.mono B8.out.size)
 clear b9 ksb8 isb8
 go_wp2_with fail
 refine (hp3 _ (HL.out.below B9.out)).mono ?_
 rintro e P10 ⟨⟨A10,y1tb,y2tb,y3tb,y4tb,y5tb,rfl,itbp⟩,b10⟩
 have ksb10:=(b10.block sb (ltS ksb9)).trans ksb9
 have isb10:=yae (isb9.out.under b10)
 have B10:Hid (Below w.heap.size w P10):=B9.out.trans (b10.mono B9.out.size)
 clear b10 ksb9 isb9
 go_wp2_with (first|(refine yac 12 31 cmZ rfl rfl rfl Tryz.alloc31 ?_;intro q10 tb htb kk10 bb10)|(refine yab 31 _ _ rfl rfl tb cmZ (cmL d y1tb y2tb y3tb y4tb y5tb) 31 rfl rfl (by exact kk10) rfl Tryz.size31 (by exact itbp.out.one) ?_;intro Q10 ktb11 ps10;have bs10:=yaU htb bb10 ps10;have itb11:=yae (itbp.out.under bs10);have ksb11:=(bs10.block sb (ltS ksb10)).trans ksb10;have isb11:=yae (isb10.out.under bs10);have B11:Hid (Below w.heap.size w Q10):=B10.out.trans (bs10.mono B10.out.size);clear bs10 ksb10 isb10;clear ps10)|(refine yam 31 _ (by rfl) rfl sb (cmL d y1sb y2sb y3sb y4sb y5sb) 31 _ rfl (by exact ksb11) Tryz.underlying31 rfl Tryz.size31 ?_)|(refine yam 31 _ (by rfl) rfl tb (cmL d y1tb y2tb y3tb y4tb y5tb) 31 _ rfl (by exact ktb11) Tryz.underlying31 rfl Tryz.size31 ?_))
 refine (hm2 _ _ _ _ _ _ _ _ _ _ _ (isb11.out.weak (Nat.zero_le _)) (itb11.out.weak (Nat.zero_le _))).mono ?_
 rintro e W12 ⟨rfl,b12⟩
 have ksb12:=(b12.block sb (ltS ksb11)).trans ksb11
 have isb12:=yae (isb11.out.under b12)
 have ktb12:=(b12.block tb (ltS ktb11)).trans ktb11
 have itb12:=yae (itb11.out.under b12)
 have B12:Hid (Below w.heap.size w W12):=B11.out.trans (b12.mono B11.out.size)
 clear b12 ksb11 isb11 ktb11 itb11
 go_wp2
 go_ret
 exact ⟨rfl,B12.out⟩
theorem yqc (c d x:Cm) (S s S2:ByteArray) (G:Int) (cv vv fv ea wa:Value) (w:World) (hi:CmIn 0 w c cv vv fv ea wa) (hl:Laid w) (hs1:∀ W,Below w.heap.size w W→Laid W→Calls Tryz.prog 17 #[.agg (cmL c cv vv fv ea wa).toArray] W fun e w'=>e=.returned (.tuple #[.string S,.int .i64 0])∧Below W.heap.size W w') (hlen:(S.size:Int)≤2000) (hp1:ybt S c 0) (hm1:yhW c) (hp2:ybt s d 0) (hs2:yhZ d S2) (hlen2:2000 < (S2.size:Int)) (hp3:ybt S2 x G) :
  Calls Tryz.prog 7 #[.agg (cmL c cv vv fv ea wa).toArray,.string s] w fun e w'=>e=.returned (.bool true)∧Below w.heap.size w w':=by
 have HL:=yae hl
 have HI:=yae hi
 clear hl hi
 go_enter Tryz.func7,Tryz.ntmps7
 go_wp2_with (refine yaW 2 31 _ (cmL c cv vv fv ea wa) rfl rfl rfl rfl ?_;intro W0 rb hrb krb0 b0;have irb0:=yae (HI.out.under b0);have B0:=yae b0;clear b0)
 refine (yb7 _ (HL.out.below B0.out)).mono ?_
 rintro e W1 ⟨rfl,b1⟩
 have krb1:=(b1.block rb (ltS krb0)).trans krb0
 have irb1:=yae (irb0.out.under b1)
 have B1:Hid (Below w.heap.size w W1):=B0.out.trans (b1.mono B0.out.size)
 clear b1 krb0 irb0
 go_wp2_with fail
 refine (yb5 _ (HL.out.below B1.out)).mono ?_
 rintro e W2 ⟨rfl,b2⟩
 have krb2:=(b2.block rb (ltS krb1)).trans krb1
 have irb2:=yae (irb1.out.under b2)
 have B2:Hid (Below w.heap.size w W2):=B1.out.trans (b2.mono B1.out.size)
 clear b2 krb1 irb1
 go_wp2_with (refine yam 31 _ (by rfl) rfl rb (cmL c cv vv fv ea wa) 31 _ rfl (by exact krb2) Tryz.underlying31 rfl Tryz.size31 ?_)
 refine (hs1 _ B2.out (HL.out.below B2.out)).mono ?_
 rintro e W3 ⟨rfl,b3⟩
 have krb3:=(b3.block rb (ltS krb2)).trans krb2
 have irb3:=yae (irb2.out.under b3)
 have B3:Hid (Below w.heap.size w W3):=B2.out.trans (b3.mono B2.out.size)
 clear b3 krb2 irb2
 go_wp2_with fail
 refine (hp1 _ (HL.out.below B3.out)).mono ?_
 rintro e P4 ⟨⟨A4,y1db,y2db,y3db,y4db,y5db,rfl,idbp⟩,b4⟩
 have krb4:=(b4.block rb (ltS krb3)).trans krb3
 have irb4:=yae (irb3.out.under b4)
 have B4:Hid (Below w.heap.size w P4):=B3.out.trans (b4.mono B3.out.size)
 clear b4 krb3 irb3
 go_wp2_with (first|(refine yac 7 31 cmZ rfl rfl rfl Tryz.alloc31 ?_;intro q4 db hdb kk4 bb4)|(refine yab 31 _ _ rfl rfl db cmZ (cmL c y1db y2db y3db y4db y5db) 31 rfl rfl (by exact kk4) rfl Tryz.size31 (by exact idbp.out.one) ?_;intro Q4 kdb5 ps4;have bs4:=yaU hdb bb4 ps4;have idb5:=yae (idbp.out.under bs4);have krb5:=(bs4.block rb (ltS krb4)).trans krb4;have irb5:=yae (irb4.out.under bs4);have B5:Hid (Below w.heap.size w Q4):=B4.out.trans (bs4.mono B4.out.size);clear bs4 krb4 irb4;clear ps4)|(refine yam 31 _ (by rfl) rfl rb (cmL c cv vv fv ea wa) 31 _ rfl (by exact krb5) Tryz.underlying31 rfl Tryz.size31 ?_)|(refine yam 31 _ (by rfl) rfl db (cmL c y1db y2db y3db y4db y5db) 31 _ rfl (by exact kdb5) Tryz.underlying31 rfl Tryz.size31 ?_))
 refine (hm1 _ _ _ _ _ _ _ _ _ _ _ (irb5.out.weak (Nat.zero_le _)) (idb5.out.weak (Nat.zero_le _))).mono ?_
 rintro e W6 ⟨rfl,b6⟩
 have krb6:=(b6.block rb (ltS krb5)).trans krb5
 have irb6:=yae (irb5.out.under b6)
 have kdb6:=(b6.block db (ltS kdb5)).trans kdb5
 have idb6:=yae (idb5.out.under b6)
 have B6:Hid (Below w.heap.size w W6):=B5.out.trans (b6.mono B5.out.size)
 clear b6 krb5 irb5 kdb5 idb5
 clear krb6 irb6 kdb6 idb6
 go_wp2_with fail
 refine (hp2 _ (HL.out.below B6.out)).mono ?_
 rintro e P7 ⟨⟨A7,y1sb,y2sb,y3sb,y4sb,y5sb,rfl,isbp⟩,b7⟩
 have B7:Hid (Below w.heap.size w P7):=B6.out.trans (b7.mono B6.out.size)
 clear b7
 go_wp2_with (first|(refine yac 10 31 cmZ rfl rfl rfl Tryz.alloc31 ?_;intro q7 sb hsb kk7 bb7)|(refine yab 31 _ _ rfl rfl sb cmZ (cmL d y1sb y2sb y3sb y4sb y5sb) 31 rfl rfl (by exact kk7) rfl Tryz.size31 (by exact isbp.out.one) ?_;intro Q7 ksb8 ps7;have bs7:=yaU hsb bb7 ps7;have isb8:=yae (isbp.out.under bs7);have B8:Hid (Below w.heap.size w Q7):=B7.out.trans (bs7.mono B7.out.size);clear bs7 ;clear ps7)|(refine yam 31 _ (by rfl) rfl sb (cmL d y1sb y2sb y3sb y4sb y5sb) 31 _ rfl (by exact ksb8) Tryz.underlying31 rfl Tryz.size31 ?_))
 refine (hs2 _ _ _ _ _ _ (isb8.out.weak (Nat.zero_le _)) (HL.out.below B8.out)).mono ?_
 rintro e W9 ⟨rfl,b9⟩
 have ksb9:=(b9.block sb (ltS ksb8)).trans ksb8
 have isb9:=yae (isb8.out.under b9)
 have B9:Hid (Below w.heap.size w W9):=B8.out.trans (b9.mono B8.out.size)
 clear b9 ksb8 isb8
 go_wp2_with fail
 refine (hp3 _ (HL.out.below B9.out)).mono ?_
 rintro e P10 ⟨⟨A10,y1tb,y2tb,y3tb,y4tb,y5tb,rfl,itbp⟩,b10⟩
 have ksb10:=(b10.block sb (ltS ksb9)).trans ksb9
 have isb10:=yae (isb9.out.under b10)
 have B10:Hid (Below w.heap.size w P10):=B9.out.trans (b10.mono B9.out.size)
 clear b10 ksb9 isb9
 go_wp2_with (first|(refine yac 12 31 cmZ rfl rfl rfl Tryz.alloc31 ?_;intro q10 tb htb kk10 bb10)|(refine yab 31 _ _ rfl rfl tb cmZ (cmL x y1tb y2tb y3tb y4tb y5tb) 31 rfl rfl (by exact kk10) rfl Tryz.size31 (by exact itbp.out.one) ?_;intro Q10 ktb11 ps10;have bs10:=yaU htb bb10 ps10;have itb11:=yae (itbp.out.under bs10);have ksb11:=(bs10.block sb (ltS ksb10)).trans ksb10;have isb11:=yae (isb10.out.under bs10);have B11:Hid (Below w.heap.size w Q10):=B10.out.trans (bs10.mono B10.out.size);clear bs10 ksb10 isb10;clear ps10))
 go_ret
 exact ⟨rfl,B11.out⟩
theorem yqe (c d:Cm) (S s S2:ByteArray)  (cv vv fv ea wa:Value) (w:World) (hi:CmIn 0 w c cv vv fv ea wa) (hl:Laid w) (hs1:∀ W,Below w.heap.size w W→Laid W→Calls Tryz.prog 17 #[.agg (cmL c cv vv fv ea wa).toArray] W fun e w'=>e=.returned (.tuple #[.string S,.int .i64 0])∧Below W.heap.size W w') (hlen:¬ (S.size:Int)≤2000) (hp2:ybt s d 0) (hs2:yhZ d S2) (hlen2:¬ 2000 < (S2.size:Int)) (hp3:ybt S2 d 0) (hm2:yhW d) :
  Calls Tryz.prog 7 #[.agg (cmL c cv vv fv ea wa).toArray,.string s] w fun e w'=>e=.returned (.bool true)∧Below w.heap.size w w':=by
 have HL:=yae hl
 have HI:=yae hi
 clear hl hi
 go_enter Tryz.func7,Tryz.ntmps7
 go_wp2_with (refine yaW 2 31 _ (cmL c cv vv fv ea wa) rfl rfl rfl rfl ?_;intro W0 rb hrb krb0 b0;have irb0:=yae (HI.out.under b0);have B0:=yae b0;clear b0)
 refine (yb7 _ (HL.out.below B0.out)).mono ?_
 rintro e W1 ⟨rfl,b1⟩
 have krb1:=(b1.block rb (ltS krb0)).trans krb0
 have irb1:=yae (irb0.out.under b1)
 have B1:Hid (Below w.heap.size w W1):=B0.out.trans (b1.mono B0.out.size)
 clear b1 krb0 irb0
 go_wp2_with fail
 refine (yb5 _ (HL.out.below B1.out)).mono ?_
 rintro e W2 ⟨rfl,b2⟩
 have krb2:=(b2.block rb (ltS krb1)).trans krb1
 have irb2:=yae (irb1.out.under b2)
 have B2:Hid (Below w.heap.size w W2):=B1.out.trans (b2.mono B1.out.size)
 clear b2 krb1 irb1
 go_wp2_with (refine yam 31 _ (by rfl) rfl rb (cmL c cv vv fv ea wa) 31 _ rfl (by exact krb2) Tryz.underlying31 rfl Tryz.size31 ?_)
 refine (hs1 _ B2.out (HL.out.below B2.out)).mono ?_
 rintro e W3 ⟨rfl,b3⟩
 have krb3:=(b3.block rb (ltS krb2)).trans krb2
 have irb3:=yae (irb2.out.under b3)
 have B3:Hid (Below w.heap.size w W3):=B2.out.trans (b3.mono B2.out.size)
 clear b3 krb2 irb2
 clear krb3 irb3
 go_wp2_with fail
 refine (hp2 _ (HL.out.below B3.out)).mono ?_
 rintro e P4 ⟨⟨A4,y1sb,y2sb,y3sb,y4sb,y5sb,rfl,isbp⟩,b4⟩
 have B4:Hid (Below w.heap.size w P4):=B3.out.trans (b4.mono B3.out.size)
 clear b4
 go_wp2_with (first|(refine yac 10 31 cmZ rfl rfl rfl Tryz.alloc31 ?_;intro q4 sb hsb kk4 bb4)|(refine yab 31 _ _ rfl rfl sb cmZ (cmL d y1sb y2sb y3sb y4sb y5sb) 31 rfl rfl (by exact kk4) rfl Tryz.size31 (by exact isbp.out.one) ?_;intro Q4 ksb5 ps4;have bs4:=yaU hsb bb4 ps4;have isb5:=yae (isbp.out.under bs4);have B5:Hid (Below w.heap.size w Q4):=B4.out.trans (bs4.mono B4.out.size);clear bs4 ;clear ps4)|(refine yam 31 _ (by rfl) rfl sb (cmL d y1sb y2sb y3sb y4sb y5sb) 31 _ rfl (by exact ksb5) Tryz.underlying31 rfl Tryz.size31 ?_))
 refine (hs2 _ _ _ _ _ _ (isb5.out.weak (Nat.zero_le _)) (HL.out.below B5.out)).mono ?_
 rintro e W6 ⟨rfl,b6⟩
 have ksb6:=(b6.block sb (ltS ksb5)).trans ksb5
 have isb6:=yae (isb5.out.under b6)
 have B6:Hid (Below w.heap.size w W6):=B5.out.trans (b6.mono B5.out.size)
 clear b6 ksb5 isb5
 go_wp2_with fail
 refine (hp3 _ (HL.out.below B6.out)).mono ?_
 rintro e P7 ⟨⟨A7,y1tb,y2tb,y3tb,y4tb,y5tb,rfl,itbp⟩,b7⟩
 have ksb7:=(b7.block sb (ltS ksb6)).trans ksb6
 have isb7:=yae (isb6.out.under b7)
 have B7:Hid (Below w.heap.size w P7):=B6.out.trans (b7.mono B6.out.size)
 clear b7 ksb6 isb6
 go_wp2_with (first|(refine yac 12 31 cmZ rfl rfl rfl Tryz.alloc31 ?_;intro q7 tb htb kk7 bb7)|(refine yab 31 _ _ rfl rfl tb cmZ (cmL d y1tb y2tb y3tb y4tb y5tb) 31 rfl rfl (by exact kk7) rfl Tryz.size31 (by exact itbp.out.one) ?_;intro Q7 ktb8 ps7;have bs7:=yaU htb bb7 ps7;have itb8:=yae (itbp.out.under bs7);have ksb8:=(bs7.block sb (ltS ksb7)).trans ksb7;have isb8:=yae (isb7.out.under bs7);have B8:Hid (Below w.heap.size w Q7):=B7.out.trans (bs7.mono B7.out.size);clear bs7 ksb7 isb7;clear ps7)|(refine yam 31 _ (by rfl) rfl sb (cmL d y1sb y2sb y3sb y4sb y5sb) 31 _ rfl (by exact ksb8) Tryz.underlying31 rfl Tryz.size31 ?_)|(refine yam 31 _ (by rfl) rfl tb (cmL d y1tb y2tb y3tb y4tb y5tb) 31 _ rfl (by exact ktb8) Tryz.underlying31 rfl Tryz.size31 ?_))
 refine (hm2 _ _ _ _ _ _ _ _ _ _ _ (isb8.out.weak (Nat.zero_le _)) (itb8.out.weak (Nat.zero_le _))).mono ?_
 rintro e W9 ⟨rfl,b9⟩
 have ksb9:=(b9.block sb (ltS ksb8)).trans ksb8
 have isb9:=yae (isb8.out.under b9)
 have ktb9:=(b9.block tb (ltS ktb8)).trans ktb8
 have itb9:=yae (itb8.out.under b9)
 have B9:Hid (Below w.heap.size w W9):=B8.out.trans (b9.mono B8.out.size)
 clear b9 ksb8 isb8 ktb8 itb8
 go_wp2
 go_ret
 exact ⟨rfl,B9.out⟩
theorem yqf (c d x:Cm) (S s S2:ByteArray) (G:Int) (cv vv fv ea wa:Value) (w:World) (hi:CmIn 0 w c cv vv fv ea wa) (hl:Laid w) (hs1:∀ W,Below w.heap.size w W→Laid W→Calls Tryz.prog 17 #[.agg (cmL c cv vv fv ea wa).toArray] W fun e w'=>e=.returned (.tuple #[.string S,.int .i64 0])∧Below W.heap.size W w') (hlen:¬ (S.size:Int)≤2000) (hp2:ybt s d 0) (hs2:yhZ d S2) (hlen2:2000 < (S2.size:Int)) (hp3:ybt S2 x G) :
  Calls Tryz.prog 7 #[.agg (cmL c cv vv fv ea wa).toArray,.string s] w fun e w'=>e=.returned (.bool true)∧Below w.heap.size w w':=by
 have HL:=yae hl
 have HI:=yae hi
 clear hl hi
 go_enter Tryz.func7,Tryz.ntmps7
 go_wp2_with (refine yaW 2 31 _ (cmL c cv vv fv ea wa) rfl rfl rfl rfl ?_;intro W0 rb hrb krb0 b0;have irb0:=yae (HI.out.under b0);have B0:=yae b0;clear b0)
 refine (yb7 _ (HL.out.below B0.out)).mono ?_
 rintro e W1 ⟨rfl,b1⟩
 have krb1:=(b1.block rb (ltS krb0)).trans krb0
 have irb1:=yae (irb0.out.under b1)
 have B1:Hid (Below w.heap.size w W1):=B0.out.trans (b1.mono B0.out.size)
 clear b1 krb0 irb0
 go_wp2_with fail
 refine (yb5 _ (HL.out.below B1.out)).mono ?_
 rintro e W2 ⟨rfl,b2⟩
 have krb2:=(b2.block rb (ltS krb1)).trans krb1
 have irb2:=yae (irb1.out.under b2)
 have B2:Hid (Below w.heap.size w W2):=B1.out.trans (b2.mono B1.out.size)
 clear b2 krb1 irb1
 go_wp2_with (refine yam 31 _ (by rfl) rfl rb (cmL c cv vv fv ea wa) 31 _ rfl (by exact krb2) Tryz.underlying31 rfl Tryz.size31 ?_)
 refine (hs1 _ B2.out (HL.out.below B2.out)).mono ?_
 rintro e W3 ⟨rfl,b3⟩
 have krb3:=(b3.block rb (ltS krb2)).trans krb2
 have irb3:=yae (irb2.out.under b3)
 have B3:Hid (Below w.heap.size w W3):=B2.out.trans (b3.mono B2.out.size)
 clear b3 krb2 irb2
 clear krb3 irb3
 go_wp2_with fail
 refine (hp2 _ (HL.out.below B3.out)).mono ?_
 rintro e P4 ⟨⟨A4,y1sb,y2sb,y3sb,y4sb,y5sb,rfl,isbp⟩,b4⟩
 have B4:Hid (Below w.heap.size w P4):=B3.out.trans (b4.mono B3.out.size)
 clear b4
 go_wp2_with (first|(refine yac 10 31 cmZ rfl rfl rfl Tryz.alloc31 ?_;intro q4 sb hsb kk4 bb4)|(refine yab 31 _ _ rfl rfl sb cmZ (cmL d y1sb y2sb y3sb y4sb y5sb) 31 rfl rfl (by exact kk4) rfl Tryz.size31 (by exact isbp.out.one) ?_;intro Q4 ksb5 ps4;have bs4:=yaU hsb bb4 ps4;have isb5:=yae (isbp.out.under bs4);have B5:Hid (Below w.heap.size w Q4):=B4.out.trans (bs4.mono B4.out.size);clear bs4 ;clear ps4)|(refine yam 31 _ (by rfl) rfl sb (cmL d y1sb y2sb y3sb y4sb y5sb) 31 _ rfl (by exact ksb5) Tryz.underlying31 rfl Tryz.size31 ?_))
 refine (hs2 _ _ _ _ _ _ (isb5.out.weak (Nat.zero_le _)) (HL.out.below B5.out)).mono ?_
 rintro e W6 ⟨rfl,b6⟩
 have ksb6:=(b6.block sb (ltS ksb5)).trans ksb5
 have isb6:=yae (isb5.out.under b6)
 have B6:Hid (Below w.heap.size w W6):=B5.out.trans (b6.mono B5.out.size)
 clear b6 ksb5 isb5
 go_wp2_with fail
 refine (hp3 _ (HL.out.below B6.out)).mono ?_
 rintro e P7 ⟨⟨A7,y1tb,y2tb,y3tb,y4tb,y5tb,rfl,itbp⟩,b7⟩
 have ksb7:=(b7.block sb (ltS ksb6)).trans ksb6
 have isb7:=yae (isb6.out.under b7)
 have B7:Hid (Below w.heap.size w P7):=B6.out.trans (b7.mono B6.out.size)
 clear b7 ksb6 isb6
 go_wp2_with (first|(refine yac 12 31 cmZ rfl rfl rfl Tryz.alloc31 ?_;intro q7 tb htb kk7 bb7)|(refine yab 31 _ _ rfl rfl tb cmZ (cmL x y1tb y2tb y3tb y4tb y5tb) 31 rfl rfl (by exact kk7) rfl Tryz.size31 (by exact itbp.out.one) ?_;intro Q7 ktb8 ps7;have bs7:=yaU htb bb7 ps7;have itb8:=yae (itbp.out.under bs7);have ksb8:=(bs7.block sb (ltS ksb7)).trans ksb7;have isb8:=yae (isb7.out.under bs7);have B8:Hid (Below w.heap.size w Q7):=B7.out.trans (bs7.mono B7.out.size);clear bs7 ksb7 isb7;clear ps7))
 go_ret
 exact ⟨rfl,B8.out⟩
theorem yqh (c d:Cm) (S s S2:ByteArray) (E:Int) (cv vv fv ea wa:Value) (w:World) (hi:CmIn 0 w c cv vv fv ea wa) (hl:Laid w) (hs1:∀ W,Below w.heap.size w W→Laid W→Calls Tryz.prog 17 #[.agg (cmL c cv vv fv ea wa).toArray] W fun e w'=>e=.returned (.tuple #[.string S,.int .i64 E])∧Below W.heap.size W w') (hE:(E == 0)=false) (hp2:ybt s d 0) (hs2:yhZ d S2) (hlen2:¬ 2000 < (S2.size:Int)) (hp3:ybt S2 d 0) (hm2:yhW d) :
  Calls Tryz.prog 7 #[.agg (cmL c cv vv fv ea wa).toArray,.string s] w fun e w'=>e=.returned (.bool true)∧Below w.heap.size w w':=by
 have HL:=yae hl
 have HI:=yae hi
 clear hl hi
 go_enter Tryz.func7,Tryz.ntmps7
 go_wp2_with (refine yaW 2 31 _ (cmL c cv vv fv ea wa) rfl rfl rfl rfl ?_;intro W0 rb hrb krb0 b0;have irb0:=yae (HI.out.under b0);have B0:=yae b0;clear b0)
 refine (yb7 _ (HL.out.below B0.out)).mono ?_
 rintro e W1 ⟨rfl,b1⟩
 have krb1:=(b1.block rb (ltS krb0)).trans krb0
 have irb1:=yae (irb0.out.under b1)
 have B1:Hid (Below w.heap.size w W1):=B0.out.trans (b1.mono B0.out.size)
 clear b1 krb0 irb0
 go_wp2_with fail
 refine (yb5 _ (HL.out.below B1.out)).mono ?_
 rintro e W2 ⟨rfl,b2⟩
 have krb2:=(b2.block rb (ltS krb1)).trans krb1
 have irb2:=yae (irb1.out.under b2)
 have B2:Hid (Below w.heap.size w W2):=B1.out.trans (b2.mono B1.out.size)
 clear b2 krb1 irb1
 go_wp2_with (refine yam 31 _ (by rfl) rfl rb (cmL c cv vv fv ea wa) 31 _ rfl (by exact krb2) Tryz.underlying31 rfl Tryz.size31 ?_)
 refine (hs1 _ B2.out (HL.out.below B2.out)).mono ?_
 rintro e W3 ⟨rfl,b3⟩
 have krb3:=(b3.block rb (ltS krb2)).trans krb2
 have irb3:=yae (irb2.out.under b3)
 have B3:Hid (Below w.heap.size w W3):=B2.out.trans (b3.mono B2.out.size)
 clear b3 krb2 irb2
 clear krb3 irb3
 go_wp2_with fail
 refine (hp2 _ (HL.out.below B3.out)).mono ?_
 rintro e P4 ⟨⟨A4,y1sb,y2sb,y3sb,y4sb,y5sb,rfl,isbp⟩,b4⟩
 have B4:Hid (Below w.heap.size w P4):=B3.out.trans (b4.mono B3.out.size)
 clear b4
 go_wp2_with (first|(refine yac 10 31 cmZ rfl rfl rfl Tryz.alloc31 ?_;intro q4 sb hsb kk4 bb4)|(refine yab 31 _ _ rfl rfl sb cmZ (cmL d y1sb y2sb y3sb y4sb y5sb) 31 rfl rfl (by exact kk4) rfl Tryz.size31 (by exact isbp.out.one) ?_;intro Q4 ksb5 ps4;have bs4:=yaU hsb bb4 ps4;have isb5:=yae (isbp.out.under bs4);have B5:Hid (Below w.heap.size w Q4):=B4.out.trans (bs4.mono B4.out.size);clear bs4 ;clear ps4)|(refine yam 31 _ (by rfl) rfl sb (cmL d y1sb y2sb y3sb y4sb y5sb) 31 _ rfl (by exact ksb5) Tryz.underlying31 rfl Tryz.size31 ?_))
 refine (hs2 _ _ _ _ _ _ (isb5.out.weak (Nat.zero_le _)) (HL.out.below B5.out)).mono ?_
 rintro e W6 ⟨rfl,b6⟩
 have ksb6:=(b6.block sb (ltS ksb5)).trans ksb5
 have isb6:=yae (isb5.out.under b6)
 have B6:Hid (Below w.heap.size w W6):=B5.out.trans (b6.mono B5.out.size)
 clear b6 ksb5 isb5
 go_wp2_with fail
 refine (hp3 _ (HL.out.below B6.out)).mono ?_
 rintro e P7 ⟨⟨A7,y1tb,y2tb,y3tb,y4tb,y5tb,rfl,itbp⟩,b7⟩
 have ksb7:=(b7.block sb (ltS ksb6)).trans ksb6
 have isb7:=yae (isb6.out.under b7)
 have B7:Hid (Below w.heap.size w P7):=B6.out.trans (b7.mono B6.out.size)
 clear b7 ksb6 isb6
 go_wp2_with (first|(refine yac 12 31 cmZ rfl rfl rfl Tryz.alloc31 ?_;intro q7 tb htb kk7 bb7)|(refine yab 31 _ _ rfl rfl tb cmZ (cmL d y1tb y2tb y3tb y4tb y5tb) 31 rfl rfl (by exact kk7) rfl Tryz.size31 (by exact itbp.out.one) ?_;intro Q7 ktb8 ps7;have bs7:=yaU htb bb7 ps7;have itb8:=yae (itbp.out.under bs7);have ksb8:=(bs7.block sb (ltS ksb7)).trans ksb7;have isb8:=yae (isb7.out.under bs7);have B8:Hid (Below w.heap.size w Q7):=B7.out.trans (bs7.mono B7.out.size);clear bs7 ksb7 isb7;clear ps7)|(refine yam 31 _ (by rfl) rfl sb (cmL d y1sb y2sb y3sb y4sb y5sb) 31 _ rfl (by exact ksb8) Tryz.underlying31 rfl Tryz.size31 ?_)|(refine yam 31 _ (by rfl) rfl tb (cmL d y1tb y2tb y3tb y4tb y5tb) 31 _ rfl (by exact ktb8) Tryz.underlying31 rfl Tryz.size31 ?_))
 refine (hm2 _ _ _ _ _ _ _ _ _ _ _ (isb8.out.weak (Nat.zero_le _)) (itb8.out.weak (Nat.zero_le _))).mono ?_
 rintro e W9 ⟨rfl,b9⟩
 have ksb9:=(b9.block sb (ltS ksb8)).trans ksb8
 have isb9:=yae (isb8.out.under b9)
 have ktb9:=(b9.block tb (ltS ktb8)).trans ktb8
 have itb9:=yae (itb8.out.under b9)
 have B9:Hid (Below w.heap.size w W9):=B8.out.trans (b9.mono B8.out.size)
 clear b9 ksb8 isb8 ktb8 itb8
 go_wp2
 go_ret
 exact ⟨rfl,B9.out⟩
theorem ya3 {T:List Tk} {s:List UInt8} (h:yap s=true) {i:Nat} (ht:tx T i=s):yau T i=.ok s (i+1):=by
 unfold yau;rw [ht,if_pos h]
theorem ynz {T:List Tk} {k:Int} (h:1≤k∧k≤3) {i:Nat} (ht:tx T i=atL yaI k):ycj T (ybx yaI) i=.ok (ybx yaI (atL yaI k)) (i+1):=by
 unfold ycj;rw [ht,if_neg (yck k h).2.2.2]
theorem ygu {T:List Tk} {x:Cl} (h:yap x.name=true∧1≤x.ty∧x.ty≤3) {i:Nat} (t0:tx T i=x.name) (t1:tx T (i+1)=atL yaI x.ty):yaG T i=.ok x (i+1+1):=by
 unfold yaG
 rw [ya3 h.1 t0]
 simp only [Rs.then_ok]
 rw [ynz h.2 t1]
 simp only [Rs.then_ok]
 rw [(yck x.ty h.2).2.2.1]
theorem ynx (T:List Tk) (i:Nat) (h:T.length≤i):tx T i=[]:=by
 unfold tx;rw [List.getElem?_eq_none h]
theorem ybJ {T:List Tk} {c:Cm} {j:Nat} (h:yaA T 0=.ok c j) (hj:T.length≤j):ycc T=.ok c j:=by
 unfold ycc;rw [h];simp only [Rs.then_ok];rw [if_neg (by omega)]
theorem yjl {T:List Tk} {i:Nat} (h:tx T i=w_drop):yaS T yb8 i=.ok w_drop (i+1):=by simp [yaS,yb8,h]
theorem ygc {T:List Tk} {i:Nat} (h:tx T i=w_create):yaS T yb8 i=.ok w_create (i+1):=by simp [yaS,yb8,h]
theorem ydF {T:List Tk} {i:Nat} (h:tx T i=w_alter):yaS T yb8 i=.ok w_alter (i+1):=by simp [yaS,yb8,h]
theorem ykt {T:List Tk} {i:Nat} (h:tx T i=w_insert):yaS T yb8 i=.ok w_insert (i+1):=by simp [yaS,yb8,h]
theorem yks {T:List Tk} {i:Nat} (h:tx T i=w_delete):yaS T yb8 i=.ok w_delete (i+1):=by simp [yaS,yb8,h]
theorem ykv {T:List Tk} {i:Nat} (h:tx T i=w_update):yaS T yb8 i=.ok w_update (i+1):=by simp [yaS,yb8,h]
theorem yku {T:List Tk} {i:Nat} (h:tx T i=w_select):yaS T yb8 i=.ok w_select (i+1):=by simp [yaS,yb8,h]
theorem yaO {a:List (List UInt8×Int)} {n:List UInt8} (hn:yap n=true) (ws:List (List UInt8)) (h:toks ws=a):toks (n::ws)=(n,1)::a:=by
 rw [yb3,yei hn,h];rfl
theorem yaL {a:List (List UInt8×Int)} {n:List UInt8} {q:Int} (hn:ybS n=[(n,q)]) (ws:List (List UInt8)) (h:toks ws=a):toks (n::ws)=(n,q)::a:=by
 rw [yb3,hn,h];rfl
theorem yg2 {c:Cm} (h:RightC c) {T:List Tk} (hT:TL T=toks (yaP c)):∃ j,ycc T=.ok c j:=by
 have hH:Has T 0 (toks (yaP c)):=by rw [← hT];exact yr0
 have hlen:T.length=(toks (yaP c)).length:=by rw [← hT];simp [TL]
 clear hT
 cases h with
 | create n hn l hl h5 h =>
  have e:yaP { cm0 with kind:=1,name:=n,cols:=l }=[w_create,w_table,n,[40]]++(yaq ya8 l++[[41]]):=rfl
  have e1:toks [w_create,w_table,n,[40]]=[(w_create,1),(w_table,1),(n,1),([40],4)] :=
   yaL (by decide +kernel) _ (yaL (by decide +kernel) _ (yaO hn _ (yaL (by decide +kernel) _ rfl)))
  have e2:toks [[41]]=[([41],4)]:=by decide +kernel
  rw [e,yaY,yaY,e1,e2] at hH hlen
  have t0:=hH.left.head.1
  have t1:=hH.left.tail.head.1
  have t2:=hH.left.tail.tail.head.1
  have t3:=hH.left.tail.tail.tail.head.1
  have hr:=hH.right
  have tz:=hr.right.head.1
  simp only [List.length_cons,List.length_nil,List.length_append,Nat.zero_add] at t0 t1 t2 t3 hr tz hlen
  have hb:=yfr (T:=T) (one:=yaG T) l hl (by omega) (fun x hx i hi=>by
   have hk:toks (ya8 x)=[(x.name,1),(atL yaI x.ty,1)]:=yaO (h x hx).1 _ (yaL (yck x.ty (h x hx).2).1 _ rfl)
   rw [hk] at hi ⊢
   exact ygu (h x hx) hi.head.1 hi.tail.head.1) 4 hr.left (by rw [tz];decide)
  refine ⟨_,ybJ (j:=4+(toks (yaq ya8 l)).length+1) ?_ (by omega)⟩
  unfold yaA
  rw [ygc t0]
  simp only [Rs.then_ok,if_true]
  unfold ybC
  have eo:yaS T [w_table,w_index] 1=.ok w_table 2:=by simp [yaS,t1]
  rw [eo]
  simp only [Rs.then_ok,if_true]
  rw [ya3 hn t2]
  simp only [Rs.then_ok]
  unfold ycy
  rw [ybg t3]
  simp only [Rs.then_ok]
  rw [hb]
  simp only [Rs.then_ok]
  rw [ybg tz]
  simp only [Rs.then_ok]
 | drop n hn =>
  have e1:toks (yaP { cm0 with kind:=2,name:=n })=[(w_drop,1),(w_table,1),(n,1)] :=
   yaL (by decide +kernel) _ (yaL (by decide +kernel) _ (yaO hn _ rfl))
  rw [e1] at hH hlen
  have t0:=hH.head.1
  have t1:=hH.tail.head.1
  have t2:=hH.tail.tail.head.1
  simp only [List.length_cons,List.length_nil,Nat.zero_add] at t0 t1 t2 hlen
  refine ⟨_,ybJ (j:=3) ?_ (by omega)⟩
  unfold yaA
  rw [yjl t0]
  simp only [Rs.then_ok]
  rw [if_neg (by decide),if_pos trivial]
  unfold ydW
  have eo:yaS T [w_table,w_index] 1=.ok w_table 2:=by simp [yaS,t1]
  rw [eo]
  simp only [Rs.then_ok]
  rw [ya3 hn t2]
  simp only [Rs.then_ok]
  rw [if_neg (by decide)]
 | add n c hn hc t ht v hv =>
  have e:yaP { cm0 with kind:=3,name:=n,column:=c,ty:=t,val:=v }=[w_alter,w_table,n,w_add,c,atL yaI t,w_default]++[ybc v]:=rfl
  have e1:toks [w_alter,w_table,n,w_add,c,atL yaI t,w_default]=[(w_alter,1),(w_table,1),(n,1),(w_add,1),(c,1),(atL yaI t,1),(w_default,1)] :=
   yaL (by decide +kernel) _ (yaL (by decide +kernel) _ (yaO hn _ (yaL (by decide +kernel) _ (yaO hc _ (yaL (yck t ht).1 _ (yaL (by decide +kernel) _ rfl))))))
  have e2:toks [ybc v]=ybS (ybc v):=by simp [toks]
  rw [e,yaY,e1,e2] at hH hlen
  have t0:=hH.left.head.1
  have t1:=hH.left.tail.head.1
  have t2:=hH.left.tail.tail.head.1
  have t3:=hH.left.tail.tail.tail.head.1
  have t4:=hH.left.tail.tail.tail.tail.head.1
  have t5:=hH.left.tail.tail.tail.tail.tail.head.1
  have t6:=hH.left.tail.tail.tail.tail.tail.tail.head.1
  have hr:=hH.right
  simp only [List.length_cons,List.length_nil,List.length_append,Nat.zero_add] at t0 t1 t2 t3 t4 t5 t6 hr hlen
  refine ⟨_,ybJ (j:=7+(ybS (ybc v)).length) ?_ (by omega)⟩
  unfold yaA
  rw [ydF t0]
  simp only [Rs.then_ok]
  rw [if_neg (by decide),if_neg (by decide),if_pos trivial]
  unfold ybK
  rw [ybg t1]
  simp only [Rs.then_ok]
  rw [ya3 hn t2]
  simp only [Rs.then_ok]
  have eo:yaS T [w_add,w_drop,w_rename,w_retype] 3=.ok w_add 4:=by simp [yaS,t3]
  rw [eo]
  simp only [Rs.then_ok,if_true]
  rw [ygu (x:=⟨c,t⟩) ⟨hc,ht⟩ t4 t5]
  simp only [Rs.then_ok]
  rw [ybg t6]
  simp only [Rs.then_ok]
  rw [(yeP hv hr).1]
  simp only [Rs.then_ok]
 | take n c hn hc =>
  have e1:toks (yaP { cm0 with kind:=4,name:=n,column:=c })=[(w_alter,1),(w_table,1),(n,1),(w_drop,1),(c,1)] :=
   yaL (by decide +kernel) _ (yaL (by decide +kernel) _ (yaO hn _ (yaL (by decide +kernel) _ (yaO hc _ rfl))))
  rw [e1] at hH hlen
  have t0:=hH.head.1
  have t1:=hH.tail.head.1
  have t2:=hH.tail.tail.head.1
  have t3:=hH.tail.tail.tail.head.1
  have t4:=hH.tail.tail.tail.tail.head.1
  simp only [List.length_cons,List.length_nil,Nat.zero_add] at t0 t1 t2 t3 t4 hlen
  refine ⟨_,ybJ (j:=5) ?_ (by omega)⟩
  unfold yaA
  rw [ydF t0]
  simp only [Rs.then_ok]
  rw [if_neg (by decide),if_neg (by decide),if_pos trivial]
  unfold ybK
  rw [ybg t1]
  simp only [Rs.then_ok]
  rw [ya3 hn t2]
  simp only [Rs.then_ok]
  have eo:yaS T [w_add,w_drop,w_rename,w_retype] 3=.ok w_drop 4:=by simp [yaS,t3]
  rw [eo]
  simp only [Rs.then_ok]
  rw [if_neg (by decide),if_pos trivial,ya3 hc t4]
  simp only [Rs.then_ok]
 | column n c o hn hc ho =>
  have e1:toks (yaP { cm0 with kind:=5,name:=n,column:=c,other:=o })=[(w_alter,1),(w_table,1),(n,1),(w_rename,1),(c,1),(w_to,1),(o,1)] :=
   yaL (by decide +kernel) _ (yaL (by decide +kernel) _ (yaO hn _ (yaL (by decide +kernel) _ (yaO hc _ (yaL (by decide +kernel) _ (yaO ho _ rfl))))))
  rw [e1] at hH hlen
  have t0:=hH.head.1
  have t1:=hH.tail.head.1
  have t2:=hH.tail.tail.head.1
  have t3:=hH.tail.tail.tail.head.1
  have t4:=hH.tail.tail.tail.tail.head.1
  have t5:=hH.tail.tail.tail.tail.tail.head.1
  have t6:=hH.tail.tail.tail.tail.tail.tail.head.1
  simp only [List.length_cons,List.length_nil,Nat.zero_add] at t0 t1 t2 t3 t4 t5 t6 hlen
  refine ⟨_,ybJ (j:=7) ?_ (by omega)⟩
  unfold yaA
  rw [ydF t0]
  simp only [Rs.then_ok]
  rw [if_neg (by decide),if_neg (by decide),if_pos trivial]
  unfold ybK
  rw [ybg t1]
  simp only [Rs.then_ok]
  rw [ya3 hn t2]
  simp only [Rs.then_ok]
  have eo:yaS T [w_add,w_drop,w_rename,w_retype] 3=.ok w_rename 4:=by simp [yaS,t3]
  rw [eo]
  simp only [Rs.then_ok]
  rw [if_neg (by decide),if_neg (by decide),if_pos trivial]
  unfold ybF
  have em:may T w_to [] 4=.ok false 4:=by unfold may;rw [if_neg (by rw [t4];exact ye3 (by decide +kernel) c hc)]
  rw [em]
  simp only [Rs.then_ok,Bool.false_eq_true,if_false]
  rw [ya3 hc t4]
  simp only [Rs.then_ok]
  rw [ybg t5]
  simp only [Rs.then_ok]
  rw [ya3 ho t6]
  simp only [Rs.then_ok]
 | retype n c hn hc t ht =>
  have e1:toks (yaP { cm0 with kind:=6,name:=n,column:=c,ty:=t })=[(w_alter,1),(w_table,1),(n,1),(w_retype,1),(c,1),(atL yaI t,1)] :=
   yaL (by decide +kernel) _ (yaL (by decide +kernel) _ (yaO hn _ (yaL (by decide +kernel) _ (yaO hc _ (yaL (yck t ht).1 _ rfl)))))
  rw [e1] at hH hlen
  have t0:=hH.head.1
  have t1:=hH.tail.head.1
  have t2:=hH.tail.tail.head.1
  have t3:=hH.tail.tail.tail.head.1
  have t4:=hH.tail.tail.tail.tail.head.1
  have t5:=hH.tail.tail.tail.tail.tail.head.1
  simp only [List.length_cons,List.length_nil,Nat.zero_add] at t0 t1 t2 t3 t4 t5 hlen
  refine ⟨_,ybJ (j:=6) ?_ (by omega)⟩
  unfold yaA
  rw [ydF t0]
  simp only [Rs.then_ok]
  rw [if_neg (by decide),if_neg (by decide),if_pos trivial]
  unfold ybK
  rw [ybg t1]
  simp only [Rs.then_ok]
  rw [ya3 hn t2]
  simp only [Rs.then_ok]
  have eo:yaS T [w_add,w_drop,w_rename,w_retype] 3=.ok w_retype 4:=by simp [yaS,t3]
  rw [eo]
  simp only [Rs.then_ok]
  rw [if_neg (by decide),if_neg (by decide),if_neg (by decide),ygu (x:=⟨c,t⟩) ⟨hc,ht⟩ t4 t5]
  simp only [Rs.then_ok]
 | table n o hn ho =>
  have e1:toks (yaP { cm0 with kind:=7,name:=n,other:=o })=[(w_alter,1),(w_table,1),(n,1),(w_rename,1),(w_to,1),(o,1)] :=
   yaL (by decide +kernel) _ (yaL (by decide +kernel) _ (yaO hn _ (yaL (by decide +kernel) _ (yaL (by decide +kernel) _ (yaO ho _ rfl)))))
  rw [e1] at hH hlen
  have t0:=hH.head.1
  have t1:=hH.tail.head.1
  have t2:=hH.tail.tail.head.1
  have t3:=hH.tail.tail.tail.head.1
  have t4:=hH.tail.tail.tail.tail.head.1
  have t5:=hH.tail.tail.tail.tail.tail.head.1
  simp only [List.length_cons,List.length_nil,Nat.zero_add] at t0 t1 t2 t3 t4 t5 hlen
  refine ⟨_,ybJ (j:=6) ?_ (by omega)⟩
  unfold yaA
  rw [ydF t0]
  simp only [Rs.then_ok]
  rw [if_neg (by decide),if_neg (by decide),if_pos trivial]
  unfold ybK
  rw [ybg t1]
  simp only [Rs.then_ok]
  rw [ya3 hn t2]
  simp only [Rs.then_ok]
  have eo:yaS T [w_add,w_drop,w_rename,w_retype] 3=.ok w_rename 4:=by simp [yaS,t3]
  rw [eo]
  simp only [Rs.then_ok]
  rw [if_neg (by decide),if_neg (by decide),if_pos trivial]
  unfold ybF
  have em:may T w_to [] 4=.ok true 5:=by unfold may;rw [if_pos t4];rfl
  rw [em]
  simp only [Rs.then_ok,if_true]
  rw [ya3 ho t5]
  simp only [Rs.then_ok]
 | index n c o hn hc ho =>
  have e1:toks (yaP { cm0 with kind:=8,name:=n,other:=o,column:=c })=[(w_create,1),(w_index,1),(n,1),(w_on,1),(o,1),([40],4),(c,1),([41],4)] :=
   yaL (by decide +kernel) _ (yaL (by decide +kernel) _ (yaO hn _ (yaL (by decide +kernel) _ (yaO ho _ (yaL (by decide +kernel) _ (yaO hc _ (yaL (by decide +kernel) _ rfl)))))))
  rw [e1] at hH hlen
  have t0:=hH.head.1
  have t1:=hH.tail.head.1
  have t2:=hH.tail.tail.head.1
  have t3:=hH.tail.tail.tail.head.1
  have t4:=hH.tail.tail.tail.tail.head.1
  have t5:=hH.tail.tail.tail.tail.tail.head.1
  have t6:=hH.tail.tail.tail.tail.tail.tail.head.1
  have t7:=hH.tail.tail.tail.tail.tail.tail.tail.head.1
  simp only [List.length_cons,List.length_nil,Nat.zero_add] at t0 t1 t2 t3 t4 t5 t6 t7 hlen
  refine ⟨_,ybJ (j:=8) ?_ (by omega)⟩
  unfold yaA
  rw [ygc t0]
  simp only [Rs.then_ok,if_true]
  unfold ybC
  have eo:yaS T [w_table,w_index] 1=.ok w_index 2:=by simp [yaS,t1]
  rw [eo]
  simp only [Rs.then_ok]
  rw [if_neg (by decide),ya3 hn t2]
  simp only [Rs.then_ok]
  rw [ybg t3]
  simp only [Rs.then_ok]
  rw [ya3 ho t4]
  simp only [Rs.then_ok]
  rw [ybg t5]
  simp only [Rs.then_ok]
  rw [ya3 hc t6]
  simp only [Rs.then_ok]
  rw [ybg t7]
  simp only [Rs.then_ok]
 | unindex n hn =>
  have e1:toks (yaP { cm0 with kind:=9,name:=n })=[(w_drop,1),(w_index,1),(n,1)] :=
   yaL (by decide +kernel) _ (yaL (by decide +kernel) _ (yaO hn _ rfl))
  rw [e1] at hH hlen
  have t0:=hH.head.1
  have t1:=hH.tail.head.1
  have t2:=hH.tail.tail.head.1
  simp only [List.length_cons,List.length_nil,Nat.zero_add] at t0 t1 t2 hlen
  refine ⟨_,ybJ (j:=3) ?_ (by omega)⟩
  unfold yaA
  rw [yjl t0]
  simp only [Rs.then_ok]
  rw [if_neg (by decide),if_pos trivial]
  unfold ydW
  have eo:yaS T [w_table,w_index] 1=.ok w_index 2:=by simp [yaS,t1]
  rw [eo]
  simp only [Rs.then_ok]
  rw [ya3 hn t2]
  simp only [Rs.then_ok,if_true]
 | insert n hn l hl h5 h =>
  have e:yaP { cm0 with kind:=10,name:=n,vals:=l }=[w_insert,w_into,n,w_values,[40]]++(yaq (fun v=>[ybc v]) l++[[41]]):=rfl
  have e1:toks [w_insert,w_into,n,w_values,[40]]=[(w_insert,1),(w_into,1),(n,1),(w_values,1),([40],4)] :=
   yaL (by decide +kernel) _ (yaL (by decide +kernel) _ (yaO hn _ (yaL (by decide +kernel) _ (yaL (by decide +kernel) _ rfl))))
  have e2:toks [[41]]=[([41],4)]:=by decide +kernel
  rw [e,yaY,yaY,e1,e2] at hH hlen
  have t0:=hH.left.head.1
  have t1:=hH.left.tail.head.1
  have t2:=hH.left.tail.tail.head.1
  have t3:=hH.left.tail.tail.tail.head.1
  have t4:=hH.left.tail.tail.tail.tail.head.1
  have hr:=hH.right
  have tz:=hr.right.head.1
  simp only [List.length_cons,List.length_nil,List.length_append,Nat.zero_add] at t0 t1 t2 t3 t4 hr tz hlen
  have hb:=yfr (T:=T) (f:=fun v=>[ybc v]) (one:=yaJ T) l hl (by omega) (fun x hx i hi=>by
   have hk:toks [ybc x]=ybS (ybc x):=by simp [toks]
   simp only [hk] at hi ⊢
   exact (yeP (h x hx) hi).1) 5 hr.left (by rw [tz];decide)
  refine ⟨_,ybJ (j:=5+(toks (yaq (fun v=>[ybc v]) l)).length+1) ?_ (by omega)⟩
  unfold yaA
  rw [ykt t0]
  simp only [Rs.then_ok]
  rw [if_neg (by decide),if_neg (by decide),if_neg (by decide),if_pos trivial]
  unfold ycp
  rw [ybg t1]
  simp only [Rs.then_ok]
  rw [ya3 hn t2]
  simp only [Rs.then_ok]
  rw [ybg t3]
  simp only [Rs.then_ok]
  unfold ycy
  rw [ybg t4]
  simp only [Rs.then_ok]
  rw [hb]
  simp only [Rs.then_ok]
  rw [ybg tz]
  simp only [Rs.then_ok]
 | delete n hn a x hw =>
  have e:yaP { cm0 with kind:=11,name:=n,all:=a,wh:=x }=[w_delete,w_from,n]++yar { cm0 with kind:=11,name:=n,all:=a,wh:=x }:=rfl
  have e1:toks [w_delete,w_from,n]=[(w_delete,1),(w_from,1),(n,1)]:=yaL (by decide +kernel) _ (yaL (by decide +kernel) _ (yaO hn _ rfl))
  rw [e,yaY,e1] at hH hlen
  have t0:=hH.left.head.1
  have t1:=hH.left.tail.head.1
  have t2:=hH.left.tail.tail.head.1
  have hr:=hH.right
  simp only [List.length_cons,List.length_nil,List.length_append,Nat.zero_add] at t0 t1 t2 hr hlen
  have hb:=yeR hw { cm0 with kind:=11,name:=n } { cm0 with kind:=11,name:=n,all:=a,wh:=x } rfl rfl rfl hr (by intro hz;rw [hz] at hlen;rw [ynx T 3 (by rw [hlen];simp [toks])];decide)
  refine ⟨_,ybJ (j:=_) ?_ (Nat.le_of_eq hlen)⟩
  unfold yaA
  rw [yks t0]
  simp only [Rs.then_ok]
  rw [if_neg (by decide),if_neg (by decide),if_neg (by decide),if_neg (by decide),if_pos trivial]
  unfold ycx
  rw [ybg t1]
  simp only [Rs.then_ok]
  rw [ya3 hn t2]
  simp only [Rs.then_ok]
  exact hb
 | update n c hn hc y hy hs a x hw =>
  have e:yaP { cm0 with kind:=12,name:=n,column:=c,expr:=y,all:=a,wh:=x }=[w_update,n,w_set,c,[61]]++(yat y++yar { cm0 with kind:=12,name:=n,column:=c,expr:=y,all:=a,wh:=x }):=rfl
  have e1:toks [w_update,n,w_set,c,[61]]=[(w_update,1),(n,1),(w_set,1),(c,1),([61],4)] :=
   yaL (by decide +kernel) _ (yaO hn _ (yaL (by decide +kernel) _ (yaO hc _ (yaL (by decide +kernel) _ rfl))))
  rw [e,yaY,yaY,e1] at hH hlen
  have t0:=hH.left.head.1
  have t1:=hH.left.tail.head.1
  have t2:=hH.left.tail.tail.head.1
  have t3:=hH.left.tail.tail.tail.head.1
  have t4:=hH.left.tail.tail.tail.tail.head.1
  have hr:=hH.right
  simp only [List.length_cons,List.length_nil,List.length_append,Nat.zero_add] at t0 t1 t2 t3 t4 hr hlen
  have hb:=yeR hw { cm0 with kind:=12,name:=n,column:=c,expr:=y } { cm0 with kind:=12,name:=n,column:=c,expr:=y,all:=a,wh:=x } rfl rfl rfl hr.right (by intro hz;rw [hz] at hlen;rw [ynx T _ (by rw [hlen];simp [toks])];decide)
  refine ⟨_,ybJ (j:=5+(toks (yat y)).length+(toks (yar { cm0 with kind:=12,name:=n,column:=c,expr:=y,all:=a,wh:=x })).length) ?_ (by rw [hlen];exact Nat.le_of_eq (Nat.add_assoc _ _ _).symm)⟩
  unfold yaA
  rw [ykv t0]
  simp only [Rs.then_ok]
  rw [if_neg (by decide),if_neg (by decide),if_neg (by decide),if_neg (by decide),if_neg (by decide),if_pos trivial]
  unfold yca
  rw [ya3 hn t1]
  simp only [Rs.then_ok]
  rw [ybg t2]
  simp only [Rs.then_ok]
  rw [ya3 hc t3]
  simp only [Rs.then_ok]
  rw [ybg t4]
  simp only [Rs.then_ok]
  rw [yg4 hy 60 5 (by omega) hr.left]
  simp only [Rs.then_ok]
  exact hb
 | select n hn l h5 hl a x hw o ho m hm =>
  generalize hF:(if l=[] then [[42]] else yaq (fun s=>[s]) l:List (List UInt8))=F
  generalize hO:(if o=[] then [] else [w_order,w_by,o]:List (List UInt8))=O
  generalize hM:(if m < 0 then [] else [w_limit,Lib.itoa m]:List (List UInt8))=M
  have e:yaP { cm0 with kind:=13,name:=n,fields:=l,all:=a,wh:=x,order:=o,limit:=m }=[w_select]++(F++([w_from,n]++(yar { cm0 with all:=a,wh:=x }++(O++M)))):=by
   rw [← hF,← hO,← hM];rfl
  have e1:toks [w_select]=[(w_select,1)]:=by decide +kernel
  have e2:toks [w_from,n]=[(w_from,1),(n,1)]:=yaL (by decide +kernel) _ (yaO hn _ rfl)
  rw [e,yaY,yaY,yaY,yaY,yaY,e1,e2] at hH hlen
  have t0:=hH.left.head.1
  have hA:=hH.right
  have hB:=hA.right
  have u0:=hB.left.head.1
  have u1:=hB.left.tail.head.1
  have hC:=hB.right
  have hD:=hC.right
  have hE:=hD.right
  simp only [List.length_cons,List.length_nil,List.length_append,Nat.zero_add] at t0 hA u0 u1 hC hD hE hlen
  generalize eF:(toks F).length=nF at *
  generalize eW:(toks (yar { cm0 with all:=a,wh:=x })).length=nW at *
  generalize eO:(toks O).length=nO at *
  generalize eM:(toks M).length=nM at *
  have fb:yfk T 1=.ok l (1+nF):=by
   unfold yfk
   by_cases hl0:l=[]
   ·rw [if_pos hl0] at hF
    subst hF
    have:toks [[42]]=[([42],4)]:=by decide +kernel
    rw [this] at hA eF
    have em:may T [42] [] 1=.ok true 2:=by unfold may;rw [if_pos hA.left.head.1];rfl
    rw [em]
    simp only [Rs.then_ok,if_true]
    rw [hl0,← eF];rfl
   ·rw [if_neg hl0] at hF
    subst hF
    obtain ⟨y,ys,rfl⟩:=List.exists_cons_of_ne_nil hl0
    have hy0:=hA.left
    rw [yd2,List.singleton_append,yb3,yei (hl y (List.mem_cons_self ..))] at hy0
    have em:may T [42] [] 1=.ok false 1:=by unfold may;rw [if_neg (by rw [hy0.head.1];exact ye3 (by decide +kernel) y (hl y (List.mem_cons_self ..)))]
    rw [em]
    simp only [Rs.then_ok,Bool.false_eq_true,if_false]
    have hb:=yfr (T:=T) (f:=fun s=>[s]) (one:=yau T) (y::ys) hl0 (by omega) (fun z hz i hi=>by
     have hk:toks [z]=[(z,1)]:=yaO (hl z hz) _ rfl
     simp only [hk] at hi ⊢
     exact ya3 (hl z hz) hi.head.1) 1 hA.left (by rw [eF,u0];decide)
    rw [hb,eF]
  have hMt:tx T (1+nF+2+nW+nO)=if m < 0 then [] else w_limit:=by
   split
   ·rename_i h0
    rw [if_pos h0] at hM
    subst hM
    exact ynx T _ (by rw [hlen,← eM];simp [toks];omega)
   ·rename_i h0
    rw [if_neg h0] at hM
    subst hM
    have:toks [w_limit,Lib.itoa m]=(w_limit,1)::toks [Lib.itoa m]:=by rw [yb3,show ybS w_limit=[(w_limit,1)] by decide +kernel];rfl
    rw [this] at hE
    exact hE.head.1
  have hOt:tx T (1+nF+2+nW)=if o=[] then (if m < 0 then [] else w_limit) else w_order:=by
   split
   ·rename_i h0
    rw [if_pos h0] at hO
    subst hO
    rw [← hMt,← eO];simp [toks]
   ·rename_i h0
    rw [if_neg h0] at hO
    subst hO
    have:toks [w_order,w_by,o]=(w_order,1)::toks [w_by,o]:=by rw [yb3,show ybS w_order=[(w_order,1)] by decide +kernel];rfl
    rw [this] at hD
    exact hD.left.head.1
  have hb:=yeR hw { cm0 with kind:=13,limit:=-1,fields:=l,name:=n } { cm0 with all:=a,wh:=x } rfl rfl rfl hC.left (by
   intro hz
   have e0:nW=0:=by rw [← eW,hz];rfl
   rw [e0,Nat.add_zero] at hOt
   rw [hOt]
   split
   ·split <;> decide
   ·decide)
  rw [eW] at hb
  have ob:ycJ T { cm0 with kind:=13,limit:=-1,fields:=l,name:=n,all:=a,wh:=x } (1+nF+2+nW)=.ok { cm0 with kind:=13,limit:=-1,fields:=l,name:=n,all:=a,wh:=x,order:=o } (1+nF+2+nW+nO):=by
   unfold ycJ
   by_cases h0:o=[]
   ·rw [if_pos h0] at hO hOt
    subst hO
    have em:may T w_order [w_by] (1+nF+2+nW)=.ok false (1+nF+2+nW):=by
     unfold may
     rw [if_neg]
     rw [hOt]
     split <;> decide
    rw [em,h0,← eO]
    simp [toks,cm0]
   ·have hn0:yap o=true:=by rcases ho with h|h;exact absurd h h0;exact h
    rw [if_neg h0] at hO hOt
    subst hO
    have:toks [w_order,w_by,o]=[(w_order,1),(w_by,1),(o,1)]:=yaL (by decide +kernel) _ (yaL (by decide +kernel) _ (yaO hn0 _ rfl))
    rw [this] at hD eO
    have em:may T w_order [w_by] (1+nF+2+nW)=.ok true (1+nF+2+nW+1+1):=by
     unfold may
     rw [if_pos hD.left.head.1,ybg hD.left.tail.head.1];rfl
    rw [em]
    simp only [Rs.then_ok,if_true]
    rw [ya3 hn0 hD.left.tail.tail.head.1]
    simp only [Rs.then_ok]
    rw [← eO];rfl
  have lb:ybT T { cm0 with kind:=13,limit:=-1,fields:=l,name:=n,all:=a,wh:=x,order:=o } (1+nF+2+nW+nO)=.ok { cm0 with kind:=13,fields:=l,name:=n,all:=a,wh:=x,order:=o,limit:=m } (1+nF+2+nW+nO+nM):=by
   unfold ybT
   by_cases h0:m < 0
   ·rw [if_pos h0] at hM hMt
    subst hM
    have em:may T w_limit [] (1+nF+2+nW+nO)=.ok false (1+nF+2+nW+nO):=by
     unfold may
     rw [if_neg (by rw [hMt];decide)]
    have:m = -1:=by omega
    rw [em,this,← eM]
    simp [toks]
   ·rw [if_neg h0] at hM hMt
    subst hM
    have ei:Lib.itoa m=Lib.decDigits m.toNat:=by rw [Lib.itoa,if_neg h0]
    have:toks [w_limit,Lib.itoa m]=[(w_limit,1),(Lib.decDigits m.toNat,2)]:=by rw [ei];exact yaL (by decide +kernel) _ (yaL (ydk _ (by omega)) _ rfl)
    rw [this] at hE eM
    have em:may T w_limit [] (1+nF+2+nW+nO)=.ok true (1+nF+2+nW+nO+1):=by
     unfold may
     rw [if_pos hMt];rfl
    rw [em]
    simp only [Rs.then_ok,if_true]
    unfold yaX
    have q:=hE.tail.head
    simp only at q
    rw [q.1,yd3,if_pos ⟨q.2,Nat.zero_le _⟩]
    simp only [Rs.then_ok]
    have:((m.toNat:Nat):Int)=m:=by omega
    rw [this,← eM];rfl
  refine ⟨_,ybJ (j:=1+nF+2+nW+nO+nM) ?_ (by omega)⟩
  unfold yaA
  rw [yku t0]
  simp only [Rs.then_ok]
  rw [if_neg (by decide),if_neg (by decide),if_neg (by decide),if_neg (by decide),if_neg (by decide),if_neg (by decide),if_pos trivial]
  unfold yaK
  rw [fb]
  simp only [Rs.then_ok]
  rw [ybg u0]
  simp only [Rs.then_ok]
  rw [ya3 hn u1]
  simp only [Rs.then_ok]
  rw [hb]
  simp only [Rs.then_ok]
  rw [ob]
  simp only [Rs.then_ok]
  exact lb
 | begin_ =>
  have e1:toks (yaP { cm0 with kind:=14 })=[(w_begin,1)]:=by decide +kernel
  rw [e1] at hH hlen
  have t0:=hH.head.1
  refine ⟨_,ybJ (j:=1) ?_ (by simp at hlen;omega)⟩
  unfold yaA
  have:yaS T yb8 0=.ok w_begin 1:=by simp only at t0;simp [yaS,yb8,t0]
  rw [this]
  simp
 | commit =>
  have e1:toks (yaP { cm0 with kind:=15 })=[(w_commit,1)]:=by decide +kernel
  rw [e1] at hH hlen
  have t0:=hH.head.1
  refine ⟨_,ybJ (j:=1) ?_ (by simp at hlen;omega)⟩
  unfold yaA
  have:yaS T yb8 0=.ok w_commit 1:=by simp only at t0;simp [yaS,yb8,t0]
  rw [this]
  simp
 | rollback =>
  have e1:toks (yaP { cm0 with kind:=16 })=[(w_rollback,1)]:=by decide +kernel
  rw [e1] at hH hlen
  have t0:=hH.head.1
  refine ⟨_,ybJ (j:=1) ?_ (by simp at hlen;omega)⟩
  unfold yaA
  have:yaS T yb8 0=.ok w_rollback 1:=by simp only at t0;simp [yaS,yb8,t0]
  rw [this]
  simp
theorem ynq {c:Cm} (hr:yeJ c=true) (hm:ybQ c=false) (hl:(yeu c).length≤2000):∃ M j,yaH (yeu c)=(M,0,0)∧ycc M=.ok c j:=by
 have h:=ygH hr hm
 obtain ⟨M,h1,h2⟩:=yng (yaP c) (yfM h) hl
 obtain ⟨j,h3⟩:=yg2 h h2
 exact ⟨M,j,h1,h3⟩
theorem yi5 {c:Cm} (h0:yeb (ybQ c) (yeJ c)=0):ybQ c=false∧yeJ c=true:=by
 unfold yeb at h0
 cases hm:ybQ c <;> cases hr:yeJ c <;> simp [hm,hr] at h0 <;> simp
theorem ydo {c:Cm} (h0:yeb (ybQ c) (yeJ c)=0) (hl:(yc6 c).length≤2000):(ybZ (yc6 c)).1=0∧(ybZ (yc6 c)).2.2=c:=by
 have h1:=yi5 h0
 have hs:yc6 c=yeu c:=if_pos h0
 rw [hs] at hl ⊢
 obtain ⟨M,j,hM,hj⟩:=ynq h1.2 h1.1 hl
 have:ybZ (yeu c)=(0,0,c):=by
  unfold ybZ
  rw [hM]
  simp only [hj,if_true]
  rw [yeK,if_pos h0]
 rw [this];exact ⟨rfl,rfl⟩
theorem yc1 (s:List UInt8) (hs:s.length≤9223372036854775000):ybt ⟨s.toArray⟩ (ybZ s).2.2 (ybZ s).1:=by
 intro W hL
 refine (yhp s W hs hL).mono ?_
 rintro e w' ⟨⟨u,rfl,cv,vv,fv,ea,wa,rfl,hi⟩,hb⟩
 exact ⟨⟨_,cv,vv,fv,ea,wa,rfl,hi⟩,hb⟩
theorem ydM {c:Cm} (hf:CmFit c):yhW c:=fun W cv vv fv ea wa cv' vv' fv' ea' wa' h h'=>yhA c cv vv fv ea wa cv' vv' fv' ea' wa' W h h' hf
theorem ypA {c:Cm} (hf:CmFit c) (h0:yeb (ybQ c) (yeJ c)=0):yhZ c ⟨(yc6 c).toArray⟩:=by
 intro W cv vv fv ea wa hi hL
 have h:=ygM c cv vv fv ea wa hi hf hL
 rw [h0] at h
 exact h
theorem ynm {c:Cm} (h0:yeb (ybQ c) (yeJ c)=0):(yc6 c).length≤1000000:=by
 have h1:=yi5 h0
 rw [show yc6 c=yeu c from if_pos h0]
 exact yhH (ygH h1.2 h1.1)
theorem ynP (c:Cm) (cv vv fv ea wa:Value) (w:World) (hi:CmIn 0 w c cv vv fv ea wa) (hf:CmFit c) (s:List UInt8) (hs:s.length≤9223372036854775000) (hl:Laid w) :
  Calls Tryz.prog 7 #[.agg (cmL c cv vv fv ea wa).toArray,.string ⟨s.toArray⟩] w fun e w'=>e=.returned (.bool true)∧Below w.heap.size w w':=by
 have hs1:∀ W,Below w.heap.size w W→Laid W→Calls Tryz.prog 17 #[.agg (cmL c cv vv fv ea wa).toArray] W fun e w'=>e=.returned (.tuple #[.string ⟨(yc6 c).toArray⟩,.int .i64 (yeb (ybQ c) (yeJ c))])∧Below W.heap.size W w' :=
  fun W hb hL=>ygM c cv vv fv ea wa (hi.under hb) hf hL
 have hp2:=yc1 s hs
 have hfd:=yge s
 by_cases hF:(ybZ s).1=0
 ·have h0:=yho s hF
  rw [yeK] at h0
  rw [hF] at hp2
  generalize (ybZ s).2.2=d at hp2 h0 hfd
  have hs2:=ypA hfd h0
  have hfew:=ynm h0
  have hp3:=yc1 (yc6 d) (by omega)
  by_cases hl2:(yc6 d).length≤2000
  ·obtain ⟨z1,z2⟩:=ydo h0 hl2
   rw [z1,z2] at hp3
   have hlen2:¬ 2000 < (((⟨(yc6 d).toArray⟩:ByteArray).size:Nat):Int):=by rw [yaN];omega
   by_cases hE:yeb (ybQ c) (yeJ c)=0
   ·rw [hE] at hs1
    by_cases hl1:(yc6 c).length≤2000
    ·obtain ⟨y1,y2⟩:=ydo hE hl1
     have hp1:=yc1 (yc6 c) (by omega)
     rw [y1,y2] at hp1
     exact yqb c d _ _ _ cv vv fv ea wa w hi hl hs1 (by rw [yaN];omega) hp1 (ydM hf) hp2 hs2 hlen2 hp3 (ydM hfd)
    ·exact yqe c d _ _ _ cv vv fv ea wa w hi hl hs1 (by rw [yaN];omega) hp2 hs2 hlen2 hp3 (ydM hfd)
   ·exact yqh c d _ _ _ _ cv vv fv ea wa w hi hl hs1 (by simpa using hE) hp2 hs2 hlen2 hp3 (ydM hfd)
  ·have hlen2:2000 < (((⟨(yc6 d).toArray⟩:ByteArray).size:Nat):Int):=by rw [yaN];omega
   by_cases hE:yeb (ybQ c) (yeJ c)=0
   ·rw [hE] at hs1
    by_cases hl1:(yc6 c).length≤2000
    ·obtain ⟨y1,y2⟩:=ydo hE hl1
     have hp1:=yc1 (yc6 c) (by omega)
     rw [y1,y2] at hp1
     exact yqc c d _ _ _ _ _ cv vv fv ea wa w hi hl hs1 (by rw [yaN];omega) hp1 (ydM hf) hp2 hs2 hlen2 hp3
    ·exact yqf c d _ _ _ _ _ cv vv fv ea wa w hi hl hs1 (by rw [yaN];omega) hp2 hs2 hlen2 hp3
   ·exact yqi c d _ _ _ _ _ _ cv vv fv ea wa w hi hl hs1 (by simpa using hE) hp2 hs2 hlen2 hp3
 ·have hk:Hid ((ybZ s).2.2.kind=0):=by rw [yiA s hF];exact yae rfl
  have hF':((ybZ s).1 == 0)=false:=by simpa using hF
  by_cases hE:yeb (ybQ c) (yeJ c)=0
  ·rw [hE] at hs1
   by_cases hl1:(yc6 c).length≤2000
   ·obtain ⟨y1,y2⟩:=ydo hE hl1
    have hp1:=yc1 (yc6 c) (by omega)
    rw [y1,y2] at hp1
    exact yqd c _ _ _ _ cv vv fv ea wa w hi hl hs1 (by rw [yaN];omega) hp1 (ydM hf) hp2 hF' hk
   ·exact yqg c _ _ _ _ cv vv fv ea wa w hi hl hs1 (by rw [yaN];omega) hp2 hF' hk
  ·exact yqj c _ _ _ _ _ cv vv fv ea wa w hi hl hs1 (by simpa using hE) hp2 hF' hk
end Go.Proofs.YtkpeklealgicpabGreatDoor
