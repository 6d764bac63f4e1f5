/-
  'choose' of the parser.
  'insert' of the parser.
  'command' of the parser.
  'parse' of package command: what gives up is caught.
-/
import Derived.Defers
import Derived.Recover
import Derived.Test.YtkpeklealgicpabGreatDoorQa
import Derived.Test.YtkpeklealgicpabGreatDoorQc
import Derived.Test.YtkpeklealgicpabGreatDoorQd

set_option maxRecDepth 100000
set_option maxHeartbeats 8000000
namespace Go.Proofs.YtkpeklealgicpabGreatDoor
open Go.RowKit
theorem yjF {w:World} {base pb:Nat} {v:Value} {T:List Tk} {en:Int} {i:Nat} (h:St w base pb v T en i) :
  Calls Tryz.prog 111 #[.pointer (some ⟨pb,0,none⟩)] w fun e w'=>Out w base pb v T en (ypW w.heap.size) (yaK T i) e w':=by
 have hpl:=h.heapLt
 have HR0:Hid (yaK T i=((may T [42] [] i).then fun b j=>if b=true then .ok [] j else ybX T (yau T) j).then fun l j=>(ybl T [w_from] j).then fun _ j=>(yau T j).then fun n j=>(ybh T { cm0 with kind:=13,limit:=-1,fields:=l,name:=n } j).then fun c j=>(ycJ T c j).then fun c j=>ybT T c j):=by show _=_;rw [yaK,yfk]
 go_enter Tryz.func111,Tryz.ntmps111
 go_wp2_with (first|(refine yac 2 31 (cmL cm0 (.slice none 0 0) (.slice none 0 0) (.slice none 0 0) (.slice none 0 0) (.slice none 0 0)) rfl rfl rfl Tryz.alloc31 ?_;intro W0 rb hrb k0 b0)|(refine yac 3 31 (cmL cm0 (.slice none 0 0) (.slice none 0 0) (.slice none 0 0) (.slice none 0 0) (.slice none 0 0)) rfl rfl rfl Tryz.alloc31 ?_;intro wA cb hcb cA bA)|(refine yab 31 _ _ rfl rfl _ (cmL cm0 (.slice none 0 0) (.slice none 0 0) (.slice none 0 0) (.slice none 0 0) (.slice none 0 0)) (cmL { cm0 with kind:=13,limit:=-1 } (.slice none 0 0) (.slice none 0 0) (.slice none 0 0) (.slice none 0 0) (.slice none 0 0)) 31 rfl rfl (by exact cA) rfl Tryz.size31 (by exact CmIn.one (yb6 0 w { cm0 with kind:=13,limit:=-1 } rfl rfl rfl rfl rfl)) ?_;intro w1 c1 p1))
 have hfr:=h.fresh (Nat.le_of_eq hrb.out.symm)
 have hrw:w.heap.size≤rb:=Nat.le_of_eq hrb.out.symm
 have s0:=h.below b0
 have g0:=yad b0 (some pb)
 clear b0
 have hrc:rb < cb:=by have:=(ltS k0);have:=hcb.out;omega
 have hcw:w.heap.size≤cb:=by omega
 have hfc:=h.fresh hcw
 have hpB:pb < cb+1:=by omega
 have hcB:cb < cb+1:=by omega
 have hrB:rb < cb+1:=by omega
 have hBw:w.heap.size≤cb+1:=by omega
 have s1:St w1 base pb v T en i:=by rw [p1.out];exact (s0.below bA).putAll hfc 0 _
 have g1:w.grownBy w1 (some pb):=by rw [p1.out];exact yak (yaa g0 (yad bA _)) hcw 0 _
 have k1:w1.heap[rb]?=some (.cells (cmL cm0 (.slice none 0 0) (.slice none 0 0) (.slice none 0 0) (.slice none 0 0) (.slice none 0 0)).toArray 31):=by rw [p1.out];exact (yag _ _ _ _ _ (Nat.ne_of_lt hrc)).trans ((bA.block rb (ltS k0)).trans k0)
 have m1:CmIn (cb+1) w1 { cm0 with kind:=13,limit:=-1 } (.slice none 0 0) (.slice none 0 0) (.slice none 0 0) (.slice none 0 0) (.slice none 0 0):=yb6 _ _ _ rfl rfl rfl rfl rfl
 clear cA bA p1 hcb k0 s0 g0
 refine (yeH s1 [42] (by decide)).mono ?_
 intro e w2 o2
 have g2:=yaa g1 o2.grown
 have k2:=(o2.grown.block rb (ltS k1) (by simpa using hfr.1)).trans k1
 have c2:=(o2.grown.block cb (ltS c1) (by simpa using hfc.1)).trans c1
 have m2:=m1.grown hpB o2.grown
 cases hy2:may T [42] [] i with
 | bad j2 =>
  obtain rfl:=o2.bad j2 hy2
  exact ⟨rfl,.mkBad g2 (by rw [HR0.out];simp only [hy2,Rs.then_bad])⟩
 | ok x2 j2 =>
  obtain ⟨u,rfl,hu2,s2⟩:=o2.ok x2 j2 hy2
  have HR2:Hid (yaK T i=(if x2=true then .ok [] j2 else ybX T (yau T) j2).then fun l j=>(ybl T [w_from] j).then fun _ j=>(yau T j).then fun n j=>(ybh T { cm0 with kind:=13,limit:=-1,fields:=l,name:=n } j).then fun c j=>(ycJ T c j).then fun c j=>ybT T c j):=by show _=_;rw [HR0.out];simp only [hy2,Rs.then_ok]
  cases hu2
  clear hy2 o2 k1 s1 g1 HR0 c1 m1
  cases x2 with
  | true =>
   have HR3:Hid (yaK T i=(ybl T [w_from] j2).then fun _ j=>(yau T j).then fun n j=>(ybh T { cm0 with kind:=13,limit:=-1,fields:=[],name:=n } j).then fun c j=>(ycJ T c j).then fun c j=>ybT T c j):=by show _=_;rw [HR2.out];rfl
   clear HR2
   go_wp2_with fail
   refine (ybz s2 [w_from] 1 _ (by first|rfl|simp) _ (by rfl) (by rfl) (by decide) (by decide)).mono ?_
   intro e w4 o4
   have g4:=yaa g2 o4.grown
   have k4:=(o4.grown.block rb (ltS k2) (by simpa using hfr.1)).trans k2
   have c4:=(o4.grown.block cb (ltS c2) (by simpa using hfc.1)).trans c2
   have m4:=m2.grown hpB o4.grown
   cases hy4:ybl T [w_from] j2 with
   | bad j4 =>
    obtain rfl:=o4.bad j4 hy4
    exact ⟨rfl,.mkBad g4 (by rw [HR3.out];simp only [hy4,Rs.then_bad])⟩
   | ok x4 j4 =>
    obtain ⟨u,rfl,hu4,s4⟩:=o4.ok x4 j4 hy4
    have HR4:Hid (yaK T i=(yau T j4).then fun n j=>(ybh T { cm0 with kind:=13,limit:=-1,fields:=[],name:=n } j).then fun c j=>(ycJ T c j).then fun c j=>ybT T c j):=by show _=_;rw [HR3.out];simp only [hy4,Rs.then_ok]
    clear hy4 o4 k2 s2 g2 HR3 c2 m2 hu4
    go_wp2_with fail
    refine (ya9 s4).mono ?_
    intro e w5 o5
    have g5:=yaa g4 o5.grown
    have k5:=(o5.grown.block rb (ltS k4) (by simpa using hfr.1)).trans k4
    have c5:=(o5.grown.block cb (ltS c4) (by simpa using hfc.1)).trans c4
    have m5:=m4.grown hpB o5.grown
    cases hy5:yau T j4 with
    | bad j5 =>
     obtain rfl:=o5.bad j5 hy5
     exact ⟨rfl,.mkBad g5 (by rw [HR4.out];simp only [hy5,Rs.then_bad])⟩
    | ok x5 j5 =>
     obtain ⟨u,rfl,hu5,s5⟩:=o5.ok x5 j5 hy5
     have HR5:Hid (yaK T i=(ybh T { cm0 with kind:=13,limit:=-1,fields:=[],name:=x5 } j5).then fun c j=>(ycJ T c j).then fun c j=>ybT T c j):=by show _=_;rw [HR4.out];simp only [hy5,Rs.then_ok]
     cases hu5
     clear hy5 o5 k4 s4 g4 HR4 c4 m4
     have q6a:w5.cell? ⟨cb,1,none⟩=some _:=(Lib.cell_of_heap c5 1).trans rfl
     have q6b:w5.frozen? ⟨cb,1,none⟩=false:=Lib.frozen_of_heap c5 1
     have c6:(w5.setCell ⟨cb,1,none⟩ (.string ⟨x5.toArray⟩)).heap[cb]?=some (.cells (cmL { cm0 with kind:=13,limit:=-1,fields:=[],name:=x5 } (.slice none 0 0) (.slice none 0 0) (.slice none 0 0) (.slice none 0 0) (.slice none 0 0)).toArray 31):=heap_setCell_same _ _ _ _ 31 _ c5
     have k6:=(heap_setCell_other w5 ⟨cb,1,none⟩ rb (.string ⟨x5.toArray⟩) (Nat.ne_of_lt hrc)).trans k5
     have s6:=s5.put hfc 1 (.string ⟨x5.toArray⟩)
     have g6:=yan g5 hcw 1 (.string ⟨x5.toArray⟩)
     have m6:=CmIn.put (⟨m5.cols,m5.vals,m5.fields,m5.expr,m5.wh⟩:CmIn (cb+1) w5 { cm0 with kind:=13,limit:=-1,fields:=[],name:=x5 } (.slice none 0 0) (.slice none 0 0) (.slice none 0 0) (.slice none 0 0) (.slice none 0 0)) hcB 1 (.string ⟨x5.toArray⟩)
     generalize hW6:w5.setCell ⟨cb,1,none⟩ (.string ⟨x5.toArray⟩)=w6 at c6 k6 s6 g6 m6
     clear c5 k5 s5 g5 m5
     go_wp2_with fail
     clear hW6 q6a q6b
     refine (yez s6 cb hfc { cm0 with kind:=13,limit:=-1,fields:=[],name:=x5 } (.slice none 0 0) (.slice none 0 0) (.slice none 0 0) (.slice none 0 0) c6 rfl).mono ?_
     intro e w7 o7
     have g7:w.grownBy w7 (some pb):=⟨o7.os.trans g6.os,o7.tape.trans g6.tape,o7.output.trans g6.output,Nat.le_trans g6.size o7.size,fun k hk hp=>(o7.block k (Nat.lt_of_lt_of_le hk g6.size) (by simpa using hp) (by omega)).trans (g6.block k hk hp)⟩
     have k7:=(o7.block rb (ltS k6) hfr.1 (Nat.ne_of_lt hrc)).trans k6
     have n7:=m6.keep o7.size fun b hB hs=>o7.block b hs (by omega) (by omega)
     have hz7:cb+1≤w6.heap.size:=by have:=(ltS c6);omega
     cases hy7:ybh T { cm0 with kind:=13,limit:=-1,fields:=[],name:=x5 } j5 with
     | bad j7 =>
      obtain rfl:=o7.bad j7 hy7
      exact ⟨rfl,.mkBad g7 (by rw [HR5.out];simp only [hy7,Rs.then_bad])⟩
     | ok cc7 j7 =>
      obtain ⟨rfl,⟨wa7,c7,hx7⟩,s7⟩:=o7.ok cc7 j7 hy7
      have HR7:Hid (yaK T i=(ycJ T cc7 j7).then fun c j=>ybT T c j):=by show _=_;rw [HR5.out];simp only [hy7,Rs.then_ok]
      obtain ⟨e1,e2,e3,e4⟩:=ydV hy7
      have m7:CmIn (cb+1) w7 cc7 (.slice none 0 0) (.slice none 0 0) (.slice none 0 0) (.slice none 0 0) wa7:=⟨by rw [e1];exact n7.cols,by rw [e2];exact n7.vals,by rw [e3];exact n7.fields,by rw [e4];exact n7.expr,hx7.weak hz7⟩
      clear hy7 o7 n7 e1 e2 e3 e4 hx7 hz7 k6 s6 g6 HR5 c6 m6
      have HR8:Hid (yaK T i=((may T w_order [w_by] j7).then fun b j=>if b=true then (yau T j).then fun o j=>.ok { cc7 with order:=o } j else .ok cc7 j).then fun c j=>ybT T c j):=by show _=_;rw [HR7.out,ycJ]
      clear HR7
      go_wp2_with fail
      refine (yiu s7 w_order (by decide) [w_by] 1 _ (by first|rfl|simp) _ (by rfl) (by rfl) (by decide) (by decide)).mono ?_
      intro e w9 o9
      have g9:=yaa g7 o9.grown
      have k9:=(o9.grown.block rb (ltS k7) (by simpa using hfr.1)).trans k7
      have c9:=(o9.grown.block cb (ltS c7) (by simpa using hfc.1)).trans c7
      have m9:=m7.grown hpB o9.grown
      cases hy9:may T w_order [w_by] j7 with
      | bad j9 =>
       obtain rfl:=o9.bad j9 hy9
       exact ⟨rfl,.mkBad g9 (by rw [HR8.out];simp only [hy9,Rs.then_bad])⟩
      | ok x9 j9 =>
       obtain ⟨u,rfl,hu9,s9⟩:=o9.ok x9 j9 hy9
       have HR9:Hid (yaK T i=(if x9=true then (yau T j9).then fun o j=>.ok { cc7 with order:=o } j else .ok cc7 j9).then fun c j=>ybT T c j):=by show _=_;rw [HR8.out];simp only [hy9,Rs.then_ok]
       cases hu9
       clear hy9 o9 k7 s7 g7 HR8 c7 m7
       cases x9 with
       | true =>
        have HR10:Hid (yaK T i=((yau T j9).then fun o j=>.ok { cc7 with order:=o } j).then fun c j=>ybT T c j):=by show _=_;rw [HR9.out];rfl
        clear HR9
        go_wp2_with fail
        refine (ya9 s9).mono ?_
        intro e w11 o11
        have g11:=yaa g9 o11.grown
        have k11:=(o11.grown.block rb (ltS k9) (by simpa using hfr.1)).trans k9
        have c11:=(o11.grown.block cb (ltS c9) (by simpa using hfc.1)).trans c9
        have m11:=m9.grown hpB o11.grown
        cases hy11:yau T j9 with
        | bad j11 =>
         obtain rfl:=o11.bad j11 hy11
         exact ⟨rfl,.mkBad g11 (by rw [HR10.out];simp only [hy11,Rs.then_bad])⟩
        | ok x11 j11 =>
         obtain ⟨u,rfl,hu11,s11⟩:=o11.ok x11 j11 hy11
         have HR11:Hid (yaK T i=ybT T { cc7 with order:=x11 } j11):=by show _=_;rw [HR10.out];simp only [hy11,Rs.then_ok]
         cases hu11
         clear hy11 o11 k9 s9 g9 HR10 c9 m9
         have HR12:Hid (yaK T i=(may T w_limit [] j11).then fun b j=>if b=true then (yaX T 0 j).then fun n j=>.ok { { cc7 with order:=x11 } with limit:=(n:Nat) } j else .ok { cc7 with order:=x11 } j):=by show _=_;rw [HR11.out,ybT]
         clear HR11
         have q13a:w11.cell? ⟨cb,24,none⟩=some _:=(Lib.cell_of_heap c11 24).trans rfl
         have q13b:w11.frozen? ⟨cb,24,none⟩=false:=Lib.frozen_of_heap c11 24
         have c13:(w11.setCell ⟨cb,24,none⟩ (.string ⟨x11.toArray⟩)).heap[cb]?=some (.cells (cmL { cc7 with order:=x11 } (.slice none 0 0) (.slice none 0 0) (.slice none 0 0) (.slice none 0 0) wa7).toArray 31):=heap_setCell_same _ _ _ _ 31 _ c11
         have k13:=(heap_setCell_other w11 ⟨cb,24,none⟩ rb (.string ⟨x11.toArray⟩) (Nat.ne_of_lt hrc)).trans k11
         have s13:=s11.put hfc 24 (.string ⟨x11.toArray⟩)
         have g13:=yan g11 hcw 24 (.string ⟨x11.toArray⟩)
         have m13:=CmIn.put (⟨m11.cols,m11.vals,m11.fields,m11.expr,m11.wh⟩:CmIn (cb+1) w11 { cc7 with order:=x11 } (.slice none 0 0) (.slice none 0 0) (.slice none 0 0) (.slice none 0 0) wa7) hcB 24 (.string ⟨x11.toArray⟩)
         generalize hW13:w11.setCell ⟨cb,24,none⟩ (.string ⟨x11.toArray⟩)=w13 at c13 k13 s13 g13 m13
         clear c11 k11 s11 g11 m11
         go_wp2_with fail
         clear hW13 q13a q13b
         refine (yeH s13 w_limit (by decide)).mono ?_
         intro e w14 o14
         have g14:=yaa g13 o14.grown
         have k14:=(o14.grown.block rb (ltS k13) (by simpa using hfr.1)).trans k13
         have c14:=(o14.grown.block cb (ltS c13) (by simpa using hfc.1)).trans c13
         have m14:=m13.grown hpB o14.grown
         cases hy14:may T w_limit [] j11 with
         | bad j14 =>
          obtain rfl:=o14.bad j14 hy14
          exact ⟨rfl,.mkBad g14 (by rw [HR12.out];simp only [hy14,Rs.then_bad])⟩
         | ok x14 j14 =>
          obtain ⟨u,rfl,hu14,s14⟩:=o14.ok x14 j14 hy14
          have HR14:Hid (yaK T i=if x14=true then (yaX T 0 j14).then fun n j=>.ok { { cc7 with order:=x11 } with limit:=(n:Nat) } j else .ok { cc7 with order:=x11 } j14):=by show _=_;rw [HR12.out];simp only [hy14,Rs.then_ok]
          cases hu14
          clear hy14 o14 k13 s13 g13 HR12 c13 m13
          cases x14 with
          | true =>
           have HR15:Hid (yaK T i=(yaX T 0 j14).then fun n j=>.ok { { cc7 with order:=x11 } with limit:=(n:Nat) } j):=by show _=_;rw [HR14.out];rfl
           clear HR14
           go_wp2_with fail
           refine (ycW s14 0).mono ?_
           intro e w16 o16
           have g16:=yaa g14 o16.grown
           have k16:=(o16.grown.block rb (ltS k14) (by simpa using hfr.1)).trans k14
           have c16:=(o16.grown.block cb (ltS c14) (by simpa using hfc.1)).trans c14
           have m16:=m14.grown hpB o16.grown
           cases hy16:yaX T 0 j14 with
           | bad j16 =>
            obtain rfl:=o16.bad j16 hy16
            exact ⟨rfl,.mkBad g16 (by rw [HR15.out];simp only [hy16,Rs.then_bad])⟩
           | ok x16 j16 =>
            obtain ⟨u,rfl,hu16,s16⟩:=o16.ok x16 j16 hy16
            have HR16:Hid (yaK T i=.ok { { cc7 with order:=x11 } with limit:=(x16:Nat) } j16):=by show _=_;rw [HR15.out];simp only [hy16,Rs.then_ok]
            cases hu16
            clear hy16 o16 k14 s14 g14 HR15 c14 m14
            have q17a:w16.cell? ⟨cb,25,none⟩=some _:=(Lib.cell_of_heap c16 25).trans rfl
            have q17b:w16.frozen? ⟨cb,25,none⟩=false:=Lib.frozen_of_heap c16 25
            have c17:(w16.setCell ⟨cb,25,none⟩ (.int .i64 (x16:Int))).heap[cb]?=some (.cells (cmL { { cc7 with order:=x11 } with limit:=(x16:Nat) } (.slice none 0 0) (.slice none 0 0) (.slice none 0 0) (.slice none 0 0) wa7).toArray 31):=heap_setCell_same _ _ _ _ 31 _ c16
            have k17:=(heap_setCell_other w16 ⟨cb,25,none⟩ rb (.int .i64 (x16:Int)) (Nat.ne_of_lt hrc)).trans k16
            have s17:=s16.put hfc 25 (.int .i64 (x16:Int))
            have g17:=yan g16 hcw 25 (.int .i64 (x16:Int))
            have m17:=CmIn.put (⟨m16.cols,m16.vals,m16.fields,m16.expr,m16.wh⟩:CmIn (cb+1) w16 { { cc7 with order:=x11 } with limit:=(x16:Nat) } (.slice none 0 0) (.slice none 0 0) (.slice none 0 0) (.slice none 0 0) wa7) hcB 25 (.int .i64 (x16:Int))
            generalize hW17:w16.setCell ⟨cb,25,none⟩ (.int .i64 (x16:Int))=w17 at c17 k17 s17 g17 m17
            clear c16 k16 s16 g16 m16
            go_wp2_with (first|(refine yaf 31 _ rfl rfl _ (cmL { { cc7 with order:=x11 } with limit:=(x16:Nat) } (.slice none 0 0) (.slice none 0 0) (.slice none 0 0) (.slice none 0 0) wa7) 31 _ rfl (by exact c17) Tryz.underlying31 rfl Tryz.size31 ?_)|(refine yab 31 _ _ rfl rfl _ (cmL cm0 (.slice none 0 0) (.slice none 0 0) (.slice none 0 0) (.slice none 0 0) (.slice none 0 0)) (cmL { { cc7 with order:=x11 } with limit:=(x16:Nat) } (.slice none 0 0) (.slice none 0 0) (.slice none 0 0) (.slice none 0 0) wa7) 31 rfl rfl (by exact k17) rfl Tryz.size31 (by exact m17.one) ?_;intro wz kz pz))
            refine bodyPost_ret (v:=.agg (cmL { { cc7 with order:=x11 } with limit:=(x16:Nat) } (.slice none 0 0) (.slice none 0 0) (.slice none 0 0) (.slice none 0 0) wa7).toArray) (yah rfl _ _ _ _ 31 _ rfl kz Tryz.underlying31 rfl Tryz.size31) rfl (.mkOk (by rw [pz.out];exact yak g17 hrw 0 _) HR16.out ⟨_,_,_,_,_,rfl,by rw [pz.out];exact (m17.putAll hrB 0 _).weak hBw⟩ (by rw [pz.out];exact s17.putAll hfr 0 _))
          | false =>
           have HR18:Hid (yaK T i=.ok { cc7 with order:=x11 } j14):=by show _=_;rw [HR14.out];rfl
           clear HR14
           go_wp2_with (first|(refine yaf 31 _ rfl rfl _ (cmL { cc7 with order:=x11 } (.slice none 0 0) (.slice none 0 0) (.slice none 0 0) (.slice none 0 0) wa7) 31 _ rfl (by exact c14) Tryz.underlying31 rfl Tryz.size31 ?_)|(refine yab 31 _ _ rfl rfl _ (cmL cm0 (.slice none 0 0) (.slice none 0 0) (.slice none 0 0) (.slice none 0 0) (.slice none 0 0)) (cmL { cc7 with order:=x11 } (.slice none 0 0) (.slice none 0 0) (.slice none 0 0) (.slice none 0 0) wa7) 31 rfl rfl (by exact k14) rfl Tryz.size31 (by exact m14.one) ?_;intro wz kz pz))
           refine bodyPost_ret (v:=.agg (cmL { cc7 with order:=x11 } (.slice none 0 0) (.slice none 0 0) (.slice none 0 0) (.slice none 0 0) wa7).toArray) (yah rfl _ _ _ _ 31 _ rfl kz Tryz.underlying31 rfl Tryz.size31) rfl (.mkOk (by rw [pz.out];exact yak g14 hrw 0 _) HR18.out ⟨_,_,_,_,_,rfl,by rw [pz.out];exact (m14.putAll hrB 0 _).weak hBw⟩ (by rw [pz.out];exact s14.putAll hfr 0 _))
       | false =>
        have HR19:Hid (yaK T i=(may T w_limit [] j9).then fun b j=>if b=true then (yaX T 0 j).then fun n j=>.ok { cc7 with limit:=(n:Nat) } j else .ok cc7 j):=by show _=_;rw [HR9.out];rfl
        clear HR9
        go_wp2_with fail
        refine (yeH s9 w_limit (by decide)).mono ?_
        intro e w20 o20
        have g20:=yaa g9 o20.grown
        have k20:=(o20.grown.block rb (ltS k9) (by simpa using hfr.1)).trans k9
        have c20:=(o20.grown.block cb (ltS c9) (by simpa using hfc.1)).trans c9
        have m20:=m9.grown hpB o20.grown
        cases hy20:may T w_limit [] j9 with
        | bad j20 =>
         obtain rfl:=o20.bad j20 hy20
         exact ⟨rfl,.mkBad g20 (by rw [HR19.out];simp only [hy20,Rs.then_bad])⟩
        | ok x20 j20 =>
         obtain ⟨u,rfl,hu20,s20⟩:=o20.ok x20 j20 hy20
         have HR20:Hid (yaK T i=if x20=true then (yaX T 0 j20).then fun n j=>.ok { cc7 with limit:=(n:Nat) } j else .ok cc7 j20):=by show _=_;rw [HR19.out];simp only [hy20,Rs.then_ok]
         cases hu20
         clear hy20 o20 k9 s9 g9 HR19 c9 m9
         cases x20 with
         | true =>
          have HR21:Hid (yaK T i=(yaX T 0 j20).then fun n j=>.ok { cc7 with limit:=(n:Nat) } j):=by show _=_;rw [HR20.out];rfl
          clear HR20
          go_wp2_with fail
          refine (ycW s20 0).mono ?_
          intro e w22 o22
          have g22:=yaa g20 o22.grown
          have k22:=(o22.grown.block rb (ltS k20) (by simpa using hfr.1)).trans k20
          have c22:=(o22.grown.block cb (ltS c20) (by simpa using hfc.1)).trans c20
          have m22:=m20.grown hpB o22.grown
          cases hy22:yaX T 0 j20 with
          | bad j22 =>
           obtain rfl:=o22.bad j22 hy22
           exact ⟨rfl,.mkBad g22 (by rw [HR21.out];simp only [hy22,Rs.then_bad])⟩
          | ok x22 j22 =>
           obtain ⟨u,rfl,hu22,s22⟩:=o22.ok x22 j22 hy22
           have HR22:Hid (yaK T i=.ok { cc7 with limit:=(x22:Nat) } j22):=by show _=_;rw [HR21.out];simp only [hy22,Rs.then_ok]
           cases hu22
           clear hy22 o22 k20 s20 g20 HR21 c20 m20
           have q23a:w22.cell? ⟨cb,25,none⟩=some _:=(Lib.cell_of_heap c22 25).trans rfl
           have q23b:w22.frozen? ⟨cb,25,none⟩=false:=Lib.frozen_of_heap c22 25
           have c23:(w22.setCell ⟨cb,25,none⟩ (.int .i64 (x22:Int))).heap[cb]?=some (.cells (cmL { cc7 with limit:=(x22:Nat) } (.slice none 0 0) (.slice none 0 0) (.slice none 0 0) (.slice none 0 0) wa7).toArray 31):=heap_setCell_same _ _ _ _ 31 _ c22
           have k23:=(heap_setCell_other w22 ⟨cb,25,none⟩ rb (.int .i64 (x22:Int)) (Nat.ne_of_lt hrc)).trans k22
           have s23:=s22.put hfc 25 (.int .i64 (x22:Int))
           have g23:=yan g22 hcw 25 (.int .i64 (x22:Int))
           have m23:=CmIn.put (⟨m22.cols,m22.vals,m22.fields,m22.expr,m22.wh⟩:CmIn (cb+1) w22 { cc7 with limit:=(x22:Nat) } (.slice none 0 0) (.slice none 0 0) (.slice none 0 0) (.slice none 0 0) wa7) hcB 25 (.int .i64 (x22:Int))
           generalize hW23:w22.setCell ⟨cb,25,none⟩ (.int .i64 (x22:Int))=w23 at c23 k23 s23 g23 m23
           clear c22 k22 s22 g22 m22
           go_wp2_with (first|(refine yaf 31 _ rfl rfl _ (cmL { cc7 with limit:=(x22:Nat) } (.slice none 0 0) (.slice none 0 0) (.slice none 0 0) (.slice none 0 0) wa7) 31 _ rfl (by exact c23) Tryz.underlying31 rfl Tryz.size31 ?_)|(refine yab 31 _ _ rfl rfl _ (cmL cm0 (.slice none 0 0) (.slice none 0 0) (.slice none 0 0) (.slice none 0 0) (.slice none 0 0)) (cmL { cc7 with limit:=(x22:Nat) } (.slice none 0 0) (.slice none 0 0) (.slice none 0 0) (.slice none 0 0) wa7) 31 rfl rfl (by exact k23) rfl Tryz.size31 (by exact m23.one) ?_;intro wz kz pz))
           refine bodyPost_ret (v:=.agg (cmL { cc7 with limit:=(x22:Nat) } (.slice none 0 0) (.slice none 0 0) (.slice none 0 0) (.slice none 0 0) wa7).toArray) (yah rfl _ _ _ _ 31 _ rfl kz Tryz.underlying31 rfl Tryz.size31) rfl (.mkOk (by rw [pz.out];exact yak g23 hrw 0 _) HR22.out ⟨_,_,_,_,_,rfl,by rw [pz.out];exact (m23.putAll hrB 0 _).weak hBw⟩ (by rw [pz.out];exact s23.putAll hfr 0 _))
         | false =>
          have HR24:Hid (yaK T i=.ok cc7 j20):=by show _=_;rw [HR20.out];rfl
          clear HR20
          go_wp2_with (first|(refine yaf 31 _ rfl rfl _ (cmL cc7 (.slice none 0 0) (.slice none 0 0) (.slice none 0 0) (.slice none 0 0) wa7) 31 _ rfl (by exact c20) Tryz.underlying31 rfl Tryz.size31 ?_)|(refine yab 31 _ _ rfl rfl _ (cmL cm0 (.slice none 0 0) (.slice none 0 0) (.slice none 0 0) (.slice none 0 0) (.slice none 0 0)) (cmL cc7 (.slice none 0 0) (.slice none 0 0) (.slice none 0 0) (.slice none 0 0) wa7) 31 rfl rfl (by exact k20) rfl Tryz.size31 (by exact m20.one) ?_;intro wz kz pz))
          refine bodyPost_ret (v:=.agg (cmL cc7 (.slice none 0 0) (.slice none 0 0) (.slice none 0 0) (.slice none 0 0) wa7).toArray) (yah rfl _ _ _ _ 31 _ rfl kz Tryz.underlying31 rfl Tryz.size31) rfl (.mkOk (by rw [pz.out];exact yak g20 hrw 0 _) HR24.out ⟨_,_,_,_,_,rfl,by rw [pz.out];exact (m20.putAll hrB 0 _).weak hBw⟩ (by rw [pz.out];exact s20.putAll hfr 0 _))
  | false =>
   have HR25:Hid (yaK T i=(ybX T (yau T) j2).then fun l j=>(ybl T [w_from] j).then fun _ j=>(yau T j).then fun n j=>(ybh T { cm0 with kind:=13,limit:=-1,fields:=l,name:=n } j).then fun c j=>(ycJ T c j).then fun c j=>ybT T c j):=by show _=_;rw [HR2.out];rfl
   clear HR2
   go_wp2_with fail
   refine (yo7 s2).mono ?_
   intro e w26 o26
   have g26:=yaa g2 o26.grown
   have k26:=(o26.grown.block rb (ltS k2) (by simpa using hfr.1)).trans k2
   have c26:=(o26.grown.block cb (ltS c2) (by simpa using hfc.1)).trans c2
   have m26:=m2.grown hpB o26.grown
   cases hy26:ybX T (yau T) j2 with
   | bad j26 =>
    obtain rfl:=o26.bad j26 hy26
    exact ⟨rfl,.mkBad g26 (by rw [HR25.out];simp only [hy26,Rs.then_bad])⟩
   | ok x26 j26 =>
    obtain ⟨u,rfl,hu26,s26⟩:=o26.ok x26 j26 hy26
    have HR26:Hid (yaK T i=(ybl T [w_from] j26).then fun _ j=>(yau T j).then fun n j=>(ybh T { cm0 with kind:=13,limit:=-1,fields:=x26,name:=n } j).then fun c j=>(ycJ T c j).then fun c j=>ybT T c j):=by show _=_;rw [HR25.out];simp only [hy26,Rs.then_ok]
    have hz26:cb+1≤w2.heap.size:=by have:=(ltS c2);omega
    have hu26:=ym0 hu26
    obtain ⟨ao26,ca26,rfl⟩:=hu26.form
    clear hy26 o26 k2 s2 g2 HR25 c2 m2
    have q27a:w26.cell? ⟨cb,10,none⟩=some _:=(Lib.cell_of_heap c26 10).trans rfl
    have q27b:w26.frozen? ⟨cb,10,none⟩=false:=Lib.frozen_of_heap c26 10
    have c27:(w26.setCell ⟨cb,10,none⟩ (.slice ao26 x26.length ca26)).heap[cb]?=some (.cells (cmL { cm0 with kind:=13,limit:=-1,fields:=x26 } (.slice none 0 0) (.slice none 0 0) (.slice ao26 x26.length ca26) (.slice none 0 0) (.slice none 0 0)).toArray 31):=heap_setCell_same _ _ _ _ 31 _ c26
    have k27:=(heap_setCell_other w26 ⟨cb,10,none⟩ rb (.slice ao26 x26.length ca26) (Nat.ne_of_lt hrc)).trans k26
    have s27:=s26.put hfc 10 (.slice ao26 x26.length ca26)
    have g27:=yan g26 hcw 10 (.slice ao26 x26.length ca26)
    have m27:=CmIn.put (⟨m26.cols,m26.vals,hu26.weak hz26,m26.expr,m26.wh⟩:CmIn (cb+1) w26 { cm0 with kind:=13,limit:=-1,fields:=x26 } (.slice none 0 0) (.slice none 0 0) (.slice ao26 x26.length ca26) (.slice none 0 0) (.slice none 0 0)) hcB 10 (.slice ao26 x26.length ca26)
    generalize hW27:w26.setCell ⟨cb,10,none⟩ (.slice ao26 x26.length ca26)=w27 at c27 k27 s27 g27 m27
    clear c26 k26 s26 g26 m26
    go_wp2_with fail
    clear hW27 q27a q27b
    refine (ybz s27 [w_from] 1 _ (by first|rfl|simp) _ (by rfl) (by rfl) (by decide) (by decide)).mono ?_
    intro e w28 o28
    have g28:=yaa g27 o28.grown
    have k28:=(o28.grown.block rb (ltS k27) (by simpa using hfr.1)).trans k27
    have c28:=(o28.grown.block cb (ltS c27) (by simpa using hfc.1)).trans c27
    have m28:=m27.grown hpB o28.grown
    cases hy28:ybl T [w_from] j26 with
    | bad j28 =>
     obtain rfl:=o28.bad j28 hy28
     exact ⟨rfl,.mkBad g28 (by rw [HR26.out];simp only [hy28,Rs.then_bad])⟩
    | ok x28 j28 =>
     obtain ⟨u,rfl,hu28,s28⟩:=o28.ok x28 j28 hy28
     have HR28:Hid (yaK T i=(yau T j28).then fun n j=>(ybh T { cm0 with kind:=13,limit:=-1,fields:=x26,name:=n } j).then fun c j=>(ycJ T c j).then fun c j=>ybT T c j):=by show _=_;rw [HR26.out];simp only [hy28,Rs.then_ok]
     clear hy28 o28 k27 s27 g27 HR26 c27 m27 hu28
     go_wp2_with fail
     refine (ya9 s28).mono ?_
     intro e w29 o29
     have g29:=yaa g28 o29.grown
     have k29:=(o29.grown.block rb (ltS k28) (by simpa using hfr.1)).trans k28
     have c29:=(o29.grown.block cb (ltS c28) (by simpa using hfc.1)).trans c28
     have m29:=m28.grown hpB o29.grown
     cases hy29:yau T j28 with
     | bad j29 =>
      obtain rfl:=o29.bad j29 hy29
      exact ⟨rfl,.mkBad g29 (by rw [HR28.out];simp only [hy29,Rs.then_bad])⟩
     | ok x29 j29 =>
      obtain ⟨u,rfl,hu29,s29⟩:=o29.ok x29 j29 hy29
      have HR29:Hid (yaK T i=(ybh T { cm0 with kind:=13,limit:=-1,fields:=x26,name:=x29 } j29).then fun c j=>(ycJ T c j).then fun c j=>ybT T c j):=by show _=_;rw [HR28.out];simp only [hy29,Rs.then_ok]
      cases hu29
      clear hy29 o29 k28 s28 g28 HR28 c28 m28
      have q30a:w29.cell? ⟨cb,1,none⟩=some _:=(Lib.cell_of_heap c29 1).trans rfl
      have q30b:w29.frozen? ⟨cb,1,none⟩=false:=Lib.frozen_of_heap c29 1
      have c30:(w29.setCell ⟨cb,1,none⟩ (.string ⟨x29.toArray⟩)).heap[cb]?=some (.cells (cmL { cm0 with kind:=13,limit:=-1,fields:=x26,name:=x29 } (.slice none 0 0) (.slice none 0 0) (.slice ao26 x26.length ca26) (.slice none 0 0) (.slice none 0 0)).toArray 31):=heap_setCell_same _ _ _ _ 31 _ c29
      have k30:=(heap_setCell_other w29 ⟨cb,1,none⟩ rb (.string ⟨x29.toArray⟩) (Nat.ne_of_lt hrc)).trans k29
      have s30:=s29.put hfc 1 (.string ⟨x29.toArray⟩)
      have g30:=yan g29 hcw 1 (.string ⟨x29.toArray⟩)
      have m30:=CmIn.put (⟨m29.cols,m29.vals,m29.fields,m29.expr,m29.wh⟩:CmIn (cb+1) w29 { cm0 with kind:=13,limit:=-1,fields:=x26,name:=x29 } (.slice none 0 0) (.slice none 0 0) (.slice ao26 x26.length ca26) (.slice none 0 0) (.slice none 0 0)) hcB 1 (.string ⟨x29.toArray⟩)
      generalize hW30:w29.setCell ⟨cb,1,none⟩ (.string ⟨x29.toArray⟩)=w30 at c30 k30 s30 g30 m30
      clear c29 k29 s29 g29 m29
      go_wp2_with fail
      clear hW30 q30a q30b
      refine (yez s30 cb hfc { cm0 with kind:=13,limit:=-1,fields:=x26,name:=x29 } (.slice none 0 0) (.slice none 0 0) (.slice ao26 x26.length ca26) (.slice none 0 0) c30 rfl).mono ?_
      intro e w31 o31
      have g31:w.grownBy w31 (some pb):=⟨o31.os.trans g30.os,o31.tape.trans g30.tape,o31.output.trans g30.output,Nat.le_trans g30.size o31.size,fun k hk hp=>(o31.block k (Nat.lt_of_lt_of_le hk g30.size) (by simpa using hp) (by omega)).trans (g30.block k hk hp)⟩
      have k31:=(o31.block rb (ltS k30) hfr.1 (Nat.ne_of_lt hrc)).trans k30
      have n31:=m30.keep o31.size fun b hB hs=>o31.block b hs (by omega) (by omega)
      have hz31:cb+1≤w30.heap.size:=by have:=(ltS c30);omega
      cases hy31:ybh T { cm0 with kind:=13,limit:=-1,fields:=x26,name:=x29 } j29 with
      | bad j31 =>
       obtain rfl:=o31.bad j31 hy31
       exact ⟨rfl,.mkBad g31 (by rw [HR29.out];simp only [hy31,Rs.then_bad])⟩
      | ok cc31 j31 =>
       obtain ⟨rfl,⟨wa31,c31,hx31⟩,s31⟩:=o31.ok cc31 j31 hy31
       have HR31:Hid (yaK T i=(ycJ T cc31 j31).then fun c j=>ybT T c j):=by show _=_;rw [HR29.out];simp only [hy31,Rs.then_ok]
       obtain ⟨e1,e2,e3,e4⟩:=ydV hy31
       have m31:CmIn (cb+1) w31 cc31 (.slice none 0 0) (.slice none 0 0) (.slice ao26 x26.length ca26) (.slice none 0 0) wa31:=⟨by rw [e1];exact n31.cols,by rw [e2];exact n31.vals,by rw [e3];exact n31.fields,by rw [e4];exact n31.expr,hx31.weak hz31⟩
       clear hy31 o31 n31 e1 e2 e3 e4 hx31 hz31 k30 s30 g30 HR29 c30 m30
       have HR32:Hid (yaK T i=((may T w_order [w_by] j31).then fun b j=>if b=true then (yau T j).then fun o j=>.ok { cc31 with order:=o } j else .ok cc31 j).then fun c j=>ybT T c j):=by show _=_;rw [HR31.out,ycJ]
       clear HR31
       go_wp2_with fail
       refine (yiu s31 w_order (by decide) [w_by] 1 _ (by first|rfl|simp) _ (by rfl) (by rfl) (by decide) (by decide)).mono ?_
       intro e w33 o33
       have g33:=yaa g31 o33.grown
       have k33:=(o33.grown.block rb (ltS k31) (by simpa using hfr.1)).trans k31
       have c33:=(o33.grown.block cb (ltS c31) (by simpa using hfc.1)).trans c31
       have m33:=m31.grown hpB o33.grown
       cases hy33:may T w_order [w_by] j31 with
       | bad j33 =>
        obtain rfl:=o33.bad j33 hy33
        exact ⟨rfl,.mkBad g33 (by rw [HR32.out];simp only [hy33,Rs.then_bad])⟩
       | ok x33 j33 =>
        obtain ⟨u,rfl,hu33,s33⟩:=o33.ok x33 j33 hy33
        have HR33:Hid (yaK T i=(if x33=true then (yau T j33).then fun o j=>.ok { cc31 with order:=o } j else .ok cc31 j33).then fun c j=>ybT T c j):=by show _=_;rw [HR32.out];simp only [hy33,Rs.then_ok]
        cases hu33
        clear hy33 o33 k31 s31 g31 HR32 c31 m31
        cases x33 with
        | true =>
         have HR34:Hid (yaK T i=((yau T j33).then fun o j=>.ok { cc31 with order:=o } j).then fun c j=>ybT T c j):=by show _=_;rw [HR33.out];rfl
         clear HR33
         go_wp2_with fail
         refine (ya9 s33).mono ?_
         intro e w35 o35
         have g35:=yaa g33 o35.grown
         have k35:=(o35.grown.block rb (ltS k33) (by simpa using hfr.1)).trans k33
         have c35:=(o35.grown.block cb (ltS c33) (by simpa using hfc.1)).trans c33
         have m35:=m33.grown hpB o35.grown
         cases hy35:yau T j33 with
         | bad j35 =>
          obtain rfl:=o35.bad j35 hy35
          exact ⟨rfl,.mkBad g35 (by rw [HR34.out];simp only [hy35,Rs.then_bad])⟩
         | ok x35 j35 =>
          obtain ⟨u,rfl,hu35,s35⟩:=o35.ok x35 j35 hy35
          have HR35:Hid (yaK T i=ybT T { cc31 with order:=x35 } j35):=by show _=_;rw [HR34.out];simp only [hy35,Rs.then_ok]
          cases hu35
          clear hy35 o35 k33 s33 g33 HR34 c33 m33
          have HR36:Hid (yaK T i=(may T w_limit [] j35).then fun b j=>if b=true then (yaX T 0 j).then fun n j=>.ok { { cc31 with order:=x35 } with limit:=(n:Nat) } j else .ok { cc31 with order:=x35 } j):=by show _=_;rw [HR35.out,ybT]
          clear HR35
          have q37a:w35.cell? ⟨cb,24,none⟩=some _:=(Lib.cell_of_heap c35 24).trans rfl
          have q37b:w35.frozen? ⟨cb,24,none⟩=false:=Lib.frozen_of_heap c35 24
          have c37:(w35.setCell ⟨cb,24,none⟩ (.string ⟨x35.toArray⟩)).heap[cb]?=some (.cells (cmL { cc31 with order:=x35 } (.slice none 0 0) (.slice none 0 0) (.slice ao26 x26.length ca26) (.slice none 0 0) wa31).toArray 31):=heap_setCell_same _ _ _ _ 31 _ c35
          have k37:=(heap_setCell_other w35 ⟨cb,24,none⟩ rb (.string ⟨x35.toArray⟩) (Nat.ne_of_lt hrc)).trans k35
          have s37:=s35.put hfc 24 (.string ⟨x35.toArray⟩)
          have g37:=yan g35 hcw 24 (.string ⟨x35.toArray⟩)
          have m37:=CmIn.put (⟨m35.cols,m35.vals,m35.fields,m35.expr,m35.wh⟩:CmIn (cb+1) w35 { cc31 with order:=x35 } (.slice none 0 0) (.slice none 0 0) (.slice ao26 x26.length ca26) (.slice none 0 0) wa31) hcB 24 (.string ⟨x35.toArray⟩)
          generalize hW37:w35.setCell ⟨cb,24,none⟩ (.string ⟨x35.toArray⟩)=w37 at c37 k37 s37 g37 m37
          clear c35 k35 s35 g35 m35
          go_wp2_with fail
          clear hW37 q37a q37b
          refine (yeH s37 w_limit (by decide)).mono ?_
          intro e w38 o38
          have g38:=yaa g37 o38.grown
          have k38:=(o38.grown.block rb (ltS k37) (by simpa using hfr.1)).trans k37
          have c38:=(o38.grown.block cb (ltS c37) (by simpa using hfc.1)).trans c37
          have m38:=m37.grown hpB o38.grown
          cases hy38:may T w_limit [] j35 with
          | bad j38 =>
           obtain rfl:=o38.bad j38 hy38
           exact ⟨rfl,.mkBad g38 (by rw [HR36.out];simp only [hy38,Rs.then_bad])⟩
          | ok x38 j38 =>
           obtain ⟨u,rfl,hu38,s38⟩:=o38.ok x38 j38 hy38
           have HR38:Hid (yaK T i=if x38=true then (yaX T 0 j38).then fun n j=>.ok { { cc31 with order:=x35 } with limit:=(n:Nat) } j else .ok { cc31 with order:=x35 } j38):=by show _=_;rw [HR36.out];simp only [hy38,Rs.then_ok]
           cases hu38
           clear hy38 o38 k37 s37 g37 HR36 c37 m37
           cases x38 with
           | true =>
            have HR39:Hid (yaK T i=(yaX T 0 j38).then fun n j=>.ok { { cc31 with order:=x35 } with limit:=(n:Nat) } j):=by show _=_;rw [HR38.out];rfl
            clear HR38
            go_wp2_with fail
            refine (ycW s38 0).mono ?_
            intro e w40 o40
            have g40:=yaa g38 o40.grown
            have k40:=(o40.grown.block rb (ltS k38) (by simpa using hfr.1)).trans k38
            have c40:=(o40.grown.block cb (ltS c38) (by simpa using hfc.1)).trans c38
            have m40:=m38.grown hpB o40.grown
            cases hy40:yaX T 0 j38 with
            | bad j40 =>
             obtain rfl:=o40.bad j40 hy40
             exact ⟨rfl,.mkBad g40 (by rw [HR39.out];simp only [hy40,Rs.then_bad])⟩
            | ok x40 j40 =>
             obtain ⟨u,rfl,hu40,s40⟩:=o40.ok x40 j40 hy40
             have HR40:Hid (yaK T i=.ok { { cc31 with order:=x35 } with limit:=(x40:Nat) } j40):=by show _=_;rw [HR39.out];simp only [hy40,Rs.then_ok]
             cases hu40
             clear hy40 o40 k38 s38 g38 HR39 c38 m38
             have q41a:w40.cell? ⟨cb,25,none⟩=some _:=(Lib.cell_of_heap c40 25).trans rfl
             have q41b:w40.frozen? ⟨cb,25,none⟩=false:=Lib.frozen_of_heap c40 25
             have c41:(w40.setCell ⟨cb,25,none⟩ (.int .i64 (x40:Int))).heap[cb]?=some (.cells (cmL { { cc31 with order:=x35 } with limit:=(x40:Nat) } (.slice none 0 0) (.slice none 0 0) (.slice ao26 x26.length ca26) (.slice none 0 0) wa31).toArray 31):=heap_setCell_same _ _ _ _ 31 _ c40
             have k41:=(heap_setCell_other w40 ⟨cb,25,none⟩ rb (.int .i64 (x40:Int)) (Nat.ne_of_lt hrc)).trans k40
             have s41:=s40.put hfc 25 (.int .i64 (x40:Int))
             have g41:=yan g40 hcw 25 (.int .i64 (x40:Int))
             have m41:=CmIn.put (⟨m40.cols,m40.vals,m40.fields,m40.expr,m40.wh⟩:CmIn (cb+1) w40 { { cc31 with order:=x35 } with limit:=(x40:Nat) } (.slice none 0 0) (.slice none 0 0) (.slice ao26 x26.length ca26) (.slice none 0 0) wa31) hcB 25 (.int .i64 (x40:Int))
             generalize hW41:w40.setCell ⟨cb,25,none⟩ (.int .i64 (x40:Int))=w41 at c41 k41 s41 g41 m41
             clear c40 k40 s40 g40 m40
             go_wp2_with (first|(refine yaf 31 _ rfl rfl _ (cmL { { cc31 with order:=x35 } with limit:=(x40:Nat) } (.slice none 0 0) (.slice none 0 0) (.slice ao26 x26.length ca26) (.slice none 0 0) wa31) 31 _ rfl (by exact c41) Tryz.underlying31 rfl Tryz.size31 ?_)|(refine yab 31 _ _ rfl rfl _ (cmL cm0 (.slice none 0 0) (.slice none 0 0) (.slice none 0 0) (.slice none 0 0) (.slice none 0 0)) (cmL { { cc31 with order:=x35 } with limit:=(x40:Nat) } (.slice none 0 0) (.slice none 0 0) (.slice ao26 x26.length ca26) (.slice none 0 0) wa31) 31 rfl rfl (by exact k41) rfl Tryz.size31 (by exact m41.one) ?_;intro wz kz pz))
             refine bodyPost_ret (v:=.agg (cmL { { cc31 with order:=x35 } with limit:=(x40:Nat) } (.slice none 0 0) (.slice none 0 0) (.slice ao26 x26.length ca26) (.slice none 0 0) wa31).toArray) (yah rfl _ _ _ _ 31 _ rfl kz Tryz.underlying31 rfl Tryz.size31) rfl (.mkOk (by rw [pz.out];exact yak g41 hrw 0 _) HR40.out ⟨_,_,_,_,_,rfl,by rw [pz.out];exact (m41.putAll hrB 0 _).weak hBw⟩ (by rw [pz.out];exact s41.putAll hfr 0 _))
           | false =>
            have HR42:Hid (yaK T i=.ok { cc31 with order:=x35 } j38):=by show _=_;rw [HR38.out];rfl
            clear HR38
            go_wp2_with (first|(refine yaf 31 _ rfl rfl _ (cmL { cc31 with order:=x35 } (.slice none 0 0) (.slice none 0 0) (.slice ao26 x26.length ca26) (.slice none 0 0) wa31) 31 _ rfl (by exact c38) Tryz.underlying31 rfl Tryz.size31 ?_)|(refine yab 31 _ _ rfl rfl _ (cmL cm0 (.slice none 0 0) (.slice none 0 0) (.slice none 0 0) (.slice none 0 0) (.slice none 0 0)) (cmL { cc31 with order:=x35 } (.slice none 0 0) (.slice none 0 0) (.slice ao26 x26.length ca26) (.slice none 0 0) wa31) 31 rfl rfl (by exact k38) rfl Tryz.size31 (by exact m38.one) ?_;intro wz kz pz))
            refine bodyPost_ret (v:=.agg (cmL { cc31 with order:=x35 } (.slice none 0 0) (.slice none 0 0) (.slice ao26 x26.length ca26) (.slice none 0 0) wa31).toArray) (yah rfl _ _ _ _ 31 _ rfl kz Tryz.underlying31 rfl Tryz.size31) rfl (.mkOk (by rw [pz.out];exact yak g38 hrw 0 _) HR42.out ⟨_,_,_,_,_,rfl,by rw [pz.out];exact (m38.putAll hrB 0 _).weak hBw⟩ (by rw [pz.out];exact s38.putAll hfr 0 _))
        | false =>
         have HR43:Hid (yaK T i=(may T w_limit [] j33).then fun b j=>if b=true then (yaX T 0 j).then fun n j=>.ok { cc31 with limit:=(n:Nat) } j else .ok cc31 j):=by show _=_;rw [HR33.out];rfl
         clear HR33
         go_wp2_with fail
         refine (yeH s33 w_limit (by decide)).mono ?_
         intro e w44 o44
         have g44:=yaa g33 o44.grown
         have k44:=(o44.grown.block rb (ltS k33) (by simpa using hfr.1)).trans k33
         have c44:=(o44.grown.block cb (ltS c33) (by simpa using hfc.1)).trans c33
         have m44:=m33.grown hpB o44.grown
         cases hy44:may T w_limit [] j33 with
         | bad j44 =>
          obtain rfl:=o44.bad j44 hy44
          exact ⟨rfl,.mkBad g44 (by rw [HR43.out];simp only [hy44,Rs.then_bad])⟩
         | ok x44 j44 =>
          obtain ⟨u,rfl,hu44,s44⟩:=o44.ok x44 j44 hy44
          have HR44:Hid (yaK T i=if x44=true then (yaX T 0 j44).then fun n j=>.ok { cc31 with limit:=(n:Nat) } j else .ok cc31 j44):=by show _=_;rw [HR43.out];simp only [hy44,Rs.then_ok]
          cases hu44
          clear hy44 o44 k33 s33 g33 HR43 c33 m33
          cases x44 with
          | true =>
           have HR45:Hid (yaK T i=(yaX T 0 j44).then fun n j=>.ok { cc31 with limit:=(n:Nat) } j):=by show _=_;rw [HR44.out];rfl
           clear HR44
           go_wp2_with fail
           refine (ycW s44 0).mono ?_
           intro e w46 o46
           have g46:=yaa g44 o46.grown
           have k46:=(o46.grown.block rb (ltS k44) (by simpa using hfr.1)).trans k44
           have c46:=(o46.grown.block cb (ltS c44) (by simpa using hfc.1)).trans c44
           have m46:=m44.grown hpB o46.grown
           cases hy46:yaX T 0 j44 with
           | bad j46 =>
            obtain rfl:=o46.bad j46 hy46
            exact ⟨rfl,.mkBad g46 (by rw [HR45.out];simp only [hy46,Rs.then_bad])⟩
           | ok x46 j46 =>
            obtain ⟨u,rfl,hu46,s46⟩:=o46.ok x46 j46 hy46
            have HR46:Hid (yaK T i=.ok { cc31 with limit:=(x46:Nat) } j46):=by show _=_;rw [HR45.out];simp only [hy46,Rs.then_ok]
            cases hu46
            clear hy46 o46 k44 s44 g44 HR45 c44 m44
            have q47a:w46.cell? ⟨cb,25,none⟩=some _:=(Lib.cell_of_heap c46 25).trans rfl
            have q47b:w46.frozen? ⟨cb,25,none⟩=false:=Lib.frozen_of_heap c46 25
            have c47:(w46.setCell ⟨cb,25,none⟩ (.int .i64 (x46:Int))).heap[cb]?=some (.cells (cmL { cc31 with limit:=(x46:Nat) } (.slice none 0 0) (.slice none 0 0) (.slice ao26 x26.length ca26) (.slice none 0 0) wa31).toArray 31):=heap_setCell_same _ _ _ _ 31 _ c46
            have k47:=(heap_setCell_other w46 ⟨cb,25,none⟩ rb (.int .i64 (x46:Int)) (Nat.ne_of_lt hrc)).trans k46
            have s47:=s46.put hfc 25 (.int .i64 (x46:Int))
            have g47:=yan g46 hcw 25 (.int .i64 (x46:Int))
            have m47:=CmIn.put (⟨m46.cols,m46.vals,m46.fields,m46.expr,m46.wh⟩:CmIn (cb+1) w46 { cc31 with limit:=(x46:Nat) } (.slice none 0 0) (.slice none 0 0) (.slice ao26 x26.length ca26) (.slice none 0 0) wa31) hcB 25 (.int .i64 (x46:Int))
            generalize hW47:w46.setCell ⟨cb,25,none⟩ (.int .i64 (x46:Int))=w47 at c47 k47 s47 g47 m47
            clear c46 k46 s46 g46 m46
            go_wp2_with (first|(refine yaf 31 _ rfl rfl _ (cmL { cc31 with limit:=(x46:Nat) } (.slice none 0 0) (.slice none 0 0) (.slice ao26 x26.length ca26) (.slice none 0 0) wa31) 31 _ rfl (by exact c47) Tryz.underlying31 rfl Tryz.size31 ?_)|(refine yab 31 _ _ rfl rfl _ (cmL cm0 (.slice none 0 0) (.slice none 0 0) (.slice none 0 0) (.slice none 0 0) (.slice none 0 0)) (cmL { cc31 with limit:=(x46:Nat) } (.slice none 0 0) (.slice none 0 0) (.slice ao26 x26.length ca26) (.slice none 0 0) wa31) 31 rfl rfl (by exact k47) rfl Tryz.size31 (by exact m47.one) ?_;intro wz kz pz))
            refine bodyPost_ret (v:=.agg (cmL { cc31 with limit:=(x46:Nat) } (.slice none 0 0) (.slice none 0 0) (.slice ao26 x26.length ca26) (.slice none 0 0) wa31).toArray) (yah rfl _ _ _ _ 31 _ rfl kz Tryz.underlying31 rfl Tryz.size31) rfl (.mkOk (by rw [pz.out];exact yak g47 hrw 0 _) HR46.out ⟨_,_,_,_,_,rfl,by rw [pz.out];exact (m47.putAll hrB 0 _).weak hBw⟩ (by rw [pz.out];exact s47.putAll hfr 0 _))
          | false =>
           have HR48:Hid (yaK T i=.ok cc31 j44):=by show _=_;rw [HR44.out];rfl
           clear HR44
           go_wp2_with (first|(refine yaf 31 _ rfl rfl _ (cmL cc31 (.slice none 0 0) (.slice none 0 0) (.slice ao26 x26.length ca26) (.slice none 0 0) wa31) 31 _ rfl (by exact c44) Tryz.underlying31 rfl Tryz.size31 ?_)|(refine yab 31 _ _ rfl rfl _ (cmL cm0 (.slice none 0 0) (.slice none 0 0) (.slice none 0 0) (.slice none 0 0) (.slice none 0 0)) (cmL cc31 (.slice none 0 0) (.slice none 0 0) (.slice ao26 x26.length ca26) (.slice none 0 0) wa31) 31 rfl rfl (by exact k44) rfl Tryz.size31 (by exact m44.one) ?_;intro wz kz pz))
           refine bodyPost_ret (v:=.agg (cmL cc31 (.slice none 0 0) (.slice none 0 0) (.slice ao26 x26.length ca26) (.slice none 0 0) wa31).toArray) (yah rfl _ _ _ _ 31 _ rfl kz Tryz.underlying31 rfl Tryz.size31) rfl (.mkOk (by rw [pz.out];exact yak g44 hrw 0 _) HR48.out ⟨_,_,_,_,_,rfl,by rw [pz.out];exact (m44.putAll hrB 0 _).weak hBw⟩ (by rw [pz.out];exact s44.putAll hfr 0 _))
theorem yke {w:World} {base pb:Nat} {v:Value} {T:List Tk} {en:Int} {i:Nat} (h:St w base pb v T en i) :
  Calls Tryz.prog 108 #[.pointer (some ⟨pb,0,none⟩)] w fun e w'=>Out w base pb v T en (ypW w.heap.size) (ycp T i) e w':=by
 have hpl:=h.heapLt
 have HR0:Hid (ycp T i=(ybl T [w_into] i).then fun _ j=>(yau T j).then fun n j=>(ybl T [w_values] j).then fun _ j=>(ycy T (yaJ T) j).then fun l j=>.ok { cm0 with kind:=10,name:=n,vals:=l } j):=by show _=_;rw [ycp]
 go_enter Tryz.func108,Tryz.ntmps108
 go_wp2_with (refine yac 2 31 (cmL cm0 (.slice none 0 0) (.slice none 0 0) (.slice none 0 0) (.slice none 0 0) (.slice none 0 0)) rfl rfl rfl Tryz.alloc31 ?_;intro W0 rb hrb k0 b0)
 have hfr:=h.fresh (Nat.le_of_eq hrb.out.symm)
 have hrw:w.heap.size≤rb:=Nat.le_of_eq hrb.out.symm
 have s0:=h.below b0
 have g0:=yad b0 (some pb)
 clear b0
 refine (ybz s0 [w_into] 1 _ (by first|rfl|simp) _ (by rfl) (by rfl) (by decide) (by decide)).mono ?_
 intro e w1 o1
 have g1:=yaa g0 o1.grown
 have k1:=(o1.grown.block rb (ltS k0) (by simpa using hfr.1)).trans k0
 cases hy1:ybl T [w_into] i with
 | bad j1 =>
  obtain rfl:=o1.bad j1 hy1
  exact ⟨rfl,.mkBad g1 (by rw [HR0.out];simp only [hy1,Rs.then_bad])⟩
 | ok x1 j1 =>
  obtain ⟨u,rfl,hu1,s1⟩:=o1.ok x1 j1 hy1
  have HR1:Hid (ycp T i=(yau T j1).then fun n j=>(ybl T [w_values] j).then fun _ j=>(ycy T (yaJ T) j).then fun l j=>.ok { cm0 with kind:=10,name:=n,vals:=l } j):=by show _=_;rw [HR0.out];simp only [hy1,Rs.then_ok]
  clear hy1 o1 k0 s0 g0 HR0 hu1
  go_wp2_with fail
  refine (ya9 s1).mono ?_
  intro e w2 o2
  have g2:=yaa g1 o2.grown
  have k2:=(o2.grown.block rb (ltS k1) (by simpa using hfr.1)).trans k1
  cases hy2:yau T j1 with
  | bad j2 =>
   obtain rfl:=o2.bad j2 hy2
   exact ⟨rfl,.mkBad g2 (by rw [HR1.out];simp only [hy2,Rs.then_bad])⟩
  | ok x2 j2 =>
   obtain ⟨u,rfl,hu2,s2⟩:=o2.ok x2 j2 hy2
   have HR2:Hid (ycp T i=(ybl T [w_values] j2).then fun _ j=>(ycy T (yaJ T) j).then fun l j=>.ok { cm0 with kind:=10,name:=x2,vals:=l } j):=by show _=_;rw [HR1.out];simp only [hy2,Rs.then_ok]
   cases hu2
   clear hy2 o2 k1 s1 g1 HR1
   go_wp2_with (first|(refine yac 3 31 (cmL cm0 (.slice none 0 0) (.slice none 0 0) (.slice none 0 0) (.slice none 0 0) (.slice none 0 0)) rfl rfl rfl Tryz.alloc31 ?_;intro wA cb hcb cA bA)|(refine yab 31 _ _ rfl rfl _ (cmL cm0 (.slice none 0 0) (.slice none 0 0) (.slice none 0 0) (.slice none 0 0) (.slice none 0 0)) (cmL { cm0 with kind:=10,name:=x2 } (.slice none 0 0) (.slice none 0 0) (.slice none 0 0) (.slice none 0 0) (.slice none 0 0)) 31 rfl rfl (by exact cA) rfl Tryz.size31 (by exact CmIn.one (yb6 0 w { cm0 with kind:=10,name:=x2 } rfl rfl rfl rfl rfl)) ?_;intro w3 c3 p3))
   have hrc:rb < cb:=by have:=(ltS k2);have:=hcb.out;omega
   have hcw:w.heap.size≤cb:=by omega
   have hfc:=h.fresh hcw
   have hpB:pb < cb+1:=by omega
   have hcB:cb < cb+1:=by omega
   have hrB:rb < cb+1:=by omega
   have hBw:w.heap.size≤cb+1:=by omega
   have s3:St w3 base pb v T en j2:=by rw [p3.out];exact (s2.below bA).putAll hfc 0 _
   have g3:w.grownBy w3 (some pb):=by rw [p3.out];exact yak (yaa g2 (yad bA _)) hcw 0 _
   have k3:w3.heap[rb]?=some (.cells (cmL cm0 (.slice none 0 0) (.slice none 0 0) (.slice none 0 0) (.slice none 0 0) (.slice none 0 0)).toArray 31):=by rw [p3.out];exact (yag _ _ _ _ _ (Nat.ne_of_lt hrc)).trans ((bA.block rb (ltS k2)).trans k2)
   have m3:CmIn (cb+1) w3 { cm0 with kind:=10,name:=x2 } (.slice none 0 0) (.slice none 0 0) (.slice none 0 0) (.slice none 0 0) (.slice none 0 0):=yb6 _ _ _ rfl rfl rfl rfl rfl
   clear cA bA p3 hcb k2 s2 g2
   refine (ybz s3 [w_values] 1 _ (by first|rfl|simp) _ (by rfl) (by rfl) (by decide) (by decide)).mono ?_
   intro e w4 o4
   have g4:=yaa g3 o4.grown
   have k4:=(o4.grown.block rb (ltS k3) (by simpa using hfr.1)).trans k3
   have c4:=(o4.grown.block cb (ltS c3) (by simpa using hfc.1)).trans c3
   have m4:=m3.grown hpB o4.grown
   cases hy4:ybl T [w_values] j2 with
   | bad j4 =>
    obtain rfl:=o4.bad j4 hy4
    exact ⟨rfl,.mkBad g4 (by rw [HR2.out];simp only [hy4,Rs.then_bad])⟩
   | ok x4 j4 =>
    obtain ⟨u,rfl,hu4,s4⟩:=o4.ok x4 j4 hy4
    have HR4:Hid (ycp T i=(ycy T (yaJ T) j4).then fun l j=>.ok { cm0 with kind:=10,name:=x2,vals:=l } j):=by show _=_;rw [HR2.out];simp only [hy4,Rs.then_ok]
    clear hy4 o4 k3 s3 g3 HR2 c3 m3 hu4
    go_wp2_with fail
    refine (yoM s4).mono ?_
    intro e w5 o5
    have g5:=yaa g4 o5.grown
    have k5:=(o5.grown.block rb (ltS k4) (by simpa using hfr.1)).trans k4
    have c5:=(o5.grown.block cb (ltS c4) (by simpa using hfc.1)).trans c4
    have m5:=m4.grown hpB o5.grown
    cases hy5:ycy T (yaJ T) j4 with
    | bad j5 =>
     obtain rfl:=o5.bad j5 hy5
     exact ⟨rfl,.mkBad g5 (by rw [HR4.out];simp only [hy5,Rs.then_bad])⟩
    | ok x5 j5 =>
     obtain ⟨u,rfl,hu5,s5⟩:=o5.ok x5 j5 hy5
     have HR5:Hid (ycp T i=.ok { cm0 with kind:=10,name:=x2,vals:=x5 } j5):=by show _=_;rw [HR4.out];simp only [hy5,Rs.then_ok]
     have hz5:cb+1≤w4.heap.size:=by have:=(ltS c4);omega
     obtain ⟨ao5,ca5,rfl⟩:=RowAt.form hu5
     clear hy5 o5 k4 s4 g4 HR4 c4 m4
     have q6a:w5.cell? ⟨cb,9,none⟩=some _:=(Lib.cell_of_heap c5 9).trans rfl
     have q6b:w5.frozen? ⟨cb,9,none⟩=false:=Lib.frozen_of_heap c5 9
     have c6:(w5.setCell ⟨cb,9,none⟩ (.slice ao5 x5.length ca5)).heap[cb]?=some (.cells (cmL { cm0 with kind:=10,name:=x2,vals:=x5 } (.slice none 0 0) (.slice ao5 x5.length ca5) (.slice none 0 0) (.slice none 0 0) (.slice none 0 0)).toArray 31):=heap_setCell_same _ _ _ _ 31 _ c5
     have k6:=(heap_setCell_other w5 ⟨cb,9,none⟩ rb (.slice ao5 x5.length ca5) (Nat.ne_of_lt hrc)).trans k5
     have s6:=s5.put hfc 9 (.slice ao5 x5.length ca5)
     have g6:=yan g5 hcw 9 (.slice ao5 x5.length ca5)
     have m6:=CmIn.put (⟨m5.cols,RowAt.weak hu5 hz5,m5.fields,m5.expr,m5.wh⟩:CmIn (cb+1) w5 { cm0 with kind:=10,name:=x2,vals:=x5 } (.slice none 0 0) (.slice ao5 x5.length ca5) (.slice none 0 0) (.slice none 0 0) (.slice none 0 0)) hcB 9 (.slice ao5 x5.length ca5)
     generalize hW6:w5.setCell ⟨cb,9,none⟩ (.slice ao5 x5.length ca5)=w6 at c6 k6 s6 g6 m6
     clear c5 k5 s5 g5 m5
     go_wp2_with (first|(refine yaf 31 _ rfl rfl _ (cmL { cm0 with kind:=10,name:=x2,vals:=x5 } (.slice none 0 0) (.slice ao5 x5.length ca5) (.slice none 0 0) (.slice none 0 0) (.slice none 0 0)) 31 _ rfl (by exact c6) Tryz.underlying31 rfl Tryz.size31 ?_)|(refine yab 31 _ _ rfl rfl _ (cmL cm0 (.slice none 0 0) (.slice none 0 0) (.slice none 0 0) (.slice none 0 0) (.slice none 0 0)) (cmL { cm0 with kind:=10,name:=x2,vals:=x5 } (.slice none 0 0) (.slice ao5 x5.length ca5) (.slice none 0 0) (.slice none 0 0) (.slice none 0 0)) 31 rfl rfl (by exact k6) rfl Tryz.size31 (by exact m6.one) ?_;intro wz kz pz))
     refine bodyPost_ret (v:=.agg (cmL { cm0 with kind:=10,name:=x2,vals:=x5 } (.slice none 0 0) (.slice ao5 x5.length ca5) (.slice none 0 0) (.slice none 0 0) (.slice none 0 0)).toArray) (yah rfl _ _ _ _ 31 _ rfl kz Tryz.underlying31 rfl Tryz.size31) rfl (.mkOk (by rw [pz.out];exact yak g6 hrw 0 _) HR5.out ⟨_,_,_,_,_,rfl,by rw [pz.out];exact (m6.putAll hrB 0 _).weak hBw⟩ (by rw [pz.out];exact s6.putAll hfr 0 _))
theorem yh5 {w:World} {base pb:Nat} {v:Value} {T:List Tk} {en:Int} {i:Nat} (h:St w base pb v T en i) :
  Calls Tryz.prog 56 #[.pointer (some ⟨pb,0,none⟩)] w fun e w'=>Out w base pb v T en (ypW w.heap.size) (yaA T i) e w':=by
 have hpl:=h.heapLt
 have HR0:Hid (yaA T i=(yaS T [w_create,w_drop,w_alter,w_insert,w_delete,w_update,w_select,w_begin,w_commit,w_rollback] i).then fun s j=>if s=w_create then ybC T j else if s=w_drop then ydW T j else if s=w_alter then ybK T j else if s=w_insert then ycp T j else if s=w_delete then ycx T j else if s=w_update then yca T j else if s=w_select then yaK T j else if s=w_begin then .ok { cm0 with kind:=14 } j else if s=w_commit then .ok { cm0 with kind:=15 } j else .ok { cm0 with kind:=16 } j):=by show _=_;rw [yaA,yb8]
 go_enter Tryz.func56,Tryz.ntmps56
 go_wp2_with (refine yac 2 31 (cmL cm0 (.slice none 0 0) (.slice none 0 0) (.slice none 0 0) (.slice none 0 0) (.slice none 0 0)) rfl rfl rfl Tryz.alloc31 ?_;intro W0 rb hrb k0 b0)
 have hfr:=h.fresh (Nat.le_of_eq hrb.out.symm)
 have hrw:w.heap.size≤rb:=Nat.le_of_eq hrb.out.symm
 have s0:=h.below b0
 have g0:=yad b0 (some pb)
 clear b0
 refine (ydE s0 [w_create,w_drop,w_alter,w_insert,w_delete,w_update,w_select,w_begin,w_commit,w_rollback] 10 _ (by first|rfl|simp) _ (by rfl) (by rfl) (by decide) (by decide)).mono ?_
 intro e w1 o1
 have g1:=yaa g0 o1.grown
 have k1:=(o1.grown.block rb (ltS k0) (by simpa using hfr.1)).trans k0
 cases hy1:yaS T [w_create,w_drop,w_alter,w_insert,w_delete,w_update,w_select,w_begin,w_commit,w_rollback] i with
 | bad j1 =>
  obtain rfl:=o1.bad j1 hy1
  exact ⟨rfl,.mkBad g1 (by rw [HR0.out];simp only [hy1,Rs.then_bad])⟩
 | ok x1 j1 =>
  obtain ⟨u,rfl,hu1,s1⟩:=o1.ok x1 j1 hy1
  have HR1:Hid (yaA T i=if x1=w_create then ybC T j1 else if x1=w_drop then ydW T j1 else if x1=w_alter then ybK T j1 else if x1=w_insert then ycp T j1 else if x1=w_delete then ycx T j1 else if x1=w_update then yca T j1 else if x1=w_select then yaK T j1 else if x1=w_begin then .ok { cm0 with kind:=14 } j1 else if x1=w_commit then .ok { cm0 with kind:=15 } j1 else .ok { cm0 with kind:=16 } j1):=by show _=_;rw [HR0.out];simp only [hy1,Rs.then_ok]
  cases hu1
  have hm1:=ydD _ _ _ _ _ hy1
  simp only [List.mem_cons,List.not_mem_nil,or_false] at hm1
  clear hy1 o1 k0 s0 g0 HR0
  rcases hm1 with rfl|rfl|rfl|rfl|rfl|rfl|rfl|rfl|rfl|rfl
  ·skip
   have HR2:Hid (yaA T i=ybC T j1):=by show _=_;rw [HR1.out,if_pos rfl]
   clear HR1
   go_wp2_with fail
   have hB3:rb < w1.heap.size:=(ltS k1)
   have hw3:w.heap.size≤w1.heap.size:=g1.size
   refine (yjI s1).mono ?_
   intro e w3 o3
   have g3:=yaa g1 o3.grown
   have k3:=(o3.grown.block rb (ltS k1) (by simpa using hfr.1)).trans k1
   cases hy3:ybC T j1 with
   | bad j3 =>
    obtain rfl:=o3.bad j3 hy3
    exact ⟨rfl,.mkBad g3 (by rw [HR2.out,hy3])⟩
   | ok x3 j3 =>
    obtain ⟨u,rfl,⟨cv,vv,fv,ea,wa,rfl,mi⟩,s3⟩:=o3.ok x3 j3 hy3
    have HR3:Hid (yaA T i=.ok x3 j3):=by show _=_;rw [HR2.out,hy3]
    clear hy3 o3 k1 g1 HR2 s1
    go_wp2_with (refine yab 31 _ _ rfl rfl _ (cmL cm0 (.slice none 0 0) (.slice none 0 0) (.slice none 0 0) (.slice none 0 0) (.slice none 0 0)) (cmL x3 cv vv fv ea wa) 31 rfl rfl (by exact k3) rfl Tryz.size31 (by exact mi.one) ?_;intro wz kz pz)
    refine bodyPost_ret (v:=.agg (cmL x3 cv vv fv ea wa).toArray) (yah rfl _ _ _ _ 31 _ rfl kz Tryz.underlying31 rfl Tryz.size31) rfl (.mkOk (by rw [pz.out];exact yak g3 hrw 0 _) HR3.out ⟨_,_,_,_,_,rfl,by rw [pz.out];exact (mi.putAll hB3 0 _).weak hw3⟩ (by rw [pz.out];exact s3.putAll hfr 0 _))
  ·skip
   have HR4:Hid (yaA T i=ydW T j1):=by show _=_;rw [HR1.out,if_neg (by decide),if_pos rfl]
   clear HR1
   go_wp2_with fail
   have hB5:rb < w1.heap.size:=(ltS k1)
   have hw5:w.heap.size≤w1.heap.size:=g1.size
   refine (ynT s1).mono ?_
   intro e w5 o5
   have g5:=yaa g1 o5.grown
   have k5:=(o5.grown.block rb (ltS k1) (by simpa using hfr.1)).trans k1
   cases hy5:ydW T j1 with
   | bad j5 =>
    obtain rfl:=o5.bad j5 hy5
    exact ⟨rfl,.mkBad g5 (by rw [HR4.out,hy5])⟩
   | ok x5 j5 =>
    obtain ⟨u,rfl,⟨cv,vv,fv,ea,wa,rfl,mi⟩,s5⟩:=o5.ok x5 j5 hy5
    have HR5:Hid (yaA T i=.ok x5 j5):=by show _=_;rw [HR4.out,hy5]
    clear hy5 o5 k1 g1 HR4 s1
    go_wp2_with (refine yab 31 _ _ rfl rfl _ (cmL cm0 (.slice none 0 0) (.slice none 0 0) (.slice none 0 0) (.slice none 0 0) (.slice none 0 0)) (cmL x5 cv vv fv ea wa) 31 rfl rfl (by exact k5) rfl Tryz.size31 (by exact mi.one) ?_;intro wz kz pz)
    refine bodyPost_ret (v:=.agg (cmL x5 cv vv fv ea wa).toArray) (yah rfl _ _ _ _ 31 _ rfl kz Tryz.underlying31 rfl Tryz.size31) rfl (.mkOk (by rw [pz.out];exact yak g5 hrw 0 _) HR5.out ⟨_,_,_,_,_,rfl,by rw [pz.out];exact (mi.putAll hB5 0 _).weak hw5⟩ (by rw [pz.out];exact s5.putAll hfr 0 _))
  ·skip
   have HR6:Hid (yaA T i=ybK T j1):=by show _=_;rw [HR1.out,if_neg (by decide),if_neg (by decide),if_pos rfl]
   clear HR1
   go_wp2_with fail
   have hB7:rb < w1.heap.size:=(ltS k1)
   have hw7:w.heap.size≤w1.heap.size:=g1.size
   refine (yk8 s1).mono ?_
   intro e w7 o7
   have g7:=yaa g1 o7.grown
   have k7:=(o7.grown.block rb (ltS k1) (by simpa using hfr.1)).trans k1
   cases hy7:ybK T j1 with
   | bad j7 =>
    obtain rfl:=o7.bad j7 hy7
    exact ⟨rfl,.mkBad g7 (by rw [HR6.out,hy7])⟩
   | ok x7 j7 =>
    obtain ⟨u,rfl,⟨cv,vv,fv,ea,wa,rfl,mi⟩,s7⟩:=o7.ok x7 j7 hy7
    have HR7:Hid (yaA T i=.ok x7 j7):=by show _=_;rw [HR6.out,hy7]
    clear hy7 o7 k1 g1 HR6 s1
    go_wp2_with (refine yab 31 _ _ rfl rfl _ (cmL cm0 (.slice none 0 0) (.slice none 0 0) (.slice none 0 0) (.slice none 0 0) (.slice none 0 0)) (cmL x7 cv vv fv ea wa) 31 rfl rfl (by exact k7) rfl Tryz.size31 (by exact mi.one) ?_;intro wz kz pz)
    refine bodyPost_ret (v:=.agg (cmL x7 cv vv fv ea wa).toArray) (yah rfl _ _ _ _ 31 _ rfl kz Tryz.underlying31 rfl Tryz.size31) rfl (.mkOk (by rw [pz.out];exact yak g7 hrw 0 _) HR7.out ⟨_,_,_,_,_,rfl,by rw [pz.out];exact (mi.putAll hB7 0 _).weak hw7⟩ (by rw [pz.out];exact s7.putAll hfr 0 _))
  ·skip
   have HR8:Hid (yaA T i=ycp T j1):=by show _=_;rw [HR1.out,if_neg (by decide),if_neg (by decide),if_neg (by decide),if_pos rfl]
   clear HR1
   go_wp2_with fail
   have hB9:rb < w1.heap.size:=(ltS k1)
   have hw9:w.heap.size≤w1.heap.size:=g1.size
   refine (yke s1).mono ?_
   intro e w9 o9
   have g9:=yaa g1 o9.grown
   have k9:=(o9.grown.block rb (ltS k1) (by simpa using hfr.1)).trans k1
   cases hy9:ycp T j1 with
   | bad j9 =>
    obtain rfl:=o9.bad j9 hy9
    exact ⟨rfl,.mkBad g9 (by rw [HR8.out,hy9])⟩
   | ok x9 j9 =>
    obtain ⟨u,rfl,⟨cv,vv,fv,ea,wa,rfl,mi⟩,s9⟩:=o9.ok x9 j9 hy9
    have HR9:Hid (yaA T i=.ok x9 j9):=by show _=_;rw [HR8.out,hy9]
    clear hy9 o9 k1 g1 HR8 s1
    go_wp2_with (refine yab 31 _ _ rfl rfl _ (cmL cm0 (.slice none 0 0) (.slice none 0 0) (.slice none 0 0) (.slice none 0 0) (.slice none 0 0)) (cmL x9 cv vv fv ea wa) 31 rfl rfl (by exact k9) rfl Tryz.size31 (by exact mi.one) ?_;intro wz kz pz)
    refine bodyPost_ret (v:=.agg (cmL x9 cv vv fv ea wa).toArray) (yah rfl _ _ _ _ 31 _ rfl kz Tryz.underlying31 rfl Tryz.size31) rfl (.mkOk (by rw [pz.out];exact yak g9 hrw 0 _) HR9.out ⟨_,_,_,_,_,rfl,by rw [pz.out];exact (mi.putAll hB9 0 _).weak hw9⟩ (by rw [pz.out];exact s9.putAll hfr 0 _))
  ·skip
   have HR10:Hid (yaA T i=ycx T j1):=by show _=_;rw [HR1.out,if_neg (by decide),if_neg (by decide),if_neg (by decide),if_neg (by decide),if_pos rfl]
   clear HR1
   go_wp2_with fail
   have hB11:rb < w1.heap.size:=(ltS k1)
   have hw11:w.heap.size≤w1.heap.size:=g1.size
   refine (yjK s1).mono ?_
   intro e w11 o11
   have g11:=yaa g1 o11.grown
   have k11:=(o11.grown.block rb (ltS k1) (by simpa using hfr.1)).trans k1
   cases hy11:ycx T j1 with
   | bad j11 =>
    obtain rfl:=o11.bad j11 hy11
    exact ⟨rfl,.mkBad g11 (by rw [HR10.out,hy11])⟩
   | ok x11 j11 =>
    obtain ⟨u,rfl,⟨cv,vv,fv,ea,wa,rfl,mi⟩,s11⟩:=o11.ok x11 j11 hy11
    have HR11:Hid (yaA T i=.ok x11 j11):=by show _=_;rw [HR10.out,hy11]
    clear hy11 o11 k1 g1 HR10 s1
    go_wp2_with (refine yab 31 _ _ rfl rfl _ (cmL cm0 (.slice none 0 0) (.slice none 0 0) (.slice none 0 0) (.slice none 0 0) (.slice none 0 0)) (cmL x11 cv vv fv ea wa) 31 rfl rfl (by exact k11) rfl Tryz.size31 (by exact mi.one) ?_;intro wz kz pz)
    refine bodyPost_ret (v:=.agg (cmL x11 cv vv fv ea wa).toArray) (yah rfl _ _ _ _ 31 _ rfl kz Tryz.underlying31 rfl Tryz.size31) rfl (.mkOk (by rw [pz.out];exact yak g11 hrw 0 _) HR11.out ⟨_,_,_,_,_,rfl,by rw [pz.out];exact (mi.putAll hB11 0 _).weak hw11⟩ (by rw [pz.out];exact s11.putAll hfr 0 _))
  ·skip
   have HR12:Hid (yaA T i=yca T j1):=by show _=_;rw [HR1.out,if_neg (by decide),if_neg (by decide),if_neg (by decide),if_neg (by decide),if_neg (by decide),if_pos rfl]
   clear HR1
   go_wp2_with fail
   have hB13:rb < w1.heap.size:=(ltS k1)
   have hw13:w.heap.size≤w1.heap.size:=g1.size
   refine (ykT s1).mono ?_
   intro e w13 o13
   have g13:=yaa g1 o13.grown
   have k13:=(o13.grown.block rb (ltS k1) (by simpa using hfr.1)).trans k1
   cases hy13:yca T j1 with
   | bad j13 =>
    obtain rfl:=o13.bad j13 hy13
    exact ⟨rfl,.mkBad g13 (by rw [HR12.out,hy13])⟩
   | ok x13 j13 =>
    obtain ⟨u,rfl,⟨cv,vv,fv,ea,wa,rfl,mi⟩,s13⟩:=o13.ok x13 j13 hy13
    have HR13:Hid (yaA T i=.ok x13 j13):=by show _=_;rw [HR12.out,hy13]
    clear hy13 o13 k1 g1 HR12 s1
    go_wp2_with (refine yab 31 _ _ rfl rfl _ (cmL cm0 (.slice none 0 0) (.slice none 0 0) (.slice none 0 0) (.slice none 0 0) (.slice none 0 0)) (cmL x13 cv vv fv ea wa) 31 rfl rfl (by exact k13) rfl Tryz.size31 (by exact mi.one) ?_;intro wz kz pz)
    refine bodyPost_ret (v:=.agg (cmL x13 cv vv fv ea wa).toArray) (yah rfl _ _ _ _ 31 _ rfl kz Tryz.underlying31 rfl Tryz.size31) rfl (.mkOk (by rw [pz.out];exact yak g13 hrw 0 _) HR13.out ⟨_,_,_,_,_,rfl,by rw [pz.out];exact (mi.putAll hB13 0 _).weak hw13⟩ (by rw [pz.out];exact s13.putAll hfr 0 _))
  ·skip
   have HR14:Hid (yaA T i=yaK T j1):=by show _=_;rw [HR1.out,if_neg (by decide),if_neg (by decide),if_neg (by decide),if_neg (by decide),if_neg (by decide),if_neg (by decide),if_pos rfl]
   clear HR1
   go_wp2_with fail
   have hB15:rb < w1.heap.size:=(ltS k1)
   have hw15:w.heap.size≤w1.heap.size:=g1.size
   refine (yjF s1).mono ?_
   intro e w15 o15
   have g15:=yaa g1 o15.grown
   have k15:=(o15.grown.block rb (ltS k1) (by simpa using hfr.1)).trans k1
   cases hy15:yaK T j1 with
   | bad j15 =>
    obtain rfl:=o15.bad j15 hy15
    exact ⟨rfl,.mkBad g15 (by rw [HR14.out,hy15])⟩
   | ok x15 j15 =>
    obtain ⟨u,rfl,⟨cv,vv,fv,ea,wa,rfl,mi⟩,s15⟩:=o15.ok x15 j15 hy15
    have HR15:Hid (yaA T i=.ok x15 j15):=by show _=_;rw [HR14.out,hy15]
    clear hy15 o15 k1 g1 HR14 s1
    go_wp2_with (refine yab 31 _ _ rfl rfl _ (cmL cm0 (.slice none 0 0) (.slice none 0 0) (.slice none 0 0) (.slice none 0 0) (.slice none 0 0)) (cmL x15 cv vv fv ea wa) 31 rfl rfl (by exact k15) rfl Tryz.size31 (by exact mi.one) ?_;intro wz kz pz)
    refine bodyPost_ret (v:=.agg (cmL x15 cv vv fv ea wa).toArray) (yah rfl _ _ _ _ 31 _ rfl kz Tryz.underlying31 rfl Tryz.size31) rfl (.mkOk (by rw [pz.out];exact yak g15 hrw 0 _) HR15.out ⟨_,_,_,_,_,rfl,by rw [pz.out];exact (mi.putAll hB15 0 _).weak hw15⟩ (by rw [pz.out];exact s15.putAll hfr 0 _))
  ·skip
   have HR16:Hid (yaA T i=.ok { cm0 with kind:=14 } j1):=by show _=_;rw [HR1.out,if_neg (by decide),if_neg (by decide),if_neg (by decide),if_neg (by decide),if_neg (by decide),if_neg (by decide),if_neg (by decide),if_pos rfl]
   clear HR1
   go_wp2_with (refine yab 31 _ _ rfl rfl _ (cmL cm0 (.slice none 0 0) (.slice none 0 0) (.slice none 0 0) (.slice none 0 0) (.slice none 0 0)) (cmL { cm0 with kind:=14 } (.slice none 0 0) (.slice none 0 0) (.slice none 0 0) (.slice none 0 0) (.slice none 0 0)) 31 rfl rfl (by exact k1) rfl Tryz.size31 (by exact CmIn.one (yb6 0 w { cm0 with kind:=14 } rfl rfl rfl rfl rfl)) ?_;intro wz kz pz)
   refine bodyPost_ret (v:=.agg (cmL { cm0 with kind:=14 } (.slice none 0 0) (.slice none 0 0) (.slice none 0 0) (.slice none 0 0) (.slice none 0 0)).toArray) (yah rfl _ _ _ _ 31 _ rfl kz Tryz.underlying31 rfl Tryz.size31) rfl (.mkOk (by rw [pz.out];exact yak g1 hrw 0 _) HR16.out ⟨_,_,_,_,_,rfl,yb6 _ _ _ rfl rfl rfl rfl rfl⟩ (by rw [pz.out];exact s1.putAll hfr 0 _))
  ·skip
   have HR17:Hid (yaA T i=.ok { cm0 with kind:=15 } j1):=by show _=_;rw [HR1.out,if_neg (by decide),if_neg (by decide),if_neg (by decide),if_neg (by decide),if_neg (by decide),if_neg (by decide),if_neg (by decide),if_neg (by decide),if_pos rfl]
   clear HR1
   go_wp2_with (refine yab 31 _ _ rfl rfl _ (cmL cm0 (.slice none 0 0) (.slice none 0 0) (.slice none 0 0) (.slice none 0 0) (.slice none 0 0)) (cmL { cm0 with kind:=15 } (.slice none 0 0) (.slice none 0 0) (.slice none 0 0) (.slice none 0 0) (.slice none 0 0)) 31 rfl rfl (by exact k1) rfl Tryz.size31 (by exact CmIn.one (yb6 0 w { cm0 with kind:=15 } rfl rfl rfl rfl rfl)) ?_;intro wz kz pz)
   refine bodyPost_ret (v:=.agg (cmL { cm0 with kind:=15 } (.slice none 0 0) (.slice none 0 0) (.slice none 0 0) (.slice none 0 0) (.slice none 0 0)).toArray) (yah rfl _ _ _ _ 31 _ rfl kz Tryz.underlying31 rfl Tryz.size31) rfl (.mkOk (by rw [pz.out];exact yak g1 hrw 0 _) HR17.out ⟨_,_,_,_,_,rfl,yb6 _ _ _ rfl rfl rfl rfl rfl⟩ (by rw [pz.out];exact s1.putAll hfr 0 _))
  ·skip
   have HR18:Hid (yaA T i=.ok { cm0 with kind:=16 } j1):=by show _=_;rw [HR1.out,if_neg (by decide),if_neg (by decide),if_neg (by decide),if_neg (by decide),if_neg (by decide),if_neg (by decide),if_neg (by decide),if_neg (by decide),if_neg (by decide)]
   clear HR1
   go_wp2_with (refine yab 31 _ _ rfl rfl _ (cmL cm0 (.slice none 0 0) (.slice none 0 0) (.slice none 0 0) (.slice none 0 0) (.slice none 0 0)) (cmL { cm0 with kind:=16 } (.slice none 0 0) (.slice none 0 0) (.slice none 0 0) (.slice none 0 0) (.slice none 0 0)) 31 rfl rfl (by exact k1) rfl Tryz.size31 (by exact CmIn.one (yb6 0 w { cm0 with kind:=16 } rfl rfl rfl rfl rfl)) ?_;intro wz kz pz)
   refine bodyPost_ret (v:=.agg (cmL { cm0 with kind:=16 } (.slice none 0 0) (.slice none 0 0) (.slice none 0 0) (.slice none 0 0) (.slice none 0 0)).toArray) (yah rfl _ _ _ _ 31 _ rfl kz Tryz.underlying31 rfl Tryz.size31) rfl (.mkOk (by rw [pz.out];exact yak g1 hrw 0 _) HR18.out ⟨_,_,_,_,_,rfl,yb6 _ _ _ rfl rfl rfl rfl rfl⟩ (by rw [pz.out];exact s1.putAll hfr 0 _))
abbrev cmZ:List Value:=cmL cm0 (.slice none 0 0) (.slice none 0 0) (.slice none 0 0) (.slice none 0 0) (.slice none 0 0)
theorem yvp (at_:Int) (w:World):(Instr.typeAssert (.iface 90 (.int .i64 at_)) 20 90 true).run Tryz.prog w=.ok (.tuple #[.int .i64 at_,.bool true]) w:=by kernel_rfl
theorem yur (w:World):(Instr.typeAssert .nilIface 20 90 true).run Tryz.prog w=.ok (.tuple #[.int .i64 0,.bool false]) w:=by kernel_rfl
theorem ydx (rb ab eb:Nat) (cs':List Value) (at_ x y:Int) (older:List PanicEntry) (w:World) (hl:cs'.length=26) (hr:w.heap[rb]?=some (.cells cs'.toArray 31)) (ha:w.heap[ab]?=some (.cells #[.int .i64 x] 3)) (he:w.heap[eb]?=some (.cells #[.int .i64 y] 32)) (h1:rb≠ab) (h2:rb≠eb) (h3:ab≠eb) :
  CallsD Tryz.prog 55 #[.pointer (some ⟨rb,0,none⟩),.pointer (some ⟨ab,0,none⟩),.pointer (some ⟨eb,0,none⟩)] (.panicking ({ v:=.iface 90 (.int .i64 at_),recovered:=false }::older)) w fun e u' w' =>
   e=.returned (.tuple #[])∧u'=.panicking ({ v:=.iface 90 (.int .i64 at_),recovered:=true }::older)∧w'=((putAll w rb 0 cmZ).setCell ⟨ab,0,none⟩ (.int .i64 at_)).setCell ⟨eb,0,none⟩ (.int .i64 1):=by
 refine callsD_of_wpS Tryz.func55 rfl fun c₀ cs hu=>?_
 apply wpS_seq
 apply wpS_region
 simp [wpOpsS,go_sem,recoverD,hu,Tryz.ntmps55,Exit.thenS,yvp,show Array.replicate 10 undef=#[undef,undef,undef,undef,undef,undef,undef,undef,undef,undef] from rfl]
 refine wpS_of_wp ?_
 have hal:(putAll w rb 0 cmZ).heap[ab]?=some (.cells #[.int .i64 x] 3):=(yag rb cmZ w 0 ab (Ne.symm h1)).trans ha
 have hel:(putAll w rb 0 cmZ).heap[eb]?=some (.cells #[.int .i64 y] 32):=(yag rb cmZ w 0 eb (Ne.symm h2)).trans he
 have q1:=(Lib.cell_of_heap hal 0).trans (show _=some (Value.int .i64 x) from rfl)
 have q2:=Lib.frozen_of_heap hal 0
 have q3:=(Lib.cell_of_heap hel 0).trans (show _=some (Value.int .i64 y) from rfl)
 have q4:=Lib.frozen_of_heap hel 0
 generalize hW:putAll w rb 0 cmZ=wp at q1 q2 q3 q4 ⊢
 clear hal hel
 go_wp2_with (refine yab 31 _ _ rfl rfl _ cs' cmZ 31 rfl rfl (by exact hr) (by exact hl) Tryz.size31 (by exact CmIn.one (yb6 0 w cm0 rfl rfl rfl rfl rfl)) ?_;intro wz kz pz;rw [pz.out.trans hW])
 simp [bodyPostS,results,Tryz.results55]
theorem yjD (rb ab eb:Nat) (w:World) :
  CallsD Tryz.prog 55 #[.pointer (some ⟨rb,0,none⟩),.pointer (some ⟨ab,0,none⟩),.pointer (some ⟨eb,0,none⟩)] .returning w fun e u' w'=>e=.returned (.tuple #[])∧u'=.returning∧w'=w:=by
 refine callsD_of_wpS Tryz.func55 rfl fun c₀ cs hu=>?_
 apply wpS_seq
 apply wpS_region
 simp [wpOpsS,go_sem,recoverD,hu,Tryz.ntmps55,Exit.thenS,yur,show Array.replicate 10 undef=#[undef,undef,undef,undef,undef,undef,undef,undef,undef,undef] from rfl]
 refine wpS_of_wp ?_
 go_wp2
 cases c₀
 simp_all [bodyPostS,results,Tryz.results55]
theorem yrj (w:World):(Instr.alloc 3 true (.tuple #[])).run Tryz.prog w=.ok (.pointer (some ⟨w.heap.size,0,none⟩)) (w.alloc (.cells ([.int .i64 0]:List Value).toArray 3)):=by
 simp [Instr.alloc,Tryz.zeroValue3,go_sem]
theorem ype (w:World):(Instr.alloc 32 true (.tuple #[])).run Tryz.prog w=.ok (.pointer (some ⟨w.heap.size,0,none⟩)) (w.alloc (.cells ([.int .i64 0]:List Value).toArray 32)):=by
 simp [Instr.alloc,Tryz.zeroValue32,go_sem]
structure Tks (w:World) (base:Nat) (v:Value) (T:List Tk):Prop where
 own:w.ownsRow base 63 3 v T.length (ybM T)
 few:T.length≤2000
 toks:∀ x ∈ T,TokOk x
theorem yep (tmps:Array Value) (w:World) (rb ab eb:Nat) (cs:List Value) (x y:Int) (h4:tmps.getD 4 undef=.pointer (some ⟨rb,0,none⟩)) (h5:tmps.getD 5 undef=.pointer (some ⟨ab,0,none⟩)) (h6:tmps.getD 6 undef=.pointer (some ⟨eb,0,none⟩))
  (hl:cs.length=26) (hr:w.heap[rb]?=some (.cells cs.toArray 31)) (ha:w.cell? ⟨ab,0,none⟩=some (.int .i64 x)) (he:w.cell? ⟨eb,0,none⟩=some (.int .i64 y)) :
  (results Tryz.f21 tmps).run Tryz.prog w=.ok (.tuple #[.agg cs.toArray,.int .i64 x,.int .i64 y]) w:=by
 have h:=run_loadVar_mid (P:=Tryz.prog) w rb 0 31 cs _ (fun j v hv=>by rw [Nat.zero_add,Lib.cell_of_heap hr];simpa using hv) Tryz.underlying31 rfl (by rw [hl];exact Tryz.size31)
 have h4':tmps[4]?.getD undef=.pointer (some ⟨rb,0,none⟩):=by simpa using h4
 have h5':tmps[5]?.getD undef=.pointer (some ⟨ab,0,none⟩):=by simpa using h5
 have h6':tmps[6]?.getD undef=.pointer (some ⟨eb,0,none⟩):=by simpa using h6
 have hA:(loadVar 3 ⟨ab,0,none⟩).run Tryz.prog w=.ok (.int .i64 x) w:=by simp [go_sem,ha]
 have hE:(loadVar 32 ⟨eb,0,none⟩).run Tryz.prog w=.ok (.int .i64 y) w:=by simp [go_sem,he]
 simp [results,Tryz.results21,h4',h5',h6',asAddr,h,hA,hE]
structure ParseOut (w:World) (T:List Tk) (en:Int) (e:Ending) (w':World):Prop where
 below:Below w.heap.size w w'
 ok:∀ c j,ycc T=.ok c j→∃ u,e=.returned (.tuple #[u,.int .i64 0,.int .i64 0])∧ypL w.heap.size w' u c
 bad:∀ j,ycc T=.bad j→e=.returned (.tuple #[.agg cmZ.toArray,.int .i64 (pl T en j),.int .i64 1])
theorem ynI {w w':World} {k:Nat} (h:w.grownBy w' (some k)) (hk:w.heap.size≤k):Below w.heap.size w w' :=
 ⟨h.os,h.tape,h.output,h.size,fun i hi=>h.block i hi (by simp only [ne_eq,Option.some.injEq];omega)⟩
theorem caught {w w1:World} {T:List Tk} {en:Int} {j rb ab eb:Nat} {cs:List Value} {x y:Int} {tmps:Array Value} (kr1:w1.heap[rb]?=some (.cells cs.toArray 31)) (ka1:w1.heap[ab]?=some (.cells #[.int .i64 x] 3)) (ke1:w1.heap[eb]?=some (.cells #[.int .i64 y] 32))
  (h1:rb≠ab) (h2:rb≠eb) (h3:ab≠eb) (hrw:w.heap.size≤rb) (haw:w.heap.size≤ab) (hew:w.heap.size≤eb) (B4:Below w.heap.size w w1) (H1:ycc T=.bad j) (hl:cs.length=26)
  (h4:tmps.getD 4 undef=.pointer (some ⟨rb,0,none⟩)) (h5:tmps.getD 5 undef=.pointer (some ⟨ab,0,none⟩)) (h6:tmps.getD 6 undef=.pointer (some ⟨eb,0,none⟩)) :
  ∃ v,(results Tryz.f21 tmps).run Tryz.prog (((putAll w1 rb 0 cmZ).setCell ⟨ab,0,none⟩ (.int .i64 (pl T en j))).setCell ⟨eb,0,none⟩ (.int .i64 1))=.ok v (((putAll w1 rb 0 cmZ).setCell ⟨ab,0,none⟩ (.int .i64 (pl T en j))).setCell ⟨eb,0,none⟩ (.int .i64 1)) ∧
   ParseOut w T en (.returned v) (((putAll w1 rb 0 cmZ).setCell ⟨ab,0,none⟩ (.int .i64 (pl T en j))).setCell ⟨eb,0,none⟩ (.int .i64 1)):=by
 have r1:=yiN kr1 cmZ hl
 have a1:=(yag rb cmZ w1 0 ab (Ne.symm h1)).trans ka1
 have e1:=(yag rb cmZ w1 0 eb (Ne.symm h2)).trans ke1
 have r2:=(heap_setCell_other (putAll w1 rb 0 cmZ) ⟨ab,0,none⟩ rb (.int .i64 (pl T en j)) h1).trans r1
 have a2:=heap_setCell_same (putAll w1 rb 0 cmZ) ab 0 _ 3 (.int .i64 (pl T en j)) a1
 have e2:=(heap_setCell_other (putAll w1 rb 0 cmZ) ⟨ab,0,none⟩ eb (.int .i64 (pl T en j)) (Ne.symm h3)).trans e1
 have r3:=(heap_setCell_other ((putAll w1 rb 0 cmZ).setCell ⟨ab,0,none⟩ (.int .i64 (pl T en j))) ⟨eb,0,none⟩ rb (.int .i64 1) h2).trans r2
 have a3:=(heap_setCell_other ((putAll w1 rb 0 cmZ).setCell ⟨ab,0,none⟩ (.int .i64 (pl T en j))) ⟨eb,0,none⟩ ab (.int .i64 1) h3).trans a2
 have e3:=heap_setCell_same ((putAll w1 rb 0 cmZ).setCell ⟨ab,0,none⟩ (.int .i64 (pl T en j))) eb 0 _ 32 (.int .i64 1) e2
 refine ⟨_,yep _ _ rb ab eb cmZ (pl T en j) 1 h4 h5 h6 rfl r3 ((Lib.cell_of_heap a3 0).trans rfl) ((Lib.cell_of_heap e3 0).trans rfl),⟨?_, ?_, ?_⟩⟩
 ·have hB:Below w.heap.size w (putAll w1 rb 0 cmZ):=B4.trans ⟨(yaj rb cmZ w1 0).1,(yaj rb cmZ w1 0).2.1,(yaj rb cmZ w1 0).2.2,Nat.le_of_eq (yaQ rb cmZ w1 0).symm,fun k hk=>yag rb cmZ w1 0 k (by omega)⟩
  exact (hB.setCell (p:=⟨ab,0,none⟩) haw _).setCell (p:=⟨eb,0,none⟩) hew _
 ·intro c j' hh;rw [H1] at hh;cases hh
 ·intro j' hh;rw [H1] at hh;cases hh;rfl
theorem yft {w:World} {base:Nat} {v:Value} {T:List Tk} (h:Tks w base v T) (hl:Laid w) (en:Int) :
  Calls Tryz.prog 21 #[v,.int .i64 en] w fun e w'=>ParseOut w T en e w':=by
 have hm:=hmf
 obtain ⟨ao,cap,hv⟩:=ybV h.own
 have hgv:∀ b,w.heap.size≤b→v.ownBlock≠some b:=by
  intro b hb
  rcases h.own.2 with ⟨hv,-⟩|⟨g,cap,cur,hv,-,hg,-⟩
  ·rw [hv];simp [Value.ownBlock]
  ·rw [hv]
   have:=(ltS hg)
   simp only [Value.ownBlock,ne_eq,Option.some.injEq]
   omega
 have HV:Hid (v=.slice ao T.length cap):=hv
 rw [hv]
 clear hv
 go_enter_defers Tryz.func21,Tryz.ntmps21
 go_wp2_with (first|(refine yac 4 31 cmZ rfl rfl rfl Tryz.alloc31 ?_;intro W0 rb hrb k0 b0)|(refine yac 5 3 [.int .i64 0] rfl rfl rfl yrj ?_;intro W1 ab hab k1 b1)|(refine yac 6 32 [.int .i64 0] rfl rfl rfl ype ?_;intro W2 eb heb k2 b2))
 have lt0:=(ltS k0)
 have lt1:=(ltS k1)
 have lt2:=(ltS k2)
 have hrb':=hrb.out
 have hab':=hab.out
 have heb':=heb.out
 have z1:=b1.size
 have z2:=b2.size
 have z0:=b0.size
 have B2:Below w.heap.size w W2:=(b0.trans (b1.mono z0)).trans (b2.mono (Nat.le_trans z0 z1))
 have kr:(W2.alloc (.cells #[.slice ao T.length cap,.int .i64 0,.int .i64 en] 94)).heap[rb]?=some (.cells cmZ.toArray 31):=(((Below.refl _ _).alloc (Nat.le_refl _) _).block rb (by omega)).trans ((b2.block rb (by omega)).trans ((b1.block rb (by omega)).trans k0))
 have ka:(W2.alloc (.cells #[.slice ao T.length cap,.int .i64 0,.int .i64 en] 94)).heap[ab]?=some (.cells #[.int .i64 0] 3):=(((Below.refl _ _).alloc (Nat.le_refl _) _).block ab (by omega)).trans ((b2.block ab (by omega)).trans k1)
 have ke:(W2.alloc (.cells #[.slice ao T.length cap,.int .i64 0,.int .i64 en] 94)).heap[eb]?=some (.cells #[.int .i64 0] 32):=(((Below.refl _ _).alloc (Nat.le_refl _) _).block eb (by omega)).trans k2
 have B3:Below w.heap.size w (W2.alloc (.cells #[.slice ao T.length cap,.int .i64 0,.int .i64 en] 94)):=B2.alloc (by omega) _
 have s3:St (W2.alloc (.cells #[.slice ao T.length cap,.int .i64 0,.int .i64 en] 94)) base W2.heap.size v T en 0:=by
  refine ⟨?_,ycz h.own B3,hgv _ (by omega),Nat.zero_le _,h.few,by have:=hl.sz;omega,hl.below B3,h.toks⟩
  rw [HV.out];exact heap_alloc_new _ _
 have hpb:w.heap.size≤W2.heap.size:=by omega
 have h1:rb≠ab:=by omega
 have h2:rb≠eb:=by omega
 have h3:ab≠eb:=by omega
 have n1:rb≠W2.heap.size:=by omega
 have n2:ab≠W2.heap.size:=by omega
 have n3:eb≠W2.heap.size:=by omega
 have hrw:w.heap.size≤rb:=by omega
 have haw:w.heap.size≤ab:=by omega
 have hew:w.heap.size≤eb:=by omega
 have hbB:rb < (W2.alloc (.cells #[.slice ao T.length cap,.int .i64 0,.int .i64 en] 94)).heap.size:=(ltS kr)
 have haB:ab < (W2.alloc (.cells #[.slice ao T.length cap,.int .i64 0,.int .i64 en] 94)).heap.size:=(ltS ka)
 have heB:eb < (W2.alloc (.cells #[.slice ao T.length cap,.int .i64 0,.int .i64 en] 94)).heap.size:=(ltS ke)
 have hsB:=B3.size
 clear k0 k1 k2 b0 b1 b2 lt0 lt1 lt2 hrb' hab' heb' z0 z1 z2 B2 hgv hrb hab heb
 refine (yh5 s3).mono ?_
 intro e w1 o1
 have kr1:=(o1.grown.block rb (ltS kr) (by simpa using n1)).trans kr
 have ka1:=(o1.grown.block ab (ltS ka) (by simpa using n2)).trans ka
 have ke1:=(o1.grown.block eb (ltS ke) (by simpa using n3)).trans ke
 have B4:Below w.heap.size w w1:=B3.trans ⟨o1.grown.os,o1.grown.tape,o1.grown.output,o1.grown.size,fun k hk=>o1.grown.block k (Nat.lt_of_lt_of_le hk hsB) (by simp only [ne_eq,Option.some.injEq];omega)⟩
 cases hy:yaA T 0 with
 | bad j =>
  obtain rfl:=o1.bad j hy
  have H1:ycc T=.bad j:=by rw [ycc,hy];rfl
  clear o1 hy kr ka ke s3 B3
  refine leaves_cons (f:=55) (args:=#[.pointer (some ⟨rb,0,none⟩),.pointer (some ⟨ab,0,none⟩),.pointer (some ⟨eb,0,none⟩)]) (by simp) (by simp [go_sem]) ?_
  refine (ydx rb ab eb cmZ (pl T en j) 0 0 [] w1 rfl kr1 ka1 ke1 h1 h2 h3).mono ?_
  rintro e u' w'' ⟨rfl,rfl,rfl⟩
  exact caught kr1 ka1 ke1 h1 h2 h3 hrw haw hew B4 H1 rfl (by rfl) (by rfl) (by rfl)
 | ok c j =>
  obtain ⟨u,rfl,⟨cv,vv,fv,ea,wa,rfl,mi⟩,s4⟩:=o1.ok c j hy
  have HY:Hid (yaA T 0=.ok c j):=hy
  obtain ⟨⟨c0,c1,c2⟩,f0,f1,f2⟩:=ycl s4.blk
  have hbs:=B4.size
  have hjl:=s4.le
  clear o1 hy kr ka ke s3 B3
  by_cases hlt:j < T.length
  ·have H1:Hid (ycc T=.bad j):=by show _=_;rw [ycc,HY.out];simp only [Rs.then_ok];rw [if_pos hlt]
   have hd:(j:Int) < (T.length:Int):=by omega
   clear c0 c1 c2 f0 f1 f2 HY
   go_wp2_with (first|(refine yac 8 31 cmZ rfl rfl rfl Tryz.alloc31 ?_;intro w2 tb htb kt bt)|(refine yab 31 _ _ rfl rfl _ cmZ (cmL c cv vv fv ea wa) 31 rfl rfl (by exact kt) rfl Tryz.size31 (by exact mi.one) ?_;intro w3 k3 p3;have s5:St w3 base W2.heap.size v T en j:=(by rw [p3.out];exact (s4.below bt).putAll (s4.fresh (Nat.le_of_eq htb.out.symm)) 0 _);obtain ⟨⟨d0,d1,d2⟩,-⟩:=ycl s5.blk)|(go_at_call 57;refine (ycg s5).mono ?_;rintro e w4 ⟨rfl,b4⟩))
   have htw:=htb.out
   have B5:Below w.heap.size w w3:=by
    rw [p3.out]
    exact (B4.trans (bt.mono hbs)).trans ⟨(yaj tb _ w2 0).1,(yaj tb _ w2 0).2.1,(yaj tb _ w2 0).2.2,Nat.le_of_eq (yaQ tb _ w2 0).symm,fun k hk=>yag tb _ w2 0 k (by omega)⟩
   have l1:=(ltS kr1)
   have l2:=(ltS ka1)
   have l3:=(ltS ke1)
   have kr5:w3.heap[rb]?=some (.cells cmZ.toArray 31):=by rw [p3.out];exact (yag tb _ w2 0 rb (by omega)).trans ((bt.block rb l1).trans kr1)
   have ka5:w3.heap[ab]?=some (.cells #[.int .i64 0] 3):=by rw [p3.out];exact (yag tb _ w2 0 ab (by omega)).trans ((bt.block ab l2).trans ka1)
   have ke5:w3.heap[eb]?=some (.cells #[.int .i64 0] 32):=by rw [p3.out];exact (yag tb _ w2 0 eb (by omega)).trans ((bt.block eb l3).trans ke1)
   refine leaves_cons (f:=55) (args:=#[.pointer (some ⟨rb,0,none⟩),.pointer (some ⟨ab,0,none⟩),.pointer (some ⟨eb,0,none⟩)]) (by simp) (by simp [go_sem]) ?_
   have kr6:=(b4.block rb (ltS kr5)).trans kr5
   have ka6:=(b4.block ab (ltS ka5)).trans ka5
   have ke6:=(b4.block eb (ltS ke5)).trans ke5
   refine (ydx rb ab eb cmZ (pl T en j) 0 0 [] w4 rfl kr6 ka6 ke6 h1 h2 h3).mono ?_
   rintro e u' w'' ⟨rfl,rfl,rfl⟩
   exact caught kr6 ka6 ke6 h1 h2 h3 hrw haw hew (B5.trans (b4.mono B5.size)) H1.out rfl (by rfl) (by rfl) (by rfl)
  ·have H1:Hid (ycc T=.ok c j):=by show _=_;rw [ycc,HY.out];simp only [Rs.then_ok];rw [if_neg hlt]
   have hd:¬ (j:Int) < (T.length:Int):=by omega
   have l1:=(ltS kr1)
   have l2:=(ltS ka1)
   have l3:=(ltS ke1)
   clear c0 c1 c2 f0 f1 f2 HY
   go_wp2_with (first|(refine yac 8 31 cmZ rfl rfl rfl Tryz.alloc31 ?_;intro w2 tb htb kt bt)|(refine yab 31 _ _ rfl rfl _ cmZ (cmL c cv vv fv ea wa) 31 rfl rfl (by exact kt) rfl Tryz.size31 (by exact mi.one) ?_;intro w3 k3 p3;have s5:St w3 base W2.heap.size v T en j:=(by rw [p3.out];exact (s4.below bt).putAll (s4.fresh (Nat.le_of_eq htb.out.symm)) 0 _);obtain ⟨⟨d0,d1,d2⟩,-⟩:=ycl s5.blk)|(refine yaf 31 _ rfl rfl _ (cmL c cv vv fv ea wa) 31 _ rfl (by exact k3) Tryz.underlying31 rfl Tryz.size31 ?_;have htw:=htb;have kr5:w3.heap[rb]?=some (.cells cmZ.toArray 31):=(by rw [p3.out];exact (yag tb _ w2 0 rb (by have:=htb.out;omega)).trans ((bt.block rb l1).trans kr1));have ka5:w3.heap[ab]?=some (.cells #[.int .i64 0] 3):=(by rw [p3.out];exact (yag tb _ w2 0 ab (by have:=htb.out;omega)).trans ((bt.block ab l2).trans ka1));have ke5:w3.heap[eb]?=some (.cells #[.int .i64 0] 32):=(by rw [p3.out];exact (yag tb _ w2 0 eb (by have:=htb.out;omega)).trans ((bt.block eb l3).trans ke1)))|(refine yab 31 _ _ rfl rfl _ cmZ (cmL c cv vv fv ea wa) 31 rfl rfl (by exact kr5) rfl Tryz.size31 (by exact mi.one) ?_;intro w6 k6 p6;have ka6:w6.heap[ab]?=some (.cells #[.int .i64 0] 3):=(by rw [p6.out];exact (yag rb _ w3 0 ab (Ne.symm h1)).trans ka5);have ke6:w6.heap[eb]?=some (.cells #[.int .i64 0] 32):=(by rw [p6.out];exact (yag rb _ w3 0 eb (Ne.symm h2)).trans ke5);have qa:=(Lib.cell_of_heap ka6 0).trans (show _=some (Value.int .i64 0) from rfl);have qb:=Lib.frozen_of_heap ka6 0;have qc:=(Lib.cell_of_heap ke6 0).trans (show _=some (Value.int .i64 0) from rfl);have qd:=Lib.frozen_of_heap ke6 0))
   have htw':=htb.out
   refine leaves_cons (f:=55) (args:=#[.pointer (some ⟨rb,0,none⟩),.pointer (some ⟨ab,0,none⟩),.pointer (some ⟨eb,0,none⟩)]) (by simp) (by simp [go_sem]) ?_
   refine (yjD rb ab eb _).mono ?_
   rintro e u' w'' ⟨rfl,rfl,rfl⟩
   have B5:Below w.heap.size w w3:=by
    rw [p3.out]
    exact (B4.trans (bt.mono hbs)).trans ⟨(yaj tb _ w2 0).1,(yaj tb _ w2 0).2.1,(yaj tb _ w2 0).2.2,Nat.le_of_eq (yaQ tb _ w2 0).symm,fun k hk=>yag tb _ w2 0 k (by omega)⟩
   have B6:Below w.heap.size w w6:=by
    rw [p6.out]
    exact B5.trans ⟨(yaj rb _ w3 0).1,(yaj rb _ w3 0).2.1,(yaj rb _ w3 0).2.2,Nat.le_of_eq (yaQ rb _ w3 0).symm,fun k hk=>yag rb _ w3 0 k (by omega)⟩
   have m3:CmIn (W2.alloc (.cells #[.slice ao T.length cap,.int .i64 0,.int .i64 en] 94)).heap.size w3 c cv vv fv ea wa:=by
    rw [p3.out]
    exact mi.keep (by rw [yaQ];exact bt.size) fun b hb hs=>(yag tb _ w2 0 b (by omega)).trans (bt.block b hs)
   have m6:CmIn (W2.alloc (.cells #[.slice ao T.length cap,.int .i64 0,.int .i64 en] 94)).heap.size w6 c cv vv fv ea wa:=by
    rw [p6.out];exact m3.putAll hbB 0 _
   have k7:=(heap_setCell_other w6 ⟨ab,0,none⟩ rb (.int .i64 0) h1).trans k6
   have k8:=(heap_setCell_other (w6.setCell ⟨ab,0,none⟩ (.int .i64 0)) ⟨eb,0,none⟩ rb (.int .i64 0) h2).trans k7
   have ka7:=heap_setCell_same w6 ab 0 _ 3 (.int .i64 0) ka6
   have ka8:=(heap_setCell_other (w6.setCell ⟨ab,0,none⟩ (.int .i64 0)) ⟨eb,0,none⟩ ab (.int .i64 0) h3).trans ka7
   have ke7:=(heap_setCell_other w6 ⟨ab,0,none⟩ eb (.int .i64 0) (Ne.symm h3)).trans ke6
   have ke8:=heap_setCell_same (w6.setCell ⟨ab,0,none⟩ (.int .i64 0)) eb 0 _ 32 (.int .i64 0) ke7
   refine ⟨_,yep _ _ rb ab eb (cmL c cv vv fv ea wa) 0 0 (by rfl) (by rfl) (by rfl) rfl k8 ((Lib.cell_of_heap ka8 0).trans rfl) ((Lib.cell_of_heap ke8 0).trans rfl),⟨(B6.setCell (p:=⟨ab,0,none⟩) haw _).setCell (p:=⟨eb,0,none⟩) hew _, ?_, ?_⟩⟩
   ·intro c' j' hh
    rw [H1.out] at hh
    cases hh
    exact ⟨_,rfl,⟨cv,vv,fv,ea,wa,rfl,((m6.put haB 0 _).put heB 0 _).weak hsB⟩⟩
   ·intro j' hh
    rw [H1.out] at hh
    cases hh
end Go.Proofs.YtkpeklealgicpabGreatDoor
