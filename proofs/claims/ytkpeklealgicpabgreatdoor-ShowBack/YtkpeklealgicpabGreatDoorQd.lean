/-
  'delete', 'update', 'drop' of the parser.
  'create' and 'drop' of the parser.
  'rename' of the parser.
  'alter' of the parser.
-/
import Derived.Test.YtkpeklealgicpabGreatDoorQa
import Derived.Test.YtkpeklealgicpabGreatDoorQc

set_option maxRecDepth 100000
set_option maxHeartbeats 8000000
namespace Go.Proofs.YtkpeklealgicpabGreatDoor
open Go.RowKit
theorem ydV {T:List Tk} {c c':Cm} {i j:Nat} (h:ybh T c i=.ok c' j):c'.cols=c.cols∧c'.vals=c.vals∧c'.fields=c.fields∧c'.expr=c.expr:=by
 rw [ybh] at h
 obtain ⟨b,k,-,h2⟩:=then_ok h
 split at h2
 ·obtain ⟨e,k2,-,h3⟩:=then_ok h2
  cases h3;exact ⟨rfl,rfl,rfl,rfl⟩
 ·cases h2;exact ⟨rfl,rfl,rfl,rfl⟩
theorem yjK {w:World} {base pb:Nat} {v:Value} {T:List Tk} {en:Int} {i:Nat} (h:St w base pb v T en i) :
  Calls Tryz.prog 109 #[.pointer (some ⟨pb,0,none⟩)] w fun e w'=>Out w base pb v T en (ypW w.heap.size) (ycx T i) e w':=by
 have hpl:=h.heapLt
 have HR0:Hid (ycx T i=(ybl T [w_from] i).then fun _ j=>(yau T j).then fun n j=>ybh T { cm0 with kind:=11,name:=n } j):=by show _=_;rw [ycx]
 go_enter Tryz.func109,Tryz.ntmps109
 go_wp2_with (refine yac 2 31 (cmL cm0 (.slice none 0 0) (.slice none 0 0) (.slice none 0 0) (.slice none 0 0) (.slice none 0 0)) rfl rfl rfl Tryz.alloc31 ?_;intro W0 rb hrb k0 b0)
 have hfr:=h.fresh (Nat.le_of_eq hrb.out.symm)
 have hrw:w.heap.size≤rb:=Nat.le_of_eq hrb.out.symm
 have s0:=h.below b0
 have g0:=yad b0 (some pb)
 clear b0
 refine (ybz s0 [w_from] 1 _ (by first|rfl|simp) _ (by rfl) (by rfl) (by decide) (by decide)).mono ?_
 intro e w1 o1
 have g1:=yaa g0 o1.grown
 have k1:=(o1.grown.block rb (ltS k0) (by simpa using hfr.1)).trans k0
 cases hy1:ybl T [w_from] i with
 | bad j1 =>
  obtain rfl:=o1.bad j1 hy1
  exact ⟨rfl,.mkBad g1 (by rw [HR0.out];simp only [hy1,Rs.then_bad])⟩
 | ok x1 j1 =>
  obtain ⟨u,rfl,hu1,s1⟩:=o1.ok x1 j1 hy1
  have HR1:Hid (ycx T i=(yau T j1).then fun n j=>ybh T { cm0 with kind:=11,name:=n } j):=by show _=_;rw [HR0.out];simp only [hy1,Rs.then_ok]
  clear hy1 o1 k0 s0 g0 HR0 hu1
  go_wp2_with fail
  refine (ya9 s1).mono ?_
  intro e w2 o2
  have g2:=yaa g1 o2.grown
  have k2:=(o2.grown.block rb (ltS k1) (by simpa using hfr.1)).trans k1
  cases hy2:yau T j1 with
  | bad j2 =>
   obtain rfl:=o2.bad j2 hy2
   exact ⟨rfl,.mkBad g2 (by rw [HR1.out];simp only [hy2,Rs.then_bad])⟩
  | ok x2 j2 =>
   obtain ⟨u,rfl,hu2,s2⟩:=o2.ok x2 j2 hy2
   have HR2:Hid (ycx T i=ybh T { cm0 with kind:=11,name:=x2 } j2):=by show _=_;rw [HR1.out];simp only [hy2,Rs.then_ok]
   cases hu2
   clear hy2 o2 k1 s1 g1 HR1
   go_wp2_with (first|(refine yac 3 31 (cmL cm0 (.slice none 0 0) (.slice none 0 0) (.slice none 0 0) (.slice none 0 0) (.slice none 0 0)) rfl rfl rfl Tryz.alloc31 ?_;intro wA cb hcb cA bA)|(refine yab 31 _ _ rfl rfl _ (cmL cm0 (.slice none 0 0) (.slice none 0 0) (.slice none 0 0) (.slice none 0 0) (.slice none 0 0)) (cmL { cm0 with kind:=11,name:=x2 } (.slice none 0 0) (.slice none 0 0) (.slice none 0 0) (.slice none 0 0) (.slice none 0 0)) 31 rfl rfl (by exact cA) rfl Tryz.size31 (by exact CmIn.one (yb6 0 w { cm0 with kind:=11,name:=x2 } rfl rfl rfl rfl rfl)) ?_;intro w3 c3 p3))
   have hrc:rb < cb:=by have:=(ltS k2);have:=hcb.out;omega
   have hcw:w.heap.size≤cb:=by omega
   have hfc:=h.fresh hcw
   have hpB:pb < cb+1:=by omega
   have hcB:cb < cb+1:=by omega
   have hrB:rb < cb+1:=by omega
   have hBw:w.heap.size≤cb+1:=by omega
   have s3:St w3 base pb v T en j2:=by rw [p3.out];exact (s2.below bA).putAll hfc 0 _
   have g3:w.grownBy w3 (some pb):=by rw [p3.out];exact yak (yaa g2 (yad bA _)) hcw 0 _
   have k3:w3.heap[rb]?=some (.cells (cmL cm0 (.slice none 0 0) (.slice none 0 0) (.slice none 0 0) (.slice none 0 0) (.slice none 0 0)).toArray 31):=by rw [p3.out];exact (yag _ _ _ _ _ (Nat.ne_of_lt hrc)).trans ((bA.block rb (ltS k2)).trans k2)
   have m3:CmIn (cb+1) w3 { cm0 with kind:=11,name:=x2 } (.slice none 0 0) (.slice none 0 0) (.slice none 0 0) (.slice none 0 0) (.slice none 0 0):=yb6 _ _ _ rfl rfl rfl rfl rfl
   clear cA bA p3 hcb k2 s2 g2
   refine (yez s3 cb hfc { cm0 with kind:=11,name:=x2 } (.slice none 0 0) (.slice none 0 0) (.slice none 0 0) (.slice none 0 0) c3 rfl).mono ?_
   intro e w4 o4
   have g4:w.grownBy w4 (some pb):=⟨o4.os.trans g3.os,o4.tape.trans g3.tape,o4.output.trans g3.output,Nat.le_trans g3.size o4.size,fun k hk hp=>(o4.block k (Nat.lt_of_lt_of_le hk g3.size) (by simpa using hp) (by omega)).trans (g3.block k hk hp)⟩
   have k4:=(o4.block rb (ltS k3) hfr.1 (Nat.ne_of_lt hrc)).trans k3
   have n4:=m3.keep o4.size fun b hB hs=>o4.block b hs (by omega) (by omega)
   have hz4:cb+1≤w3.heap.size:=by have:=(ltS c3);omega
   cases hy4:ybh T { cm0 with kind:=11,name:=x2 } j2 with
   | bad j4 =>
    obtain rfl:=o4.bad j4 hy4
    exact ⟨rfl,.mkBad g4 (by rw [HR2.out,hy4])⟩
   | ok cc4 j4 =>
    obtain ⟨rfl,⟨wa4,c4,hx4⟩,s4⟩:=o4.ok cc4 j4 hy4
    have HR4:Hid (ycx T i=.ok cc4 j4):=by show _=_;rw [HR2.out,hy4]
    obtain ⟨e1,e2,e3,e4⟩:=ydV hy4
    have m4:CmIn (cb+1) w4 cc4 (.slice none 0 0) (.slice none 0 0) (.slice none 0 0) (.slice none 0 0) wa4:=⟨by rw [e1];exact n4.cols,by rw [e2];exact n4.vals,by rw [e3];exact n4.fields,by rw [e4];exact n4.expr,hx4.weak hz4⟩
    clear hy4 o4 n4 e1 e2 e3 e4 hx4 hz4 k3 s3 g3 HR2 c3 m3
    go_wp2_with (first|(refine yaf 31 _ rfl rfl _ (cmL cc4 (.slice none 0 0) (.slice none 0 0) (.slice none 0 0) (.slice none 0 0) wa4) 31 _ rfl (by exact c4) Tryz.underlying31 rfl Tryz.size31 ?_)|(refine yab 31 _ _ rfl rfl _ (cmL cm0 (.slice none 0 0) (.slice none 0 0) (.slice none 0 0) (.slice none 0 0) (.slice none 0 0)) (cmL cc4 (.slice none 0 0) (.slice none 0 0) (.slice none 0 0) (.slice none 0 0) wa4) 31 rfl rfl (by exact k4) rfl Tryz.size31 (by exact m4.one) ?_;intro wz kz pz))
    refine bodyPost_ret (v:=.agg (cmL cc4 (.slice none 0 0) (.slice none 0 0) (.slice none 0 0) (.slice none 0 0) wa4).toArray) (yah rfl _ _ _ _ 31 _ rfl kz Tryz.underlying31 rfl Tryz.size31) rfl (.mkOk (by rw [pz.out];exact yak g4 hrw 0 _) HR4.out ⟨_,_,_,_,_,rfl,by rw [pz.out];exact (m4.putAll hrB 0 _).weak hBw⟩ (by rw [pz.out];exact s4.putAll hfr 0 _))
theorem ykT {w:World} {base pb:Nat} {v:Value} {T:List Tk} {en:Int} {i:Nat} (h:St w base pb v T en i) :
  Calls Tryz.prog 110 #[.pointer (some ⟨pb,0,none⟩)] w fun e w'=>Out w base pb v T en (ypW w.heap.size) (yca T i) e w':=by
 have hpl:=h.heapLt
 have HR0:Hid (yca T i=(yau T i).then fun n j=>(ybl T [w_set] j).then fun _ j=>(yau T j).then fun c j=>(ybl T [[61]] j).then fun _ j=>(ybd T 60 j).then fun e j=>ybh T { cm0 with kind:=12,name:=n,column:=c,expr:=e } j):=by show _=_;rw [yca]
 go_enter Tryz.func110,Tryz.ntmps110
 go_wp2_with (refine yac 2 31 (cmL cm0 (.slice none 0 0) (.slice none 0 0) (.slice none 0 0) (.slice none 0 0) (.slice none 0 0)) rfl rfl rfl Tryz.alloc31 ?_;intro W0 rb hrb k0 b0)
 have hfr:=h.fresh (Nat.le_of_eq hrb.out.symm)
 have hrw:w.heap.size≤rb:=Nat.le_of_eq hrb.out.symm
 have s0:=h.below b0
 have g0:=yad b0 (some pb)
 clear b0
 refine (ya9 s0).mono ?_
 intro e w1 o1
 have g1:=yaa g0 o1.grown
 have k1:=(o1.grown.block rb (ltS k0) (by simpa using hfr.1)).trans k0
 cases hy1:yau T i with
 | bad j1 =>
  obtain rfl:=o1.bad j1 hy1
  exact ⟨rfl,.mkBad g1 (by rw [HR0.out];simp only [hy1,Rs.then_bad])⟩
 | ok x1 j1 =>
  obtain ⟨u,rfl,hu1,s1⟩:=o1.ok x1 j1 hy1
  have HR1:Hid (yca T i=(ybl T [w_set] j1).then fun _ j=>(yau T j).then fun c j=>(ybl T [[61]] j).then fun _ j=>(ybd T 60 j).then fun e j=>ybh T { cm0 with kind:=12,name:=x1,column:=c,expr:=e } j):=by show _=_;rw [HR0.out];simp only [hy1,Rs.then_ok]
  cases hu1
  clear hy1 o1 k0 s0 g0 HR0
  go_wp2_with (first|(refine yac 3 31 (cmL cm0 (.slice none 0 0) (.slice none 0 0) (.slice none 0 0) (.slice none 0 0) (.slice none 0 0)) rfl rfl rfl Tryz.alloc31 ?_;intro wA cb hcb cA bA)|(refine yab 31 _ _ rfl rfl _ (cmL cm0 (.slice none 0 0) (.slice none 0 0) (.slice none 0 0) (.slice none 0 0) (.slice none 0 0)) (cmL { cm0 with kind:=12,name:=x1 } (.slice none 0 0) (.slice none 0 0) (.slice none 0 0) (.slice none 0 0) (.slice none 0 0)) 31 rfl rfl (by exact cA) rfl Tryz.size31 (by exact CmIn.one (yb6 0 w { cm0 with kind:=12,name:=x1 } rfl rfl rfl rfl rfl)) ?_;intro w2 c2 p2))
  have hrc:rb < cb:=by have:=(ltS k1);have:=hcb.out;omega
  have hcw:w.heap.size≤cb:=by omega
  have hfc:=h.fresh hcw
  have hpB:pb < cb+1:=by omega
  have hcB:cb < cb+1:=by omega
  have hrB:rb < cb+1:=by omega
  have hBw:w.heap.size≤cb+1:=by omega
  have s2:St w2 base pb v T en j1:=by rw [p2.out];exact (s1.below bA).putAll hfc 0 _
  have g2:w.grownBy w2 (some pb):=by rw [p2.out];exact yak (yaa g1 (yad bA _)) hcw 0 _
  have k2:w2.heap[rb]?=some (.cells (cmL cm0 (.slice none 0 0) (.slice none 0 0) (.slice none 0 0) (.slice none 0 0) (.slice none 0 0)).toArray 31):=by rw [p2.out];exact (yag _ _ _ _ _ (Nat.ne_of_lt hrc)).trans ((bA.block rb (ltS k1)).trans k1)
  have m2:CmIn (cb+1) w2 { cm0 with kind:=12,name:=x1 } (.slice none 0 0) (.slice none 0 0) (.slice none 0 0) (.slice none 0 0) (.slice none 0 0):=yb6 _ _ _ rfl rfl rfl rfl rfl
  clear cA bA p2 hcb k1 s1 g1
  refine (ybz s2 [w_set] 1 _ (by first|rfl|simp) _ (by rfl) (by rfl) (by decide) (by decide)).mono ?_
  intro e w3 o3
  have g3:=yaa g2 o3.grown
  have k3:=(o3.grown.block rb (ltS k2) (by simpa using hfr.1)).trans k2
  have c3:=(o3.grown.block cb (ltS c2) (by simpa using hfc.1)).trans c2
  have m3:=m2.grown hpB o3.grown
  cases hy3:ybl T [w_set] j1 with
  | bad j3 =>
   obtain rfl:=o3.bad j3 hy3
   exact ⟨rfl,.mkBad g3 (by rw [HR1.out];simp only [hy3,Rs.then_bad])⟩
  | ok x3 j3 =>
   obtain ⟨u,rfl,hu3,s3⟩:=o3.ok x3 j3 hy3
   have HR3:Hid (yca T i=(yau T j3).then fun c j=>(ybl T [[61]] j).then fun _ j=>(ybd T 60 j).then fun e j=>ybh T { cm0 with kind:=12,name:=x1,column:=c,expr:=e } j):=by show _=_;rw [HR1.out];simp only [hy3,Rs.then_ok]
   clear hy3 o3 k2 s2 g2 HR1 c2 m2 hu3
   go_wp2_with fail
   refine (ya9 s3).mono ?_
   intro e w4 o4
   have g4:=yaa g3 o4.grown
   have k4:=(o4.grown.block rb (ltS k3) (by simpa using hfr.1)).trans k3
   have c4:=(o4.grown.block cb (ltS c3) (by simpa using hfc.1)).trans c3
   have m4:=m3.grown hpB o4.grown
   cases hy4:yau T j3 with
   | bad j4 =>
    obtain rfl:=o4.bad j4 hy4
    exact ⟨rfl,.mkBad g4 (by rw [HR3.out];simp only [hy4,Rs.then_bad])⟩
   | ok x4 j4 =>
    obtain ⟨u,rfl,hu4,s4⟩:=o4.ok x4 j4 hy4
    have HR4:Hid (yca T i=(ybl T [[61]] j4).then fun _ j=>(ybd T 60 j).then fun e j=>ybh T { cm0 with kind:=12,name:=x1,column:=x4,expr:=e } j):=by show _=_;rw [HR3.out];simp only [hy4,Rs.then_ok]
    cases hu4
    clear hy4 o4 k3 s3 g3 HR3 c3 m3
    have q5a:w4.cell? ⟨cb,3,none⟩=some _:=(Lib.cell_of_heap c4 3).trans rfl
    have q5b:w4.frozen? ⟨cb,3,none⟩=false:=Lib.frozen_of_heap c4 3
    have c5:(w4.setCell ⟨cb,3,none⟩ (.string ⟨x4.toArray⟩)).heap[cb]?=some (.cells (cmL { cm0 with kind:=12,name:=x1,column:=x4 } (.slice none 0 0) (.slice none 0 0) (.slice none 0 0) (.slice none 0 0) (.slice none 0 0)).toArray 31):=heap_setCell_same _ _ _ _ 31 _ c4
    have k5:=(heap_setCell_other w4 ⟨cb,3,none⟩ rb (.string ⟨x4.toArray⟩) (Nat.ne_of_lt hrc)).trans k4
    have s5:=s4.put hfc 3 (.string ⟨x4.toArray⟩)
    have g5:=yan g4 hcw 3 (.string ⟨x4.toArray⟩)
    have m5:=CmIn.put (⟨m4.cols,m4.vals,m4.fields,m4.expr,m4.wh⟩:CmIn (cb+1) w4 { cm0 with kind:=12,name:=x1,column:=x4 } (.slice none 0 0) (.slice none 0 0) (.slice none 0 0) (.slice none 0 0) (.slice none 0 0)) hcB 3 (.string ⟨x4.toArray⟩)
    generalize hW5:w4.setCell ⟨cb,3,none⟩ (.string ⟨x4.toArray⟩)=w5 at c5 k5 s5 g5 m5
    clear c4 k4 s4 g4 m4
    go_wp2_with fail
    clear hW5 q5a q5b
    refine (ybz s5 [[61]] 1 _ (by first|rfl|simp) _ (by rfl) (by rfl) (by decide) (by decide)).mono ?_
    intro e w6 o6
    have g6:=yaa g5 o6.grown
    have k6:=(o6.grown.block rb (ltS k5) (by simpa using hfr.1)).trans k5
    have c6:=(o6.grown.block cb (ltS c5) (by simpa using hfc.1)).trans c5
    have m6:=m5.grown hpB o6.grown
    cases hy6:ybl T [[61]] j4 with
    | bad j6 =>
     obtain rfl:=o6.bad j6 hy6
     exact ⟨rfl,.mkBad g6 (by rw [HR4.out];simp only [hy6,Rs.then_bad])⟩
    | ok x6 j6 =>
     obtain ⟨u,rfl,hu6,s6⟩:=o6.ok x6 j6 hy6
     have HR6:Hid (yca T i=(ybd T 60 j6).then fun e j=>ybh T { cm0 with kind:=12,name:=x1,column:=x4,expr:=e } j):=by show _=_;rw [HR4.out];simp only [hy6,Rs.then_ok]
     clear hy6 o6 k5 s5 g5 HR4 c5 m5 hu6
     go_wp2_with fail
     refine (yg3 s6).mono ?_
     intro e w7 o7
     have g7:=yaa g6 o7.grown
     have k7:=(o7.grown.block rb (ltS k6) (by simpa using hfr.1)).trans k6
     have c7:=(o7.grown.block cb (ltS c6) (by simpa using hfc.1)).trans c6
     have m7:=m6.grown hpB o7.grown
     cases hy7:ybd T 60 j6 with
     | bad j7 =>
      obtain rfl:=o7.bad j7 hy7
      exact ⟨rfl,.mkBad g7 (by rw [HR6.out];simp only [hy7,Rs.then_bad])⟩
     | ok x7 j7 =>
      obtain ⟨u,rfl,hu7,s7⟩:=o7.ok x7 j7 hy7
      have HR7:Hid (yca T i=ybh T { cm0 with kind:=12,name:=x1,column:=x4,expr:=x7 } j7):=by show _=_;rw [HR6.out];simp only [hy7,Rs.then_ok]
      have hz7:cb+1≤w6.heap.size:=by have:=(ltS c6);omega
      obtain ⟨ek7,ev7,en7,ao7,na7,ca7,rfl⟩:=ExAt.form hu7
      clear hy7 o7 k6 s6 g6 HR6 c6 m6
      obtain ⟨rfl,rfl,rfl⟩:=ExAt.parts hu7
      rw [exV]
      go_wp2_with (refine ybj 29 _ _ rfl rfl cb ((cmL { cm0 with kind:=12,name:=x1,column:=x4 } (.slice none 0 0) (.slice none 0 0) (.slice none 0 0) (.slice none 0 0) (.slice none 0 0)).take 11) (((cmL { cm0 with kind:=12,name:=x1,column:=x4 } (.slice none 0 0) (.slice none 0 0) (.slice none 0 0) (.slice none 0 0) (.slice none 0 0)).drop 11).take 6) ((cmL { cm0 with kind:=12,name:=x1,column:=x4 } (.slice none 0 0) (.slice none 0 0) (.slice none 0 0) (.slice none 0 0) (.slice none 0 0)).drop 17) [.int .i64 x7.k,.int .i64 x7.v.k,.int .i64 x7.v.n,.string ⟨x7.v.s.toArray⟩,.string ⟨x7.nm.toArray⟩,.slice ao7 na7 ca7] 31 rfl rfl (by exact c7) rfl Tryz.size29 (by intro v hv;simp only [List.mem_cons,List.not_mem_nil,or_false] at hv;rcases hv with rfl|rfl|rfl|rfl|rfl|rfl <;> rfl) ?_;intro wy cy py)
      have cy':wy.heap[cb]?=some (.cells (cmL { cm0 with kind:=12,name:=x1,column:=x4,expr:=x7 } (.slice none 0 0) (.slice none 0 0) (.slice none 0 0) (.slice ao7 na7 ca7) (.slice none 0 0)).toArray 31):=cy
      have py':wy=putAll w7 cb 11 _:=py.out
      have sy:St wy base pb v T en j7:=by rw [py'];exact s7.putAll hfc 11 _
      have gy:w.grownBy wy (some pb):=by rw [py'];exact yak g7 hcw 11 _
      have ky:wy.heap[rb]?=some (.cells (cmL cm0 (.slice none 0 0) (.slice none 0 0) (.slice none 0 0) (.slice none 0 0) (.slice none 0 0)).toArray 31):=by rw [py'];exact (yag _ _ _ _ _ (Nat.ne_of_lt hrc)).trans k7
      have my:CmIn (cb+1) wy { cm0 with kind:=12,name:=x1,column:=x4,expr:=x7 } (.slice none 0 0) (.slice none 0 0) (.slice none 0 0) (.slice ao7 na7 ca7) (.slice none 0 0):=by rw [py'];exact CmIn.putAll (show CmIn (cb+1) w7 { cm0 with kind:=12,name:=x1,column:=x4,expr:=x7 } (.slice none 0 0) (.slice none 0 0) (.slice none 0 0) (.slice ao7 na7 ca7) (.slice none 0 0) from ⟨m7.cols,m7.vals,m7.fields,ExAt.weak hu7 hz7,m7.wh⟩) hcB 11 _
      clear cy py py' s7 g7 k7 m7 c7 hu7 hz7
      refine (yez sy cb hfc { cm0 with kind:=12,name:=x1,column:=x4,expr:=x7 } (.slice none 0 0) (.slice none 0 0) (.slice none 0 0) (.slice ao7 na7 ca7) cy' rfl).mono ?_
      intro e w8 o8
      have g8:w.grownBy w8 (some pb):=⟨o8.os.trans gy.os,o8.tape.trans gy.tape,o8.output.trans gy.output,Nat.le_trans gy.size o8.size,fun k hk hp=>(o8.block k (Nat.lt_of_lt_of_le hk gy.size) (by simpa using hp) (by omega)).trans (gy.block k hk hp)⟩
      have k8:=(o8.block rb (ltS ky) hfr.1 (Nat.ne_of_lt hrc)).trans ky
      have n8:=my.keep o8.size fun b hB hs=>o8.block b hs (by omega) (by omega)
      have hz8:cb+1≤wy.heap.size:=by have:=(ltS cy');omega
      cases hy8:ybh T { cm0 with kind:=12,name:=x1,column:=x4,expr:=x7 } j7 with
      | bad j8 =>
       obtain rfl:=o8.bad j8 hy8
       exact ⟨rfl,.mkBad g8 (by rw [HR7.out,hy8])⟩
      | ok cc8 j8 =>
       obtain ⟨rfl,⟨wa8,c8,hx8⟩,s8⟩:=o8.ok cc8 j8 hy8
       have HR8:Hid (yca T i=.ok cc8 j8):=by show _=_;rw [HR7.out,hy8]
       obtain ⟨e1,e2,e3,e4⟩:=ydV hy8
       have m8:CmIn (cb+1) w8 cc8 (.slice none 0 0) (.slice none 0 0) (.slice none 0 0) (.slice ao7 na7 ca7) wa8:=⟨by rw [e1];exact n8.cols,by rw [e2];exact n8.vals,by rw [e3];exact n8.fields,by rw [e4];exact n8.expr,hx8.weak hz8⟩
       clear hy8 o8 n8 e1 e2 e3 e4 hx8 hz8 ky sy gy HR7 cy' my
       go_wp2_with (first|(refine yaf 31 _ rfl rfl _ (cmL cc8 (.slice none 0 0) (.slice none 0 0) (.slice none 0 0) (.slice ao7 na7 ca7) wa8) 31 _ rfl (by exact c8) Tryz.underlying31 rfl Tryz.size31 ?_)|(refine yab 31 _ _ rfl rfl _ (cmL cm0 (.slice none 0 0) (.slice none 0 0) (.slice none 0 0) (.slice none 0 0) (.slice none 0 0)) (cmL cc8 (.slice none 0 0) (.slice none 0 0) (.slice none 0 0) (.slice ao7 na7 ca7) wa8) 31 rfl rfl (by exact k8) rfl Tryz.size31 (by exact m8.one) ?_;intro wz kz pz))
       refine bodyPost_ret (v:=.agg (cmL cc8 (.slice none 0 0) (.slice none 0 0) (.slice none 0 0) (.slice ao7 na7 ca7) wa8).toArray) (yah rfl _ _ _ _ 31 _ rfl kz Tryz.underlying31 rfl Tryz.size31) rfl (.mkOk (by rw [pz.out];exact yak g8 hrw 0 _) HR8.out ⟨_,_,_,_,_,rfl,by rw [pz.out];exact (m8.putAll hrB 0 _).weak hBw⟩ (by rw [pz.out];exact s8.putAll hfr 0 _))
theorem yjI {w:World} {base pb:Nat} {v:Value} {T:List Tk} {en:Int} {i:Nat} (h:St w base pb v T en i) :
  Calls Tryz.prog 105 #[.pointer (some ⟨pb,0,none⟩)] w fun e w'=>Out w base pb v T en (ypW w.heap.size) (ybC T i) e w':=by
 have hpl:=h.heapLt
 have HR0:Hid (ybC T i=(yaS T [w_table,w_index] i).then fun s j=>if s=w_table then (yau T j).then fun n j=>(ycy T (yaG T) j).then fun l j=>.ok { cm0 with kind:=1,name:=n,cols:=l } j else (yau T j).then fun n j=>(ybl T [w_on] j).then fun _ j=>(yau T j).then fun o j=>(ybl T [[40]] j).then fun _ j=>(yau T j).then fun c j=>(ybl T [[41]] j).then fun _ j=>.ok { cm0 with kind:=8,name:=n,other:=o,column:=c } j):=by show _=_;rw [ybC]
 go_enter Tryz.func105,Tryz.ntmps105
 go_wp2_with (refine yac 2 31 (cmL cm0 (.slice none 0 0) (.slice none 0 0) (.slice none 0 0) (.slice none 0 0) (.slice none 0 0)) rfl rfl rfl Tryz.alloc31 ?_;intro W0 rb hrb k0 b0)
 have hfr:=h.fresh (Nat.le_of_eq hrb.out.symm)
 have hrw:w.heap.size≤rb:=Nat.le_of_eq hrb.out.symm
 have s0:=h.below b0
 have g0:=yad b0 (some pb)
 clear b0
 refine (ydE s0 [w_table,w_index] 2 _ (by first|rfl|simp) _ (by rfl) (by rfl) (by decide) (by decide)).mono ?_
 intro e w1 o1
 have g1:=yaa g0 o1.grown
 have k1:=(o1.grown.block rb (ltS k0) (by simpa using hfr.1)).trans k0
 cases hy1:yaS T [w_table,w_index] i with
 | bad j1 =>
  obtain rfl:=o1.bad j1 hy1
  exact ⟨rfl,.mkBad g1 (by rw [HR0.out];simp only [hy1,Rs.then_bad])⟩
 | ok x1 j1 =>
  obtain ⟨u,rfl,hu1,s1⟩:=o1.ok x1 j1 hy1
  have HR1:Hid (ybC T i=if x1=w_table then (yau T j1).then fun n j=>(ycy T (yaG T) j).then fun l j=>.ok { cm0 with kind:=1,name:=n,cols:=l } j else (yau T j1).then fun n j=>(ybl T [w_on] j).then fun _ j=>(yau T j).then fun o j=>(ybl T [[40]] j).then fun _ j=>(yau T j).then fun c j=>(ybl T [[41]] j).then fun _ j=>.ok { cm0 with kind:=8,name:=n,other:=o,column:=c } j):=by show _=_;rw [HR0.out];simp only [hy1,Rs.then_ok]
  cases hu1
  have hm1:=ydD _ _ _ _ _ hy1
  simp only [List.mem_cons,List.not_mem_nil,or_false] at hm1
  clear hy1 o1 k0 s0 g0 HR0
  rcases hm1 with rfl|rfl
  ·skip
   have HR2:Hid (ybC T i=(yau T j1).then fun n j=>(ycy T (yaG T) j).then fun l j=>.ok { cm0 with kind:=1,name:=n,cols:=l } j):=by show _=_;rw [HR1.out,if_pos rfl]
   clear HR1
   go_wp2_with (first|(refine yac 3 31 (cmL cm0 (.slice none 0 0) (.slice none 0 0) (.slice none 0 0) (.slice none 0 0) (.slice none 0 0)) rfl rfl rfl Tryz.alloc31 ?_;intro wA cb hcb cA bA)|(refine yab 31 _ _ rfl rfl _ (cmL cm0 (.slice none 0 0) (.slice none 0 0) (.slice none 0 0) (.slice none 0 0) (.slice none 0 0)) (cmL { cm0 with kind:=1 } (.slice none 0 0) (.slice none 0 0) (.slice none 0 0) (.slice none 0 0) (.slice none 0 0)) 31 rfl rfl (by exact cA) rfl Tryz.size31 (by exact CmIn.one (yb6 0 w { cm0 with kind:=1 } rfl rfl rfl rfl rfl)) ?_;intro w3 c3 p3))
   have hrc:rb < cb:=by have:=(ltS k1);have:=hcb.out;omega
   have hcw:w.heap.size≤cb:=by omega
   have hfc:=h.fresh hcw
   have hpB:pb < cb+1:=by omega
   have hcB:cb < cb+1:=by omega
   have hrB:rb < cb+1:=by omega
   have hBw:w.heap.size≤cb+1:=by omega
   have s3:St w3 base pb v T en j1:=by rw [p3.out];exact (s1.below bA).putAll hfc 0 _
   have g3:w.grownBy w3 (some pb):=by rw [p3.out];exact yak (yaa g1 (yad bA _)) hcw 0 _
   have k3:w3.heap[rb]?=some (.cells (cmL cm0 (.slice none 0 0) (.slice none 0 0) (.slice none 0 0) (.slice none 0 0) (.slice none 0 0)).toArray 31):=by rw [p3.out];exact (yag _ _ _ _ _ (Nat.ne_of_lt hrc)).trans ((bA.block rb (ltS k1)).trans k1)
   have m3:CmIn (cb+1) w3 { cm0 with kind:=1 } (.slice none 0 0) (.slice none 0 0) (.slice none 0 0) (.slice none 0 0) (.slice none 0 0):=yb6 _ _ _ rfl rfl rfl rfl rfl
   clear cA bA p3 hcb k1 s1 g1
   refine (ya9 s3).mono ?_
   intro e w4 o4
   have g4:=yaa g3 o4.grown
   have k4:=(o4.grown.block rb (ltS k3) (by simpa using hfr.1)).trans k3
   have c4:=(o4.grown.block cb (ltS c3) (by simpa using hfc.1)).trans c3
   have m4:=m3.grown hpB o4.grown
   cases hy4:yau T j1 with
   | bad j4 =>
    obtain rfl:=o4.bad j4 hy4
    exact ⟨rfl,.mkBad g4 (by rw [HR2.out];simp only [hy4,Rs.then_bad])⟩
   | ok x4 j4 =>
    obtain ⟨u,rfl,hu4,s4⟩:=o4.ok x4 j4 hy4
    have HR4:Hid (ybC T i=(ycy T (yaG T) j4).then fun l j=>.ok { cm0 with kind:=1,name:=x4,cols:=l } j):=by show _=_;rw [HR2.out];simp only [hy4,Rs.then_ok]
    cases hu4
    clear hy4 o4 k3 s3 g3 HR2 c3 m3
    have q5a:w4.cell? ⟨cb,1,none⟩=some _:=(Lib.cell_of_heap c4 1).trans rfl
    have q5b:w4.frozen? ⟨cb,1,none⟩=false:=Lib.frozen_of_heap c4 1
    have c5:(w4.setCell ⟨cb,1,none⟩ (.string ⟨x4.toArray⟩)).heap[cb]?=some (.cells (cmL { cm0 with kind:=1,name:=x4 } (.slice none 0 0) (.slice none 0 0) (.slice none 0 0) (.slice none 0 0) (.slice none 0 0)).toArray 31):=heap_setCell_same _ _ _ _ 31 _ c4
    have k5:=(heap_setCell_other w4 ⟨cb,1,none⟩ rb (.string ⟨x4.toArray⟩) (Nat.ne_of_lt hrc)).trans k4
    have s5:=s4.put hfc 1 (.string ⟨x4.toArray⟩)
    have g5:=yan g4 hcw 1 (.string ⟨x4.toArray⟩)
    have m5:=CmIn.put (⟨m4.cols,m4.vals,m4.fields,m4.expr,m4.wh⟩:CmIn (cb+1) w4 { cm0 with kind:=1,name:=x4 } (.slice none 0 0) (.slice none 0 0) (.slice none 0 0) (.slice none 0 0) (.slice none 0 0)) hcB 1 (.string ⟨x4.toArray⟩)
    generalize hW5:w4.setCell ⟨cb,1,none⟩ (.string ⟨x4.toArray⟩)=w5 at c5 k5 s5 g5 m5
    clear c4 k4 s4 g4 m4
    go_wp2_with fail
    clear hW5 q5a q5b
    refine (yoL s5).mono ?_
    intro e w6 o6
    have g6:=yaa g5 o6.grown
    have k6:=(o6.grown.block rb (ltS k5) (by simpa using hfr.1)).trans k5
    have c6:=(o6.grown.block cb (ltS c5) (by simpa using hfc.1)).trans c5
    have m6:=m5.grown hpB o6.grown
    cases hy6:ycy T (yaG T) j4 with
    | bad j6 =>
     obtain rfl:=o6.bad j6 hy6
     exact ⟨rfl,.mkBad g6 (by rw [HR4.out];simp only [hy6,Rs.then_bad])⟩
    | ok x6 j6 =>
     obtain ⟨u,rfl,hu6,s6⟩:=o6.ok x6 j6 hy6
     have HR6:Hid (ybC T i=.ok { cm0 with kind:=1,name:=x4,cols:=x6 } j6):=by show _=_;rw [HR4.out];simp only [hy6,Rs.then_ok]
     have hz6:cb+1≤w5.heap.size:=by have:=(ltS c5);omega
     obtain ⟨ao6,ca6,rfl⟩:=RowAt.form hu6
     clear hy6 o6 k5 s5 g5 HR4 c5 m5
     have q7a:w6.cell? ⟨cb,4,none⟩=some _:=(Lib.cell_of_heap c6 4).trans rfl
     have q7b:w6.frozen? ⟨cb,4,none⟩=false:=Lib.frozen_of_heap c6 4
     have c7:(w6.setCell ⟨cb,4,none⟩ (.slice ao6 x6.length ca6)).heap[cb]?=some (.cells (cmL { cm0 with kind:=1,name:=x4,cols:=x6 } (.slice ao6 x6.length ca6) (.slice none 0 0) (.slice none 0 0) (.slice none 0 0) (.slice none 0 0)).toArray 31):=heap_setCell_same _ _ _ _ 31 _ c6
     have k7:=(heap_setCell_other w6 ⟨cb,4,none⟩ rb (.slice ao6 x6.length ca6) (Nat.ne_of_lt hrc)).trans k6
     have s7:=s6.put hfc 4 (.slice ao6 x6.length ca6)
     have g7:=yan g6 hcw 4 (.slice ao6 x6.length ca6)
     have m7:=CmIn.put (⟨RowAt.weak hu6 hz6,m6.vals,m6.fields,m6.expr,m6.wh⟩:CmIn (cb+1) w6 { cm0 with kind:=1,name:=x4,cols:=x6 } (.slice ao6 x6.length ca6) (.slice none 0 0) (.slice none 0 0) (.slice none 0 0) (.slice none 0 0)) hcB 4 (.slice ao6 x6.length ca6)
     generalize hW7:w6.setCell ⟨cb,4,none⟩ (.slice ao6 x6.length ca6)=w7 at c7 k7 s7 g7 m7
     clear c6 k6 s6 g6 m6
     go_wp2_with (first|(refine yaf 31 _ rfl rfl _ (cmL { cm0 with kind:=1,name:=x4,cols:=x6 } (.slice ao6 x6.length ca6) (.slice none 0 0) (.slice none 0 0) (.slice none 0 0) (.slice none 0 0)) 31 _ rfl (by exact c7) Tryz.underlying31 rfl Tryz.size31 ?_)|(refine yab 31 _ _ rfl rfl _ (cmL cm0 (.slice none 0 0) (.slice none 0 0) (.slice none 0 0) (.slice none 0 0) (.slice none 0 0)) (cmL { cm0 with kind:=1,name:=x4,cols:=x6 } (.slice ao6 x6.length ca6) (.slice none 0 0) (.slice none 0 0) (.slice none 0 0) (.slice none 0 0)) 31 rfl rfl (by exact k7) rfl Tryz.size31 (by exact m7.one) ?_;intro wz kz pz))
     refine bodyPost_ret (v:=.agg (cmL { cm0 with kind:=1,name:=x4,cols:=x6 } (.slice ao6 x6.length ca6) (.slice none 0 0) (.slice none 0 0) (.slice none 0 0) (.slice none 0 0)).toArray) (yah rfl _ _ _ _ 31 _ rfl kz Tryz.underlying31 rfl Tryz.size31) rfl (.mkOk (by rw [pz.out];exact yak g7 hrw 0 _) HR6.out ⟨_,_,_,_,_,rfl,by rw [pz.out];exact (m7.putAll hrB 0 _).weak hBw⟩ (by rw [pz.out];exact s7.putAll hfr 0 _))
  ·skip
   have HR8:Hid (ybC T i=(yau T j1).then fun n j=>(ybl T [w_on] j).then fun _ j=>(yau T j).then fun o j=>(ybl T [[40]] j).then fun _ j=>(yau T j).then fun c j=>(ybl T [[41]] j).then fun _ j=>.ok { cm0 with kind:=8,name:=n,other:=o,column:=c } j):=by show _=_;rw [HR1.out,if_neg (by decide)]
   clear HR1
   go_wp2_with (first|(refine yac 4 31 (cmL cm0 (.slice none 0 0) (.slice none 0 0) (.slice none 0 0) (.slice none 0 0) (.slice none 0 0)) rfl rfl rfl Tryz.alloc31 ?_;intro wA cb hcb cA bA)|(refine yab 31 _ _ rfl rfl _ (cmL cm0 (.slice none 0 0) (.slice none 0 0) (.slice none 0 0) (.slice none 0 0) (.slice none 0 0)) (cmL { cm0 with kind:=8 } (.slice none 0 0) (.slice none 0 0) (.slice none 0 0) (.slice none 0 0) (.slice none 0 0)) 31 rfl rfl (by exact cA) rfl Tryz.size31 (by exact CmIn.one (yb6 0 w { cm0 with kind:=8 } rfl rfl rfl rfl rfl)) ?_;intro w9 c9 p9))
   have hrc:rb < cb:=by have:=(ltS k1);have:=hcb.out;omega
   have hcw:w.heap.size≤cb:=by omega
   have hfc:=h.fresh hcw
   have hpB:pb < cb+1:=by omega
   have hcB:cb < cb+1:=by omega
   have hrB:rb < cb+1:=by omega
   have hBw:w.heap.size≤cb+1:=by omega
   have s9:St w9 base pb v T en j1:=by rw [p9.out];exact (s1.below bA).putAll hfc 0 _
   have g9:w.grownBy w9 (some pb):=by rw [p9.out];exact yak (yaa g1 (yad bA _)) hcw 0 _
   have k9:w9.heap[rb]?=some (.cells (cmL cm0 (.slice none 0 0) (.slice none 0 0) (.slice none 0 0) (.slice none 0 0) (.slice none 0 0)).toArray 31):=by rw [p9.out];exact (yag _ _ _ _ _ (Nat.ne_of_lt hrc)).trans ((bA.block rb (ltS k1)).trans k1)
   have m9:CmIn (cb+1) w9 { cm0 with kind:=8 } (.slice none 0 0) (.slice none 0 0) (.slice none 0 0) (.slice none 0 0) (.slice none 0 0):=yb6 _ _ _ rfl rfl rfl rfl rfl
   clear cA bA p9 hcb k1 s1 g1
   refine (ya9 s9).mono ?_
   intro e w10 o10
   have g10:=yaa g9 o10.grown
   have k10:=(o10.grown.block rb (ltS k9) (by simpa using hfr.1)).trans k9
   have c10:=(o10.grown.block cb (ltS c9) (by simpa using hfc.1)).trans c9
   have m10:=m9.grown hpB o10.grown
   cases hy10:yau T j1 with
   | bad j10 =>
    obtain rfl:=o10.bad j10 hy10
    exact ⟨rfl,.mkBad g10 (by rw [HR8.out];simp only [hy10,Rs.then_bad])⟩
   | ok x10 j10 =>
    obtain ⟨u,rfl,hu10,s10⟩:=o10.ok x10 j10 hy10
    have HR10:Hid (ybC T i=(ybl T [w_on] j10).then fun _ j=>(yau T j).then fun o j=>(ybl T [[40]] j).then fun _ j=>(yau T j).then fun c j=>(ybl T [[41]] j).then fun _ j=>.ok { cm0 with kind:=8,name:=x10,other:=o,column:=c } j):=by show _=_;rw [HR8.out];simp only [hy10,Rs.then_ok]
    cases hu10
    clear hy10 o10 k9 s9 g9 HR8 c9 m9
    have q11a:w10.cell? ⟨cb,1,none⟩=some _:=(Lib.cell_of_heap c10 1).trans rfl
    have q11b:w10.frozen? ⟨cb,1,none⟩=false:=Lib.frozen_of_heap c10 1
    have c11:(w10.setCell ⟨cb,1,none⟩ (.string ⟨x10.toArray⟩)).heap[cb]?=some (.cells (cmL { cm0 with kind:=8,name:=x10 } (.slice none 0 0) (.slice none 0 0) (.slice none 0 0) (.slice none 0 0) (.slice none 0 0)).toArray 31):=heap_setCell_same _ _ _ _ 31 _ c10
    have k11:=(heap_setCell_other w10 ⟨cb,1,none⟩ rb (.string ⟨x10.toArray⟩) (Nat.ne_of_lt hrc)).trans k10
    have s11:=s10.put hfc 1 (.string ⟨x10.toArray⟩)
    have g11:=yan g10 hcw 1 (.string ⟨x10.toArray⟩)
    have m11:=CmIn.put (⟨m10.cols,m10.vals,m10.fields,m10.expr,m10.wh⟩:CmIn (cb+1) w10 { cm0 with kind:=8,name:=x10 } (.slice none 0 0) (.slice none 0 0) (.slice none 0 0) (.slice none 0 0) (.slice none 0 0)) hcB 1 (.string ⟨x10.toArray⟩)
    generalize hW11:w10.setCell ⟨cb,1,none⟩ (.string ⟨x10.toArray⟩)=w11 at c11 k11 s11 g11 m11
    clear c10 k10 s10 g10 m10
    go_wp2_with fail
    clear hW11 q11a q11b
    refine (ybz s11 [w_on] 1 _ (by first|rfl|simp) _ (by rfl) (by rfl) (by decide) (by decide)).mono ?_
    intro e w12 o12
    have g12:=yaa g11 o12.grown
    have k12:=(o12.grown.block rb (ltS k11) (by simpa using hfr.1)).trans k11
    have c12:=(o12.grown.block cb (ltS c11) (by simpa using hfc.1)).trans c11
    have m12:=m11.grown hpB o12.grown
    cases hy12:ybl T [w_on] j10 with
    | bad j12 =>
     obtain rfl:=o12.bad j12 hy12
     exact ⟨rfl,.mkBad g12 (by rw [HR10.out];simp only [hy12,Rs.then_bad])⟩
    | ok x12 j12 =>
     obtain ⟨u,rfl,hu12,s12⟩:=o12.ok x12 j12 hy12
     have HR12:Hid (ybC T i=(yau T j12).then fun o j=>(ybl T [[40]] j).then fun _ j=>(yau T j).then fun c j=>(ybl T [[41]] j).then fun _ j=>.ok { cm0 with kind:=8,name:=x10,other:=o,column:=c } j):=by show _=_;rw [HR10.out];simp only [hy12,Rs.then_ok]
     clear hy12 o12 k11 s11 g11 HR10 c11 m11 hu12
     go_wp2_with fail
     refine (ya9 s12).mono ?_
     intro e w13 o13
     have g13:=yaa g12 o13.grown
     have k13:=(o13.grown.block rb (ltS k12) (by simpa using hfr.1)).trans k12
     have c13:=(o13.grown.block cb (ltS c12) (by simpa using hfc.1)).trans c12
     have m13:=m12.grown hpB o13.grown
     cases hy13:yau T j12 with
     | bad j13 =>
      obtain rfl:=o13.bad j13 hy13
      exact ⟨rfl,.mkBad g13 (by rw [HR12.out];simp only [hy13,Rs.then_bad])⟩
     | ok x13 j13 =>
      obtain ⟨u,rfl,hu13,s13⟩:=o13.ok x13 j13 hy13
      have HR13:Hid (ybC T i=(ybl T [[40]] j13).then fun _ j=>(yau T j).then fun c j=>(ybl T [[41]] j).then fun _ j=>.ok { cm0 with kind:=8,name:=x10,other:=x13,column:=c } j):=by show _=_;rw [HR12.out];simp only [hy13,Rs.then_ok]
      cases hu13
      clear hy13 o13 k12 s12 g12 HR12 c12 m12
      have q14a:w13.cell? ⟨cb,2,none⟩=some _:=(Lib.cell_of_heap c13 2).trans rfl
      have q14b:w13.frozen? ⟨cb,2,none⟩=false:=Lib.frozen_of_heap c13 2
      have c14:(w13.setCell ⟨cb,2,none⟩ (.string ⟨x13.toArray⟩)).heap[cb]?=some (.cells (cmL { cm0 with kind:=8,name:=x10,other:=x13 } (.slice none 0 0) (.slice none 0 0) (.slice none 0 0) (.slice none 0 0) (.slice none 0 0)).toArray 31):=heap_setCell_same _ _ _ _ 31 _ c13
      have k14:=(heap_setCell_other w13 ⟨cb,2,none⟩ rb (.string ⟨x13.toArray⟩) (Nat.ne_of_lt hrc)).trans k13
      have s14:=s13.put hfc 2 (.string ⟨x13.toArray⟩)
      have g14:=yan g13 hcw 2 (.string ⟨x13.toArray⟩)
      have m14:=CmIn.put (⟨m13.cols,m13.vals,m13.fields,m13.expr,m13.wh⟩:CmIn (cb+1) w13 { cm0 with kind:=8,name:=x10,other:=x13 } (.slice none 0 0) (.slice none 0 0) (.slice none 0 0) (.slice none 0 0) (.slice none 0 0)) hcB 2 (.string ⟨x13.toArray⟩)
      generalize hW14:w13.setCell ⟨cb,2,none⟩ (.string ⟨x13.toArray⟩)=w14 at c14 k14 s14 g14 m14
      clear c13 k13 s13 g13 m13
      go_wp2_with fail
      clear hW14 q14a q14b
      refine (ybz s14 [[40]] 1 _ (by first|rfl|simp) _ (by rfl) (by rfl) (by decide) (by decide)).mono ?_
      intro e w15 o15
      have g15:=yaa g14 o15.grown
      have k15:=(o15.grown.block rb (ltS k14) (by simpa using hfr.1)).trans k14
      have c15:=(o15.grown.block cb (ltS c14) (by simpa using hfc.1)).trans c14
      have m15:=m14.grown hpB o15.grown
      cases hy15:ybl T [[40]] j13 with
      | bad j15 =>
       obtain rfl:=o15.bad j15 hy15
       exact ⟨rfl,.mkBad g15 (by rw [HR13.out];simp only [hy15,Rs.then_bad])⟩
      | ok x15 j15 =>
       obtain ⟨u,rfl,hu15,s15⟩:=o15.ok x15 j15 hy15
       have HR15:Hid (ybC T i=(yau T j15).then fun c j=>(ybl T [[41]] j).then fun _ j=>.ok { cm0 with kind:=8,name:=x10,other:=x13,column:=c } j):=by show _=_;rw [HR13.out];simp only [hy15,Rs.then_ok]
       clear hy15 o15 k14 s14 g14 HR13 c14 m14 hu15
       go_wp2_with fail
       refine (ya9 s15).mono ?_
       intro e w16 o16
       have g16:=yaa g15 o16.grown
       have k16:=(o16.grown.block rb (ltS k15) (by simpa using hfr.1)).trans k15
       have c16:=(o16.grown.block cb (ltS c15) (by simpa using hfc.1)).trans c15
       have m16:=m15.grown hpB o16.grown
       cases hy16:yau T j15 with
       | bad j16 =>
        obtain rfl:=o16.bad j16 hy16
        exact ⟨rfl,.mkBad g16 (by rw [HR15.out];simp only [hy16,Rs.then_bad])⟩
       | ok x16 j16 =>
        obtain ⟨u,rfl,hu16,s16⟩:=o16.ok x16 j16 hy16
        have HR16:Hid (ybC T i=(ybl T [[41]] j16).then fun _ j=>.ok { cm0 with kind:=8,name:=x10,other:=x13,column:=x16 } j):=by show _=_;rw [HR15.out];simp only [hy16,Rs.then_ok]
        cases hu16
        clear hy16 o16 k15 s15 g15 HR15 c15 m15
        have q17a:w16.cell? ⟨cb,3,none⟩=some _:=(Lib.cell_of_heap c16 3).trans rfl
        have q17b:w16.frozen? ⟨cb,3,none⟩=false:=Lib.frozen_of_heap c16 3
        have c17:(w16.setCell ⟨cb,3,none⟩ (.string ⟨x16.toArray⟩)).heap[cb]?=some (.cells (cmL { cm0 with kind:=8,name:=x10,other:=x13,column:=x16 } (.slice none 0 0) (.slice none 0 0) (.slice none 0 0) (.slice none 0 0) (.slice none 0 0)).toArray 31):=heap_setCell_same _ _ _ _ 31 _ c16
        have k17:=(heap_setCell_other w16 ⟨cb,3,none⟩ rb (.string ⟨x16.toArray⟩) (Nat.ne_of_lt hrc)).trans k16
        have s17:=s16.put hfc 3 (.string ⟨x16.toArray⟩)
        have g17:=yan g16 hcw 3 (.string ⟨x16.toArray⟩)
        have m17:=CmIn.put (⟨m16.cols,m16.vals,m16.fields,m16.expr,m16.wh⟩:CmIn (cb+1) w16 { cm0 with kind:=8,name:=x10,other:=x13,column:=x16 } (.slice none 0 0) (.slice none 0 0) (.slice none 0 0) (.slice none 0 0) (.slice none 0 0)) hcB 3 (.string ⟨x16.toArray⟩)
        generalize hW17:w16.setCell ⟨cb,3,none⟩ (.string ⟨x16.toArray⟩)=w17 at c17 k17 s17 g17 m17
        clear c16 k16 s16 g16 m16
        go_wp2_with fail
        clear hW17 q17a q17b
        refine (ybz s17 [[41]] 1 _ (by first|rfl|simp) _ (by rfl) (by rfl) (by decide) (by decide)).mono ?_
        intro e w18 o18
        have g18:=yaa g17 o18.grown
        have k18:=(o18.grown.block rb (ltS k17) (by simpa using hfr.1)).trans k17
        have c18:=(o18.grown.block cb (ltS c17) (by simpa using hfc.1)).trans c17
        have m18:=m17.grown hpB o18.grown
        cases hy18:ybl T [[41]] j16 with
        | bad j18 =>
         obtain rfl:=o18.bad j18 hy18
         exact ⟨rfl,.mkBad g18 (by rw [HR16.out];simp only [hy18,Rs.then_bad])⟩
        | ok x18 j18 =>
         obtain ⟨u,rfl,hu18,s18⟩:=o18.ok x18 j18 hy18
         have HR18:Hid (ybC T i=.ok { cm0 with kind:=8,name:=x10,other:=x13,column:=x16 } j18):=by show _=_;rw [HR16.out];simp only [hy18,Rs.then_ok]
         clear hy18 o18 k17 s17 g17 HR16 c17 m17 hu18
         go_wp2_with (first|(refine yaf 31 _ rfl rfl _ (cmL { cm0 with kind:=8,name:=x10,other:=x13,column:=x16 } (.slice none 0 0) (.slice none 0 0) (.slice none 0 0) (.slice none 0 0) (.slice none 0 0)) 31 _ rfl (by exact c18) Tryz.underlying31 rfl Tryz.size31 ?_)|(refine yab 31 _ _ rfl rfl _ (cmL cm0 (.slice none 0 0) (.slice none 0 0) (.slice none 0 0) (.slice none 0 0) (.slice none 0 0)) (cmL { cm0 with kind:=8,name:=x10,other:=x13,column:=x16 } (.slice none 0 0) (.slice none 0 0) (.slice none 0 0) (.slice none 0 0) (.slice none 0 0)) 31 rfl rfl (by exact k18) rfl Tryz.size31 (by exact m18.one) ?_;intro wz kz pz))
         refine bodyPost_ret (v:=.agg (cmL { cm0 with kind:=8,name:=x10,other:=x13,column:=x16 } (.slice none 0 0) (.slice none 0 0) (.slice none 0 0) (.slice none 0 0) (.slice none 0 0)).toArray) (yah rfl _ _ _ _ 31 _ rfl kz Tryz.underlying31 rfl Tryz.size31) rfl (.mkOk (by rw [pz.out];exact yak g18 hrw 0 _) HR18.out ⟨_,_,_,_,_,rfl,by rw [pz.out];exact (m18.putAll hrB 0 _).weak hBw⟩ (by rw [pz.out];exact s18.putAll hfr 0 _))
theorem ynT {w:World} {base pb:Nat} {v:Value} {T:List Tk} {en:Int} {i:Nat} (h:St w base pb v T en i) :
  Calls Tryz.prog 106 #[.pointer (some ⟨pb,0,none⟩)] w fun e w'=>Out w base pb v T en (ypW w.heap.size) (ydW T i) e w':=by
 have hpl:=h.heapLt
 have HR0:Hid (ydW T i=(yaS T [w_table,w_index] i).then fun s j=>(yau T j).then fun n j=>.ok { cm0 with kind:=if s=w_index then 9 else 2,name:=n } j):=by show _=_;rw [ydW]
 go_enter Tryz.func106,Tryz.ntmps106
 go_wp2_with (first|(refine yac 2 31 (cmL cm0 (.slice none 0 0) (.slice none 0 0) (.slice none 0 0) (.slice none 0 0) (.slice none 0 0)) rfl rfl rfl Tryz.alloc31 ?_;intro W0 rb hrb k0 b0)|(refine yac 3 31 (cmL cm0 (.slice none 0 0) (.slice none 0 0) (.slice none 0 0) (.slice none 0 0) (.slice none 0 0)) rfl rfl rfl Tryz.alloc31 ?_;intro wA cb hcb cA bA)|(refine yab 31 _ _ rfl rfl _ (cmL cm0 (.slice none 0 0) (.slice none 0 0) (.slice none 0 0) (.slice none 0 0) (.slice none 0 0)) (cmL { cm0 with kind:=2 } (.slice none 0 0) (.slice none 0 0) (.slice none 0 0) (.slice none 0 0) (.slice none 0 0)) 31 rfl rfl (by exact cA) rfl Tryz.size31 (by exact CmIn.one (yb6 0 w { cm0 with kind:=2 } rfl rfl rfl rfl rfl)) ?_;intro w1 c1 p1))
 have hfr:=h.fresh (Nat.le_of_eq hrb.out.symm)
 have hrw:w.heap.size≤rb:=Nat.le_of_eq hrb.out.symm
 have s0:=h.below b0
 have g0:=yad b0 (some pb)
 clear b0
 have hrc:rb < cb:=by have:=(ltS k0);have:=hcb.out;omega
 have hcw:w.heap.size≤cb:=by omega
 have hfc:=h.fresh hcw
 have hpB:pb < cb+1:=by omega
 have hcB:cb < cb+1:=by omega
 have hrB:rb < cb+1:=by omega
 have hBw:w.heap.size≤cb+1:=by omega
 have s1:St w1 base pb v T en i:=by rw [p1.out];exact (s0.below bA).putAll hfc 0 _
 have g1:w.grownBy w1 (some pb):=by rw [p1.out];exact yak (yaa g0 (yad bA _)) hcw 0 _
 have k1:w1.heap[rb]?=some (.cells (cmL cm0 (.slice none 0 0) (.slice none 0 0) (.slice none 0 0) (.slice none 0 0) (.slice none 0 0)).toArray 31):=by rw [p1.out];exact (yag _ _ _ _ _ (Nat.ne_of_lt hrc)).trans ((bA.block rb (ltS k0)).trans k0)
 have m1:CmIn (cb+1) w1 { cm0 with kind:=2 } (.slice none 0 0) (.slice none 0 0) (.slice none 0 0) (.slice none 0 0) (.slice none 0 0):=yb6 _ _ _ rfl rfl rfl rfl rfl
 clear cA bA p1 hcb k0 s0 g0
 refine (ydE s1 [w_table,w_index] 2 _ (by first|rfl|simp) _ (by rfl) (by rfl) (by decide) (by decide)).mono ?_
 intro e w2 o2
 have g2:=yaa g1 o2.grown
 have k2:=(o2.grown.block rb (ltS k1) (by simpa using hfr.1)).trans k1
 have c2:=(o2.grown.block cb (ltS c1) (by simpa using hfc.1)).trans c1
 have m2:=m1.grown hpB o2.grown
 cases hy2:yaS T [w_table,w_index] i with
 | bad j2 =>
  obtain rfl:=o2.bad j2 hy2
  exact ⟨rfl,.mkBad g2 (by rw [HR0.out];simp only [hy2,Rs.then_bad])⟩
 | ok x2 j2 =>
  obtain ⟨u,rfl,hu2,s2⟩:=o2.ok x2 j2 hy2
  have HR2:Hid (ydW T i=(yau T j2).then fun n j=>.ok { cm0 with kind:=if x2=w_index then 9 else 2,name:=n } j):=by show _=_;rw [HR0.out];simp only [hy2,Rs.then_ok]
  cases hu2
  have hm2:=ydD _ _ _ _ _ hy2
  simp only [List.mem_cons,List.not_mem_nil,or_false] at hm2
  clear hy2 o2 k1 s1 g1 HR0 c1 m1
  rcases hm2 with rfl|rfl
  ·skip
   have HR3:Hid (ydW T i=(yau T j2).then fun n j=>.ok { cm0 with kind:=2,name:=n } j):=by show _=_;rw [HR2.out,if_neg (by decide)]
   clear HR2
   go_wp2_with fail
   refine (ya9 s2).mono ?_
   intro e w4 o4
   have g4:=yaa g2 o4.grown
   have k4:=(o4.grown.block rb (ltS k2) (by simpa using hfr.1)).trans k2
   have c4:=(o4.grown.block cb (ltS c2) (by simpa using hfc.1)).trans c2
   have m4:=m2.grown hpB o4.grown
   cases hy4:yau T j2 with
   | bad j4 =>
    obtain rfl:=o4.bad j4 hy4
    exact ⟨rfl,.mkBad g4 (by rw [HR3.out];simp only [hy4,Rs.then_bad])⟩
   | ok x4 j4 =>
    obtain ⟨u,rfl,hu4,s4⟩:=o4.ok x4 j4 hy4
    have HR4:Hid (ydW T i=.ok { cm0 with kind:=2,name:=x4 } j4):=by show _=_;rw [HR3.out];simp only [hy4,Rs.then_ok]
    cases hu4
    clear hy4 o4 k2 s2 g2 HR3 c2 m2
    have q5a:w4.cell? ⟨cb,1,none⟩=some _:=(Lib.cell_of_heap c4 1).trans rfl
    have q5b:w4.frozen? ⟨cb,1,none⟩=false:=Lib.frozen_of_heap c4 1
    have c5:(w4.setCell ⟨cb,1,none⟩ (.string ⟨x4.toArray⟩)).heap[cb]?=some (.cells (cmL { cm0 with kind:=2,name:=x4 } (.slice none 0 0) (.slice none 0 0) (.slice none 0 0) (.slice none 0 0) (.slice none 0 0)).toArray 31):=heap_setCell_same _ _ _ _ 31 _ c4
    have k5:=(heap_setCell_other w4 ⟨cb,1,none⟩ rb (.string ⟨x4.toArray⟩) (Nat.ne_of_lt hrc)).trans k4
    have s5:=s4.put hfc 1 (.string ⟨x4.toArray⟩)
    have g5:=yan g4 hcw 1 (.string ⟨x4.toArray⟩)
    have m5:=CmIn.put (⟨m4.cols,m4.vals,m4.fields,m4.expr,m4.wh⟩:CmIn (cb+1) w4 { cm0 with kind:=2,name:=x4 } (.slice none 0 0) (.slice none 0 0) (.slice none 0 0) (.slice none 0 0) (.slice none 0 0)) hcB 1 (.string ⟨x4.toArray⟩)
    generalize hW5:w4.setCell ⟨cb,1,none⟩ (.string ⟨x4.toArray⟩)=w5 at c5 k5 s5 g5 m5
    clear c4 k4 s4 g4 m4
    go_wp2_with (first|(refine yaf 31 _ rfl rfl _ (cmL { cm0 with kind:=2,name:=x4 } (.slice none 0 0) (.slice none 0 0) (.slice none 0 0) (.slice none 0 0) (.slice none 0 0)) 31 _ rfl (by exact c5) Tryz.underlying31 rfl Tryz.size31 ?_)|(refine yab 31 _ _ rfl rfl _ (cmL cm0 (.slice none 0 0) (.slice none 0 0) (.slice none 0 0) (.slice none 0 0) (.slice none 0 0)) (cmL { cm0 with kind:=2,name:=x4 } (.slice none 0 0) (.slice none 0 0) (.slice none 0 0) (.slice none 0 0) (.slice none 0 0)) 31 rfl rfl (by exact k5) rfl Tryz.size31 (by exact m5.one) ?_;intro wz kz pz))
    refine bodyPost_ret (v:=.agg (cmL { cm0 with kind:=2,name:=x4 } (.slice none 0 0) (.slice none 0 0) (.slice none 0 0) (.slice none 0 0) (.slice none 0 0)).toArray) (yah rfl _ _ _ _ 31 _ rfl kz Tryz.underlying31 rfl Tryz.size31) rfl (.mkOk (by rw [pz.out];exact yak g5 hrw 0 _) HR4.out ⟨_,_,_,_,_,rfl,by rw [pz.out];exact (m5.putAll hrB 0 _).weak hBw⟩ (by rw [pz.out];exact s5.putAll hfr 0 _))
  ·skip
   have HR6:Hid (ydW T i=(yau T j2).then fun n j=>.ok { cm0 with kind:=9,name:=n } j):=by show _=_;rw [HR2.out,if_pos rfl]
   clear HR2
   have q7a:w2.cell? ⟨cb,0,none⟩=some _:=(Lib.cell_of_heap c2 0).trans rfl
   have q7b:w2.frozen? ⟨cb,0,none⟩=false:=Lib.frozen_of_heap c2 0
   have c7:(w2.setCell ⟨cb,0,none⟩ (.int .i64 9)).heap[cb]?=some (.cells (cmL { cm0 with kind:=9 } (.slice none 0 0) (.slice none 0 0) (.slice none 0 0) (.slice none 0 0) (.slice none 0 0)).toArray 31):=heap_setCell_same _ _ _ _ 31 _ c2
   have k7:=(heap_setCell_other w2 ⟨cb,0,none⟩ rb (.int .i64 9) (Nat.ne_of_lt hrc)).trans k2
   have s7:=s2.put hfc 0 (.int .i64 9)
   have g7:=yan g2 hcw 0 (.int .i64 9)
   have m7:=CmIn.put (⟨m2.cols,m2.vals,m2.fields,m2.expr,m2.wh⟩:CmIn (cb+1) w2 { cm0 with kind:=9 } (.slice none 0 0) (.slice none 0 0) (.slice none 0 0) (.slice none 0 0) (.slice none 0 0)) hcB 0 (.int .i64 9)
   generalize hW7:w2.setCell ⟨cb,0,none⟩ (.int .i64 9)=w7 at c7 k7 s7 g7 m7
   clear c2 k2 s2 g2 m2
   go_wp2_with fail
   clear hW7 q7a q7b
   refine (ya9 s7).mono ?_
   intro e w8 o8
   have g8:=yaa g7 o8.grown
   have k8:=(o8.grown.block rb (ltS k7) (by simpa using hfr.1)).trans k7
   have c8:=(o8.grown.block cb (ltS c7) (by simpa using hfc.1)).trans c7
   have m8:=m7.grown hpB o8.grown
   cases hy8:yau T j2 with
   | bad j8 =>
    obtain rfl:=o8.bad j8 hy8
    exact ⟨rfl,.mkBad g8 (by rw [HR6.out];simp only [hy8,Rs.then_bad])⟩
   | ok x8 j8 =>
    obtain ⟨u,rfl,hu8,s8⟩:=o8.ok x8 j8 hy8
    have HR8:Hid (ydW T i=.ok { cm0 with kind:=9,name:=x8 } j8):=by show _=_;rw [HR6.out];simp only [hy8,Rs.then_ok]
    cases hu8
    clear hy8 o8 k7 s7 g7 HR6 c7 m7
    have q9a:w8.cell? ⟨cb,1,none⟩=some _:=(Lib.cell_of_heap c8 1).trans rfl
    have q9b:w8.frozen? ⟨cb,1,none⟩=false:=Lib.frozen_of_heap c8 1
    have c9:(w8.setCell ⟨cb,1,none⟩ (.string ⟨x8.toArray⟩)).heap[cb]?=some (.cells (cmL { cm0 with kind:=9,name:=x8 } (.slice none 0 0) (.slice none 0 0) (.slice none 0 0) (.slice none 0 0) (.slice none 0 0)).toArray 31):=heap_setCell_same _ _ _ _ 31 _ c8
    have k9:=(heap_setCell_other w8 ⟨cb,1,none⟩ rb (.string ⟨x8.toArray⟩) (Nat.ne_of_lt hrc)).trans k8
    have s9:=s8.put hfc 1 (.string ⟨x8.toArray⟩)
    have g9:=yan g8 hcw 1 (.string ⟨x8.toArray⟩)
    have m9:=CmIn.put (⟨m8.cols,m8.vals,m8.fields,m8.expr,m8.wh⟩:CmIn (cb+1) w8 { cm0 with kind:=9,name:=x8 } (.slice none 0 0) (.slice none 0 0) (.slice none 0 0) (.slice none 0 0) (.slice none 0 0)) hcB 1 (.string ⟨x8.toArray⟩)
    generalize hW9:w8.setCell ⟨cb,1,none⟩ (.string ⟨x8.toArray⟩)=w9 at c9 k9 s9 g9 m9
    clear c8 k8 s8 g8 m8
    go_wp2_with (first|(refine yaf 31 _ rfl rfl _ (cmL { cm0 with kind:=9,name:=x8 } (.slice none 0 0) (.slice none 0 0) (.slice none 0 0) (.slice none 0 0) (.slice none 0 0)) 31 _ rfl (by exact c9) Tryz.underlying31 rfl Tryz.size31 ?_)|(refine yab 31 _ _ rfl rfl _ (cmL cm0 (.slice none 0 0) (.slice none 0 0) (.slice none 0 0) (.slice none 0 0) (.slice none 0 0)) (cmL { cm0 with kind:=9,name:=x8 } (.slice none 0 0) (.slice none 0 0) (.slice none 0 0) (.slice none 0 0) (.slice none 0 0)) 31 rfl rfl (by exact k9) rfl Tryz.size31 (by exact m9.one) ?_;intro wz kz pz))
    refine bodyPost_ret (v:=.agg (cmL { cm0 with kind:=9,name:=x8 } (.slice none 0 0) (.slice none 0 0) (.slice none 0 0) (.slice none 0 0) (.slice none 0 0)).toArray) (yah rfl _ _ _ _ 31 _ rfl kz Tryz.underlying31 rfl Tryz.size31) rfl (.mkOk (by rw [pz.out];exact yak g9 hrw 0 _) HR8.out ⟨_,_,_,_,_,rfl,by rw [pz.out];exact (m9.putAll hrB 0 _).weak hBw⟩ (by rw [pz.out];exact s9.putAll hfr 0 _))
structure G2 (pb cb:Nat) (W w':World):Prop where
 os:w'.os=W.os
 tape:w'.tape=W.tape
 output:w'.output=W.output
 size:W.heap.size≤w'.heap.size
 block:∀ k,k < W.heap.size→k≠pb→k≠cb→w'.heap[k]?=W.heap[k]?
theorem G2.refl (pb cb:Nat) (W:World):G2 pb cb W W:=⟨rfl,rfl,rfl,Nat.le_refl _,fun _ _ _ _=>rfl⟩
theorem G2.grown {pb cb:Nat} {W w w':World} (h:G2 pb cb W w) (g:w.grownBy w' (some pb)):G2 pb cb W w' :=
 ⟨g.os.trans h.os,g.tape.trans h.tape,g.output.trans h.output,Nat.le_trans h.size g.size,fun k hk hp hc=>(g.block k (Nat.lt_of_lt_of_le hk h.size) (by simpa using hp)).trans (h.block k hk hp hc)⟩
theorem G2.put {pb cb:Nat} {W w:World} (h:G2 pb cb W w) (o:Nat) (x:Value):G2 pb cb W (w.setCell ⟨cb,o,none⟩ x) :=
 ⟨h.os,h.tape,h.output,by simpa [World.setCell] using h.size,fun k hk hp hc=>(heap_setCell_other w ⟨cb,o,none⟩ k x hc).trans (h.block k hk hp hc)⟩
theorem G2.outBad {W w':World} {base pb:Nat} {v:Value} {T:List Tk} {en:Int} {cb:Nat} {good:World→Cm→Prop} {r:Rs Cm} {j:Nat} (h:G2 pb cb W w') (hr:r=.bad j):OutC W base pb v T en cb good r (pan (pl T en j)) w' :=
 ⟨h.os,h.tape,h.output,h.size,h.block,(by intro c' j' hh;rw [hr] at hh;cases hh),(by intro j' hh;rw [hr] at hh;cases hh;rfl)⟩
theorem G2.outOk {W w':World} {base pb:Nat} {v:Value} {T:List Tk} {en:Int} {cb:Nat} {good:World→Cm→Prop} {r:Rs Cm} {c:Cm} {j:Nat} (h:G2 pb cb W w') (hr:r=.ok c j) (hg:good w' c) (hs:St w' base pb v T en j):OutC W base pb v T en cb good r (.returned (.tuple #[])) w' :=
 ⟨h.os,h.tape,h.output,h.size,h.block,(by intro c' j' hh;rw [hr] at hh;cases hh;exact ⟨rfl,hg,hs⟩),(by intro j' hh;rw [hr] at hh;cases hh)⟩
def ytG (cb:Nat) (cv vv fv ea wa:Value) (w':World) (c':Cm):Prop:=w'.heap[cb]?=some (.cells (cmL c' cv vv fv ea wa).toArray 31)
theorem ykA {w:World} {base pb:Nat} {v:Value} {T:List Tk} {en:Int} {i:Nat} (h:St w base pb v T en i) (cb:Nat) (hfc:cb≠pb∧v.ownBlock≠some cb∧6≤cb) (c:Cm) (cv vv fv ea wa:Value) (hc:w.heap[cb]?=some (.cells (cmL c cv vv fv ea wa).toArray 31)) :
  Calls Tryz.prog 147 #[.pointer (some ⟨pb,0,none⟩),.pointer (some ⟨cb,0,none⟩)] w fun e w'=>OutC w base pb v T en cb (ytG cb cv vv fv ea wa) (ybF T c i) e w':=by
 have g0:=G2.refl pb cb w
 have HR0:Hid (ybF T c i=(may T w_to [] i).then fun b j=>if b=true then (yau T j).then fun o j=>.ok { c with kind:=7,other:=o } j else (yau T j).then fun l j=>(ybl T [w_to] j).then fun _ j=>(yau T j).then fun o j=>.ok { c with kind:=5,column:=l,other:=o } j):=rfl
 have q1a:w.cell? ⟨cb,0,none⟩=some _:=(Lib.cell_of_heap hc 0).trans rfl
 have q1b:w.frozen? ⟨cb,0,none⟩=false:=Lib.frozen_of_heap hc 0
 have c1:(w.setCell ⟨cb,0,none⟩ (.int .i64 7)).heap[cb]?=some (.cells (cmL { c with kind:=7 } cv vv fv ea wa).toArray 31):=heap_setCell_same _ _ _ _ 31 _ hc
 have s1:=h.put hfc 0 (.int .i64 7)
 have g1:=g0.put 0 (.int .i64 7)
 generalize hW1:w.setCell ⟨cb,0,none⟩ (.int .i64 7)=w1 at c1 s1 g1
 clear hc h g0
 go_enter Tryz.func147,Tryz.ntmps147
 go_wp2_with fail
 refine (yeH s1 w_to (by decide)).mono ?_
 intro e w2 o2
 have g2:=g1.grown o2.grown
 have c2:=(o2.grown.block cb (ltS c1) (by simpa using hfc.1)).trans c1
 cases hy2:may T w_to [] i with
 | bad j2 =>
  obtain rfl:=o2.bad j2 hy2
  exact ⟨rfl,g2.outBad (by rw [HR0.out];simp only [hy2,Rs.then_bad])⟩
 | ok x2 j2 =>
  obtain ⟨u,rfl,hu2,s2⟩:=o2.ok x2 j2 hy2
  have HR2:Hid (ybF T c i=if x2=true then (yau T j2).then fun o j=>.ok { c with kind:=7,other:=o } j else (yau T j2).then fun l j=>(ybl T [w_to] j).then fun _ j=>(yau T j).then fun o j=>.ok { c with kind:=5,column:=l,other:=o } j):=by show _=_;rw [HR0.out];simp only [hy2,Rs.then_ok]
  cases hu2
  clear hy2 o2 g1 c1 s1 HR0
  cases x2 with
  | true =>
   have HR3:Hid (ybF T c i=(yau T j2).then fun o j=>.ok { c with kind:=7,other:=o } j):=by show _=_;rw [HR2.out];rfl
   clear HR2
   go_wp2_with fail
   refine (ya9 s2).mono ?_
   intro e w4 o4
   have g4:=g2.grown o4.grown
   have c4:=(o4.grown.block cb (ltS c2) (by simpa using hfc.1)).trans c2
   cases hy4:yau T j2 with
   | bad j4 =>
    obtain rfl:=o4.bad j4 hy4
    exact ⟨rfl,g4.outBad (by rw [HR3.out];simp only [hy4,Rs.then_bad])⟩
   | ok x4 j4 =>
    obtain ⟨u,rfl,hu4,s4⟩:=o4.ok x4 j4 hy4
    have HR4:Hid (ybF T c i=.ok { c with kind:=7,other:=x4 } j4):=by show _=_;rw [HR3.out];simp only [hy4,Rs.then_ok]
    cases hu4
    clear hy4 o4 g2 c2 s2 HR3
    have q5a:w4.cell? ⟨cb,2,none⟩=some _:=(Lib.cell_of_heap c4 2).trans rfl
    have q5b:w4.frozen? ⟨cb,2,none⟩=false:=Lib.frozen_of_heap c4 2
    have c5:(w4.setCell ⟨cb,2,none⟩ (.string ⟨x4.toArray⟩)).heap[cb]?=some (.cells (cmL { c with kind:=7,other:=x4 } cv vv fv ea wa).toArray 31):=heap_setCell_same _ _ _ _ 31 _ c4
    have s5:=s4.put hfc 2 (.string ⟨x4.toArray⟩)
    have g5:=g4.put 2 (.string ⟨x4.toArray⟩)
    generalize hW5:w4.setCell ⟨cb,2,none⟩ (.string ⟨x4.toArray⟩)=w5 at c5 s5 g5
    clear c4 s4 g4
    go_wp2_with fail
    go_end0
    exact g5.outOk HR4.out c5 s5
  | false =>
   have HR6:Hid (ybF T c i=(yau T j2).then fun l j=>(ybl T [w_to] j).then fun _ j=>(yau T j).then fun o j=>.ok { c with kind:=5,column:=l,other:=o } j):=by show _=_;rw [HR2.out];rfl
   clear HR2
   have q7a:w2.cell? ⟨cb,0,none⟩=some _:=(Lib.cell_of_heap c2 0).trans rfl
   have q7b:w2.frozen? ⟨cb,0,none⟩=false:=Lib.frozen_of_heap c2 0
   have c7:(w2.setCell ⟨cb,0,none⟩ (.int .i64 5)).heap[cb]?=some (.cells (cmL { c with kind:=5 } cv vv fv ea wa).toArray 31):=heap_setCell_same _ _ _ _ 31 _ c2
   have s7:=s2.put hfc 0 (.int .i64 5)
   have g7:=g2.put 0 (.int .i64 5)
   generalize hW7:w2.setCell ⟨cb,0,none⟩ (.int .i64 5)=w7 at c7 s7 g7
   clear c2 s2 g2
   go_wp2_with fail
   refine (ya9 s7).mono ?_
   intro e w8 o8
   have g8:=g7.grown o8.grown
   have c8:=(o8.grown.block cb (ltS c7) (by simpa using hfc.1)).trans c7
   cases hy8:yau T j2 with
   | bad j8 =>
    obtain rfl:=o8.bad j8 hy8
    exact ⟨rfl,g8.outBad (by rw [HR6.out];simp only [hy8,Rs.then_bad])⟩
   | ok x8 j8 =>
    obtain ⟨u,rfl,hu8,s8⟩:=o8.ok x8 j8 hy8
    have HR8:Hid (ybF T c i=(ybl T [w_to] j8).then fun _ j=>(yau T j).then fun o j=>.ok { c with kind:=5,column:=x8,other:=o } j):=by show _=_;rw [HR6.out];simp only [hy8,Rs.then_ok]
    cases hu8
    clear hy8 o8 g7 c7 s7 HR6
    have q9a:w8.cell? ⟨cb,3,none⟩=some _:=(Lib.cell_of_heap c8 3).trans rfl
    have q9b:w8.frozen? ⟨cb,3,none⟩=false:=Lib.frozen_of_heap c8 3
    have c9:(w8.setCell ⟨cb,3,none⟩ (.string ⟨x8.toArray⟩)).heap[cb]?=some (.cells (cmL { c with kind:=5,column:=x8 } cv vv fv ea wa).toArray 31):=heap_setCell_same _ _ _ _ 31 _ c8
    have s9:=s8.put hfc 3 (.string ⟨x8.toArray⟩)
    have g9:=g8.put 3 (.string ⟨x8.toArray⟩)
    generalize hW9:w8.setCell ⟨cb,3,none⟩ (.string ⟨x8.toArray⟩)=w9 at c9 s9 g9
    clear c8 s8 g8
    go_wp2_with fail
    refine (ybz s9 [w_to] 1 _ (by first|rfl|simp) _ (by rfl) (by rfl) (by decide) (by decide)).mono ?_
    intro e w10 o10
    have g10:=g9.grown o10.grown
    have c10:=(o10.grown.block cb (ltS c9) (by simpa using hfc.1)).trans c9
    cases hy10:ybl T [w_to] j8 with
    | bad j10 =>
     obtain rfl:=o10.bad j10 hy10
     exact ⟨rfl,g10.outBad (by rw [HR8.out];simp only [hy10,Rs.then_bad])⟩
    | ok x10 j10 =>
     obtain ⟨u,rfl,hu10,s10⟩:=o10.ok x10 j10 hy10
     have HR10:Hid (ybF T c i=(yau T j10).then fun o j=>.ok { c with kind:=5,column:=x8,other:=o } j):=by show _=_;rw [HR8.out];simp only [hy10,Rs.then_ok]
     clear hy10 o10 g9 c9 s9 HR8 hu10
     go_wp2_with fail
     refine (ya9 s10).mono ?_
     intro e w11 o11
     have g11:=g10.grown o11.grown
     have c11:=(o11.grown.block cb (ltS c10) (by simpa using hfc.1)).trans c10
     cases hy11:yau T j10 with
     | bad j11 =>
      obtain rfl:=o11.bad j11 hy11
      exact ⟨rfl,g11.outBad (by rw [HR10.out];simp only [hy11,Rs.then_bad])⟩
     | ok x11 j11 =>
      obtain ⟨u,rfl,hu11,s11⟩:=o11.ok x11 j11 hy11
      have HR11:Hid (ybF T c i=.ok { c with kind:=5,column:=x8,other:=x11 } j11):=by show _=_;rw [HR10.out];simp only [hy11,Rs.then_ok]
      cases hu11
      clear hy11 o11 g10 c10 s10 HR10
      have q12a:w11.cell? ⟨cb,2,none⟩=some _:=(Lib.cell_of_heap c11 2).trans rfl
      have q12b:w11.frozen? ⟨cb,2,none⟩=false:=Lib.frozen_of_heap c11 2
      have c12:(w11.setCell ⟨cb,2,none⟩ (.string ⟨x11.toArray⟩)).heap[cb]?=some (.cells (cmL { c with kind:=5,column:=x8,other:=x11 } cv vv fv ea wa).toArray 31):=heap_setCell_same _ _ _ _ 31 _ c11
      have s12:=s11.put hfc 2 (.string ⟨x11.toArray⟩)
      have g12:=g11.put 2 (.string ⟨x11.toArray⟩)
      generalize hW12:w11.setCell ⟨cb,2,none⟩ (.string ⟨x11.toArray⟩)=w12 at c12 s12 g12
      clear c11 s11 g11
      go_wp2_with fail
      go_end0
      exact g12.outOk HR11.out c12 s12
theorem yiR {T:List Tk} {c c':Cm} {i j:Nat} (h:ybF T c i=.ok c' j):c'.cols=c.cols∧c'.vals=c.vals∧c'.fields=c.fields∧c'.expr=c.expr∧c'.wh=c.wh:=by
 rw [ybF] at h
 obtain ⟨b,k,-,h2⟩:=then_ok h
 split at h2
 ·obtain ⟨e,k2,-,h3⟩:=then_ok h2
  cases h3;exact ⟨rfl,rfl,rfl,rfl,rfl⟩
 ·obtain ⟨e,k2,-,h3⟩:=then_ok h2
  obtain ⟨e,k2,-,h4⟩:=then_ok h3
  obtain ⟨e,k2,-,h5⟩:=then_ok h4
  cases h5;exact ⟨rfl,rfl,rfl,rfl,rfl⟩
theorem yk8 {w:World} {base pb:Nat} {v:Value} {T:List Tk} {en:Int} {i:Nat} (h:St w base pb v T en i) :
  Calls Tryz.prog 107 #[.pointer (some ⟨pb,0,none⟩)] w fun e w'=>Out w base pb v T en (ypW w.heap.size) (ybK T i) e w':=by
 have hpl:=h.heapLt
 have HR0:Hid (ybK T i=(ybl T [w_table] i).then fun _ j=>(yau T j).then fun n j=>(yaS T [w_add,w_drop,w_rename,w_retype] j).then fun s j=>if s=w_add then (yaG T j).then fun c j=>(ybl T [w_default] j).then fun _ j=>(yaJ T j).then fun v j=>.ok { cm0 with kind:=3,name:=n,column:=c.name,ty:=c.ty,val:=v } j else if s=w_drop then (yau T j).then fun c j=>.ok { cm0 with kind:=4,name:=n,column:=c } j else if s=w_rename then ybF T { cm0 with name:=n } j else (yaG T j).then fun c j=>.ok { cm0 with kind:=6,name:=n,column:=c.name,ty:=c.ty } j):=by show _=_;rw [ybK]
 go_enter Tryz.func107,Tryz.ntmps107
 go_wp2_with (refine yac 2 31 (cmL cm0 (.slice none 0 0) (.slice none 0 0) (.slice none 0 0) (.slice none 0 0) (.slice none 0 0)) rfl rfl rfl Tryz.alloc31 ?_;intro W0 rb hrb k0 b0)
 have hfr:=h.fresh (Nat.le_of_eq hrb.out.symm)
 have hrw:w.heap.size≤rb:=Nat.le_of_eq hrb.out.symm
 have s0:=h.below b0
 have g0:=yad b0 (some pb)
 clear b0
 refine (ybz s0 [w_table] 1 _ (by first|rfl|simp) _ (by rfl) (by rfl) (by decide) (by decide)).mono ?_
 intro e w1 o1
 have g1:=yaa g0 o1.grown
 have k1:=(o1.grown.block rb (ltS k0) (by simpa using hfr.1)).trans k0
 cases hy1:ybl T [w_table] i with
 | bad j1 =>
  obtain rfl:=o1.bad j1 hy1
  exact ⟨rfl,.mkBad g1 (by rw [HR0.out];simp only [hy1,Rs.then_bad])⟩
 | ok x1 j1 =>
  obtain ⟨u,rfl,hu1,s1⟩:=o1.ok x1 j1 hy1
  have HR1:Hid (ybK T i=(yau T j1).then fun n j=>(yaS T [w_add,w_drop,w_rename,w_retype] j).then fun s j=>if s=w_add then (yaG T j).then fun c j=>(ybl T [w_default] j).then fun _ j=>(yaJ T j).then fun v j=>.ok { cm0 with kind:=3,name:=n,column:=c.name,ty:=c.ty,val:=v } j else if s=w_drop then (yau T j).then fun c j=>.ok { cm0 with kind:=4,name:=n,column:=c } j else if s=w_rename then ybF T { cm0 with name:=n } j else (yaG T j).then fun c j=>.ok { cm0 with kind:=6,name:=n,column:=c.name,ty:=c.ty } j):=by show _=_;rw [HR0.out];simp only [hy1,Rs.then_ok]
  clear hy1 o1 k0 s0 g0 HR0 hu1
  go_wp2_with fail
  refine (ya9 s1).mono ?_
  intro e w2 o2
  have g2:=yaa g1 o2.grown
  have k2:=(o2.grown.block rb (ltS k1) (by simpa using hfr.1)).trans k1
  cases hy2:yau T j1 with
  | bad j2 =>
   obtain rfl:=o2.bad j2 hy2
   exact ⟨rfl,.mkBad g2 (by rw [HR1.out];simp only [hy2,Rs.then_bad])⟩
  | ok x2 j2 =>
   obtain ⟨u,rfl,hu2,s2⟩:=o2.ok x2 j2 hy2
   have HR2:Hid (ybK T i=(yaS T [w_add,w_drop,w_rename,w_retype] j2).then fun s j=>if s=w_add then (yaG T j).then fun c j=>(ybl T [w_default] j).then fun _ j=>(yaJ T j).then fun v j=>.ok { cm0 with kind:=3,name:=x2,column:=c.name,ty:=c.ty,val:=v } j else if s=w_drop then (yau T j).then fun c j=>.ok { cm0 with kind:=4,name:=x2,column:=c } j else if s=w_rename then ybF T { cm0 with name:=x2 } j else (yaG T j).then fun c j=>.ok { cm0 with kind:=6,name:=x2,column:=c.name,ty:=c.ty } j):=by show _=_;rw [HR1.out];simp only [hy2,Rs.then_ok]
   cases hu2
   clear hy2 o2 k1 s1 g1 HR1
   go_wp2_with (first|(refine yac 3 31 (cmL cm0 (.slice none 0 0) (.slice none 0 0) (.slice none 0 0) (.slice none 0 0) (.slice none 0 0)) rfl rfl rfl Tryz.alloc31 ?_;intro wA cb hcb cA bA)|(refine yab 31 _ _ rfl rfl _ (cmL cm0 (.slice none 0 0) (.slice none 0 0) (.slice none 0 0) (.slice none 0 0) (.slice none 0 0)) (cmL { cm0 with name:=x2 } (.slice none 0 0) (.slice none 0 0) (.slice none 0 0) (.slice none 0 0) (.slice none 0 0)) 31 rfl rfl (by exact cA) rfl Tryz.size31 (by exact CmIn.one (yb6 0 w { cm0 with name:=x2 } rfl rfl rfl rfl rfl)) ?_;intro w3 c3 p3))
   have hrc:rb < cb:=by have:=(ltS k2);have:=hcb.out;omega
   have hcw:w.heap.size≤cb:=by omega
   have hfc:=h.fresh hcw
   have hpB:pb < cb+1:=by omega
   have hcB:cb < cb+1:=by omega
   have hrB:rb < cb+1:=by omega
   have hBw:w.heap.size≤cb+1:=by omega
   have s3:St w3 base pb v T en j2:=by rw [p3.out];exact (s2.below bA).putAll hfc 0 _
   have g3:w.grownBy w3 (some pb):=by rw [p3.out];exact yak (yaa g2 (yad bA _)) hcw 0 _
   have k3:w3.heap[rb]?=some (.cells (cmL cm0 (.slice none 0 0) (.slice none 0 0) (.slice none 0 0) (.slice none 0 0) (.slice none 0 0)).toArray 31):=by rw [p3.out];exact (yag _ _ _ _ _ (Nat.ne_of_lt hrc)).trans ((bA.block rb (ltS k2)).trans k2)
   have m3:CmIn (cb+1) w3 { cm0 with name:=x2 } (.slice none 0 0) (.slice none 0 0) (.slice none 0 0) (.slice none 0 0) (.slice none 0 0):=yb6 _ _ _ rfl rfl rfl rfl rfl
   clear cA bA p3 hcb k2 s2 g2
   refine (ydE s3 [w_add,w_drop,w_rename,w_retype] 4 _ (by first|rfl|simp) _ (by rfl) (by rfl) (by decide) (by decide)).mono ?_
   intro e w4 o4
   have g4:=yaa g3 o4.grown
   have k4:=(o4.grown.block rb (ltS k3) (by simpa using hfr.1)).trans k3
   have c4:=(o4.grown.block cb (ltS c3) (by simpa using hfc.1)).trans c3
   have m4:=m3.grown hpB o4.grown
   cases hy4:yaS T [w_add,w_drop,w_rename,w_retype] j2 with
   | bad j4 =>
    obtain rfl:=o4.bad j4 hy4
    exact ⟨rfl,.mkBad g4 (by rw [HR2.out];simp only [hy4,Rs.then_bad])⟩
   | ok x4 j4 =>
    obtain ⟨u,rfl,hu4,s4⟩:=o4.ok x4 j4 hy4
    have HR4:Hid (ybK T i=if x4=w_add then (yaG T j4).then fun c j=>(ybl T [w_default] j).then fun _ j=>(yaJ T j).then fun v j=>.ok { cm0 with kind:=3,name:=x2,column:=c.name,ty:=c.ty,val:=v } j else if x4=w_drop then (yau T j4).then fun c j=>.ok { cm0 with kind:=4,name:=x2,column:=c } j else if x4=w_rename then ybF T { cm0 with name:=x2 } j4 else (yaG T j4).then fun c j=>.ok { cm0 with kind:=6,name:=x2,column:=c.name,ty:=c.ty } j):=by show _=_;rw [HR2.out];simp only [hy4,Rs.then_ok]
    cases hu4
    have hm4:=ydD _ _ _ _ _ hy4
    simp only [List.mem_cons,List.not_mem_nil,or_false] at hm4
    clear hy4 o4 k3 s3 g3 HR2 c3 m3
    rcases hm4 with rfl|rfl|rfl|rfl
    ·skip
     have HR5:Hid (ybK T i=(yaG T j4).then fun c j=>(ybl T [w_default] j).then fun _ j=>(yaJ T j).then fun v j=>.ok { cm0 with kind:=3,name:=x2,column:=c.name,ty:=c.ty,val:=v } j):=by show _=_;rw [HR4.out,if_pos rfl]
     clear HR4
     have q6a:w4.cell? ⟨cb,0,none⟩=some _:=(Lib.cell_of_heap c4 0).trans rfl
     have q6b:w4.frozen? ⟨cb,0,none⟩=false:=Lib.frozen_of_heap c4 0
     have c6:(w4.setCell ⟨cb,0,none⟩ (.int .i64 3)).heap[cb]?=some (.cells (cmL { cm0 with kind:=3,name:=x2 } (.slice none 0 0) (.slice none 0 0) (.slice none 0 0) (.slice none 0 0) (.slice none 0 0)).toArray 31):=heap_setCell_same _ _ _ _ 31 _ c4
     have k6:=(heap_setCell_other w4 ⟨cb,0,none⟩ rb (.int .i64 3) (Nat.ne_of_lt hrc)).trans k4
     have s6:=s4.put hfc 0 (.int .i64 3)
     have g6:=yan g4 hcw 0 (.int .i64 3)
     have m6:=CmIn.put (⟨m4.cols,m4.vals,m4.fields,m4.expr,m4.wh⟩:CmIn (cb+1) w4 { cm0 with kind:=3,name:=x2 } (.slice none 0 0) (.slice none 0 0) (.slice none 0 0) (.slice none 0 0) (.slice none 0 0)) hcB 0 (.int .i64 3)
     generalize hW6:w4.setCell ⟨cb,0,none⟩ (.int .i64 3)=w6 at c6 k6 s6 g6 m6
     clear c4 k4 s4 g4 m4
     go_wp2_with fail
     clear hW6 q6a q6b
     refine (ydO s6).mono ?_
     intro e w7 o7
     have g7:=yaa g6 o7.grown
     have k7:=(o7.grown.block rb (ltS k6) (by simpa using hfr.1)).trans k6
     have c7:=(o7.grown.block cb (ltS c6) (by simpa using hfc.1)).trans c6
     have m7:=m6.grown hpB o7.grown
     cases hy7:yaG T j4 with
     | bad j7 =>
      obtain rfl:=o7.bad j7 hy7
      exact ⟨rfl,.mkBad g7 (by rw [HR5.out];simp only [hy7,Rs.then_bad])⟩
     | ok x7 j7 =>
      obtain ⟨u,rfl,hu7,s7⟩:=o7.ok x7 j7 hy7
      have HR7:Hid (ybK T i=(ybl T [w_default] j7).then fun _ j=>(yaJ T j).then fun v j=>.ok { cm0 with kind:=3,name:=x2,column:=x7.name,ty:=x7.ty,val:=v } j):=by show _=_;rw [HR5.out];simp only [hy7,Rs.then_ok]
      cases hu7
      rw [clV]
      clear hy7 o7 k6 s6 g6 HR5 c6 m6
      have D3:∀ o,(w7.alloc o).cell? ⟨cb,3,none⟩=some _:=fun o=>(ya2 o (ltS c7)).trans ((Lib.cell_of_heap c7 3).trans rfl)
      have D5:∀ o,(w7.alloc o).cell? ⟨cb,5,none⟩=some _:=fun o=>(ya2 o (ltS c7)).trans ((Lib.cell_of_heap c7 5).trans rfl)
      have F3:∀ o,(w7.alloc o).frozen? ⟨cb,3,none⟩=false:=fun o=>(((Below.refl w7.heap.size w7).alloc (Nat.le_refl _) o).frozen (p:=⟨cb,3,none⟩) (ltS c7)).trans (Lib.frozen_of_heap c7 3)
      have F5:∀ o,(w7.alloc o).frozen? ⟨cb,5,none⟩=false:=fun o=>(((Below.refl w7.heap.size w7).alloc (Nat.le_refl _) o).frozen (p:=⟨cb,5,none⟩) (ltS c7)).trans (Lib.frozen_of_heap c7 5)
      have hnc:cb≠w7.heap.size:=Nat.ne_of_lt (ltS c7)
      go_wp2_with fail
      go_region
      have cA:=(((Below.refl w7.heap.size w7).alloc (Nat.le_refl _) (.cells #[.string ⟨x7.name.toArray⟩,.int .i64 x7.ty] 56)).block _ (ltS c7)).trans c7
      have kA:=(((Below.refl w7.heap.size w7).alloc (Nat.le_refl _) (.cells #[.string ⟨x7.name.toArray⟩,.int .i64 x7.ty] 56)).block _ (ltS k7)).trans k7
      have cB:((w7.alloc (.cells #[.string ⟨x7.name.toArray⟩,.int .i64 x7.ty] 56)).setCell ⟨cb,3,none⟩ (.string ⟨x7.name.toArray⟩)).heap[cb]?=some (.cells (cmL { cm0 with kind:=3,name:=x2,column:=x7.name } (.slice none 0 0) (.slice none 0 0) (.slice none 0 0) (.slice none 0 0) (.slice none 0 0)).toArray 31):=heap_setCell_same _ _ _ _ 31 _ cA
      have c8:(((w7.alloc (.cells #[.string ⟨x7.name.toArray⟩,.int .i64 x7.ty] 56)).setCell ⟨cb,3,none⟩ (.string ⟨x7.name.toArray⟩)).setCell ⟨cb,5,none⟩ (.int .i64 x7.ty)).drew.heap[cb]?=some (.cells (cmL { cm0 with kind:=3,name:=x2,column:=x7.name,ty:=x7.ty } (.slice none 0 0) (.slice none 0 0) (.slice none 0 0) (.slice none 0 0) (.slice none 0 0)).toArray 31):=heap_setCell_same _ _ _ _ 31 _ cB
      have k8:(((w7.alloc (.cells #[.string ⟨x7.name.toArray⟩,.int .i64 x7.ty] 56)).setCell ⟨cb,3,none⟩ (.string ⟨x7.name.toArray⟩)).setCell ⟨cb,5,none⟩ (.int .i64 x7.ty)).drew.heap[rb]?=some (.cells (cmL cm0 (.slice none 0 0) (.slice none 0 0) (.slice none 0 0) (.slice none 0 0) (.slice none 0 0)).toArray 31):=(heap_setCell_other ((w7.alloc (.cells #[.string ⟨x7.name.toArray⟩,.int .i64 x7.ty] 56)).setCell ⟨cb,3,none⟩ (.string ⟨x7.name.toArray⟩)) ⟨cb,5,none⟩ rb (.int .i64 x7.ty) (Nat.ne_of_lt hrc)).trans ((heap_setCell_other (w7.alloc (.cells #[.string ⟨x7.name.toArray⟩,.int .i64 x7.ty] 56)) ⟨cb,3,none⟩ rb (.string ⟨x7.name.toArray⟩) (Nat.ne_of_lt hrc)).trans kA)
      have s8:St (((w7.alloc (.cells #[.string ⟨x7.name.toArray⟩,.int .i64 x7.ty] 56)).setCell ⟨cb,3,none⟩ (.string ⟨x7.name.toArray⟩)).setCell ⟨cb,5,none⟩ (.int .i64 x7.ty)).drew base pb v T en j7:=(((s7.alloc (.cells #[.string ⟨x7.name.toArray⟩,.int .i64 x7.ty] 56)).put hfc 3 (.string ⟨x7.name.toArray⟩)).put hfc 5 (.int .i64 x7.ty)).below ((Below.refl _ _).drew)
      have g8:w.grownBy (((w7.alloc (.cells #[.string ⟨x7.name.toArray⟩,.int .i64 x7.ty] 56)).setCell ⟨cb,3,none⟩ (.string ⟨x7.name.toArray⟩)).setCell ⟨cb,5,none⟩ (.int .i64 x7.ty)).drew (some pb):=yaa (yan (yan (yax g7 (.cells #[.string ⟨x7.name.toArray⟩,.int .i64 x7.ty] 56)) hcw 3 (.string ⟨x7.name.toArray⟩)) hcw 5 (.int .i64 x7.ty)) (yad ((Below.refl _ _).drew) _)
      have m8:CmIn (cb+1) (((w7.alloc (.cells #[.string ⟨x7.name.toArray⟩,.int .i64 x7.ty] 56)).setCell ⟨cb,3,none⟩ (.string ⟨x7.name.toArray⟩)).setCell ⟨cb,5,none⟩ (.int .i64 x7.ty)).drew { cm0 with kind:=3,name:=x2,column:=x7.name,ty:=x7.ty } (.slice none 0 0) (.slice none 0 0) (.slice none 0 0) (.slice none 0 0) (.slice none 0 0):=CmIn.under (((CmIn.alloc (show CmIn (cb+1) w7 { cm0 with kind:=3,name:=x2,column:=x7.name,ty:=x7.ty } (.slice none 0 0) (.slice none 0 0) (.slice none 0 0) (.slice none 0 0) (.slice none 0 0) from ⟨m7.cols,m7.vals,m7.fields,m7.expr,m7.wh⟩) (.cells #[.string ⟨x7.name.toArray⟩,.int .i64 x7.ty] 56)).put hcB 3 (.string ⟨x7.name.toArray⟩)).put hcB 5 (.int .i64 x7.ty)) ((Below.refl _ _).drew)
      clear cA kA cB D3 D5 F3 F5 hnc c7 k7 s7 g7 m7
      generalize (((w7.alloc (.cells #[.string ⟨x7.name.toArray⟩,.int .i64 x7.ty] 56)).setCell ⟨cb,3,none⟩ (.string ⟨x7.name.toArray⟩)).setCell ⟨cb,5,none⟩ (.int .i64 x7.ty)).drew=w8 at *
      go_wp2_with fail
      refine (ybz s8 [w_default] 1 _ (by first|rfl|simp) _ (by rfl) (by rfl) (by decide) (by decide)).mono ?_
      intro e w9 o9
      have g9:=yaa g8 o9.grown
      have k9:=(o9.grown.block rb (ltS k8) (by simpa using hfr.1)).trans k8
      have c9:=(o9.grown.block cb (ltS c8) (by simpa using hfc.1)).trans c8
      have m9:=m8.grown hpB o9.grown
      cases hy9:ybl T [w_default] j7 with
      | bad j9 =>
       obtain rfl:=o9.bad j9 hy9
       exact ⟨rfl,.mkBad g9 (by rw [HR7.out];simp only [hy9,Rs.then_bad])⟩
      | ok x9 j9 =>
       obtain ⟨u,rfl,hu9,s9⟩:=o9.ok x9 j9 hy9
       have HR9:Hid (ybK T i=(yaJ T j9).then fun v j=>.ok { cm0 with kind:=3,name:=x2,column:=x7.name,ty:=x7.ty,val:=v } j):=by show _=_;rw [HR7.out];simp only [hy9,Rs.then_ok]
       clear hy9 o9 k8 s8 g8 HR7 c8 m8 hu9
       go_wp2_with fail
       refine (ydK s9).mono ?_
       intro e w10 o10
       have g10:=yaa g9 o10.grown
       have k10:=(o10.grown.block rb (ltS k9) (by simpa using hfr.1)).trans k9
       have c10:=(o10.grown.block cb (ltS c9) (by simpa using hfc.1)).trans c9
       have m10:=m9.grown hpB o10.grown
       cases hy10:yaJ T j9 with
       | bad j10 =>
        obtain rfl:=o10.bad j10 hy10
        exact ⟨rfl,.mkBad g10 (by rw [HR9.out];simp only [hy10,Rs.then_bad])⟩
       | ok x10 j10 =>
        obtain ⟨u,rfl,hu10,s10⟩:=o10.ok x10 j10 hy10
        have HR10:Hid (ybK T i=.ok { cm0 with kind:=3,name:=x2,column:=x7.name,ty:=x7.ty,val:=x10 } j10):=by show _=_;rw [HR9.out];simp only [hy10,Rs.then_ok]
        cases hu10
        rw [vlV]
        clear hy10 o10 k9 s9 g9 HR9 c9 m9
        go_wp2_with (first|(refine ybj 24 _ _ rfl rfl cb ((cmL { cm0 with kind:=3,name:=x2,column:=x7.name,ty:=x7.ty } (.slice none 0 0) (.slice none 0 0) (.slice none 0 0) (.slice none 0 0) (.slice none 0 0)).take 6) (((cmL { cm0 with kind:=3,name:=x2,column:=x7.name,ty:=x7.ty } (.slice none 0 0) (.slice none 0 0) (.slice none 0 0) (.slice none 0 0) (.slice none 0 0)).drop 6).take 3) ((cmL { cm0 with kind:=3,name:=x2,column:=x7.name,ty:=x7.ty } (.slice none 0 0) (.slice none 0 0) (.slice none 0 0) (.slice none 0 0) (.slice none 0 0)).drop 9) [.int .i64 x10.k,.int .i64 x10.n,.string ⟨x10.s.toArray⟩] 31 rfl rfl (by exact c10) rfl Tryz.size24 (by intro v hv;simp only [List.mem_cons,List.not_mem_nil,or_false] at hv;rcases hv with rfl|rfl|rfl <;> rfl) ?_;intro wy cy py)|(refine yaf 31 _ rfl rfl _ (cmL { cm0 with kind:=3,name:=x2,column:=x7.name,ty:=x7.ty,val:=x10 } (.slice none 0 0) (.slice none 0 0) (.slice none 0 0) (.slice none 0 0) (.slice none 0 0)) 31 _ rfl (by exact cy) Tryz.underlying31 rfl Tryz.size31 ?_)|(refine yab 31 _ _ rfl rfl _ (cmL cm0 (.slice none 0 0) (.slice none 0 0) (.slice none 0 0) (.slice none 0 0) (.slice none 0 0)) (cmL { cm0 with kind:=3,name:=x2,column:=x7.name,ty:=x7.ty,val:=x10 } (.slice none 0 0) (.slice none 0 0) (.slice none 0 0) (.slice none 0 0) (.slice none 0 0)) 31 rfl rfl (by rw [py.out];exact (yag _ _ _ _ _ (Nat.ne_of_lt hrc)).trans k10) rfl Tryz.size31 (by exact CmIn.one (yb6 0 w { cm0 with kind:=3,name:=x2,column:=x7.name,ty:=x7.ty,val:=x10 } rfl rfl rfl rfl rfl)) ?_;intro wz kz pz))
        have py':wy=putAll w10 cb 6 _:=py.out
        have sy:St wy base pb v T en j10:=by rw [py'];exact s10.putAll hfc 6 _
        have gy:w.grownBy wy (some pb):=by rw [py'];exact yak g10 hcw 6 _
        have my:CmIn (cb+1) wy { cm0 with kind:=3,name:=x2,column:=x7.name,ty:=x7.ty,val:=x10 } (.slice none 0 0) (.slice none 0 0) (.slice none 0 0) (.slice none 0 0) (.slice none 0 0):=yb6 _ _ _ rfl rfl rfl rfl rfl
        refine bodyPost_ret (v:=.agg (cmL { cm0 with kind:=3,name:=x2,column:=x7.name,ty:=x7.ty,val:=x10 } (.slice none 0 0) (.slice none 0 0) (.slice none 0 0) (.slice none 0 0) (.slice none 0 0)).toArray) (yah rfl _ _ _ _ 31 _ rfl kz Tryz.underlying31 rfl Tryz.size31) rfl (.mkOk (by rw [pz.out];exact yak gy hrw 0 _) HR10.out ⟨_,_,_,_,_,rfl,by rw [pz.out];exact (my.putAll hrB 0 _).weak hBw⟩ (by rw [pz.out];exact sy.putAll hfr 0 _))
    ·skip
     have HR11:Hid (ybK T i=(yau T j4).then fun c j=>.ok { cm0 with kind:=4,name:=x2,column:=c } j):=by show _=_;rw [HR4.out,if_neg (by decide),if_pos rfl]
     clear HR4
     have q12a:w4.cell? ⟨cb,0,none⟩=some _:=(Lib.cell_of_heap c4 0).trans rfl
     have q12b:w4.frozen? ⟨cb,0,none⟩=false:=Lib.frozen_of_heap c4 0
     have c12:(w4.setCell ⟨cb,0,none⟩ (.int .i64 4)).heap[cb]?=some (.cells (cmL { cm0 with kind:=4,name:=x2 } (.slice none 0 0) (.slice none 0 0) (.slice none 0 0) (.slice none 0 0) (.slice none 0 0)).toArray 31):=heap_setCell_same _ _ _ _ 31 _ c4
     have k12:=(heap_setCell_other w4 ⟨cb,0,none⟩ rb (.int .i64 4) (Nat.ne_of_lt hrc)).trans k4
     have s12:=s4.put hfc 0 (.int .i64 4)
     have g12:=yan g4 hcw 0 (.int .i64 4)
     have m12:=CmIn.put (⟨m4.cols,m4.vals,m4.fields,m4.expr,m4.wh⟩:CmIn (cb+1) w4 { cm0 with kind:=4,name:=x2 } (.slice none 0 0) (.slice none 0 0) (.slice none 0 0) (.slice none 0 0) (.slice none 0 0)) hcB 0 (.int .i64 4)
     generalize hW12:w4.setCell ⟨cb,0,none⟩ (.int .i64 4)=w12 at c12 k12 s12 g12 m12
     clear c4 k4 s4 g4 m4
     go_wp2_with fail
     clear hW12 q12a q12b
     refine (ya9 s12).mono ?_
     intro e w13 o13
     have g13:=yaa g12 o13.grown
     have k13:=(o13.grown.block rb (ltS k12) (by simpa using hfr.1)).trans k12
     have c13:=(o13.grown.block cb (ltS c12) (by simpa using hfc.1)).trans c12
     have m13:=m12.grown hpB o13.grown
     cases hy13:yau T j4 with
     | bad j13 =>
      obtain rfl:=o13.bad j13 hy13
      exact ⟨rfl,.mkBad g13 (by rw [HR11.out];simp only [hy13,Rs.then_bad])⟩
     | ok x13 j13 =>
      obtain ⟨u,rfl,hu13,s13⟩:=o13.ok x13 j13 hy13
      have HR13:Hid (ybK T i=.ok { cm0 with kind:=4,name:=x2,column:=x13 } j13):=by show _=_;rw [HR11.out];simp only [hy13,Rs.then_ok]
      cases hu13
      clear hy13 o13 k12 s12 g12 HR11 c12 m12
      have q14a:w13.cell? ⟨cb,3,none⟩=some _:=(Lib.cell_of_heap c13 3).trans rfl
      have q14b:w13.frozen? ⟨cb,3,none⟩=false:=Lib.frozen_of_heap c13 3
      have c14:(w13.setCell ⟨cb,3,none⟩ (.string ⟨x13.toArray⟩)).heap[cb]?=some (.cells (cmL { cm0 with kind:=4,name:=x2,column:=x13 } (.slice none 0 0) (.slice none 0 0) (.slice none 0 0) (.slice none 0 0) (.slice none 0 0)).toArray 31):=heap_setCell_same _ _ _ _ 31 _ c13
      have k14:=(heap_setCell_other w13 ⟨cb,3,none⟩ rb (.string ⟨x13.toArray⟩) (Nat.ne_of_lt hrc)).trans k13
      have s14:=s13.put hfc 3 (.string ⟨x13.toArray⟩)
      have g14:=yan g13 hcw 3 (.string ⟨x13.toArray⟩)
      have m14:=CmIn.put (⟨m13.cols,m13.vals,m13.fields,m13.expr,m13.wh⟩:CmIn (cb+1) w13 { cm0 with kind:=4,name:=x2,column:=x13 } (.slice none 0 0) (.slice none 0 0) (.slice none 0 0) (.slice none 0 0) (.slice none 0 0)) hcB 3 (.string ⟨x13.toArray⟩)
      generalize hW14:w13.setCell ⟨cb,3,none⟩ (.string ⟨x13.toArray⟩)=w14 at c14 k14 s14 g14 m14
      clear c13 k13 s13 g13 m13
      go_wp2_with (first|(refine yaf 31 _ rfl rfl _ (cmL { cm0 with kind:=4,name:=x2,column:=x13 } (.slice none 0 0) (.slice none 0 0) (.slice none 0 0) (.slice none 0 0) (.slice none 0 0)) 31 _ rfl (by exact c14) Tryz.underlying31 rfl Tryz.size31 ?_)|(refine yab 31 _ _ rfl rfl _ (cmL cm0 (.slice none 0 0) (.slice none 0 0) (.slice none 0 0) (.slice none 0 0) (.slice none 0 0)) (cmL { cm0 with kind:=4,name:=x2,column:=x13 } (.slice none 0 0) (.slice none 0 0) (.slice none 0 0) (.slice none 0 0) (.slice none 0 0)) 31 rfl rfl (by exact k14) rfl Tryz.size31 (by exact m14.one) ?_;intro wz kz pz))
      refine bodyPost_ret (v:=.agg (cmL { cm0 with kind:=4,name:=x2,column:=x13 } (.slice none 0 0) (.slice none 0 0) (.slice none 0 0) (.slice none 0 0) (.slice none 0 0)).toArray) (yah rfl _ _ _ _ 31 _ rfl kz Tryz.underlying31 rfl Tryz.size31) rfl (.mkOk (by rw [pz.out];exact yak g14 hrw 0 _) HR13.out ⟨_,_,_,_,_,rfl,by rw [pz.out];exact (m14.putAll hrB 0 _).weak hBw⟩ (by rw [pz.out];exact s14.putAll hfr 0 _))
    ·skip
     have HR15:Hid (ybK T i=ybF T { cm0 with name:=x2 } j4):=by show _=_;rw [HR4.out,if_neg (by decide),if_neg (by decide),if_pos rfl]
     clear HR4
     go_wp2_with fail
     refine (ykA s4 cb hfc { cm0 with name:=x2 } (.slice none 0 0) (.slice none 0 0) (.slice none 0 0) (.slice none 0 0) (.slice none 0 0) c4).mono ?_
     intro e w16 o16
     have g16:w.grownBy w16 (some pb):=⟨o16.os.trans g4.os,o16.tape.trans g4.tape,o16.output.trans g4.output,Nat.le_trans g4.size o16.size,fun k hk hp=>(o16.block k (Nat.lt_of_lt_of_le hk g4.size) (by simpa using hp) (by omega)).trans (g4.block k hk hp)⟩
     have k16:=(o16.block rb (ltS k4) hfr.1 (Nat.ne_of_lt hrc)).trans k4
     cases hy16:ybF T { cm0 with name:=x2 } j4 with
     | bad j16 =>
      obtain rfl:=o16.bad j16 hy16
      exact ⟨rfl,.mkBad g16 (by rw [HR15.out,hy16])⟩
     | ok cc16 j16 =>
      obtain ⟨rfl,c16,s16⟩:=o16.ok cc16 j16 hy16
      have c16:w16.heap[cb]?=some (.cells (cmL cc16 (.slice none 0 0) (.slice none 0 0) (.slice none 0 0) (.slice none 0 0) (.slice none 0 0)).toArray 31):=c16
      have HR16:Hid (ybK T i=.ok cc16 j16):=by show _=_;rw [HR15.out,hy16]
      obtain ⟨e1,e2,e3,e4,e5⟩:=yiR hy16
      have m16:CmIn (cb+1) w16 cc16 (.slice none 0 0) (.slice none 0 0) (.slice none 0 0) (.slice none 0 0) (.slice none 0 0):=yb6 _ _ _ e1 e2 e3 e4 e5
      clear hy16 o16 e1 e2 e3 e4 e5 k4 s4 g4 HR15 c4 m4
      go_wp2_with (first|(refine yaf 31 _ rfl rfl _ (cmL cc16 (.slice none 0 0) (.slice none 0 0) (.slice none 0 0) (.slice none 0 0) (.slice none 0 0)) 31 _ rfl (by exact c16) Tryz.underlying31 rfl Tryz.size31 ?_)|(refine yab 31 _ _ rfl rfl _ (cmL cm0 (.slice none 0 0) (.slice none 0 0) (.slice none 0 0) (.slice none 0 0) (.slice none 0 0)) (cmL cc16 (.slice none 0 0) (.slice none 0 0) (.slice none 0 0) (.slice none 0 0) (.slice none 0 0)) 31 rfl rfl (by exact k16) rfl Tryz.size31 (by exact m16.one) ?_;intro wz kz pz))
      refine bodyPost_ret (v:=.agg (cmL cc16 (.slice none 0 0) (.slice none 0 0) (.slice none 0 0) (.slice none 0 0) (.slice none 0 0)).toArray) (yah rfl _ _ _ _ 31 _ rfl kz Tryz.underlying31 rfl Tryz.size31) rfl (.mkOk (by rw [pz.out];exact yak g16 hrw 0 _) HR16.out ⟨_,_,_,_,_,rfl,by rw [pz.out];exact (m16.putAll hrB 0 _).weak hBw⟩ (by rw [pz.out];exact s16.putAll hfr 0 _))
    ·skip
     have HR17:Hid (ybK T i=(yaG T j4).then fun c j=>.ok { cm0 with kind:=6,name:=x2,column:=c.name,ty:=c.ty } j):=by show _=_;rw [HR4.out,if_neg (by decide),if_neg (by decide),if_neg (by decide)]
     clear HR4
     have q18a:w4.cell? ⟨cb,0,none⟩=some _:=(Lib.cell_of_heap c4 0).trans rfl
     have q18b:w4.frozen? ⟨cb,0,none⟩=false:=Lib.frozen_of_heap c4 0
     have c18:(w4.setCell ⟨cb,0,none⟩ (.int .i64 6)).heap[cb]?=some (.cells (cmL { cm0 with kind:=6,name:=x2 } (.slice none 0 0) (.slice none 0 0) (.slice none 0 0) (.slice none 0 0) (.slice none 0 0)).toArray 31):=heap_setCell_same _ _ _ _ 31 _ c4
     have k18:=(heap_setCell_other w4 ⟨cb,0,none⟩ rb (.int .i64 6) (Nat.ne_of_lt hrc)).trans k4
     have s18:=s4.put hfc 0 (.int .i64 6)
     have g18:=yan g4 hcw 0 (.int .i64 6)
     have m18:=CmIn.put (⟨m4.cols,m4.vals,m4.fields,m4.expr,m4.wh⟩:CmIn (cb+1) w4 { cm0 with kind:=6,name:=x2 } (.slice none 0 0) (.slice none 0 0) (.slice none 0 0) (.slice none 0 0) (.slice none 0 0)) hcB 0 (.int .i64 6)
     generalize hW18:w4.setCell ⟨cb,0,none⟩ (.int .i64 6)=w18 at c18 k18 s18 g18 m18
     clear c4 k4 s4 g4 m4
     go_wp2_with fail
     clear hW18 q18a q18b
     refine (ydO s18).mono ?_
     intro e w19 o19
     have g19:=yaa g18 o19.grown
     have k19:=(o19.grown.block rb (ltS k18) (by simpa using hfr.1)).trans k18
     have c19:=(o19.grown.block cb (ltS c18) (by simpa using hfc.1)).trans c18
     have m19:=m18.grown hpB o19.grown
     cases hy19:yaG T j4 with
     | bad j19 =>
      obtain rfl:=o19.bad j19 hy19
      exact ⟨rfl,.mkBad g19 (by rw [HR17.out];simp only [hy19,Rs.then_bad])⟩
     | ok x19 j19 =>
      obtain ⟨u,rfl,hu19,s19⟩:=o19.ok x19 j19 hy19
      have HR19:Hid (ybK T i=.ok { cm0 with kind:=6,name:=x2,column:=x19.name,ty:=x19.ty } j19):=by show _=_;rw [HR17.out];simp only [hy19,Rs.then_ok]
      cases hu19
      rw [clV]
      clear hy19 o19 k18 s18 g18 HR17 c18 m18
      have D3:∀ o,(w19.alloc o).cell? ⟨cb,3,none⟩=some _:=fun o=>(ya2 o (ltS c19)).trans ((Lib.cell_of_heap c19 3).trans rfl)
      have D5:∀ o,(w19.alloc o).cell? ⟨cb,5,none⟩=some _:=fun o=>(ya2 o (ltS c19)).trans ((Lib.cell_of_heap c19 5).trans rfl)
      have F3:∀ o,(w19.alloc o).frozen? ⟨cb,3,none⟩=false:=fun o=>(((Below.refl w19.heap.size w19).alloc (Nat.le_refl _) o).frozen (p:=⟨cb,3,none⟩) (ltS c19)).trans (Lib.frozen_of_heap c19 3)
      have F5:∀ o,(w19.alloc o).frozen? ⟨cb,5,none⟩=false:=fun o=>(((Below.refl w19.heap.size w19).alloc (Nat.le_refl _) o).frozen (p:=⟨cb,5,none⟩) (ltS c19)).trans (Lib.frozen_of_heap c19 5)
      have hnc:cb≠w19.heap.size:=Nat.ne_of_lt (ltS c19)
      go_wp2_with fail
      go_region
      have cA:=(((Below.refl w19.heap.size w19).alloc (Nat.le_refl _) (.cells #[.string ⟨x19.name.toArray⟩,.int .i64 x19.ty] 56)).block _ (ltS c19)).trans c19
      have kA:=(((Below.refl w19.heap.size w19).alloc (Nat.le_refl _) (.cells #[.string ⟨x19.name.toArray⟩,.int .i64 x19.ty] 56)).block _ (ltS k19)).trans k19
      have cB:((w19.alloc (.cells #[.string ⟨x19.name.toArray⟩,.int .i64 x19.ty] 56)).setCell ⟨cb,3,none⟩ (.string ⟨x19.name.toArray⟩)).heap[cb]?=some (.cells (cmL { cm0 with kind:=6,name:=x2,column:=x19.name } (.slice none 0 0) (.slice none 0 0) (.slice none 0 0) (.slice none 0 0) (.slice none 0 0)).toArray 31):=heap_setCell_same _ _ _ _ 31 _ cA
      have c20:(((w19.alloc (.cells #[.string ⟨x19.name.toArray⟩,.int .i64 x19.ty] 56)).setCell ⟨cb,3,none⟩ (.string ⟨x19.name.toArray⟩)).setCell ⟨cb,5,none⟩ (.int .i64 x19.ty)).drew.heap[cb]?=some (.cells (cmL { cm0 with kind:=6,name:=x2,column:=x19.name,ty:=x19.ty } (.slice none 0 0) (.slice none 0 0) (.slice none 0 0) (.slice none 0 0) (.slice none 0 0)).toArray 31):=heap_setCell_same _ _ _ _ 31 _ cB
      have k20:(((w19.alloc (.cells #[.string ⟨x19.name.toArray⟩,.int .i64 x19.ty] 56)).setCell ⟨cb,3,none⟩ (.string ⟨x19.name.toArray⟩)).setCell ⟨cb,5,none⟩ (.int .i64 x19.ty)).drew.heap[rb]?=some (.cells (cmL cm0 (.slice none 0 0) (.slice none 0 0) (.slice none 0 0) (.slice none 0 0) (.slice none 0 0)).toArray 31):=(heap_setCell_other ((w19.alloc (.cells #[.string ⟨x19.name.toArray⟩,.int .i64 x19.ty] 56)).setCell ⟨cb,3,none⟩ (.string ⟨x19.name.toArray⟩)) ⟨cb,5,none⟩ rb (.int .i64 x19.ty) (Nat.ne_of_lt hrc)).trans ((heap_setCell_other (w19.alloc (.cells #[.string ⟨x19.name.toArray⟩,.int .i64 x19.ty] 56)) ⟨cb,3,none⟩ rb (.string ⟨x19.name.toArray⟩) (Nat.ne_of_lt hrc)).trans kA)
      have s20:St (((w19.alloc (.cells #[.string ⟨x19.name.toArray⟩,.int .i64 x19.ty] 56)).setCell ⟨cb,3,none⟩ (.string ⟨x19.name.toArray⟩)).setCell ⟨cb,5,none⟩ (.int .i64 x19.ty)).drew base pb v T en j19:=(((s19.alloc (.cells #[.string ⟨x19.name.toArray⟩,.int .i64 x19.ty] 56)).put hfc 3 (.string ⟨x19.name.toArray⟩)).put hfc 5 (.int .i64 x19.ty)).below ((Below.refl _ _).drew)
      have g20:w.grownBy (((w19.alloc (.cells #[.string ⟨x19.name.toArray⟩,.int .i64 x19.ty] 56)).setCell ⟨cb,3,none⟩ (.string ⟨x19.name.toArray⟩)).setCell ⟨cb,5,none⟩ (.int .i64 x19.ty)).drew (some pb):=yaa (yan (yan (yax g19 (.cells #[.string ⟨x19.name.toArray⟩,.int .i64 x19.ty] 56)) hcw 3 (.string ⟨x19.name.toArray⟩)) hcw 5 (.int .i64 x19.ty)) (yad ((Below.refl _ _).drew) _)
      have m20:CmIn (cb+1) (((w19.alloc (.cells #[.string ⟨x19.name.toArray⟩,.int .i64 x19.ty] 56)).setCell ⟨cb,3,none⟩ (.string ⟨x19.name.toArray⟩)).setCell ⟨cb,5,none⟩ (.int .i64 x19.ty)).drew { cm0 with kind:=6,name:=x2,column:=x19.name,ty:=x19.ty } (.slice none 0 0) (.slice none 0 0) (.slice none 0 0) (.slice none 0 0) (.slice none 0 0):=CmIn.under (((CmIn.alloc (show CmIn (cb+1) w19 { cm0 with kind:=6,name:=x2,column:=x19.name,ty:=x19.ty } (.slice none 0 0) (.slice none 0 0) (.slice none 0 0) (.slice none 0 0) (.slice none 0 0) from ⟨m19.cols,m19.vals,m19.fields,m19.expr,m19.wh⟩) (.cells #[.string ⟨x19.name.toArray⟩,.int .i64 x19.ty] 56)).put hcB 3 (.string ⟨x19.name.toArray⟩)).put hcB 5 (.int .i64 x19.ty)) ((Below.refl _ _).drew)
      clear cA kA cB D3 D5 F3 F5 hnc c19 k19 s19 g19 m19
      generalize (((w19.alloc (.cells #[.string ⟨x19.name.toArray⟩,.int .i64 x19.ty] 56)).setCell ⟨cb,3,none⟩ (.string ⟨x19.name.toArray⟩)).setCell ⟨cb,5,none⟩ (.int .i64 x19.ty)).drew=w20 at *
      go_wp2_with (first|(refine yaf 31 _ rfl rfl _ (cmL { cm0 with kind:=6,name:=x2,column:=x19.name,ty:=x19.ty } (.slice none 0 0) (.slice none 0 0) (.slice none 0 0) (.slice none 0 0) (.slice none 0 0)) 31 _ rfl (by exact c20) Tryz.underlying31 rfl Tryz.size31 ?_)|(refine yab 31 _ _ rfl rfl _ (cmL cm0 (.slice none 0 0) (.slice none 0 0) (.slice none 0 0) (.slice none 0 0) (.slice none 0 0)) (cmL { cm0 with kind:=6,name:=x2,column:=x19.name,ty:=x19.ty } (.slice none 0 0) (.slice none 0 0) (.slice none 0 0) (.slice none 0 0) (.slice none 0 0)) 31 rfl rfl (by exact k20) rfl Tryz.size31 (by exact m20.one) ?_;intro wz kz pz))
      refine bodyPost_ret (v:=.agg (cmL { cm0 with kind:=6,name:=x2,column:=x19.name,ty:=x19.ty } (.slice none 0 0) (.slice none 0 0) (.slice none 0 0) (.slice none 0 0) (.slice none 0 0)).toArray) (yah rfl _ _ _ _ 31 _ rfl kz Tryz.underlying31 rfl Tryz.size31) rfl (.mkOk (by rw [pz.out];exact yak g20 hrw 0 _) HR19.out ⟨_,_,_,_,_,rfl,by rw [pz.out];exact (m20.putAll hrB 0 _).weak hBw⟩ (by rw [pz.out];exact s20.putAll hfr 0 _))
end Go.Proofs.YtkpeklealgicpabGreatDoor
