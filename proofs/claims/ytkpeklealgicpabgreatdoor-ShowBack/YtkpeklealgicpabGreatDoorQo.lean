/-
  The printer's text, as a string.
  'Show' of package show, of any command.
  The document's reader in memory: names, numbers, values, kinds of columns.
  Parse, all cases in one; the laws' first look, commandBegun.
  The document's reader in memory: values, kinds of columns.
  The document's reader in memory: values.
  The document's reader in memory: values, whole.
  The document's reader in memory: expressions.
  The document's reader in memory: expressions in brackets.
  The document's reader in memory: expressions of two.
  The document's reader in memory: expressions, whole.
  The document's reader in memory, with its command.
-/
import Derived.Test.YtkpeklealgicpabGreatDoorQa
import Derived.Test.YtkpeklealgicpabGreatDoorQg
import Derived.Test.YtkpeklealgicpabGreatDoorQh
import Derived.Test.YtkpeklealgicpabGreatDoorQi
import Derived.Test.YtkpeklealgicpabGreatDoorQk
import Derived.Test.YtkpeklealgicpabGreatDoorQl
import Derived.Test.YtkpeklealgicpabGreatDoorQn

set_option maxRecDepth 100000
set_option maxHeartbeats 8000000
namespace Go.Proofs.YtkpeklealgicpabGreatDoor
open Go.RowKit
theorem Tryz.cells5:Tryz.prog.cellsOf 5=1:=by kernel_rfl
theorem ypB (B b:Nat) (l:List UInt8) (lt:List UInt8) (w:World) (h:IsPr B b (Lib.byteCells l) lt w) (h0:l≠[]) :
  Calls Tryz.prog 45 #[.pointer (some ⟨b,0,none⟩)] w fun e w'=>e=.returned (.string ⟨l.toArray⟩)∧Below B w w':=by
 obtain ⟨p,hB,v,hbk,hown,hne⟩:∃ p,PrAt B b p (Lib.byteCells l) lt w:=by
  rcases h with h|h
  ·exact ⟨_,h⟩
  ·exact ⟨_,h⟩
 have hl0:l.length≠0:=by simpa using h0
 rw [Lib.byteCells_length] at hown
 obtain ⟨g,cap,cur,rfl,hbg,hg,hnc,hcm,hcs,htake⟩:∃ g cap cur,v=.slice (some ⟨g,0,none⟩) l.length cap∧B≤g∧w.heap[g]?=some (.cells cur 5 (0,0))∧l.length≤cap∧cap≤maxLen∧cur.size=cap*1∧cur.toList.take (l.length*1)=Lib.byteCells l:=by
  rcases hown.2 with ⟨_,hz⟩|⟨g,cap,cur,hv,r⟩
  ·exact absurd hz hl0
  ·exact ⟨g,cap,cur,hv,r⟩
 have c1:w.drew.cell? ⟨b,1,none⟩=some (.slice (some ⟨g,0,none⟩) l.length cap):=by
  have:w.drew.heap[b]?=some (.cells #[p,.slice (some ⟨g,0,none⟩) l.length cap,.string ⟨lt.toArray⟩] 82 (0,0)):=hbk
  rw [Lib.cell_of_heap this];rfl
 have hSD:(Builtin.unsafeSliceData_ #[69] 116 #[.slice (some ⟨g,0,none⟩) l.length cap]).run Tryz.prog w.drew=.ok (.pointer (some ⟨g,0,none⟩)) w.drew :=
  Lib.run_unsafeSliceData_row _ _ _ _ _ _ (by omega)
 have hUS:(Builtin.unsafeString_ #[116,3] 9 #[.pointer (some ⟨g,0,none⟩),.int .i64 l.length]).run Tryz.prog w.drew=.ok (.string ⟨l.toArray⟩) (w.drew.freeze ⟨g,0,none⟩ l.length):=by
  refine Lib.run_unsafeString_row w.drew 116 3 9 5 Tryz.underlying116 Tryz.cells5 g cur.size (by have hg':w.drew.heap[g]?=some (.cells cur 5 (0,0)):=hg;simp [World.shape?,hg']) l h0 (by omega) (by unfold maxLen at hcm;omega) ?_
  intro j x hx
  have:=hown.cells (g:=g) rfl j (.int .u8 x.toNat) (by simp [Lib.byteCells,hx])
  exact this
 have mixed:=Tryz.lays169.mixed
 go_enter Tryz.func45,Tryz.ntmps45
 go_wp2
 go_region_o
 all_goals (go_wp2;go_ret;exact ⟨rfl,Lib.below_freeze (Below.drew (Below.refl B w)) (p:=⟨g,0,none⟩) hbg _⟩)
def yc6 (c:Cm):List UInt8:=if yeb (ybQ c) (yeJ c)=0 then yeu c else []
theorem ynF {c:Cm} (h:RightC c):yaP c≠[]:=by
 cases h <;> exact List.cons_ne_nil _ _
theorem ypz {c:Cm} (h:RightC c):yeu c≠[]:=by
 unfold yeu
 have h1:yaP c≠[]:=ynF h
 have h2:=yfM h
 cases e:yaP c with
 | nil=>exact absurd e h1
 | cons w ws =>
  have hw:okW w:=h2 w (by rw [e];simp)
  have:w≠[]:=by
   rintro rfl
   have:=hw ([],((yba []).1:Nat)) (by simp [ybS])
   exact (of_decide_eq_true this).1 rfl
  rw [yaz]
  simp [this]
theorem ymu {B:Nat} (hB:6≤B):ItoaOk B (fun w=>Laid w∧B≤w.heap.size) where
 keep:=fun h hb=>⟨h.1.keep hb.size fun k hk=>hb.block k (by omega),Nat.le_trans h.2 hb.size⟩
 itoa:=fun n W h h1 h2=>yoR n W (by omega) (by omega) h.1
theorem ykN {w:World} (c:Cm) (cv vv fv ea wa:Value) (E:Int) (hE:E≠0)
  (hchk:∀ W,Below w.heap.size w W→Calls Tryz.prog 12 #[.agg (cmL c cv vv fv ea wa).toArray] W fun e w'=>e=.returned (.int .i64 E)∧Below W.heap.size W w') :
  Calls Tryz.prog 17 #[.agg (cmL c cv vv fv ea wa).toArray] w fun e w'=>e=.returned (.tuple #[.string ⟨#[]⟩,.int .i64 E])∧Below w.heap.size w w':=by
 have b0:=(Below.refl w.heap.size w).alloc (Nat.le_refl _) (.cells (cmL c cv vv fv ea wa).toArray 31)
 have k0:(w.alloc (.cells (cmL c cv vv fv ea wa).toArray 31)).heap[w.heap.size]?=some (.cells (cmL c cv vv fv ea wa).toArray 31):=heap_alloc_new _ _
 have hl:(cmL c cv vv fv ea wa).length=26:=rfl
 generalize cmL c cv vv fv ea wa=cs at hchk b0 k0 hl ⊢
 have hsz:(Tryz.prog.info? 31).map (·.size)=some cs.length:=by rw [hl];exact Tryz.size31
 go_enter Tryz.func17,Tryz.ntmps17
 go_wp2_with (refine yaf 31 _ rfl rfl _ cs 31 _ rfl (by exact k0) Tryz.underlying31 rfl hsz ?_)
 refine (hchk _ b0).mono ?_
 rintro e w1 ⟨rfl,b1⟩
 go_wp2
 go_ret2
 exact ⟨rfl,b0.trans (b1.mono (by simp))⟩
theorem ykM {w:World} {Tb:World→Prop} (k:ItoaOk w.heap.size Tb) (ht:Tb w) {c:Cm} (hc:RightC c) (cv vv fv ea wa:Value) (hi:CmIn 0 w c cv vv fv ea wa)
  (hchk:∀ W,Below w.heap.size w W→Calls Tryz.prog 12 #[.agg (cmL c cv vv fv ea wa).toArray] W fun e w'=>e=.returned (.int .i64 0)∧Below W.heap.size W w') :
  Calls Tryz.prog 17 #[.agg (cmL c cv vv fv ea wa).toArray] w fun e w'=>e=.returned (.tuple #[.string ⟨(yeu c).toArray⟩,.int .i64 0])∧Below w.heap.size w w':=by
 have b0:=(Below.refl w.heap.size w).alloc (Nat.le_refl _) (.cells (cmL c cv vv fv ea wa).toArray 31)
 have k0:(w.alloc (.cells (cmL c cv vv fv ea wa).toArray 31)).heap[w.heap.size]?=some (.cells (cmL c cv vv fv ea wa).toArray 31):=heap_alloc_new _ _
 have hl:(cmL c cv vv fv ea wa).length=26:=rfl
 have HP:=yae (fun b W (hS:PSt w.heap.size b Tb w [] W)=>ypg k (Nat.le_refl _) hc cv vv fv ea wa hi W hS)
 have hne:=yae (ypz hc)
 have hsh:yeu c=yaz (yaP c):=rfl
 have HS:=yae hsh
 have K:=yae k
 clear hi hc k hsh
 generalize cmL c cv vv fv ea wa=cs at hchk b0 k0 hl HP ⊢
 generalize yeu c=S at hne HS ⊢
 generalize yaP c=ws at HS HP
 have hsz:(Tryz.prog.info? 31).map (·.size)=some cs.length:=by rw [hl];exact Tryz.size31
 go_enter Tryz.func17,Tryz.ntmps17
 go_wp2_with (refine yaf 31 _ rfl rfl _ cs 31 _ rfl (by exact k0) Tryz.underlying31 rfl hsz ?_)
 refine (hchk _ b0).mono ?_
 rintro e w1 ⟨rfl,b1⟩
 have q1:Below w.heap.size w w1:=b0.trans (b1.mono (by simp))
 have k1:=(b1.block w.heap.size (by simp)).trans k0
 have hlt:w.heap.size < w1.heap.size:=(ltS k1)
 have q2:=q1.alloc q1.size (.cells #[.pointer none,.slice none 0 0,.string ⟨#[]⟩] 82)
 have k2:(w1.alloc (.cells #[.pointer none,.slice none 0 0,.string ⟨#[]⟩] 82)).heap[w.heap.size]?=some (.cells cs.toArray 31):=(Below.heap_alloc _ _ _ hlt).trans k1
 have hpst:PSt w.heap.size w1.heap.size Tb w [] (w1.alloc (.cells #[.pointer none,.slice none 0 0,.string ⟨#[]⟩] 82)) :=
  ⟨⟨Or.inl ⟨Nat.le_of_lt hlt,_,heap_alloc_new _ _,World.ownsRow_nil _ _ _ _,by simp [Value.ownBlock]⟩,by simp⟩,q2,K.out.keep ht q2,q2.size⟩
 have HZ:=yae (HP.out w1.heap.size _ hpst)
 have KO:=yae k2
 clear hpst HP hchk k0 k1 b0 b1 hl
 go_wp2_with (first|(refine yaf 31 _ rfl rfl _ cs 31 _ rfl (by exact KO.out) Tryz.underlying31 rfl hsz ?_)|(go_at_call 46;refine HZ.out.mono ?_;rintro e w3 ⟨rfl,s3,o3⟩))
 have HQ:=yae (ypB w.heap.size w1.heap.size S _ w3 (by rw [HS.out];exact s3.pr.is) hne.out)
 go_wp2_with (go_at_call 45;refine HQ.out.mono ?_;rintro e w4 ⟨rfl,b4⟩)
 go_ret2
 exact ⟨rfl,s3.bel.trans b4⟩
theorem ygM {w:World} (c:Cm) (cv vv fv ea wa:Value) (hi:CmIn 0 w c cv vv fv ea wa) (hf:CmFit c) (hl:Laid w) :
  Calls Tryz.prog 17 #[.agg (cmL c cv vv fv ea wa).toArray] w fun e w'=>e=.returned (.tuple #[.string ⟨(yc6 c).toArray⟩,.int .i64 (yeb (ybQ c) (yeJ c))])∧Below w.heap.size w w':=by
 have hchk:∀ W,Below w.heap.size w W→Calls Tryz.prog 12 #[.agg (cmL c cv vv fv ea wa).toArray] W fun e w'=>e=.returned (.int .i64 (yeb (ybQ c) (yeJ c)))∧Below W.heap.size W w' :=
  fun W h=>ylj c cv vv fv ea wa (hi.keep h.size fun b _ hb=>h.block b hb) hf (hl.below h)
 by_cases h:yeb (ybQ c) (yeJ c)=0
 ·have h1:ybQ c=false∧yeJ c=true:=by
   unfold yeb at h
   cases hm:ybQ c <;> cases hr:yeJ c <;> simp [hm,hr] at h <;> simp
  have hs:yc6 c=yeu c:=if_pos h
  rw [hs,h]
  rw [h] at hchk
  exact ykM (ymu hl.sz) ⟨hl,Nat.le_refl _⟩ (ygH h1.2 h1.1) cv vv fv ea wa hi hchk
 ·have hs:yc6 c=[]:=if_neg h
  rw [hs]
  exact ykN c cv vv fv ea wa _ h hchk
theorem yrD {w:World} {base rb:Nat} {v:Value} {T:List Tk} {en:Int} {s:Sx} {cs:List Value} (h:Rd w base rb v T en s cs):(txS T s).length≤22:=by
 unfold txS
 split
 ·simp
 ·cases e:T[s.1]? with
  | none=>simp [tx,e]
  | some x=>have:=(h.toks x (List.mem_of_getElem? e)).short;simpa [tx,e] using this
theorem yda {T:List Tk} {i:Nat} {F:Bool} (h:txS T (i,F)≠[]):F=false∧txS T (i,F)=tx T i∧i+1≤T.length:=by
 cases F with
 | true=>exact absurd (by simp [txS]) h
 | false =>
  have e:txS T (i,false)=tx T i:=by simp [txS]
  rw [e] at h
  exact ⟨rfl,e,yny h⟩
theorem ymY {w:World} {base rb:Nat} {v:Value} {T:List Tk} {en:Int} {s:Sx} {cs:List Value} (h:Rd w base rb v T en s cs) :
  Calls Tryz.prog 63 #[.pointer (some ⟨rb,0,none⟩)] w fun e w'=>e=.returned (.string ⟨(yd5 T s).1.toArray⟩)∧Rd w' base rb v T en (yd5 T s).2 cs∧w.grownBy w' (some rb):=by
 obtain ⟨i,F⟩:=s
 have ht:=ybn h
 have hl:=yrD h
 have hn:=fun W=>yeq ⟨(txS T (i,F)).toArray⟩ W (by rw [yaN];omega)
 have e0:(⟨(txS T (i,F)).toArray⟩:ByteArray).data.toList=txS T (i,F):=by simp
 rw [e0] at hn
 unfold yd5
 have H:=yae h
 by_cases hN:yap (txS T (i,F))=true
 ·rw [if_pos hN]
  rw [hN] at hn
  obtain ⟨rfl,-,hm⟩:=yda (T:=T) (i:=i) (F:=F) (by intro e;rw [e,ypc] at hN;cases hN)
  have hle:(i:Int)≤2000:=by have:=h.le;have:=h.few;simp only at *;omega
  have HM:=yae hm
  generalize txS T (i,false)=t at *
  clear h hN hl hm e0
  go_enter Tryz.func63,Tryz.ntmps63
  go_wp2_with (first|(go_at_call 115;refine ht.mono ?_;rintro e w1 ⟨rfl,b1⟩;have R1:=yae (H.out.below b1))|(go_at_call 34;refine (hn _).mono ?_;rintro e w2 ⟨rfl,b2⟩;have R2:=yae (R1.out.below b2);obtain ⟨⟨c0,c1,c2,c3⟩,f1,f3⟩:=rd4 R2.out.blk))
  go_ret
  have R3:=R2.out.step (i+1) HM.out
  have e2:(((i+1:Nat):Nat):Int)=(i:Int)+1:=by omega
  rw [e2] at R3
  exact ⟨rfl,R3,yaa (yaa (yad b1 _) (yad b2 _)) (yaw _ rb 1 _)⟩
 ·rw [if_neg hN]
  have hN':yap (txS T (i,F))=false:=by simpa using hN
  rw [hN'] at hn
  generalize txS T (i,F)=t at *
  clear h hN hN' hl e0
  go_enter Tryz.func63,Tryz.ntmps63
  go_wp2_with (first|(go_at_call 115;refine ht.mono ?_;rintro e w1 ⟨rfl,b1⟩;have R1:=yae (H.out.below b1))|(go_at_call 34;refine (hn _).mono ?_;rintro e w2 ⟨rfl,b2⟩;have R2:=yae (R1.out.below b2);obtain ⟨⟨c0,c1,c2,c3⟩,f1,f3⟩:=rd4 R2.out.blk))
  go_ret
  exact ⟨rfl,R2.out.fail,yaa (yaa (yad b1 _) (yad b2 _)) (yaw _ rb 3 _)⟩
theorem yln (l:List UInt8) (c:UInt8):yfO (l++[c])=10*yfO l+(c.toNat - 48):=by
 unfold yfO;rw [List.foldl_append];rfl
theorem ygI {w:World} {base rb:Nat} {v:Value} {T:List Tk} {en:Int} {s:Sx} {cs:List Value} (h:Rd w base rb v T en s cs) :
  Calls Tryz.prog 119 #[.pointer (some ⟨rb,0,none⟩)] w fun e w'=>e=.returned (.int .i64 ((ybp T s).1:Nat))∧Rd w' base rb v T en (ybp T s).2 cs∧w.grownBy w' (some rb):=by
 obtain ⟨i,F⟩:=s
 have ht:=ybn h
 have H:=yae h
 unfold ybp
 by_cases hD:yde isD (txS T (i,F))=true
 ·rw [if_pos hD]
  obtain ⟨rfl,ex,hm⟩:=yda (T:=T) (i:=i) (F:=F) (by intro e;rw [e] at hD;cases hD)
  rw [ex] at hD ht ⊢
  have hle:(i:Int)≤2000:=by have:=h.le;have:=h.few;simp only at *;omega
  obtain ⟨x,hx,e1,e2⟩:=yrE (T:=T) (i:=i) (by intro e;rw [e] at hD;cases hD)
  have hk:x.k=2:=(h.ist x (List.mem_of_getElem? hx)).num.2 (by rw [← e1];exact hD)
  obtain ⟨n1,n2,n3⟩:=(h.toks x (List.mem_of_getElem? hx)).num hk
  rw [← e1] at n1 n2 n3
  generalize hq:tx T i=t at *
  have hd0:isD (t[0]'(List.length_pos_iff.2 n1))=true:=n3 _ (List.getElem_mem _)
  obtain ⟨S,hS⟩:∃ S:ByteArray,S=⟨t.toArray⟩:=⟨_,rfl⟩
  have hz:S.size=t.length:=by rw [hS,yaN]
  have hat:∀ j (hj:j < S.size) (hj':j < t.length),S[j]=t[j]:=by intro j hj hj';subst hS;rfl
  rw [← hS] at ht
  have hpos:0 < S.size:=by rw [hz];exact List.length_pos_iff.2 n1
  have hemp:S.toList.isEmpty=false:=by rw [Lib.toList_data,hS];cases t with|nil=>exact absurd rfl n1|cons _ _=>rfl
  have hdig:=fun W=>ycr (c:=S[0]) (b:=true) (by rw [hat 0 hpos (by omega)];exact hd0) W
  have HM:=yae hm
  have HT:=yae n3
  have HAT:=yae hat
  have h9:S.size≤9:=by omega
  have HZ:=yae hz
  clear h hD hm hx e1 e2 hk n1 n3 hat hd0 ex hS hz
  go_enter Tryz.func119,Tryz.ntmps119
  go_wp2_with (first|(go_at_call 115;refine ht.mono ?_;rintro e w1 ⟨rfl,b1⟩;have R1:=yae (H.out.below b1))|(go_at_call 114;refine (hdig _).mono ?_;rintro e w' ⟨rfl,hw'⟩;obtain rfl:=hw'.symm;clear hw'))
  go_loopw [4,5] (fun n k wl=>∃ (a:Nat) (m:Nat),a≤S.size∧k=.int .i64 a∧n=.int .i64 m∧Hid (m=yfO (t.take a))∧wl=w1) (fun _ k _=>S.size - (intOf k).toNat)
  case atStart=>exact ⟨0,0,Nat.zero_le _,rfl,rfl,by show 0=yfO [];rfl,rfl⟩
  case round =>
   obtain ⟨a,m,ha,rfl,rfl,HA,rfl⟩:=hrel
   have hml:m < 10 ^ 9:=by
    rw [HA.out]
    refine Nat.lt_of_lt_of_le (yh7 _ fun c hc=>HT.out c (List.mem_of_mem_take hc)) (Nat.pow_le_pow_right (by decide) ?_)
    rw [List.length_take];omega
   have hml':(m:Int)≤999999999:=by omega
   by_cases hlt:a < S.size
   ·have hc:=HT.out (t[a]'(by have:=HZ.out;omega)) (List.getElem_mem _)
    rw [← HAT.out a hlt (by have:=HZ.out;omega)] at hc
    simp only [isD,Bool.and_eq_true,decide_eq_true_eq] at hc
    obtain ⟨hc1,hc2⟩:=hc
    have HE:Hid (yfO (t.take (a+1))=10*m+(S[a].toNat - 48)):=by
     show yfO (t.take (a+1))=_
     rw [List.take_succ_eq_append_getElem (by have:=HZ.out;omega),yln,← HA.out,← HAT.out a hlt (by have:=HZ.out;omega)]
    go_wp2
    go_roundw
    case rel=>exact ⟨a+1,10*m+(S[a].toNat - 48),by omega,by go_num,by go_num,HE.out.symm,trivial⟩
    case measure=>simp [intOf];omega
   ·have e3:yfO t=m:=by rw [HA.out,List.take_of_length_le (by have:=HZ.out;omega)]
    have E3:=yae e3
    obtain ⟨⟨c0,c1,c2,c3⟩,f1,f3⟩:=rd4 R1.out.blk
    clear e3 HA HT HAT
    go_wp2
    go_ret
    have R3:=R1.out.step (i+1) HM.out
    have e2:(((i+1:Nat):Nat):Int)=(i:Int)+1:=by omega
    rw [e2] at R3
    exact ⟨by rw [E3.out];rfl,R3,yaa (yad b1 _) (yaw _ rb 1 _)⟩
 ·rw [if_neg hD]
  cases hq:txS T (i,F) with
  | nil =>
   rw [hq] at ht
   clear h hD
   go_enter Tryz.func119,Tryz.ntmps119
   go_wp2_with (first|(go_at_call 115;refine ht.mono ?_;rintro e w1 ⟨rfl,b1⟩;have R1:=yae (H.out.below b1);obtain ⟨⟨c0,c1,c2,c3⟩,f1,f3⟩:=rd4 R1.out.blk))
   go_ret
   exact ⟨rfl,R1.out.fail,yaa (yad b1 _) (yaw _ rb 3 _)⟩
  | cons c r =>
   rw [hq] at ht hD
   have hc:isD c=false:=by simpa [yde] using hD
   have hdig:=fun W=>ycr hc W
   have hpos:0 < (⟨(c::r).toArray⟩:ByteArray).size:=by rw [yaN];simp
   have h0:(⟨(c::r).toArray⟩:ByteArray)[0]=c:=rfl
   have hemp:(⟨(c::r).toArray⟩:ByteArray).toList.isEmpty=false:=by rw [Lib.toList_data];rfl
   rw [← h0] at hdig
   generalize (⟨(c::r).toArray⟩:ByteArray)=S at *
   clear h hD hc h0 hq
   go_enter Tryz.func119,Tryz.ntmps119
   go_wp2_with (first|(go_at_call 115;refine ht.mono ?_;rintro e w1 ⟨rfl,b1⟩;have R1:=yae (H.out.below b1);obtain ⟨⟨c0,c1,c2,c3⟩,f1,f3⟩:=rd4 R1.out.blk)|(go_at_call 114;refine (hdig _).mono ?_;rintro e w' ⟨rfl,hw'⟩;obtain rfl:=hw'.symm;clear hw'))
   go_ret
   exact ⟨rfl,R1.out.fail,yaa (yad b1 _) (yaw _ rb 3 _)⟩
def ybZ (s:List UInt8):Int×Int×Cm :=
 if (yaH s).2.2=0 then
  match ycc (yaH s).1 with
  | .bad j=>(1,pl (yaH s).1 (s.length:Nat) j,cm0)
  | .ok c _=>if yeb (ybQ c) (yc2 c)=0 then (0,0,c) else (yeb (ybQ c) (yc2 c),0,cm0)
 else (((yaH s).2.2:Nat),((yaH s).2.1:Nat),cm0)
theorem ylm (B:Nat) (w:World):ypL B w (.agg cmZ.toArray) cm0:=⟨_,_,_,_,_,rfl,yb6 B w cm0 rfl rfl rfl rfl rfl⟩
theorem yhp (s:List UInt8) (w:World) (hs:s.length≤9223372036854775000) (hl:Laid w) :
  Calls Tryz.prog 8 #[.string ⟨s.toArray⟩] w fun e w'=>(∃ u,e=.returned (.tuple #[u,.int .i64 (ybZ s).2.1,.int .i64 (ybZ s).1])∧ypL w.heap.size w' u (ybZ s).2.2)∧Below w.heap.size w w':=by
 unfold ybZ
 by_cases hE:(yaH s).2.2=0
 ·rw [if_pos hE]
  cases hw:ycc (yaH s).1 with
  | bad j =>
   refine (yk3 s j hs hl hE hw).mono ?_
   rintro e w' ⟨rfl,hb⟩
   exact ⟨⟨_,rfl,ylm _ _⟩,hb⟩
  | ok c j =>
   simp only
   by_cases hq:yeb (ybQ c) (yc2 c)=0
   ·rw [if_pos hq]
    refine (yhX s c j hs hl hE hw hq).mono ?_
    rintro e w' ⟨⟨u,rfl,hu⟩,hb⟩
    exact ⟨⟨u,rfl,hu⟩,hb⟩
   ·rw [if_neg hq]
    refine (yhY s c j _ hs hl hE hw rfl hq).mono ?_
    rintro e w' ⟨rfl,hb⟩
    exact ⟨⟨_,rfl,ylm _ _⟩,hb⟩
 ·rw [if_neg hE]
  refine (yjy s _ _ hs rfl rfl hE).mono ?_
  rintro e w' ⟨rfl,hb⟩
  exact ⟨⟨_,rfl,ylm _ _⟩,hb⟩
theorem yge (s:List UInt8):CmFit (ybZ s).2.2:=by
 unfold ybZ
 split
 ·split
  ·exact yg8
  ·rename_i c j hw
   split
   ·exact yd6 hw
   ·exact yg8
 ·exact yg8
theorem yho (s:List UInt8) (h:(ybZ s).1=0):yeb (ybQ (ybZ s).2.2) (yc2 (ybZ s).2.2)=0:=by
 unfold ybZ at h ⊢
 split at h
 ·rename_i hE
  rw [if_pos hE]
  split at h
  ·cases h
  ·rename_i c j hw
   split at h
   ·rename_i hq
    rw [if_pos hq];exact hq
   ·exact absurd h (by assumption)
 ·simp only at h;omega
theorem yiA (s:List UInt8) (h:(ybZ s).1≠0):(ybZ s).2.2=cm0:=by
 unfold ybZ at h ⊢
 split at h
 ·rename_i hE
  rw [if_pos hE]
  split at h
  ·rename_i j hw;rfl
  ·rename_i c j hw
   split at h
   ·exact absurd rfl h
   ·rename_i hq
    rw [if_neg hq]
 ·rename_i hE;rw [if_neg hE]
theorem yaU {w2 w4 w6:World} {cb:Nat} {xs:List Value} (hc:Hid (cb=w2.heap.size)) (b4:Below w2.heap.size w2 w4) (p6:Hid (w6=putAll w4 cb 0 xs)):Below w2.heap.size w2 w6:=by
 have h:=hc.out
 have p:=p6.out
 subst p
 exact b4.trans ⟨(yaj cb _ w4 0).1,(yaj cb _ w4 0).2.1,(yaj cb _ w4 0).2.2,Nat.le_of_eq (yaQ cb _ w4 0).symm,fun k hk=>yag cb _ w4 0 k (by omega)⟩
section
variable {P:Program} {ops:Array Oper} {rest:List Oper} {op:Oper} {a:Act} {w:World} {Q:Exit→Act→World→Prop}
theorem yam (ty:TypeId) (x:Operand) (hw:Region.wanted op (yielded ops a.tmps)=true) (ho:op.op=.load ty x) (b:Nat) (cs:List Value) (t:TypeId) (d:TypeDesc)
  (hx:a.eval x=.pointer (some ⟨b,0,none⟩)) (hb:w.heap[b]?=some (.cells cs.toArray t)) (hu:P.underlying ty=some d) (hd:d.isRow=true) (hi:(P.info? ty).map (·.size)=some cs.length)
  (h:wpList P ops Q rest (a.put op.dst (.agg cs.toArray)) w):wpList P ops Q (op::rest) a w:=by
 refine wpList_step fun K hK=>?_
 rw [if_pos hw]
 exact wp_load_mid ty x ho b 0 hx cs d (fun j v hv=>by rw [Nat.zero_add,Lib.cell_of_heap hb];simpa using hv) hu hd hi (hK _ _ h)
end
def smallL:List UInt8:=[117,112,100,97,116,101,32,116,32,115,101,116,32,97,32,61,32,40,97,32,43,32,49,41,32,119,104,101,114,101,32,40,98,32,61,32,39,120,39,41,32]
def smallC:Cm:={ cm0 with kind:=12,name:=[116],column:=[97],expr:=.mk 7 vl0 [] [.mk 2 vl0 [97] [],.mk 1 ⟨1,1,[]⟩ [] []],wh:=.mk 11 vl0 [] [.mk 2 vl0 [98] [],.mk 1 ⟨2,0,[120]⟩ [] []] }
theorem yfE:ybZ smallL=(0,0,smallC):=by kernel_rfl
theorem yew:CmFit smallC:=by have:=yge smallL;rw [yfE] at this;exact this
theorem yiZ:yeb (ybQ smallC) (yc2 smallC)=0:=by kernel_rfl
theorem ypI:(#[.int .i64 0,.int .i64 0,.string ⟨#[]⟩]:Array Value)=([.int .i64 0,.int .i64 0,.string ⟨#[]⟩]:List Value).toArray:=rfl
theorem Tryz.alloc24 (w:World):(Instr.alloc 24 true (.tuple #[])).run Tryz.prog w=.ok (.pointer (some ⟨w.heap.size,0,none⟩)) (w.alloc (.cells ([.int .i64 0,.int .i64 0,.string ⟨#[]⟩]:List Value).toArray 24)):=by
 rw [← ypI]
 simp [Instr.alloc,Tryz.zeroValue24,go_sem]
theorem ycG {w:World} {base rb:Nat} {v:Value} {T:List Tk} {en:Int} {s:Sx} {cs:List Value} (h:Rd w base rb v T en s cs) :
  Calls Tryz.prog 117 #[.pointer (some ⟨rb,0,none⟩)] w fun e w'=>e=.returned (.bool (yfn (txS T s)))∧Below w.heap.size w w':=by
 have ht:=ybn h
 generalize txS T s=t at *
 clear h
 unfold yfn
 by_cases h1:t=yb9
 ·subst h1
  go_enter Tryz.func117,Tryz.ntmps117
  go_wp2_with (go_at_call 115;refine ht.mono ?_;rintro e w1 ⟨rfl,b1⟩)
  go_ret
  exact ⟨rfl,b1⟩
 by_cases h2:t=ybH
 ·subst h2
  go_enter Tryz.func117,Tryz.ntmps117
  go_wp2_with (go_at_call 115;refine ht.mono ?_;rintro e w1 ⟨rfl,b1⟩)
  go_ret
  exact ⟨rfl,b1⟩
 by_cases h3:t=w_null
 ·subst h3
  go_enter Tryz.func117,Tryz.ntmps117
  go_wp2_with (go_at_call 115;refine ht.mono ?_;rintro e w1 ⟨rfl,b1⟩)
  go_ret
  exact ⟨rfl,b1⟩
 by_cases h4:t=[45]
 ·subst h4
  go_enter Tryz.func117,Tryz.ntmps117
  go_wp2_with (go_at_call 115;refine ht.mono ?_;rintro e w1 ⟨rfl,b1⟩)
  go_ret
  exact ⟨rfl,b1⟩
 rw [decide_eq_false h1,decide_eq_false h2,decide_eq_false h3,decide_eq_false h4]
 simp only [Bool.false_or]
 have q1:(t == [116,114,117,101])=false:=by simpa using h1
 have q2:(t == [102,97,108,115,101])=false:=by simpa using h2
 have q3:(t == [110,117,108,108])=false:=by simpa using h3
 have q4:(t == [45])=false:=by simpa using h4
 clear h1 h2 h3 h4
 cases t with
 | nil =>
  go_enter Tryz.func117,Tryz.ntmps117
  go_wp2_with (go_at_call 115;refine ht.mono ?_;rintro e w1 ⟨rfl,b1⟩)
  go_ret
  exact ⟨rfl,b1⟩
 | cons c r =>
  have hpos:0 < (⟨(c::r).toArray⟩:ByteArray).size:=by rw [yaN];simp
  have h0:(⟨(c::r).toArray⟩:ByteArray)[0]=c:=rfl
  have hl:(⟨(c::r).toArray⟩:ByteArray).toList=c::r:=by rw [Lib.toList_data]
  have hemp:(⟨(c::r).toArray⟩:ByteArray).toList.isEmpty=false:=by rw [hl];rfl
  have hd:=fun W=>yjo c W
  have hq:=yfH c
  rw [← h0] at hd hq
  have hh:yde (fun c=>isD c || decide (c=39)) (c::r)=(isD c || decide (c=39)):=rfl
  rw [hh]
  rw [← hl] at q1 q2 q3 q4
  rw [← h0]
  generalize (⟨(c::r).toArray⟩:ByteArray)=S at *
  clear h0 hl hh
  cases hD:isD S[0] with
  | true =>
   rw [hD] at hd
   go_enter Tryz.func117,Tryz.ntmps117
   go_wp2_with (first|(go_at_call 115;refine ht.mono ?_;rintro e w1 ⟨rfl,b1⟩)|(go_at_call 114;refine (hd _).mono ?_;rintro e w' ⟨rfl,hw'⟩;obtain rfl:=hw'.symm;clear hw'))
   go_ret
   exact ⟨rfl,b1⟩
  | false =>
   rw [hD] at hd
   cases hC:decide (S[0]=39) with
   | true =>
    rw [hC] at hq
    go_enter Tryz.func117,Tryz.ntmps117
    go_wp2_with (first|(go_at_call 115;refine ht.mono ?_;rintro e w1 ⟨rfl,b1⟩)|(go_at_call 114;refine (hd _).mono ?_;rintro e w' ⟨rfl,hw'⟩;obtain rfl:=hw'.symm;clear hw'))
    go_ret
    exact ⟨rfl,b1⟩
   | false =>
    rw [hC] at hq
    go_enter Tryz.func117,Tryz.ntmps117
    go_wp2_with (first|(go_at_call 115;refine ht.mono ?_;rintro e w1 ⟨rfl,b1⟩)|(go_at_call 114;refine (hd _).mono ?_;rintro e w' ⟨rfl,hw'⟩;obtain rfl:=hw'.symm;clear hw'))
    go_ret
    exact ⟨rfl,b1⟩
theorem yhM (b:Bool) (w:World):Calls Tryz.prog 118 #[.bool b] w fun e w'=>e=.returned (.agg #[.int .i64 3,.int .i64 (if b=true then 1 else 0),.string ⟨#[]⟩])∧Below w.heap.size w w':=by
 cases b with
 | true =>
  go_enter Tryz.func118,Tryz.ntmps118
  go_wp2
  exact bodyPost_ret (v:=.agg #[.int .i64 3,.int .i64 1,.string ⟨#[]⟩]) (by simp [results,Tryz.results118,go_sem]) rfl ⟨rfl,(Below.refl _ _).alloc (Nat.le_refl _) _⟩
 | false =>
  go_enter Tryz.func118,Tryz.ntmps118
  go_wp2
  exact bodyPost_ret (v:=.agg #[.int .i64 3,.int .i64 0,.string ⟨#[]⟩]) (by simp [results,Tryz.results118,go_sem]) rfl ⟨rfl,(Below.refl _ _).alloc (Nat.le_refl _) _⟩
theorem Rd.putNew {w w':World} {base rb b:Nat} {v:Value} {T:List Tk} {en:Int} {s:Sx} {cs xs:List Value} {o:Nat} (p:Hid (w'=putAll w b o xs)) (h:Rd w base rb v T en s cs) (hb:rb < b):Rd w' base rb v T en s cs:=by
 rw [p.out]
 exact ⟨(yag b xs w o rb (by omega)).trans h.blk,h.own.kept (ybN b xs w o) (.inr (fun e=>by have:=h.lt b e;omega)),h.lt,h.le,h.few,h.toks,h.ist⟩
theorem ybu {w w1 w':World} {rb b o:Nat} {xs:List Value} (p:Hid (w'=putAll w1 b o xs)) (g:w.grownBy w1 (some rb)) (hb:w.heap.size≤b):w.grownBy w' (some rb):=by
 rw [p.out];exact yak g hb o xs
theorem ypt {w:World} {base rb:Nat} {v:Value} {T:List Tk} {en:Int} {i:Nat} {F:Bool} {cs:List Value} (h:Rd w base rb v T en (i,F) cs) (hV:yfn (txS T (i,F))=false) :
  Calls Tryz.prog 65 #[.pointer (some ⟨rb,0,none⟩)] w fun e w'=>e=.returned (.agg ([.int .i64 0,.int .i64 0,.string ⟨#[]⟩]:List Value).toArray)∧Rd w' base rb v T en (i,true) cs∧w.grownBy w' (some rb):=by
 have H:=yae h
 have hlt:=h.rb_lt
 have hle:(i:Int)≤2000:=by have:=h.le;have:=h.few;simp only at *;omega
 have hx:∀ W,Rd W base rb v T en (i,F) cs→Calls Tryz.prog 115 #[.pointer (some ⟨rb,0,none⟩)] W fun e w'=>e=.returned (.string ⟨(txS T (i,F)).toArray⟩)∧Below W.heap.size W w':=fun W hh=>ybn hh
 have hv:∀ W,Rd W base rb v T en (i,F) cs→Calls Tryz.prog 117 #[.pointer (some ⟨rb,0,none⟩)] W fun e w'=>e=.returned (.bool false)∧Below W.heap.size W w':=fun W hh=>by have:=ycG hh;rw [hV] at this;exact this
 generalize txS T (i,F)=t at *
 clear hV
 clear h
 go_enter Tryz.func65,Tryz.ntmps65
 go_wp2_with (first|(refine yac 2 24 [.int .i64 0,.int .i64 0,.string ⟨#[]⟩] rfl rfl rfl Tryz.alloc24 ?_;intro W0 vb hvb k0 b0;have R0:=yae (H.out.below b0))|(go_at_call 115;refine (hx _ R0.out).mono ?_;rintro e w1 ⟨rfl,b1⟩;have R1:=yae (R0.out.below b1);have k1:=(b1.block vb (ltS k0)).trans k0)|(go_at_call 117;refine (hv _ R1.out).mono ?_;rintro e w2 ⟨rfl,b2⟩;have R2:=yae (R1.out.below b2);have k2:=(b2.block vb (ltS k1)).trans k1;obtain ⟨⟨c0,c1,c2,c3⟩,f1,f3⟩:=rd4 R2.out.blk;have hne:vb≠rb:=(by have:=hvb.out;omega))|(refine yab 24 _ _ rfl rfl vb [.int .i64 0,.int .i64 0,.string ⟨#[]⟩] [.int .i64 0,.int .i64 0,.string ⟨#[]⟩] 24 rfl rfl (by first|exact k2|exact (heap_setCell_other _ _ vb _ hne).trans k2) rfl Tryz.size24 (by intro z hz;simp only [List.mem_cons,List.not_mem_nil,or_false] at hz;rcases hz with rfl|rfl|rfl <;> rfl) ?_;intro w6 k6 p6))
 exact bodyPost_ret (yah Tryz.results65 _ _ vb _ 24 _ rfl k6 Tryz.underlying24 rfl Tryz.size24) rfl ⟨rfl,Rd.putNew p6 R2.out.fail (by have:=hvb.out;omega),ybu p6 (yaa (yad b0 _) (yaa (yad b1 _) (yaa (yad b2 _) (yaw _ rb 3 _)))) (by have:=hvb.out;omega)⟩
theorem yna {w:World} {base rb:Nat} {v:Value} {T:List Tk} {en:Int} {i:Nat} {F:Bool} {cs:List Value} (h:Rd w base rb v T en (i,F) cs) (ht:txS T (i,F)=yb9) (hm:i+1≤T.length) :
  Calls Tryz.prog 65 #[.pointer (some ⟨rb,0,none⟩)] w fun e w'=>e=.returned (.agg ([.int .i64 3,.int .i64 1,.string ⟨#[]⟩]:List Value).toArray)∧Rd w' base rb v T en (i+1,F) cs∧w.grownBy w' (some rb):=by
 have H:=yae h
 have hlt:=h.rb_lt
 have hle:(i:Int)≤2000:=by have:=h.le;have:=h.few;simp only at *;omega
 have hx:∀ W,Rd W base rb v T en (i,F) cs→Calls Tryz.prog 115 #[.pointer (some ⟨rb,0,none⟩)] W fun e w'=>e=.returned (.string ⟨#[116,114,117,101]⟩)∧Below W.heap.size W w':=fun W hh=>by have:=ybn hh;rw [ht] at this;exact this
 have hV:yfn (txS T (i,F))=true:=by rw [ht];decide
 have hv:∀ W,Rd W base rb v T en (i,F) cs→Calls Tryz.prog 117 #[.pointer (some ⟨rb,0,none⟩)] W fun e w'=>e=.returned (.bool true)∧Below W.heap.size W w':=fun W hh=>by have:=ycG hh;rw [hV] at this;exact this
 clear hV ht
 clear h
 go_enter Tryz.func65,Tryz.ntmps65
 go_wp2_with (first|(refine yac 2 24 [.int .i64 0,.int .i64 0,.string ⟨#[]⟩] rfl rfl rfl Tryz.alloc24 ?_;intro W0 vb hvb k0 b0;have R0:=yae (H.out.below b0))|(go_at_call 115;refine (hx _ R0.out).mono ?_;rintro e w1 ⟨rfl,b1⟩;have R1:=yae (R0.out.below b1);have k1:=(b1.block vb (ltS k0)).trans k0)|(go_at_call 117;refine (hv _ R1.out).mono ?_;rintro e w2 ⟨rfl,b2⟩;have R2:=yae (R1.out.below b2);have k2:=(b2.block vb (ltS k1)).trans k1;obtain ⟨⟨c0,c1,c2,c3⟩,f1,f3⟩:=rd4 R2.out.blk;have hne:vb≠rb:=(by have:=hvb.out;omega))|(go_at_call 118;refine (yhM _ _).mono ?_;rintro e w5 ⟨rfl,b5⟩;have k5:=(b5.block vb (by have:=(ltS k2);simpa [World.setCell] using this)).trans ((heap_setCell_other _ _ vb _ hne).trans k2))|(refine yab 24 _ _ rfl rfl vb [.int .i64 0,.int .i64 0,.string ⟨#[]⟩] [.int .i64 3,.int .i64 1,.string ⟨#[]⟩] 24 rfl rfl (by exact k5) rfl Tryz.size24 (by intro z hz;simp only [List.mem_cons,List.not_mem_nil,or_false] at hz;rcases hz with rfl|rfl|rfl <;> rfl) ?_;intro w6 k6 p6))
 exact bodyPost_ret (yah Tryz.results65 _ _ vb _ 24 _ rfl k6 Tryz.underlying24 rfl Tryz.size24) rfl ⟨rfl,Rd.putNew p6 (Rd.below (by have:=R2.out.step (i+1) hm;have e2:(((i+1:Nat):Nat):Int)=(i:Int)+1:=(by omega);rw [e2] at this;exact this) b5) (by have:=hvb.out;omega),ybu p6 (yaa (yad b0 _) (yaa (yad b1 _) (yaa (yad b2 _) (yaa (yaw _ rb 1 _) (yad b5 _))))) (by have:=hvb.out;omega)⟩
theorem ykD {w:World} {base rb:Nat} {v:Value} {T:List Tk} {en:Int} {i:Nat} {F:Bool} {cs:List Value} (h:Rd w base rb v T en (i,F) cs) (ht:txS T (i,F)=ybH) (hm:i+1≤T.length) :
  Calls Tryz.prog 65 #[.pointer (some ⟨rb,0,none⟩)] w fun e w'=>e=.returned (.agg ([.int .i64 3,.int .i64 0,.string ⟨#[]⟩]:List Value).toArray)∧Rd w' base rb v T en (i+1,F) cs∧w.grownBy w' (some rb):=by
 have H:=yae h
 have hlt:=h.rb_lt
 have hle:(i:Int)≤2000:=by have:=h.le;have:=h.few;simp only at *;omega
 have hx:∀ W,Rd W base rb v T en (i,F) cs→Calls Tryz.prog 115 #[.pointer (some ⟨rb,0,none⟩)] W fun e w'=>e=.returned (.string ⟨#[102,97,108,115,101]⟩)∧Below W.heap.size W w':=fun W hh=>by have:=ybn hh;rw [ht] at this;exact this
 have hV:yfn (txS T (i,F))=true:=by rw [ht];decide
 have hv:∀ W,Rd W base rb v T en (i,F) cs→Calls Tryz.prog 117 #[.pointer (some ⟨rb,0,none⟩)] W fun e w'=>e=.returned (.bool true)∧Below W.heap.size W w':=fun W hh=>by have:=ycG hh;rw [hV] at this;exact this
 clear hV ht
 clear h
 go_enter Tryz.func65,Tryz.ntmps65
 go_wp2_with (first|(refine yac 2 24 [.int .i64 0,.int .i64 0,.string ⟨#[]⟩] rfl rfl rfl Tryz.alloc24 ?_;intro W0 vb hvb k0 b0;have R0:=yae (H.out.below b0))|(go_at_call 115;refine (hx _ R0.out).mono ?_;rintro e w1 ⟨rfl,b1⟩;have R1:=yae (R0.out.below b1);have k1:=(b1.block vb (ltS k0)).trans k0)|(go_at_call 117;refine (hv _ R1.out).mono ?_;rintro e w2 ⟨rfl,b2⟩;have R2:=yae (R1.out.below b2);have k2:=(b2.block vb (ltS k1)).trans k1;obtain ⟨⟨c0,c1,c2,c3⟩,f1,f3⟩:=rd4 R2.out.blk;have hne:vb≠rb:=(by have:=hvb.out;omega))|(go_at_call 118;refine (yhM _ _).mono ?_;rintro e w5 ⟨rfl,b5⟩;have k5:=(b5.block vb (by have:=(ltS k2);simpa [World.setCell] using this)).trans ((heap_setCell_other _ _ vb _ hne).trans k2))|(refine yab 24 _ _ rfl rfl vb [.int .i64 0,.int .i64 0,.string ⟨#[]⟩] [.int .i64 3,.int .i64 0,.string ⟨#[]⟩] 24 rfl rfl (by exact k5) rfl Tryz.size24 (by intro z hz;simp only [List.mem_cons,List.not_mem_nil,or_false] at hz;rcases hz with rfl|rfl|rfl <;> rfl) ?_;intro w6 k6 p6))
 exact bodyPost_ret (yah Tryz.results65 _ _ vb _ 24 _ rfl k6 Tryz.underlying24 rfl Tryz.size24) rfl ⟨rfl,Rd.putNew p6 (Rd.below (by have:=R2.out.step (i+1) hm;have e2:(((i+1:Nat):Nat):Int)=(i:Int)+1:=(by omega);rw [e2] at this;exact this) b5) (by have:=hvb.out;omega),ybu p6 (yaa (yad b0 _) (yaa (yad b1 _) (yaa (yad b2 _) (yaa (yaw _ rb 1 _) (yad b5 _))))) (by have:=hvb.out;omega)⟩
theorem ym9 {w:World} {base rb:Nat} {v:Value} {T:List Tk} {en:Int} {i:Nat} {F:Bool} {cs:List Value} (h:Rd w base rb v T en (i,F) cs) (ht:txS T (i,F)=w_null) (hm:i+1≤T.length) :
  Calls Tryz.prog 65 #[.pointer (some ⟨rb,0,none⟩)] w fun e w'=>e=.returned (.agg ([.int .i64 0,.int .i64 0,.string ⟨#[]⟩]:List Value).toArray)∧Rd w' base rb v T en (i+1,F) cs∧w.grownBy w' (some rb):=by
 have H:=yae h
 have hlt:=h.rb_lt
 have hle:(i:Int)≤2000:=by have:=h.le;have:=h.few;simp only at *;omega
 have hx:∀ W,Rd W base rb v T en (i,F) cs→Calls Tryz.prog 115 #[.pointer (some ⟨rb,0,none⟩)] W fun e w'=>e=.returned (.string ⟨#[110,117,108,108]⟩)∧Below W.heap.size W w':=fun W hh=>by have:=ybn hh;rw [ht] at this;exact this
 have hV:yfn (txS T (i,F))=true:=by rw [ht];decide
 have hv:∀ W,Rd W base rb v T en (i,F) cs→Calls Tryz.prog 117 #[.pointer (some ⟨rb,0,none⟩)] W fun e w'=>e=.returned (.bool true)∧Below W.heap.size W w':=fun W hh=>by have:=ycG hh;rw [hV] at this;exact this
 clear hV ht
 clear h
 go_enter Tryz.func65,Tryz.ntmps65
 go_wp2_with (first|(refine yac 2 24 [.int .i64 0,.int .i64 0,.string ⟨#[]⟩] rfl rfl rfl Tryz.alloc24 ?_;intro W0 vb hvb k0 b0;have R0:=yae (H.out.below b0))|(go_at_call 115;refine (hx _ R0.out).mono ?_;rintro e w1 ⟨rfl,b1⟩;have R1:=yae (R0.out.below b1);have k1:=(b1.block vb (ltS k0)).trans k0)|(go_at_call 117;refine (hv _ R1.out).mono ?_;rintro e w2 ⟨rfl,b2⟩;have R2:=yae (R1.out.below b2);have k2:=(b2.block vb (ltS k1)).trans k1;obtain ⟨⟨c0,c1,c2,c3⟩,f1,f3⟩:=rd4 R2.out.blk;have hne:vb≠rb:=(by have:=hvb.out;omega))|(refine yab 24 _ _ rfl rfl vb [.int .i64 0,.int .i64 0,.string ⟨#[]⟩] [.int .i64 0,.int .i64 0,.string ⟨#[]⟩] 24 rfl rfl (by first|exact k2|exact (heap_setCell_other _ _ vb _ hne).trans k2) rfl Tryz.size24 (by intro z hz;simp only [List.mem_cons,List.not_mem_nil,or_false] at hz;rcases hz with rfl|rfl|rfl <;> rfl) ?_;intro w6 k6 p6))
 exact bodyPost_ret (yah Tryz.results65 _ _ vb _ 24 _ rfl k6 Tryz.underlying24 rfl Tryz.size24) rfl ⟨rfl,Rd.putNew p6 (by have:=R2.out.step (i+1) hm;have e2:(((i+1:Nat):Nat):Int)=(i:Int)+1:=(by omega);rw [e2] at this;exact this) (by have:=hvb.out;omega),ybu p6 (yaa (yad b0 _) (yaa (yad b1 _) (yaa (yad b2 _) (yaw _ rb 1 _)))) (by have:=hvb.out;omega)⟩
theorem ykE {w:World} {base rb:Nat} {v:Value} {T:List Tk} {en:Int} {i:Nat} {F:Bool} {cs:List Value} (h:Rd w base rb v T en (i,F) cs) (c:UInt8) (r:List UInt8) (ht:txS T (i,F)=c::r) (hm:i+1≤T.length) (hc:c=39) (h2:1≤r.length) (h22:r.length≤21) :
  Calls Tryz.prog 65 #[.pointer (some ⟨rb,0,none⟩)] w fun e w'=>e=.returned (.agg ([.int .i64 2,.int .i64 0,.string ⟨(((c::r).drop 1).take ((c::r).length - 2)).toArray⟩]:List Value).toArray)∧Rd w' base rb v T en (i+1,F) cs∧w.grownBy w' (some rb):=by
 have H:=yae h
 have hlt:=h.rb_lt
 have hle:(i:Int)≤2000:=by have:=h.le;have:=h.few;simp only at *;omega
 have hV:yfn (txS T (i,F))=true:=by rw [ht,hc];simp [yfn,yde]
 have hv:∀ W,Rd W base rb v T en (i,F) cs→Calls Tryz.prog 117 #[.pointer (some ⟨rb,0,none⟩)] W fun e w'=>e=.returned (.bool true)∧Below W.heap.size W w':=fun W hh=>by have:=ycG hh;rw [hV] at this;exact this
 have hx:∀ W,Rd W base rb v T en (i,F) cs→Calls Tryz.prog 115 #[.pointer (some ⟨rb,0,none⟩)] W fun e w'=>e=.returned (.string ⟨(c::r).toArray⟩)∧Below W.heap.size W w':=fun W hh=>by have:=ybn hh;rw [ht] at this;exact this
 have q1:((c::r) == [116,114,117,101])=false:=by rw [beq_eq_false_iff_ne];intro e;cases e;revert hc;decide
 have q2:((c::r) == [102,97,108,115,101])=false:=by rw [beq_eq_false_iff_ne];intro e;cases e;revert hc;decide
 have q3:((c::r) == [110,117,108,108])=false:=by rw [beq_eq_false_iff_ne];intro e;cases e;revert hc;decide
 have q4:((c::r) == [45])=false:=by rw [beq_eq_false_iff_ne];intro e;cases e;revert hc;decide
 have hpos:0 < (⟨(c::r).toArray⟩:ByteArray).size:=by rw [yaN];simp
 have h0:(⟨(c::r).toArray⟩:ByteArray)[0]=c:=rfl
 have hz:(⟨(c::r).toArray⟩:ByteArray).size=(c::r).length:=yaN _
 have hl:(⟨(c::r).toArray⟩:ByteArray).toList=c::r:=by rw [Lib.toList_data]
 have hq:=yfH c
 have hin:(⟨(((c::r).drop 1).take ((c::r).length - 2)).toArray⟩:ByteArray)=(⟨(c::r).toArray⟩:ByteArray).extract 1 ((⟨(c::r).toArray⟩:ByteArray).size - 1):=by
  rw [ysp,yaN,Nat.sub_sub]
 rw [hin]
 rw [decide_eq_true hc] at hq
 rw [← h0] at hq
 rw [← hl] at q1 q2 q3 q4
 have h3:(2:Int)≤((⟨(c::r).toArray⟩:ByteArray).size:Int):=by rw [hz];simp;omega
 have h4:((⟨(c::r).toArray⟩:ByteArray).size:Int)≤22:=by rw [hz];simp;omega
 generalize (⟨(c::r).toArray⟩:ByteArray)=S at *
 clear hV ht hin h0 hl hz hc
 clear h
 go_enter Tryz.func65,Tryz.ntmps65
 go_wp2_with (first|(refine yac 2 24 [.int .i64 0,.int .i64 0,.string ⟨#[]⟩] rfl rfl rfl Tryz.alloc24 ?_;intro W0 vb hvb k0 b0;have R0:=yae (H.out.below b0))|(go_at_call 115;refine (hx _ R0.out).mono ?_;rintro e w1 ⟨rfl,b1⟩;have R1:=yae (R0.out.below b1);have k1:=(b1.block vb (ltS k0)).trans k0)|(go_at_call 117;refine (hv _ R1.out).mono ?_;rintro e w2 ⟨rfl,b2⟩;have R2:=yae (R1.out.below b2);have k2:=(b2.block vb (ltS k1)).trans k1;obtain ⟨⟨c0,c1,c2,c3⟩,f1,f3⟩:=rd4 R2.out.blk;have hne:vb≠rb:=(by have:=hvb.out;omega))|(refine yab 24 _ _ rfl rfl vb [.int .i64 0,.int .i64 0,.string ⟨#[]⟩] [.int .i64 2,.int .i64 0,.string (S.extract 1 (S.size - 1))] 24 rfl rfl (by first|exact k2|exact (heap_setCell_other _ _ vb _ hne).trans k2) rfl Tryz.size24 (by intro z hz;simp only [List.mem_cons,List.not_mem_nil,or_false] at hz;rcases hz with rfl|rfl|rfl <;> rfl) ?_;intro w6 k6 p6))
 exact bodyPost_ret (yah Tryz.results65 _ _ vb _ 24 _ rfl k6 Tryz.underlying24 rfl Tryz.size24) rfl ⟨rfl,Rd.putNew p6 (by have:=R2.out.step (i+1) hm;have e2:(((i+1:Nat):Nat):Int)=(i:Int)+1:=(by omega);rw [e2] at this;exact this) (by have:=hvb.out;omega),ybu p6 (yaa (yad b0 _) (yaa (yad b1 _) (yaa (yad b2 _) (yaw _ rb 1 _)))) (by have:=hvb.out;omega)⟩
theorem ypu {w:World} {base rb:Nat} {v:Value} {T:List Tk} {en:Int} {i:Nat} {F:Bool} {cs:List Value} (h:Rd w base rb v T en (i,F) cs) (c:UInt8) (r:List UInt8) (ht:txS T (i,F)=c::r) (hc:isD c=true) :
  Calls Tryz.prog 65 #[.pointer (some ⟨rb,0,none⟩)] w fun e w'=>e=.returned (.agg ([.int .i64 1,.int .i64 ((ybp T (i,F)).1:Nat),.string ⟨#[]⟩]:List Value).toArray)∧Rd w' base rb v T en (ybp T (i,F)).2 cs∧w.grownBy w' (some rb):=by
 have H:=yae h
 have hlt:=h.rb_lt
 have hle:(i:Int)≤2000:=by have:=h.le;have:=h.few;simp only at *;omega
 have hV:yfn (txS T (i,F))=true:=by rw [ht];simp [yfn,yde,hc]
 have hv:∀ W,Rd W base rb v T en (i,F) cs→Calls Tryz.prog 117 #[.pointer (some ⟨rb,0,none⟩)] W fun e w'=>e=.returned (.bool true)∧Below W.heap.size W w':=fun W hh=>by have:=ycG hh;rw [hV] at this;exact this
 have hc39:c≠39:=by intro e;rw [e] at hc;revert hc;decide
 have hx:∀ W,Rd W base rb v T en (i,F) cs→Calls Tryz.prog 115 #[.pointer (some ⟨rb,0,none⟩)] W fun e w'=>e=.returned (.string ⟨(c::r).toArray⟩)∧Below W.heap.size W w':=fun W hh=>by have:=ybn hh;rw [ht] at this;exact this
 have q1:((c::r) == [116,114,117,101])=false:=by rw [beq_eq_false_iff_ne];intro e;cases e;revert hc;decide
 have q2:((c::r) == [102,97,108,115,101])=false:=by rw [beq_eq_false_iff_ne];intro e;cases e;revert hc;decide
 have q3:((c::r) == [110,117,108,108])=false:=by rw [beq_eq_false_iff_ne];intro e;cases e;revert hc;decide
 have q4:((c::r) == [45])=false:=by rw [beq_eq_false_iff_ne];intro e;cases e;revert hc;decide
 have hpos:0 < (⟨(c::r).toArray⟩:ByteArray).size:=by rw [yaN];simp
 have h0:(⟨(c::r).toArray⟩:ByteArray)[0]=c:=rfl
 have hz:(⟨(c::r).toArray⟩:ByteArray).size=(c::r).length:=yaN _
 have hl:(⟨(c::r).toArray⟩:ByteArray).toList=c::r:=by rw [Lib.toList_data]
 have hq:=yfH c
 rw [decide_eq_false hc39] at hq
 rw [← h0] at hq
 rw [← hl] at q1 q2 q3 q4
 have hnum:∀ W,Rd W base rb v T en (i,F) cs→Calls Tryz.prog 119 #[.pointer (some ⟨rb,0,none⟩)] W fun e w'=>e=.returned (.int .i64 ((ybp T (i,F)).1:Nat))∧Rd w' base rb v T en (ybp T (i,F)).2 cs∧W.grownBy w' (some rb):=fun W hh=>ygI hh
 generalize ybp T (i,F)=p at *
 generalize (⟨(c::r).toArray⟩:ByteArray)=S at *
 clear hV ht h0 hl hz hc hc39
 clear h
 go_enter Tryz.func65,Tryz.ntmps65
 go_wp2_with (first|(refine yac 2 24 [.int .i64 0,.int .i64 0,.string ⟨#[]⟩] rfl rfl rfl Tryz.alloc24 ?_;intro W0 vb hvb k0 b0;have R0:=yae (H.out.below b0))|(go_at_call 115;refine (hx _ R0.out).mono ?_;rintro e w1 ⟨rfl,b1⟩;have R1:=yae (R0.out.below b1);have k1:=(b1.block vb (ltS k0)).trans k0)|(go_at_call 117;refine (hv _ R1.out).mono ?_;rintro e w2 ⟨rfl,b2⟩;have R2:=yae (R1.out.below b2);have k2:=(b2.block vb (ltS k1)).trans k1;obtain ⟨⟨c0,c1,c2,c3⟩,f1,f3⟩:=rd4 R2.out.blk;have hne:vb≠rb:=(by have:=hvb.out;omega))|(go_at_call 119;refine (hnum _ R2.out).mono ?_;rintro e w5 ⟨rfl,R5,g5⟩;have k5:=(g5.block vb (ltS k2) (by simp only [ne_eq,Option.some.injEq];exact hne)).trans k2)|(refine yab 24 _ _ rfl rfl vb [.int .i64 0,.int .i64 0,.string ⟨#[]⟩] [.int .i64 1,.int .i64 (p.1:Nat),.string ⟨#[]⟩] 24 rfl rfl (by exact k5) rfl Tryz.size24 (by intro z hz;simp only [List.mem_cons,List.not_mem_nil,or_false] at hz;rcases hz with rfl|rfl|rfl <;> rfl) ?_;intro w6 k6 p6))
 exact bodyPost_ret (yah Tryz.results65 _ _ vb _ 24 _ rfl k6 Tryz.underlying24 rfl Tryz.size24) rfl ⟨rfl,Rd.putNew p6 R5 (by have:=hvb.out;omega),ybu p6 (yaa (yad b0 _) (yaa (yad b1 _) (yaa (yad b2 _) g5))) (by have:=hvb.out;omega)⟩
theorem ypT {T:List Tk} (h1:∀ x ∈ T,TokOk x) (h2:∀ x ∈ T,TokIs x) (s:Sx):(ybp T s).1≤999999999:=by
 obtain ⟨i,F⟩:=s
 unfold ybp
 split
 ·rename_i hD
  obtain ⟨rfl,ex,hm⟩:=yda (T:=T) (i:=i) (F:=F) (by intro e;rw [e] at hD;cases hD)
  rw [ex] at hD ⊢
  obtain ⟨x,hx,e1,e2⟩:=yrE (T:=T) (i:=i) (by intro e;rw [e] at hD;cases hD)
  have hk:x.k=2:=(h2 x (List.mem_of_getElem? hx)).num.2 (by rw [← e1];exact hD)
  obtain ⟨n1,n2,n3⟩:=(h1 x (List.mem_of_getElem? hx)).num hk
  rw [← e1] at n1 n2 n3
  have:=yh7 _ n3
  have h9:10 ^ (tx T i).length≤10 ^ 9:=Nat.pow_le_pow_right (by decide) n2
  simp only
  omega
 ·exact Nat.zero_le _
theorem yfA {w:World} {base rb:Nat} {v:Value} {T:List Tk} {en:Int} {i:Nat} {F:Bool} {cs:List Value} (h:Rd w base rb v T en (i,F) cs) (ht:txS T (i,F)=[45]) (hm:i+1≤T.length) (h48:txS T (i+1,F)=[48]) :
  Calls Tryz.prog 65 #[.pointer (some ⟨rb,0,none⟩)] w fun e w'=>e=.returned (.agg ([.int .i64 1,.int .i64 (-((ybp T (i+1,true)).1:Nat)),.string ⟨#[]⟩]:List Value).toArray)∧Rd w' base rb v T en (ybp T (i+1,true)).2 cs∧w.grownBy w' (some rb):=by
 have H:=yae h
 have hlt:=h.rb_lt
 have hle:(i:Int)≤2000:=by have:=h.le;have:=h.few;simp only at *;omega
 have hV:yfn (txS T (i,F))=true:=by rw [ht];decide
 have hv:∀ W,Rd W base rb v T en (i,F) cs→Calls Tryz.prog 117 #[.pointer (some ⟨rb,0,none⟩)] W fun e w'=>e=.returned (.bool true)∧Below W.heap.size W w':=fun W hh=>by have:=ycG hh;rw [hV] at this;exact this
 have hx:∀ W,Rd W base rb v T en (i,F) cs→Calls Tryz.prog 115 #[.pointer (some ⟨rb,0,none⟩)] W fun e w'=>e=.returned (.string ⟨#[45]⟩)∧Below W.heap.size W w':=fun W hh=>by have:=ybn hh;rw [ht] at this;exact this
 have hx2:∀ W,Rd W base rb v T en (i+1,F) cs→Calls Tryz.prog 115 #[.pointer (some ⟨rb,0,none⟩)] W fun e w'=>e=.returned (.string ⟨(txS T (i+1,F)).toArray⟩)∧Below W.heap.size W w':=fun W hh=>ybn hh
 have hnum:∀ W,Rd W base rb v T en (i+1,true) cs→Calls Tryz.prog 119 #[.pointer (some ⟨rb,0,none⟩)] W fun e w'=>e=.returned (.int .i64 ((ybp T (i+1,true)).1:Nat))∧Rd w' base rb v T en (ybp T (i+1,true)).2 cs∧W.grownBy w' (some rb):=fun W hh=>ygI hh
 have hnl:(((ybp T (i+1,true)).1:Nat):Int)≤999999999:=by have:=ypT h.toks h.ist (i+1,true);omega
 rw [h48] at hx2
 generalize ybp T (i+1,true)=p at *
 clear hV ht h48
 clear h
 go_enter Tryz.func65,Tryz.ntmps65
 go_wp2_with (first|(refine yac 2 24 [.int .i64 0,.int .i64 0,.string ⟨#[]⟩] rfl rfl rfl Tryz.alloc24 ?_;intro W0 vb hvb k0 b0;have R0:=yae (H.out.below b0))|(go_at_call 115;refine (hx _ R0.out).mono ?_;rintro e w1 ⟨rfl,b1⟩;have R1:=yae (R0.out.below b1);have k1:=(b1.block vb (ltS k0)).trans k0)|(go_at_call 117;refine (hv _ R1.out).mono ?_;rintro e w2 ⟨rfl,b2⟩;have R2:=yae (R1.out.below b2);have k2:=(b2.block vb (ltS k1)).trans k1;obtain ⟨⟨c0,c1,c2,c3⟩,f1,f3⟩:=rd4 R2.out.blk;have hne:vb≠rb:=(by have:=hvb.out;omega);have R3:=yae (by have:=R2.out.step (i+1) hm;have e2:(((i+1:Nat):Nat):Int)=(i:Int)+1:=(by omega);rw [e2] at this;exact this)))
 go_wp2_with fail
 refine (hx2 _ R3.out).mono ?_
 rintro e w4 ⟨rfl,b4⟩
 have R4:=yae (R3.out.below b4)
 have k4:=(b4.block vb (by have:=(ltS k2);simpa [World.setCell] using this)).trans ((heap_setCell_other _ _ vb _ hne).trans k2)
 obtain ⟨⟨d0,d1,d2,d3⟩,g1,g3⟩:=rd4 R4.out.blk
 go_wp2_with (first|(go_at_call 119;refine (hnum _ R4.out.fail).mono ?_;rintro e w5 ⟨rfl,R5,g5⟩;have k5:=(g5.block vb (by have:=(ltS k4);first|exact this|simpa [World.setCell] using this) (by simp only [ne_eq,Option.some.injEq];exact hne)).trans ((heap_setCell_other _ _ vb _ hne).trans k4))|(refine yab 24 _ _ rfl rfl vb [.int .i64 0,.int .i64 0,.string ⟨#[]⟩] [.int .i64 1,.int .i64 (-(p.1:Nat)),.string ⟨#[]⟩] 24 rfl rfl (by exact k5) rfl Tryz.size24 (by intro z hz;simp only [List.mem_cons,List.not_mem_nil,or_false] at hz;rcases hz with rfl|rfl|rfl <;> rfl) ?_;intro w6 k6 p6))
 exact bodyPost_ret (yah Tryz.results65 _ _ vb _ 24 _ rfl k6 Tryz.underlying24 rfl Tryz.size24) rfl ⟨rfl,Rd.putNew p6 R5 (by have:=hvb.out;omega),ybu p6 (yaa (yad b0 _) (yaa (yad b1 _) (yaa (yad b2 _) (yaa (yaw _ rb 1 _) (yaa (yad b4 _) (yaa (yaw _ rb 3 _) g5)))))) (by have:=hvb.out;omega)⟩
theorem yfW {w:World} {base rb:Nat} {v:Value} {T:List Tk} {en:Int} {i:Nat} {F:Bool} {cs:List Value} (h:Rd w base rb v T en (i,F) cs) (ht:txS T (i,F)=[45]) (hm:i+1≤T.length) (h48:txS T (i+1,F)≠[48]) :
  Calls Tryz.prog 65 #[.pointer (some ⟨rb,0,none⟩)] w fun e w'=>e=.returned (.agg ([.int .i64 1,.int .i64 (-((ybp T (i+1,F)).1:Nat)),.string ⟨#[]⟩]:List Value).toArray)∧Rd w' base rb v T en (ybp T (i+1,F)).2 cs∧w.grownBy w' (some rb):=by
 have H:=yae h
 have hlt:=h.rb_lt
 have hle:(i:Int)≤2000:=by have:=h.le;have:=h.few;simp only at *;omega
 have hV:yfn (txS T (i,F))=true:=by rw [ht];decide
 have hv:∀ W,Rd W base rb v T en (i,F) cs→Calls Tryz.prog 117 #[.pointer (some ⟨rb,0,none⟩)] W fun e w'=>e=.returned (.bool true)∧Below W.heap.size W w':=fun W hh=>by have:=ycG hh;rw [hV] at this;exact this
 have hx:∀ W,Rd W base rb v T en (i,F) cs→Calls Tryz.prog 115 #[.pointer (some ⟨rb,0,none⟩)] W fun e w'=>e=.returned (.string ⟨#[45]⟩)∧Below W.heap.size W w':=fun W hh=>by have:=ybn hh;rw [ht] at this;exact this
 have hx2:∀ W,Rd W base rb v T en (i+1,F) cs→Calls Tryz.prog 115 #[.pointer (some ⟨rb,0,none⟩)] W fun e w'=>e=.returned (.string ⟨(txS T (i+1,F)).toArray⟩)∧Below W.heap.size W w':=fun W hh=>ybn hh
 have hnum:∀ W,Rd W base rb v T en (i+1,F) cs→Calls Tryz.prog 119 #[.pointer (some ⟨rb,0,none⟩)] W fun e w'=>e=.returned (.int .i64 ((ybp T (i+1,F)).1:Nat))∧Rd w' base rb v T en (ybp T (i+1,F)).2 cs∧W.grownBy w' (some rb):=fun W hh=>ygI hh
 have hnl:(((ybp T (i+1,F)).1:Nat):Int)≤999999999:=by have:=ypT h.toks h.ist (i+1,F);omega
 have hne48:(txS T (i+1,F) == [48])=false:=by simpa using h48
 generalize ybp T (i+1,F)=p at *
 generalize txS T (i+1,F)=t2 at *
 clear hV ht h48
 clear h
 go_enter Tryz.func65,Tryz.ntmps65
 go_wp2_with (first|(refine yac 2 24 [.int .i64 0,.int .i64 0,.string ⟨#[]⟩] rfl rfl rfl Tryz.alloc24 ?_;intro W0 vb hvb k0 b0;have R0:=yae (H.out.below b0))|(go_at_call 115;refine (hx _ R0.out).mono ?_;rintro e w1 ⟨rfl,b1⟩;have R1:=yae (R0.out.below b1);have k1:=(b1.block vb (ltS k0)).trans k0)|(go_at_call 117;refine (hv _ R1.out).mono ?_;rintro e w2 ⟨rfl,b2⟩;have R2:=yae (R1.out.below b2);have k2:=(b2.block vb (ltS k1)).trans k1;obtain ⟨⟨c0,c1,c2,c3⟩,f1,f3⟩:=rd4 R2.out.blk;have hne:vb≠rb:=(by have:=hvb.out;omega);have R3:=yae (by have:=R2.out.step (i+1) hm;have e2:(((i+1:Nat):Nat):Int)=(i:Int)+1:=(by omega);rw [e2] at this;exact this)))
 go_wp2_with fail
 refine (hx2 _ R3.out).mono ?_
 rintro e w4 ⟨rfl,b4⟩
 have R4:=yae (R3.out.below b4)
 have k4:=(b4.block vb (by have:=(ltS k2);simpa [World.setCell] using this)).trans ((heap_setCell_other _ _ vb _ hne).trans k2)
 obtain ⟨⟨d0,d1,d2,d3⟩,g1,g3⟩:=rd4 R4.out.blk
 go_wp2_with (first|(go_at_call 119;refine (hnum _ R4.out).mono ?_;rintro e w5 ⟨rfl,R5,g5⟩;have k5:=(g5.block vb (by have:=(ltS k4);first|exact this|simpa [World.setCell] using this) (by simp only [ne_eq,Option.some.injEq];exact hne)).trans k4)|(refine yab 24 _ _ rfl rfl vb [.int .i64 0,.int .i64 0,.string ⟨#[]⟩] [.int .i64 1,.int .i64 (-(p.1:Nat)),.string ⟨#[]⟩] 24 rfl rfl (by exact k5) rfl Tryz.size24 (by intro z hz;simp only [List.mem_cons,List.not_mem_nil,or_false] at hz;rcases hz with rfl|rfl|rfl <;> rfl) ?_;intro w6 k6 p6))
 exact bodyPost_ret (yah Tryz.results65 _ _ vb _ 24 _ rfl k6 Tryz.underlying24 rfl Tryz.size24) rfl ⟨rfl,Rd.putNew p6 R5 (by have:=hvb.out;omega),ybu p6 (yaa (yad b0 _) (yaa (yad b1 _) (yaa (yad b2 _) (yaa (yaw _ rb 1 _) (yaa (yad b4 _) g5))))) (by have:=hvb.out;omega)⟩
theorem yps {w:World} {base rb:Nat} {v:Value} {T:List Tk} {en:Int} {s:Sx} {cs:List Value} (h:Rd w base rb v T en s cs) :
  Calls Tryz.prog 65 #[.pointer (some ⟨rb,0,none⟩)] w fun e w'=>e=.returned (.agg (vlC (ydb T s).1).toArray)∧Rd w' base rb v T en (ydb T s).2 cs∧w.grownBy w' (some rb):=by
 obtain ⟨i,F⟩:=s
 unfold ydb
 by_cases h0:yfn (txS T (i,F))=false
 ·rw [if_pos h0]
  exact ypt h h0
 rw [if_neg h0]
 have hne:txS T (i,F)≠[]:=by intro e;rw [e] at h0;exact h0 yq6
 obtain ⟨hF,ex,hm⟩:=yda hne
 by_cases h1:txS T (i,F)=yb9∨txS T (i,F)=ybH
 ·rw [if_pos h1]
  rcases h1 with h1|h1
  ·rw [if_pos h1]
   exact yna h h1 hm
  ·rw [if_neg (by rw [h1];decide)]
   exact ykD h h1 hm
 rw [if_neg h1]
 by_cases h2:txS T (i,F)=w_null
 ·rw [if_pos h2]
  exact ym9 h h2 hm
 rw [if_neg h2]
 by_cases h3:txS T (i,F)=[45]
 ·rw [if_pos h3]
  unfold ypS
  by_cases h4:txS T (i+1,F)=[48]
  ·have:=yfA h h3 hm h4
   simp only [h4,if_true]
   exact this
  ·have:=yfW h h3 hm h4
   simp only [h4,if_false]
   exact this
 rw [if_neg h3]
 cases ht:txS T (i,F) with
 | nil=>exact absurd ht hne
 | cons c r =>
  by_cases h4:c=39
  ·have hh:yde (fun c=>decide (c=39)) (c::r)=true:=by simp [yde,h4]
   rw [if_pos hh]
   obtain ⟨x,hx,e1,e2⟩:=yrE (T:=T) (i:=i) (by rw [← ex];exact hne)
   have hk:x.k=3:=(h.ist x (List.mem_of_getElem? hx)).txt.2 (by rw [← e1,← ex,ht];exact hh)
   have hl:=(h.toks x (List.mem_of_getElem? hx)).txt hk
   have hs:=(h.toks x (List.mem_of_getElem? hx)).short
   rw [← e1,← ex,ht] at hl hs
   simp only [List.length_cons] at hl hs
   exact ykE h c r ht hm h4 (by omega) (by omega)
  ·rw [if_neg (by simp [yde,h4])]
   have hd:isD c=true:=by
    rw [ht] at h0 h1 h2 h3
    simp only [not_or] at h1
    have hq:yfn (c::r)=true:=by simpa using h0
    unfold yfn at hq
    rw [decide_eq_false h1.1,decide_eq_false h1.2,decide_eq_false h2,decide_eq_false h3] at hq
    simpa [yde,h4] using hq
   exact ypu h c r ht hd
abbrev z29:List Value:=[.int .i64 0,.int .i64 0,.int .i64 0,.string ⟨#[]⟩,.string ⟨#[]⟩,.slice none 0 0]
abbrev exL (k:Int) (x:Vl) (nm:List UInt8) (a:Value):List Value:=[.int .i64 k,.int .i64 x.k,.int .i64 x.n,.string ⟨x.s.toArray⟩,.string ⟨nm.toArray⟩,a]
theorem Tryz.alloc29 (w:World):(Instr.alloc 29 true (.tuple #[])).run Tryz.prog w=.ok (.pointer (some ⟨w.heap.size,0,none⟩)) (w.alloc (.cells z29.toArray 29)):=by
 have e:z29.toArray=#[.int .i64 0,.int .i64 0,.int .i64 0,.string ⟨#[]⟩,.string ⟨#[]⟩,.slice none 0 0]:=rfl
 rw [e]
 simp [Instr.alloc,Tryz.zeroValue29,go_sem]
theorem ycO (k:Int) (x:Vl) (nm:List UInt8) (ao:Option Addr) (n cap:Nat):∀ z ∈ exL k x nm (.slice ao n cap),z.oneCell'=true:=by
 intro z hz
 simp only [List.mem_cons,List.not_mem_nil,or_false] at hz
 rcases hz with rfl|rfl|rfl|rfl|rfl|rfl <;> rfl
def ynH (W:World) (base rb:Nat) (v:Value) (T:List Tk) (en:Int) (p:Ex×Sx) (cs:List Value) (e:Ending) (w':World):Prop :=
 (∃ u,e=.returned u∧ExAt W.heap.size w' u p.1)∧Rd w' base rb v T en p.2 cs∧W.grownBy w' (some rb)
theorem yek {w:World} (o:Obj) {b:Nat} (hb:b < w.heap.size):(w.alloc o).heap[b]?=w.heap[b]?:=((Below.refl w.heap.size w).alloc (Nat.le_refl _) o).block b hb
theorem yi0 {i:Nat} {w:World} {base rb:Nat} {v:Value} {T:List Tk} {en:Int} {F:Bool} {cs:List Value} (h:Rd w base rb v T en (i,F) cs) (hm:i+1≤T.length):Rd (w.setCell ⟨rb,1,none⟩ (.int .i64 ((i:Int)+1))) base rb v T en (i+1,F) cs:=by
 have:=h.step (i+1) hm
 have e2:(((i+1:Nat):Nat):Int)=(i:Int)+1:=by omega
 rw [e2] at this
 exact this
theorem ycU (w:World) (a:Addr) (x:Value):(w.setCell a x).heap.size=w.heap.size:=by simp [World.setCell]
theorem ybP {w w':World} {rb b:Nat} {o:Obj} (g:w.grownBy w' (some rb)) (h:w.heap[b]?=some o) (hne:b≠rb):w'.heap[b]?=some o :=
 (g.block b (ltS h) (by simp only [ne_eq,Option.some.injEq];exact hne)).trans h
theorem ypo {w:World} {base rb:Nat} {v:Value} {T:List Tk} {en:Int} {i:Nat} {F:Bool} {cs:List Value} (h:Rd w base rb v T en (i,F) cs) (f:Nat) (hf:f < 60) (ht:txS T (i,F)=w_not)
  (ih:∀ (W:World) (s:Sx),Rd W base rb v T en s cs→Calls Tryz.prog 67 #[.pointer (some ⟨rb,0,none⟩),.int .i64 ((60 - f:Nat):Int)] W fun e w'=>ynH W base rb v T en (ybO T f s) cs e w') :
  Calls Tryz.prog 67 #[.pointer (some ⟨rb,0,none⟩),.int .i64 ((59 - f:Nat):Int)] w fun e w'=>ynH w base rb v T en (ybO T (f+1) (i,F)) cs e w':=by
 have H:=yae h
 have hlt:=h.rb_lt
 have hle:(i:Int)≤2000:=by have:=h.le;have:=h.few;simp only at *;omega
 obtain ⟨hF,ex,hm⟩:=yda (T:=T) (i:=i) (F:=F) (by rw [ht];decide)
 have hx:∀ W,Rd W base rb v T en (i,F) cs→Calls Tryz.prog 115 #[.pointer (some ⟨rb,0,none⟩)] W fun e w'=>e=.returned (.string ⟨#[110,111,116]⟩)∧Below W.heap.size W w':=fun W hh=>by have:=ybn hh;rw [ht] at this;exact this
 have HR:Hid (ybO T (f+1) (i,F)=(.mk 3 vl0 [] [(ybO T f (i+1,F)).1],(ybO T f (i+1,F)).2)):=by show _=_;rw [ybO,if_pos ht]
 have ih1:=fun W=>ih W (i+1,F)
 have hm0:((60 - f:Nat):Int)=((59 - f:Nat):Int)+1:=by omega
 have hm1:((59 - f:Nat):Int) < 60:=by omega
 have hm2:0≤((59 - f:Nat):Int):=by omega
 rw [hm0] at ih1
 rw [HR.out]
 generalize ybO T f (i+1,F)=p at *
 generalize ((59 - f:Nat):Int)=m at *
 have hm3:(m == 60)=false:=by rw [beq_eq_false_iff_ne];omega
 clear h ih HR ht ex hm0 hf
 go_enter Tryz.func67,Tryz.ntmps67
 go_wp2_with (first|(refine yac 4 29 z29 rfl rfl rfl Tryz.alloc29 ?_;intro W0 eb heb k0 b0;have R0:=yae (H.out.below b0))|(go_at_call 115;refine (hx _ R0.out).mono ?_;rintro e w1 ⟨rfl,b1⟩;have R1:=yae (R0.out.below b1);have k1:=(b1.block eb (ltS k0)).trans k0;obtain ⟨⟨c0,c1,c2,c3⟩,f1,f3⟩:=rd4 R1.out.blk))
 refine (ih1 _ (yi0 R1.out hm)).mono ?_
 rintro e w3 ⟨⟨u,rfl,x3⟩,R3,g3⟩
 obtain ⟨k,x,nm,ao,na,ca,rfl⟩:=ExAt.form x3
 have hne:eb≠rb:=by have:=heb.out;omega
 have k2:=(heap_setCell_other w1 ⟨rb,1,none⟩ eb (.int .i64 ((i:Int)+1)) hne).trans k1
 have k3:=ybP g3 k2 hne
 have X3:=yae x3
 have HR3:=yae R3
 rw [ycU] at X3
 have hb3:=g3.size
 rw [ycU] at hb3
 have he1:=(ltS k1)
 unfold exV
 clear x3 R3
 go_wp2_with (first|(refine yac 6 29 z29 rfl rfl rfl Tryz.alloc29 ?_;intro w4 ab hab k4 b4)|(refine yab 29 _ _ rfl rfl ab z29 (exL k x nm (.slice ao na ca)) 29 rfl rfl (by exact k4) rfl Tryz.size29 (ycO _ _ _ _ _ _) ?_;intro w5 k5 p5;have B5:=yaU hab b4 p5;have R5:=yae (HR3.out.below B5);have X5:=yae (X3.out.under B5);have e5:=(B5.block eb (ltS k3)).trans k3;clear p5)|(refine yaf 29 _ rfl rfl ab (exL k x nm (.slice ao na ca)) 29 _ rfl (by exact k5) Tryz.underlying29 rfl Tryz.size29 ?_)|(refine yab 29 _ _ rfl rfl eb z29 (exL 3 vl0 [] (.slice (some ⟨w5.heap.size,0,none⟩) 1 1)) 29 rfl rfl (by exact (yek _ (ltS e5)).trans e5) rfl Tryz.size29 (ycO _ _ _ _ _ _) ?_;intro w6 k6 p6))
 have hE:=heb.out
 have n1:(w5.alloc (.cells (exL k x nm (.slice ao na ca)).toArray 29)).heap[w5.heap.size]?=some (.cells (exL k x nm (.slice ao na ca)).toArray 29):=heap_alloc_new _ _
 have n6:w6.heap[w5.heap.size]?=some (.cells (exL k x nm (.slice ao na ca)).toArray 29):=by
  rw [p6.out]
  exact (yag eb _ _ 0 _ (by have:=(ltS e5);omega)).trans n1
 have x6:ExAt w1.heap.size w6 (exV k x nm (.slice ao na ca)) p.1:=by
  rw [p6.out]
  exact (X5.out.alloc _).putAll he1 0 _
 have b0s:=b0.size
 have b1s:=b1.size
 have b5s:=B5.size
 refine bodyPost_ret (yah Tryz.results67 _ _ eb _ 29 _ rfl k6 Tryz.underlying29 rfl Tryz.size29) rfl ⟨⟨_,rfl, ?_⟩,Rd.putNew p6 (R5.out.below ((Below.refl _ _).alloc (Nat.le_refl _) _)) (by omega), ?_⟩
 ·exact (yi8 n6 (by omega) x6 3 1).weak (by omega)
 ·exact ybu p6 (yaa (yad b0 _) (yaa (yad b1 _) (yaa (yaw _ rb 1 _) (yaa g3 (yaa (yad B5 _) (yad ((Below.refl _ _).alloc (Nat.le_refl _) _) _)))))) (by omega)
theorem ymV {w:World} {base rb:Nat} {v:Value} {T:List Tk} {en:Int} {i:Nat} {F:Bool} {cs:List Value} (h:Rd w base rb v T en (i,F) cs) (ht:txS T (i,F)=[40]∨txS T (i,F)=w_not) :
  Calls Tryz.prog 67 #[.pointer (some ⟨rb,0,none⟩),.int .i64 60] w fun e w'=>ynH w base rb v T en (ex0,(i,true)) cs e w':=by
 have H:=yae h
 have hlt:=h.rb_lt
 have hle:(i:Int)≤2000:=by have:=h.le;have:=h.few;simp only at *;omega
 have hx:∀ W,Rd W base rb v T en (i,F) cs→Calls Tryz.prog 115 #[.pointer (some ⟨rb,0,none⟩)] W fun e w'=>e=.returned (.string ⟨(txS T (i,F)).toArray⟩)∧Below W.heap.size W w':=fun W hh=>ybn hh
 rcases ht with ht|ht
 all_goals
  rw [ht] at hx
  clear h
  go_enter Tryz.func67,Tryz.ntmps67
  go_wp2_with (first|(refine yac 4 29 z29 rfl rfl rfl Tryz.alloc29 ?_;intro W0 eb heb k0 b0;have R0:=yae (H.out.below b0))|(go_at_call 115;refine (hx _ R0.out).mono ?_;rintro e w1 ⟨rfl,b1⟩;have R1:=yae (R0.out.below b1);have k1:=(b1.block eb (ltS k0)).trans k0;obtain ⟨⟨c0,c1,c2,c3⟩,f1,f3⟩:=rd4 R1.out.blk)|(refine yab 29 _ _ rfl rfl eb z29 z29 29 rfl rfl (by exact (heap_setCell_other _ _ eb _ (by have:=heb.out;show eb≠rb;omega)).trans k1) rfl Tryz.size29 (by exact ycO 0 vl0 [] none 0 0) ?_;intro w6 k6 p6))
  have hE:=heb.out
  have b0s:=b0.size
  have b1s:=b1.size
  exact bodyPost_ret (yah Tryz.results67 _ _ eb _ 29 _ rfl k6 Tryz.underlying29 rfl Tryz.size29) rfl ⟨⟨_,rfl,ExAt.nil 0 vl0 [] none 0 (fun _=>rfl)⟩,Rd.putNew p6 R1.out.fail (by omega),ybu p6 (yaa (yad b0 _) (yaa (yad b1 _) (yaw _ rb 3 _))) (by omega)⟩
theorem yjr {w:World} {base rb:Nat} {v:Value} {T:List Tk} {en:Int} {i:Nat} {F:Bool} {cs:List Value} (h:Rd w base rb v T en (i,F) cs) (m:Int) (h1:txS T (i,F)≠[40]) (h2:txS T (i,F)≠w_not) (hV:yfn (txS T (i,F))=true) :
  Calls Tryz.prog 67 #[.pointer (some ⟨rb,0,none⟩),.int .i64 m] w fun e w'=>ynH w base rb v T en (.mk 1 (ydb T (i,F)).1 [] [],(ydb T (i,F)).2) cs e w':=by
 have H:=yae h
 have hlt:=h.rb_lt
 have hle:(i:Int)≤2000:=by have:=h.le;have:=h.few;simp only at *;omega
 have hx:∀ W,Rd W base rb v T en (i,F) cs→Calls Tryz.prog 115 #[.pointer (some ⟨rb,0,none⟩)] W fun e w'=>e=.returned (.string ⟨(txS T (i,F)).toArray⟩)∧Below W.heap.size W w':=fun W hh=>ybn hh
 have hv:∀ W,Rd W base rb v T en (i,F) cs→Calls Tryz.prog 117 #[.pointer (some ⟨rb,0,none⟩)] W fun e w'=>e=.returned (.bool true)∧Below W.heap.size W w':=fun W hh=>by have:=ycG hh;rw [hV] at this;exact this
 have q1:(txS T (i,F) == [40])=false:=by simpa using h1
 have q2:(txS T (i,F) == [110,111,116])=false:=by simpa using h2
 have hc:∀ W,Rd W base rb v T en (i,F) cs→Calls Tryz.prog 65 #[.pointer (some ⟨rb,0,none⟩)] W fun e w'=>e=.returned (.agg #[.int .i64 (ydb T (i,F)).1.k,.int .i64 (ydb T (i,F)).1.n,.string ⟨(ydb T (i,F)).1.s.toArray⟩])∧Rd w' base rb v T en (ydb T (i,F)).2 cs∧W.grownBy w' (some rb):=fun W hh=>yps hh
 generalize ydb T (i,F)=p at *
 generalize txS T (i,F)=t at *
 clear h h1 h2 hV
 go_enter Tryz.func67,Tryz.ntmps67
 go_wp2_with (first|(refine yac 4 29 z29 rfl rfl rfl Tryz.alloc29 ?_;intro W0 eb heb k0 b0;have R0:=yae (H.out.below b0))|(go_at_call 115;refine (hx _ R0.out).mono ?_;rintro e w1 ⟨rfl,b1⟩;have R1:=yae (R0.out.below b1);have k1:=(b1.block eb (ltS k0)).trans k0;obtain ⟨⟨c0,c1,c2,c3⟩,f1,f3⟩:=rd4 R1.out.blk)|(go_at_call 117;refine (hv _ R1.out).mono ?_;rintro e w2 ⟨rfl,b2⟩;have R2:=yae (R1.out.below b2);have k2:=(b2.block eb (ltS k1)).trans k1)|(go_at_call 65;refine (hc _ R2.out).mono ?_;rintro e w3 ⟨rfl,r3,g3⟩;have R3:=yae r3;have k3:=ybP g3 k2 (by have:=heb.out;show eb≠rb;omega))|(refine yab 29 _ _ rfl rfl eb z29 (exL 1 p.1 [] (.slice none 0 0)) 29 rfl rfl (by exact k3) rfl Tryz.size29 (ycO _ _ _ _ _ _) ?_;intro w6 k6 p6))
 have hE:=heb.out
 have b0s:=b0.size
 have b1s:=b1.size
 have b2s:=b2.size
 exact bodyPost_ret (yah Tryz.results67 _ _ eb _ 29 _ rfl k6 Tryz.underlying29 rfl Tryz.size29) rfl ⟨⟨_,rfl,ExAt.nil _ _ _ none 0 (fun _=>rfl)⟩,Rd.putNew p6 R3.out (by omega),ybu p6 (yaa (yad b0 _) (yaa (yad b1 _) (yaa (yad b2 _) g3))) (by omega)⟩
theorem yjq {w:World} {base rb:Nat} {v:Value} {T:List Tk} {en:Int} {i:Nat} {F:Bool} {cs:List Value} (h:Rd w base rb v T en (i,F) cs) (m:Int) (h1:txS T (i,F)≠[40]) (h2:txS T (i,F)≠w_not) (hV:yfn (txS T (i,F))=false) :
  Calls Tryz.prog 67 #[.pointer (some ⟨rb,0,none⟩),.int .i64 m] w fun e w'=>ynH w base rb v T en (.mk 2 vl0 (yd5 T (i,F)).1 [],(yd5 T (i,F)).2) cs e w':=by
 have H:=yae h
 have hlt:=h.rb_lt
 have hle:(i:Int)≤2000:=by have:=h.le;have:=h.few;simp only at *;omega
 have hx:∀ W,Rd W base rb v T en (i,F) cs→Calls Tryz.prog 115 #[.pointer (some ⟨rb,0,none⟩)] W fun e w'=>e=.returned (.string ⟨(txS T (i,F)).toArray⟩)∧Below W.heap.size W w':=fun W hh=>ybn hh
 have hv:∀ W,Rd W base rb v T en (i,F) cs→Calls Tryz.prog 117 #[.pointer (some ⟨rb,0,none⟩)] W fun e w'=>e=.returned (.bool false)∧Below W.heap.size W w':=fun W hh=>by have:=ycG hh;rw [hV] at this;exact this
 have q1:(txS T (i,F) == [40])=false:=by simpa using h1
 have q2:(txS T (i,F) == [110,111,116])=false:=by simpa using h2
 have hc:∀ W,Rd W base rb v T en (i,F) cs→Calls Tryz.prog 63 #[.pointer (some ⟨rb,0,none⟩)] W fun e w'=>e=.returned (.string ⟨(yd5 T (i,F)).1.toArray⟩)∧Rd w' base rb v T en (yd5 T (i,F)).2 cs∧W.grownBy w' (some rb):=fun W hh=>ymY hh
 generalize yd5 T (i,F)=p at *
 generalize txS T (i,F)=t at *
 clear h h1 h2 hV
 go_enter Tryz.func67,Tryz.ntmps67
 go_wp2_with (first|(refine yac 4 29 z29 rfl rfl rfl Tryz.alloc29 ?_;intro W0 eb heb k0 b0;have R0:=yae (H.out.below b0))|(go_at_call 115;refine (hx _ R0.out).mono ?_;rintro e w1 ⟨rfl,b1⟩;have R1:=yae (R0.out.below b1);have k1:=(b1.block eb (ltS k0)).trans k0;obtain ⟨⟨c0,c1,c2,c3⟩,f1,f3⟩:=rd4 R1.out.blk)|(go_at_call 117;refine (hv _ R1.out).mono ?_;rintro e w2 ⟨rfl,b2⟩;have R2:=yae (R1.out.below b2);have k2:=(b2.block eb (ltS k1)).trans k1)|(go_at_call 63;refine (hc _ R2.out).mono ?_;rintro e w3 ⟨rfl,r3,g3⟩;have R3:=yae r3;have k3:=ybP g3 k2 (by have:=heb.out;show eb≠rb;omega))|(refine yab 29 _ _ rfl rfl eb z29 (exL 2 vl0 p.1 (.slice none 0 0)) 29 rfl rfl (by exact k3) rfl Tryz.size29 (ycO _ _ _ _ _ _) ?_;intro w6 k6 p6))
 have hE:=heb.out
 have b0s:=b0.size
 have b1s:=b1.size
 have b2s:=b2.size
 exact bodyPost_ret (yah Tryz.results67 _ _ eb _ 29 _ rfl k6 Tryz.underlying29 rfl Tryz.size29) rfl ⟨⟨_,rfl,ExAt.nil _ _ _ none 0 (fun _=>rfl)⟩,Rd.putNew p6 R3.out (by omega),ybu p6 (yaa (yad b0 _) (yaa (yad b1 _) (yaa (yad b2 _) g3))) (by omega)⟩
def ops7:List (List UInt8):=[ynD,ytk,[43],[45],[124,124],[60],[61]]
theorem ygE (t:List UInt8) (k:Nat) (op:List UInt8) (h:ops7[k]?=some op):t=op↔ycq t=5+k:=by
 constructor
 ·rintro rfl
  match k,h with
  | 0,h=>cases h;decide
  | 1,h=>cases h;decide
  | 2,h=>cases h;decide
  | 3,h=>cases h;decide
  | 4,h=>cases h;decide
  | 5,h=>cases h;decide
  | 6,h=>cases h;decide
 ·intro hk
  unfold ycq at hk
  by_cases a0:t=ynD
  ·rw [if_pos a0] at hk
   have:k=0:=by omega
   subst this
   cases h
   exact a0
  rw [if_neg a0] at hk
  by_cases a1:t=ytk
  ·rw [if_pos a1] at hk
   have:k=1:=by omega
   subst this
   cases h
   exact a1
  rw [if_neg a1] at hk
  by_cases a2:t=[43]
  ·rw [if_pos a2] at hk
   have:k=2:=by omega
   subst this
   cases h
   exact a2
  rw [if_neg a2] at hk
  by_cases a3:t=[45]
  ·rw [if_pos a3] at hk
   have:k=3:=by omega
   subst this
   cases h
   exact a3
  rw [if_neg a3] at hk
  by_cases a4:t=[124,124]
  ·rw [if_pos a4] at hk
   have:k=4:=by omega
   subst this
   cases h
   exact a4
  rw [if_neg a4] at hk
  by_cases a5:t=[60]
  ·rw [if_pos a5] at hk
   have:k=5:=by omega
   subst this
   cases h
   exact a5
  rw [if_neg a5] at hk
  by_cases a6:t=[61]
  ·rw [if_pos a6] at hk
   have:k=6:=by omega
   subst this
   cases h
   exact a6
  rw [if_neg a6] at hk
  omega
theorem ygD (t:List UInt8):ycq t=0∨(5≤ycq t∧ycq t≤11):=by
 unfold ycq
 repeat' split
 all_goals omega
def yeZ (t:List UInt8) (k:Nat):Nat:=if ycq t < 5+k then ycq t else 0
theorem yni {t:List UInt8} {k:Nat} {op:List UInt8} (h:ops7[k]?=some op) (e:t=op):yeZ t (k+1)=5+k:=by
 have:=(ygE t k op h).1 e
 unfold yeZ;rw [if_pos (by omega),this]
theorem ypw {t:List UInt8} {k:Nat} {op:List UInt8} (h:ops7[k]?=some op) (e:t≠op):yeZ t (k+1)=yeZ t k:=by
 have h1:ycq t≠5+k:=fun hh=>e ((ygE t k op h).2 hh)
 unfold yeZ
 by_cases h2:ycq t < 5+k
 ·rw [if_pos h2,if_pos (by omega)]
 ·rw [if_neg h2,if_neg (by omega)]
theorem ysP {w W W':World} {b k:Nat} {x:Value} (hb:b < w.heap.size) (h:W.cell? ⟨b,k,none⟩=some x∧Below w.heap.size w W) (hB:Below W.heap.size W W'):W'.cell? ⟨b,k,none⟩=some x∧Below w.heap.size w W' :=
 ⟨(hB.cell (p:=⟨b,k,none⟩) (Nat.lt_of_lt_of_le hb h.2.size)).trans h.1,h.2.trans (hB.mono h.2.size)⟩
theorem ofT {A B:Prop} (h:A∧B):B:=h.2
theorem ymW {w:World} {base rb:Nat} {v:Value} {T:List Tk} {en:Int} {i:Nat} {F:Bool} {cs:List Value} (h:Rd w base rb v T en (i,F) cs) (f:Nat) (hf:f < 60) (ht:txS T (i,F)=[40])
  (ih:∀ (W:World) (s:Sx),Rd W base rb v T en s cs→Calls Tryz.prog 67 #[.pointer (some ⟨rb,0,none⟩),.int .i64 ((60 - f:Nat):Int)] W fun e w'=>ynH W base rb v T en (ybO T f s) cs e w')
  (hb:(ybG T w_is (ybO T f (i+1,F)).2).1=true) :
  Calls Tryz.prog 67 #[.pointer (some ⟨rb,0,none⟩),.int .i64 ((59 - f:Nat):Int)] w fun e w'=>ynH w base rb v T en (.mk 4 vl0 [] [(ybO T f (i+1,F)).1],(yc4 T [41] (yc4 T w_null (ybG T w_is (ybO T f (i+1,F)).2).2).2).2) cs e w':=by
 have H:=yae h
 have hlt:=h.rb_lt
 have hle:(i:Int)≤2000:=by have:=h.le;have:=h.few;simp only at *;omega
 obtain ⟨hF,ex,hm⟩:=yda (T:=T) (i:=i) (F:=F) (by rw [ht];decide)
 have hx:∀ W,Rd W base rb v T en (i,F) cs→Calls Tryz.prog 115 #[.pointer (some ⟨rb,0,none⟩)] W fun e w'=>e=.returned (.string ⟨#[40]⟩)∧Below W.heap.size W w':=fun W hh=>by have:=ybn hh;rw [ht] at this;exact this
 have ih1:=fun W=>ih W (i+1,F)
 have hm0:((60 - f:Nat):Int)=((59 - f:Nat):Int)+1:=by omega
 have hm1:((59 - f:Nat):Int) < 60:=by omega
 have hm2:0≤((59 - f:Nat):Int):=by omega
 rw [hm0] at ih1
 have t1:∀ W,Rd W base rb v T en (ybO T f (i+1,F)).2 cs→Calls Tryz.prog 60 #[.pointer (some ⟨rb,0,none⟩),.string ⟨#[105,115]⟩] W fun e w'=>e=.returned (.bool true)∧Rd w' base rb v T en (ybG T w_is (ybO T f (i+1,F)).2).2 cs∧W.grownBy w' (some rb):=fun W hh=>by have:=ye9 hh w_is (by decide);rw [hb] at this;exact this
 have t2:∀ W,Rd W base rb v T en (ybG T w_is (ybO T f (i+1,F)).2).2 cs→Calls Tryz.prog 62 #[.pointer (some ⟨rb,0,none⟩),.string ⟨#[110,117,108,108]⟩] W fun e w'=>e=.returned (.tuple #[])∧Rd w' base rb v T en (yc4 T w_null (ybG T w_is (ybO T f (i+1,F)).2).2).2 cs∧W.grownBy w' (some rb):=fun W hh=>yej hh w_null (by decide)
 have t3:∀ W,Rd W base rb v T en (yc4 T w_null (ybG T w_is (ybO T f (i+1,F)).2).2).2 cs→Calls Tryz.prog 62 #[.pointer (some ⟨rb,0,none⟩),.string ⟨#[41]⟩] W fun e w'=>e=.returned (.tuple #[])∧Rd w' base rb v T en (yc4 T [41] (yc4 T w_null (ybG T w_is (ybO T f (i+1,F)).2).2).2).2 cs∧W.grownBy w' (some rb):=fun W hh=>yej hh [41] (by decide)
 generalize (yc4 T [41] (yc4 T w_null (ybG T w_is (ybO T f (i+1,F)).2).2).2).2=s4 at *
 generalize (yc4 T w_null (ybG T w_is (ybO T f (i+1,F)).2).2).2=s3 at *
 generalize (ybG T w_is (ybO T f (i+1,F)).2).2=s2 at *
 generalize ybO T f (i+1,F)=p at *
 generalize ((59 - f:Nat):Int)=m at *
 have hm3:(m == 60)=false:=by rw [beq_eq_false_iff_ne];omega
 clear h ih ht ex hm0 hf hb
 go_enter Tryz.func67,Tryz.ntmps67
 go_wp2_with (first|(refine yac 4 29 z29 rfl rfl rfl Tryz.alloc29 ?_;intro W0 eb heb k0 b0;have R0:=yae (H.out.below b0))|(go_at_call 115;refine (hx _ R0.out).mono ?_;rintro e w1 ⟨rfl,b1⟩;have R1:=yae (R0.out.below b1);have k1:=(b1.block eb (ltS k0)).trans k0;obtain ⟨⟨c0,c1,c2,c3⟩,f1,f3⟩:=rd4 R1.out.blk))
 refine (ih1 _ (yi0 R1.out hm)).mono ?_
 rintro e w3 ⟨⟨u,rfl,x3⟩,R3,g3⟩
 obtain ⟨k,x,nm,ao,na,ca,rfl⟩:=ExAt.form x3
 have hne:eb≠rb:=by have:=heb.out;omega
 have k2:=(heap_setCell_other w1 ⟨rb,1,none⟩ eb (.int .i64 ((i:Int)+1)) hne).trans k1
 have k3:=ybP g3 k2 hne
 have X3:=yae x3
 have HR3:=yae R3
 rw [ycU] at X3
 have hb3:=g3.size
 rw [ycU] at hb3
 have he1:=(ltS k1)
 have hr1:=R1.out.rb_lt
 unfold exV
 clear x3 R3
 go_wp2_with (first|(refine yac 7 29 z29 rfl rfl rfl Tryz.alloc29 ?_;intro w4 ab hab k4 b4)|(refine yab 29 _ _ rfl rfl ab z29 (exL k x nm (.slice ao na ca)) 29 rfl rfl (by exact k4) rfl Tryz.size29 (ycO _ _ _ _ _ _) ?_;intro w5 k5 p5;have B5:=yaU hab b4 p5;have R5:=yae (HR3.out.below B5);have X5:=yae (X3.out.under B5);have e5:=(B5.block eb (ltS k3)).trans k3;clear p5))
 have hane:ab≠rb:=by have:=hab.out;omega
 refine (t1 _ R5.out).mono ?_
 rintro e w6 ⟨rfl,R6,g6⟩
 go_wp2_with fail
 refine (t2 _ R6).mono ?_
 rintro e w7 ⟨rfl,R7,g7⟩
 go_wp2_with fail
 refine (t3 _ R7).mono ?_
 rintro e w8 ⟨rfl,R8,g8⟩
 have G:=yaa g6 (yaa g7 g8)
 have k8:=ybP G k5 hane
 have e8:=ybP G e5 hne
 have X8:=yae (X5.out.grown hr1 G)
 have HR8:=yae R8
 clear R6 R7 R8 g6 g7 g8
 go_wp2_with (first|(refine yaf 29 _ rfl rfl ab (exL k x nm (.slice ao na ca)) 29 _ rfl (by exact k8) Tryz.underlying29 rfl Tryz.size29 ?_)|(refine yab 29 _ _ rfl rfl eb z29 (exL 4 vl0 [] (.slice (some ⟨w8.heap.size,0,none⟩) 1 1)) 29 rfl rfl (by exact (yek _ (ltS e8)).trans e8) rfl Tryz.size29 (ycO _ _ _ _ _ _) ?_;intro w9 k9 p9))
 have hE:=heb.out
 have n1:(w8.alloc (.cells (exL k x nm (.slice ao na ca)).toArray 29)).heap[w8.heap.size]?=some (.cells (exL k x nm (.slice ao na ca)).toArray 29):=heap_alloc_new _ _
 have n6:w9.heap[w8.heap.size]?=some (.cells (exL k x nm (.slice ao na ca)).toArray 29):=by
  rw [p9.out]
  exact (yag eb _ _ 0 _ (by have:=(ltS e8);omega)).trans n1
 have x9:ExAt w1.heap.size w9 (exV k x nm (.slice ao na ca)) p.1:=by
  rw [p9.out]
  exact (X8.out.alloc _).putAll he1 0 _
 have b0s:=b0.size
 have b1s:=b1.size
 have b5s:=B5.size
 have gs:=G.size
 refine bodyPost_ret (yah Tryz.results67 _ _ eb _ 29 _ rfl k9 Tryz.underlying29 rfl Tryz.size29) rfl ⟨⟨_,rfl, ?_⟩,Rd.putNew p9 (HR8.out.below ((Below.refl _ _).alloc (Nat.le_refl _) _)) (by omega), ?_⟩
 ·exact (yi8 n6 (by omega) x9 4 1).weak (by omega)
 ·exact ybu p9 (yaa (yad b0 _) (yaa (yad b1 _) (yaa (yaw _ rb 1 _) (yaa g3 (yaa (yad B5 _) (yaa G (yad ((Below.refl _ _).alloc (Nat.le_refl _) _) _))))))) (by omega)
theorem ymJ {T:List Tk} {s s2:Sx} {K:Nat} (ho:yiz T s=(K,s2)) (hk:ycq (txS T s)≠0):(yc4 T (txS T s) s).2=s2:=by
 obtain ⟨j,G⟩:=s
 have hne:txS T (j,G)≠[]:=by intro e;rw [e] at hk;exact hk (by decide)
 obtain ⟨rfl,e3,-⟩:=yda hne
 unfold yiz at ho
 rw [if_neg hk] at ho
 rw [← (Prod.mk.inj ho).2]
 unfold yc4 ybG
 simp [e3]
theorem ypp {w:World} {base rb:Nat} {v:Value} {T:List Tk} {en:Int} {i:Nat} {F:Bool} {cs:List Value} (h:Rd w base rb v T en (i,F) cs) (f:Nat) (hf:f < 60) (ht:txS T (i,F)=[40])
  (ih:∀ (W:World) (s:Sx),Rd W base rb v T en s cs→Calls Tryz.prog 67 #[.pointer (some ⟨rb,0,none⟩),.int .i64 ((60 - f:Nat):Int)] W fun e w'=>ynH W base rb v T en (ybO T f s) cs e w')
  (p:Ex×Sx) (hp:ybO T f (i+1,F)=p) (hb:ybG T w_is p.2=(false,p.2)) (K:Nat) (s2:Sx) (ho:yiz T p.2=(K,s2)) (q:Ex×Sx) (hq:ybO T f s2=q) (s4:Sx) (hs4:(yc4 T [41] q.2).2=s4) :
  Calls Tryz.prog 67 #[.pointer (some ⟨rb,0,none⟩),.int .i64 ((59 - f:Nat):Int)] w fun e w'=>ynH w base rb v T en (.mk (K:Nat) vl0 [] [p.1,q.1],s4) cs e w':=by
 have H:=yae h
 have hlt:=h.rb_lt
 have hle:(i:Int)≤2000:=by have:=h.le;have:=h.few;simp only at *;omega
 obtain ⟨hF,ex,hm⟩:=yda (T:=T) (i:=i) (F:=F) (by rw [ht];decide)
 have hx:∀ W,Rd W base rb v T en (i,F) cs→Calls Tryz.prog 115 #[.pointer (some ⟨rb,0,none⟩)] W fun e w'=>e=.returned (.string ⟨#[40]⟩)∧Below W.heap.size W w':=fun W hh=>by have:=ybn hh;rw [ht] at this;exact this
 have ih1:=fun W=>ih W (i+1,F)
 have ih2:=fun W=>ih W s2
 have hm0:((60 - f:Nat):Int)=((59 - f:Nat):Int)+1:=by omega
 have hm1:((59 - f:Nat):Int) < 60:=by omega
 have hm2:0≤((59 - f:Nat):Int):=by omega
 rw [hm0,hp] at ih1
 rw [hm0,hq] at ih2
 have t1:∀ W,Rd W base rb v T en p.2 cs→Calls Tryz.prog 60 #[.pointer (some ⟨rb,0,none⟩),.string ⟨#[105,115]⟩] W fun e w'=>e=.returned (.bool false)∧Rd w' base rb v T en p.2 cs∧W.grownBy w' (some rb):=fun W hh=>by have:=ye9 hh w_is (by decide);rw [hb] at this;exact this
 have t2:∀ W,Rd W base rb v T en p.2 cs→Calls Tryz.prog 115 #[.pointer (some ⟨rb,0,none⟩)] W fun e w'=>e=.returned (.string ⟨(txS T p.2).toArray⟩)∧Below W.heap.size W w':=fun W hh=>ybn hh
 have t4:∀ W,Rd W base rb v T en q.2 cs→Calls Tryz.prog 62 #[.pointer (some ⟨rb,0,none⟩),.string ⟨#[41]⟩] W fun e w'=>e=.returned (.tuple #[])∧Rd w' base rb v T en s4 cs∧W.grownBy w' (some rb):=fun W hh=>by have:=yej hh [41] (by decide);rw [hs4] at this;exact this
 have HO:Hid (yiz T p.2=(K,s2)):=ho
 have t3:ycq (txS T p.2)≠0→∀ W,Rd W base rb v T en p.2 cs→Calls Tryz.prog 62 #[.pointer (some ⟨rb,0,none⟩),.string ⟨(txS T p.2).toArray⟩] W fun e w'=>e=.returned (.tuple #[])∧Rd w' base rb v T en s2 cs∧W.grownBy w' (some rb):=by
  intro hk W hh
  have hne:txS T p.2≠[]:=by intro e;rw [e] at hk;exact hk (by decide)
  have:=yej hh (txS T p.2) hne
  have e:(yc4 T (txS T p.2) p.2).2=s2:=ymJ HO.out hk
  rw [e] at this
  exact this
 have t5:ycq (txS T p.2)=0→K=0∧s2=(p.2.1,true):=by
  intro hk
  have e1:=HO.out
  unfold yiz at e1
  rw [if_pos hk] at e1
  exact ⟨(Prod.mk.inj e1).1.symm,(Prod.mk.inj e1).2.symm⟩
 have t6:ycq (txS T p.2)≠0→K=ycq (txS T p.2):=by
  intro hk
  have e1:=HO.out
  unfold yiz at e1
  rw [if_neg hk] at e1
  exact (Prod.mk.inj e1).1.symm
 have T3:=yae t3
 have T5:=yae t5
 have T6:=yae t6
 generalize ((59 - f:Nat):Int)=m at *
 generalize hT2:txS T p.2=t at *
 have hm3:(m == 60)=false:=by rw [beq_eq_false_iff_ne];omega
 clear h ih ht ex hm0 hf hb ho t3 t5 t6 hp hq hs4 HO hT2
 go_enter Tryz.func67,Tryz.ntmps67
 go_wp2_with (first|(refine yac 4 29 z29 rfl rfl rfl Tryz.alloc29 ?_;intro W0 eb heb k0 b0;have R0:=yae (H.out.below b0))|(go_at_call 115;refine (hx _ R0.out).mono ?_;rintro e w1 ⟨rfl,b1⟩;have R1:=yae (R0.out.below b1);have k1:=(b1.block eb (ltS k0)).trans k0;obtain ⟨⟨c0,c1,c2,c3⟩,f1,f3⟩:=rd4 R1.out.blk))
 refine (ih1 _ (yi0 R1.out hm)).mono ?_
 rintro e w3 ⟨⟨u,rfl,x3⟩,R3,g3⟩
 obtain ⟨k,x,nm,ao,na,ca,rfl⟩:=ExAt.form x3
 have hne:eb≠rb:=by have:=heb.out;omega
 have k2:=(heap_setCell_other w1 ⟨rb,1,none⟩ eb (.int .i64 ((i:Int)+1)) hne).trans k1
 have k3:=ybP g3 k2 hne
 have X3:=yae x3
 have HR3:=yae R3
 rw [ycU] at X3
 have hb3:=g3.size
 rw [ycU] at hb3
 have he1:=(ltS k1)
 have hr1:=R1.out.rb_lt
 unfold exV
 clear x3 R3
 go_wp2_with (first|(refine yac 7 29 z29 rfl rfl rfl Tryz.alloc29 ?_;intro w4 ab hab k4 b4)|(refine yab 29 _ _ rfl rfl ab z29 (exL k x nm (.slice ao na ca)) 29 rfl rfl (by exact k4) rfl Tryz.size29 (ycO _ _ _ _ _ _) ?_;intro w5 k5 p5;have B5:=yaU hab b4 p5;have R5:=yae (HR3.out.below B5);have X5:=yae (X3.out.under B5);have e5:=(B5.block eb (ltS k3)).trans k3;clear p5))
 have hane:ab≠rb:=by have:=hab.out;omega
 refine (t1 _ R5.out).mono ?_
 rintro e w6 ⟨rfl,R6,g6⟩
 have k6:=ybP g6 k5 hane
 have e6:=ybP g6 e5 hne
 have X6:=yae (X5.out.grown hr1 g6)
 have HR6:=yae R6
 have G6:w.grownBy w6 (some rb):=yaa (yad b0 _) (yaa (yad b1 _) (yaa (yaw _ rb 1 _) (yaa g3 (yaa (yad B5 _) g6))))
 have hw6:w1.heap.size≤w6.heap.size:=Nat.le_trans hb3 (Nat.le_trans B5.size g6.size)
 obtain ⟨wX,hX⟩:∃ wX,wX=w6.alloc (.cells (ops7.map fun x=>Value.string ⟨x.toArray⟩).toArray 9):=⟨_,rfl⟩
 have bX:Below w6.heap.size w6 wX:=by rw [hX];exact (Below.refl _ _).alloc (Nat.le_refl _) _
 have cX:∀ j op,ops7[j]?=some op→wX.cell? ⟨w6.heap.size,j,none⟩=some (.string ⟨op.toArray⟩):=by
  intro j op hj
  rw [hX]
  refine (Lib.cell_of_heap (heap_alloc_new w6 (.cells (ops7.map fun x=>Value.string ⟨x.toArray⟩).toArray 9)) j).trans ?_
  simp [hj]
 have lX:w6.heap.size < wX.heap.size:=by rw [hX];simp
 have HX:=yae hX
 have CX:=yae cX
 clear R6 g6 k3 k2 k1 k0 hX cX
 go_wp2
 go_loopw [8,10] (fun kd n wl=>∃ a:Nat,a≤7∧n=.int .i64 a∧kd=.int .i64 (yeZ t a:Nat)∧Below wX.heap.size wX wl) (fun _ n _=>7 - (intOf n).toNat)
 case atStart =>
  refine ⟨0,by decide,rfl, ?_,by rw [HX.out];exact Below.refl _ _⟩
  have:yeZ t 0=0:=by unfold yeZ;rcases ygD t with h|h;rw [h];rfl;rw [if_neg (by omega)]
  rw [this];rfl
 case round =>
  obtain ⟨a,ha,rfl,rfl,hnx⟩:=hrel
  by_cases hlt7:a < 7
  ·obtain ⟨op,hop⟩:∃ op,ops7[a]?=some op:=⟨ops7[a]'(by simpa [ops7] using hlt7),List.getElem?_eq_getElem _⟩
   have c0:=(hnx.cell (p:=⟨w6.heap.size,a,none⟩) lX).trans (CX.out a op hop)
   have HP:=yae hop
   have hlt':(a:Int) < 7:=by omega
   have tt:∀ W,Below wX.heap.size wX W→Calls Tryz.prog 115 #[.pointer (some ⟨rb,0,none⟩)] W fun e w'=>e=.returned (.string ⟨t.toArray⟩)∧Below W.heap.size W w':=fun W hW=>t2 W ((HR6.out.below bX).below hW)
   clear hop
   by_cases he:t=op
   ·have hs:=yni HP.out he
    have HS:=yae hs
    subst he
    generalize yeZ t a=sa at *
    clear hs
    go_wp2_with fail
    go_region_held3 (fun w'=>w'.cell? ⟨w6.heap.size,a,none⟩=some (.string ⟨t.toArray⟩)∧Below wX.heap.size wX w') (first|exact ⟨c0,hnx.drew⟩|exact ysP lX (by assumption) (by assumption)) (first|(go_at_call 115;refine (tt _ (ofT (by assumption))).mono ?_;rintro e w' ⟨rfl,hb⟩))
    rename_i hH
    have q8:=hH.2
    clear hH
    go_wp2
    go_roundw
    case rel=>exact ⟨a+1,by omega,by go_num,by rw [HS.out];go_num,q8⟩
    case measure=>simp [intOf];omega
   ·have hs:=ypw HP.out he
    have HS:=yae hs
    have hq:(t == op)=false:=by simpa using he
    generalize yeZ t a=sa at *
    clear hs he
    go_wp2_with fail
    go_region_held3 (fun w'=>w'.cell? ⟨w6.heap.size,a,none⟩=some (.string ⟨op.toArray⟩)∧Below wX.heap.size wX w') (first|exact ⟨c0,hnx.drew⟩|exact ysP lX (by assumption) (by assumption)) (first|(go_at_call 115;refine (tt _ (ofT (by assumption))).mono ?_;rintro e w' ⟨rfl,hb⟩))
    rename_i hH
    have q8:=hH.2
    clear hH
    go_wp2
    go_roundw
    case rel=>exact ⟨a+1,by omega,by go_num,by rw [HS.out],q8⟩
    case measure=>simp [intOf];omega
  ·have ha7:a=7:=by omega
   subst ha7
   have hs:yeZ t 7=ycq t:=by unfold yeZ;rw [if_pos (by rcases ygD t with h|h <;> omega)]
   rw [hs]
   have kX:=(bX.block ab (ltS k6)).trans k6
   have eX:=(bX.block eb (ltS e6)).trans e6
   have kX:=(hnx.block ab (ltS kX)).trans kX
   have eX:=(hnx.block eb (ltS eX)).trans eX
   have XX:=yae ((X6.out.under bX).under hnx)
   have RX:=yae ((HR6.out.below bX).below hnx)
   have GX:w.grownBy wr (some rb):=yaa G6 (yaa (yad bX _) (yad hnx _))
   have sX:w1.heap.size≤wr.heap.size:=Nat.le_trans hw6 (Nat.le_trans bX.size hnx.size)
   clear hs k6 e6 X6
   by_cases hK:ycq t=0
   ·obtain ⟨rfl,rfl⟩:=T5.out hK
    rw [hK]
    obtain ⟨⟨c0,c1,c2,c3⟩,f1,f3⟩:=rd4 RX.out.blk
    have RF:=yae (show Rd (wr.setCell ⟨rb,3,none⟩ (.bool true)) base rb v T en (p.2.1,true) cs from Rd.fail (i:=p.2.1) (F:=p.2.2) RX.out)
    clear T3 T5 T6 CX HX hK
    go_wp2_with fail
    refine (ih2 _ RF.out).mono ?_
    rintro e wE ⟨⟨u',rfl,xE⟩,RE,gE⟩
    obtain ⟨k',x',nm',ao',na',ca',rfl⟩:=ExAt.form xE
    have XE:=yae xE
    have HRE:=yae RE
    have gXE:=yaa (yaw wr rb 3 (.bool true)) gE
    have kE:=ybP gXE kX hane
    have eE:=ybP gXE eX hne
    have X1:=yae (XX.out.grown hr1 gXE)
    have sE:=gXE.size
    rw [ycU] at XE
    unfold exV
    clear xE RE
    go_wp2_with (first|(refine yac 11 29 z29 rfl rfl rfl Tryz.alloc29 ?_;intro w10 bb hbb k10 b10)|(refine yab 29 _ _ rfl rfl bb z29 (exL k' x' nm' (.slice ao' na' ca')) 29 rfl rfl (by exact k10) rfl Tryz.size29 (ycO _ _ _ _ _ _) ?_;intro w11 k11 p11;have B11:=yaU hbb b10 p11;have R11:=yae (HRE.out.below B11);have Y11:=yae (XE.out.under B11);have X11:=yae (X1.out.under B11);have e11:=(B11.block eb (ltS eE)).trans eE;have a11:=(B11.block ab (ltS kE)).trans kE;clear p11))
    have hbne:bb≠rb:=by have:=hbb.out;omega
    refine (t4 _ R11.out).mono ?_
    rintro e w12 ⟨rfl,R12,g12⟩
    have k12:=ybP g12 k11 hbne
    have e12:=ybP g12 e11 hne
    have a12:=ybP g12 a11 hane
    have Y12:=yae (Y11.out.grown (by omega) g12)
    have X12:=yae (X11.out.grown hr1 g12)
    have HR12:=yae R12
    clear R12
    go_wp2_with (first|(refine yaf 29 _ rfl rfl ab (exL k x nm (.slice ao na ca)) 29 _ rfl (by exact a12) Tryz.underlying29 rfl Tryz.size29 ?_)|(refine yaf 29 _ rfl rfl bb (exL k' x' nm' (.slice ao' na' ca')) 29 _ rfl (by exact k12) Tryz.underlying29 rfl Tryz.size29 ?_)|(refine yab 29 _ _ rfl rfl eb z29 (exL 0 vl0 [] (.slice (some ⟨w12.heap.size,0,none⟩) 2 2)) 29 rfl rfl (by exact (yek _ (ltS e12)).trans e12) rfl Tryz.size29 (ycO _ _ _ _ _ _) ?_;intro w13 k13 p13))
    have hE:=heb.out
    have n1:(w12.alloc (.cells (exL k x nm (.slice ao na ca)++exL k' x' nm' (.slice ao' na' ca')).toArray 29)).heap[w12.heap.size]?=some (.cells (exL k x nm (.slice ao na ca)++exL k' x' nm' (.slice ao' na' ca')).toArray 29):=heap_alloc_new _ _
    have n6:w13.heap[w12.heap.size]?=some (.cells (exL k x nm (.slice ao na ca)++exL k' x' nm' (.slice ao' na' ca')).toArray 29):=by
     rw [p13.out]
     exact (yag eb _ _ 0 _ (by have:=(ltS e12);omega)).trans n1
    have x13:ExAt w1.heap.size w13 (exV k x nm (.slice ao na ca)) p.1:=by
     rw [p13.out]
     exact (X12.out.alloc _).putAll he1 0 _
    have y13:ExAt w1.heap.size w13 (exV k' x' nm' (.slice ao' na' ca')) q.1:=by
     rw [p13.out]
     exact ((Y12.out.weak (by omega)).alloc _).putAll he1 0 _
    have b0s:=b0.size
    have b1s:=b1.size
    have b11s:=B11.size
    have gs:=g12.size
    refine bodyPost_ret (yah Tryz.results67 _ _ eb _ 29 _ rfl k13 Tryz.underlying29 rfl Tryz.size29) rfl ⟨⟨_,rfl, ?_⟩,Rd.putNew p13 (HR12.out.below ((Below.refl _ _).alloc (Nat.le_refl _) _)) (by omega), ?_⟩
    ·exact (ylq n6 (by omega) x13 y13 0 2).weak (by omega)
    ·exact ybu p13 (yaa GX (yaa gXE (yaa (yad B11 _) (yaa g12 (yad ((Below.refl _ _).alloc (Nat.le_refl _) _) _))))) (by omega)
   ·have hk:=ygD t
    have T3:=T3.out hK
    have hKK:=T6.out hK
    have cK:wr.cell? ⟨w6.heap.size,ycq t - 5,none⟩=some (.string ⟨t.toArray⟩):=by
     obtain ⟨op,hop⟩:∃ op,ops7[ycq t - 5]?=some op:=⟨ops7[ycq t - 5]'(by simp [ops7];omega),List.getElem?_eq_getElem _⟩
     have:t=op:=(ygE t (ycq t - 5) op hop).2 (by omega)
     rw [← this] at hop
     exact (hnx.cell (p:=⟨w6.heap.size,ycq t - 5,none⟩) lX).trans (CX.out _ _ hop)
    have hK5:(5:Int)≤(ycq t:Nat):=by omega
    have hK11:((ycq t:Nat):Int)≤11:=by omega
    have hK0:(((ycq t:Nat):Int) == 0)=false:=by rw [beq_eq_false_iff_ne];omega
    have hKs:(((ycq t:Nat):Int) - 5).toNat=ycq t - 5:=by omega
    have cK2:=cK
    rw [← hKs] at cK
    rw [← hKK] at *
    clear T5 T6 CX HX hK hk hKK hKs
    go_wp2_with fail
    refine (T3 _ RX.out).mono ?_
    rintro e wN ⟨rfl,RN,gN⟩
    go_wp2_with fail
    refine (ih2 _ RN).mono ?_
    rintro e wE ⟨⟨u',rfl,xE⟩,RE,gE⟩
    obtain ⟨k',x',nm',ao',na',ca',rfl⟩:=ExAt.form xE
    have XE:=yae xE
    have HRE:=yae RE
    have gXE:=yaa gN gE
    have kE:=ybP gXE kX hane
    have eE:=ybP gXE eX hne
    have X1:=yae (XX.out.grown hr1 gXE)
    have sE:=gXE.size
    have sN:=gN.size
    unfold exV
    clear xE RE
    go_wp2_with (first|(refine yac 11 29 z29 rfl rfl rfl Tryz.alloc29 ?_;intro w10 bb hbb k10 b10)|(refine yab 29 _ _ rfl rfl bb z29 (exL k' x' nm' (.slice ao' na' ca')) 29 rfl rfl (by exact k10) rfl Tryz.size29 (ycO _ _ _ _ _ _) ?_;intro w11 k11 p11;have B11:=yaU hbb b10 p11;have R11:=yae (HRE.out.below B11);have Y11:=yae (XE.out.under B11);have X11:=yae (X1.out.under B11);have e11:=(B11.block eb (ltS eE)).trans eE;have a11:=(B11.block ab (ltS kE)).trans kE;clear p11))
    have hbne:bb≠rb:=by have:=hbb.out;omega
    refine (t4 _ R11.out).mono ?_
    rintro e w12 ⟨rfl,R12,g12⟩
    have k12:=ybP g12 k11 hbne
    have e12:=ybP g12 e11 hne
    have a12:=ybP g12 a11 hane
    have Y12:=yae (Y11.out.grown (by omega) g12)
    have X12:=yae (X11.out.grown hr1 g12)
    have HR12:=yae R12
    clear R12
    go_wp2_with (first|(refine yaf 29 _ rfl rfl ab (exL k x nm (.slice ao na ca)) 29 _ rfl (by exact a12) Tryz.underlying29 rfl Tryz.size29 ?_)|(refine yaf 29 _ rfl rfl bb (exL k' x' nm' (.slice ao' na' ca')) 29 _ rfl (by exact k12) Tryz.underlying29 rfl Tryz.size29 ?_)|(refine yab 29 _ _ rfl rfl eb z29 (exL (K:Nat) vl0 [] (.slice (some ⟨w12.heap.size,0,none⟩) 2 2)) 29 rfl rfl (by exact (yek _ (ltS e12)).trans e12) rfl Tryz.size29 (ycO _ _ _ _ _ _) ?_;intro w13 k13 p13))
    have hE:=heb.out
    have n1:(w12.alloc (.cells (exL k x nm (.slice ao na ca)++exL k' x' nm' (.slice ao' na' ca')).toArray 29)).heap[w12.heap.size]?=some (.cells (exL k x nm (.slice ao na ca)++exL k' x' nm' (.slice ao' na' ca')).toArray 29):=heap_alloc_new _ _
    have n6:w13.heap[w12.heap.size]?=some (.cells (exL k x nm (.slice ao na ca)++exL k' x' nm' (.slice ao' na' ca')).toArray 29):=by
     rw [p13.out]
     exact (yag eb _ _ 0 _ (by have:=(ltS e12);omega)).trans n1
    have x13:ExAt w1.heap.size w13 (exV k x nm (.slice ao na ca)) p.1:=by
     rw [p13.out]
     exact (X12.out.alloc _).putAll he1 0 _
    have y13:ExAt w1.heap.size w13 (exV k' x' nm' (.slice ao' na' ca')) q.1:=by
     rw [p13.out]
     exact ((Y12.out.weak (by omega)).alloc _).putAll he1 0 _
    have b0s:=b0.size
    have b1s:=b1.size
    have b11s:=B11.size
    have gs:=g12.size
    refine bodyPost_ret (yah Tryz.results67 _ _ eb _ 29 _ rfl k13 Tryz.underlying29 rfl Tryz.size29) rfl ⟨⟨_,rfl, ?_⟩,Rd.putNew p13 (HR12.out.below ((Below.refl _ _).alloc (Nat.le_refl _) _)) (by omega), ?_⟩
    ·exact (ylq n6 (by omega) x13 y13 (K:Nat) 2).weak (by omega)
    ·exact ybu p13 (yaa GX (yaa gXE (yaa (yad B11 _) (yaa g12 (yad ((Below.refl _ _).alloc (Nat.le_refl _) _) _))))) (by omega)
theorem ypn {base rb:Nat} {v:Value} {T:List Tk} {en:Int} {cs:List Value} (f:Nat):∀ (_:f≤60) (w:World) (s:Sx),Rd w base rb v T en s cs →
  Calls Tryz.prog 67 #[.pointer (some ⟨rb,0,none⟩),.int .i64 ((60 - f:Nat):Int)] w fun e w'=>ynH w base rb v T en (ybO T f s) cs e w':=by
 induction f with
 | zero =>
  intro _ w s h
  obtain ⟨i,F⟩:=s
  rw [ybO]
  by_cases h1:txS T (i,F)=[40]∨txS T (i,F)=w_not
  ·rw [if_pos h1]
   exact ymV h h1
  ·rw [if_neg h1]
   rw [not_or] at h1
   cases hV:yfn (txS T (i,F)) with
   | true=>rw [if_pos rfl];exact yjr h _ h1.1 h1.2 hV
   | false=>rw [if_neg (by simp)];exact yjq h _ h1.1 h1.2 hV
 | succ f ih =>
  intro hf w s h
  obtain ⟨i,F⟩:=s
  have ih:=fun W s=>ih (by omega) W s
  have e:((60 - (f+1):Nat):Int)=((59 - f:Nat):Int):=by omega
  rw [e]
  by_cases h1:txS T (i,F)=w_not
  ·exact ypo h f (by omega) h1 ih
  by_cases h2:txS T (i,F)=[40]
  ·rw [ybO,if_neg h1,if_pos h2]
   unfold thenS ylo
   cases hb:(ybG T w_is (ybO T f (i+1,F)).2).1 with
   | true =>
    simp only [hb,if_true]
    exact ymW h f (by omega) h2 ih hb
   | false =>
    simp only [hb,Bool.false_eq_true,if_false]
    have hb2:ybG T w_is (ybO T f (i+1,F)).2=(false,(ybO T f (i+1,F)).2):=by
     revert hb
     unfold ybG
     split
     ·intro hb;cases hb
     ·intro _;rfl
    exact ypp h f (by omega) h2 ih _ rfl hb2 _ _ rfl _ rfl _ rfl
  ·rw [ybO,if_neg h1,if_neg h2]
   cases hV:yfn (txS T (i,F)) with
   | true=>rw [if_pos rfl];exact yjr h _ h2 h1 hV
   | false=>rw [if_neg (by simp)];exact yjq h _ h2 h1 hV
def RdC (w:World) (base rb:Nat) (v:Value) (T:List Tk) (en:Int) (L:Value×Value×Value) (s:Sx) (c:Cm):Prop :=
 ∃ ea wa,Rd w base rb v T en s (cmL c L.1 L.2.1 L.2.2 ea wa)∧CmIn (rb+1) w c L.1 L.2.1 L.2.2 ea wa
theorem RdC.rb_lt {w:World} {base rb:Nat} {v:Value} {T:List Tk} {en:Int} {L:Value×Value×Value} {s:Sx} {c:Cm} (h:RdC w base rb v T en L s c):rb < w.heap.size:=by
 obtain ⟨ea,wa,h1,h2⟩:=h
 exact h1.rb_lt
theorem ygB {w:World} {base rb:Nat} {v:Value} {T:List Tk} {en:Int} {L:Value×Value×Value} {s:Sx} {c:Cm} {f:Nat} {args:Array Value} {s':Sx} {Q:Ending→World→Prop} (h:RdC w base rb v T en L s c)
  (k:∀ cs,Rd w base rb v T en s cs→Calls Tryz.prog f args w fun e w'=>Q e w'∧Rd w' base rb v T en s' cs∧w.grownBy w' (some rb)) :
  Calls Tryz.prog f args w fun e w'=>Q e w'∧RdC w' base rb v T en L s' c∧w.grownBy w' (some rb):=by
 obtain ⟨ea,wa,h1,h2⟩:=h
 refine (k _ h1).mono ?_
 rintro e w' ⟨hq,hr,hg⟩
 exact ⟨hq,⟨ea,wa,hr,h2.grown (Nat.lt_succ_self rb) hg⟩,hg⟩
theorem ysV {w:World} {base rb:Nat} {v:Value} {T:List Tk} {en:Int} {L:Value×Value×Value} {s:Sx} {c:Cm} {s':Sx} (h:RdC w base rb v T en L s c) (W:List UInt8) (hW:W≠[]) (e:yc4 T W s=((),s')) :
  Calls Tryz.prog 62 #[.pointer (some ⟨rb,0,none⟩),.string ⟨W.toArray⟩] w fun e w'=>e=.returned (.tuple #[])∧RdC w' base rb v T en L s' c∧w.grownBy w' (some rb) :=
 ygB h fun cs hr=>by have:=yej hr W hW;rw [e] at this;exact this
theorem yhK {w:World} {base rb:Nat} {v:Value} {T:List Tk} {en:Int} {L:Value×Value×Value} {s:Sx} {c:Cm} {b:Bool} {s':Sx} (h:RdC w base rb v T en L s c) (W:List UInt8) (hW:W≠[]) (e:ybG T W s=(b,s')) :
  Calls Tryz.prog 60 #[.pointer (some ⟨rb,0,none⟩),.string ⟨W.toArray⟩] w fun e w'=>e=.returned (.bool b)∧RdC w' base rb v T en L s' c∧w.grownBy w' (some rb) :=
 ygB h fun cs hr=>by have:=ye9 hr W hW;rw [e] at this;exact this
theorem ysU {w:World} {base rb:Nat} {v:Value} {T:List Tk} {en:Int} {L:Value×Value×Value} {s:Sx} {c:Cm} {n:List UInt8} {s':Sx} (h:RdC w base rb v T en L s c) (e:yd5 T s=(n,s')) :
  Calls Tryz.prog 63 #[.pointer (some ⟨rb,0,none⟩)] w fun e w'=>e=.returned (.string ⟨n.toArray⟩)∧RdC w' base rb v T en L s' c∧w.grownBy w' (some rb) :=
 ygB h fun cs hr=>by have:=ymY hr;rw [e] at this;exact this
theorem yuF {w:World} {base rb:Nat} {v:Value} {T:List Tk} {en:Int} {L:Value×Value×Value} {s:Sx} {c:Cm} {x:Ex} {s':Sx} (h:RdC w base rb v T en L s c) (e:ybO T 60 s=(x,s')) :
  Calls Tryz.prog 67 #[.pointer (some ⟨rb,0,none⟩),.int .i64 0] w fun e w'=>(∃ a,e=.returned (.agg (exL x.k x.v x.nm a).toArray)∧ExAt w.heap.size w' (exV x.k x.v x.nm a) x)∧RdC w' base rb v T en L s' c∧w.grownBy w' (some rb) :=
 ygB h fun cs hr=>by
  have:=ypn (T:=T) (cs:=cs) 60 (Nat.le_refl _) w s hr
  rw [e] at this
  refine this.mono ?_
  rintro e w' ⟨⟨u,rfl,hu⟩,hr,hg⟩
  obtain ⟨k,y,nm,ao,n,ca,rfl⟩:=hu.form
  obtain ⟨rfl,rfl,rfl⟩:=hu.parts
  exact ⟨⟨_,rfl,hu⟩,hr,hg⟩
theorem ykR {T:List Tk} {W:List UInt8} {s s':Sx} (h:ybG T W s=(false,s')):s'=s:=by
 revert h
 unfold ybG
 split
 ·intro h;cases h
 ·intro h;cases h;rfl
theorem Rd.field {w:World} {base rb:Nat} {v:Value} {T:List Tk} {en:Int} {s:Sx} {cs:List Value} (h:Rd w base rb v T en s cs) (k:Nat) (x:Value):Rd (w.setCell ⟨rb,4+k,none⟩ x) base rb v T en s (cs.set k x):=by
 refine ⟨?_,h.own.kept (yaw w rb _ _) (.inr h.ne),h.lt,h.le,h.few,h.toks,h.ist⟩
 have:=heap_setCell_same _ rb (4+k) _ 50 x h.blk
 rw [this]
 rw [show 4+k=k+1+1+1+1 by omega]
 simp
theorem ypx {w:World} {base rb:Nat} {v:Value} {T:List Tk} {en:Int} {L:Value×Value×Value} {s:Sx} {c:Cm} (h:RdC w base rb v T en L s c) (n:Int):RdC (w.setCell ⟨rb,4,none⟩ (.int .i64 n)) base rb v T en L s { c with kind:=n }:=by
 obtain ⟨ea,wa,h1,h2⟩:=h
 have q:=h2.put (Nat.lt_succ_self rb) 4 (.int .i64 n)
 exact ⟨ea,wa,h1.field 0 (.int .i64 n),⟨q.cols,q.vals,q.fields,q.expr,q.wh⟩⟩
theorem yn2 {w:World} {base rb:Nat} {v:Value} {T:List Tk} {en:Int} {L:Value×Value×Value} {s:Sx} {c:Cm} (h:RdC w base rb v T en L s c):(∃ x,w.cell? ⟨rb,4,none⟩=some x)∧w.frozen? ⟨rb,4,none⟩=false:=by
 obtain ⟨ea,wa,h1,h2⟩:=h
 exact ⟨⟨_,(Lib.cell_of_heap h1.blk _).trans rfl⟩,Lib.frozen_of_heap h1.blk _⟩
theorem ypy {w:World} {base rb:Nat} {v:Value} {T:List Tk} {en:Int} {L:Value×Value×Value} {s:Sx} {c:Cm} (h:RdC w base rb v T en L s c) (n:List UInt8):RdC (w.setCell ⟨rb,5,none⟩ (.string ⟨n.toArray⟩)) base rb v T en L s { c with name:=n }:=by
 obtain ⟨ea,wa,h1,h2⟩:=h
 have q:=h2.put (Nat.lt_succ_self rb) 5 (.string ⟨n.toArray⟩)
 exact ⟨ea,wa,h1.field 1 (.string ⟨n.toArray⟩),⟨q.cols,q.vals,q.fields,q.expr,q.wh⟩⟩
theorem yn3 {w:World} {base rb:Nat} {v:Value} {T:List Tk} {en:Int} {L:Value×Value×Value} {s:Sx} {c:Cm} (h:RdC w base rb v T en L s c):(∃ x,w.cell? ⟨rb,5,none⟩=some x)∧w.frozen? ⟨rb,5,none⟩=false:=by
 obtain ⟨ea,wa,h1,h2⟩:=h
 exact ⟨⟨_,(Lib.cell_of_heap h1.blk _).trans rfl⟩,Lib.frozen_of_heap h1.blk _⟩
theorem ykK {w:World} {base rb:Nat} {v:Value} {T:List Tk} {en:Int} {L:Value×Value×Value} {s:Sx} {c:Cm} (h:RdC w base rb v T en L s c) (n:List UInt8):RdC (w.setCell ⟨rb,7,none⟩ (.string ⟨n.toArray⟩)) base rb v T en L s { c with column:=n }:=by
 obtain ⟨ea,wa,h1,h2⟩:=h
 have q:=h2.put (Nat.lt_succ_self rb) 7 (.string ⟨n.toArray⟩)
 exact ⟨ea,wa,h1.field 3 (.string ⟨n.toArray⟩),⟨q.cols,q.vals,q.fields,q.expr,q.wh⟩⟩
theorem yjX {w:World} {base rb:Nat} {v:Value} {T:List Tk} {en:Int} {L:Value×Value×Value} {s:Sx} {c:Cm} (h:RdC w base rb v T en L s c):(∃ x,w.cell? ⟨rb,7,none⟩=some x)∧w.frozen? ⟨rb,7,none⟩=false:=by
 obtain ⟨ea,wa,h1,h2⟩:=h
 exact ⟨⟨_,(Lib.cell_of_heap h1.blk _).trans rfl⟩,Lib.frozen_of_heap h1.blk _⟩
theorem ynk {w:World} {base rb:Nat} {v:Value} {T:List Tk} {en:Int} {L:Value×Value×Value} {s:Sx} {c:Cm} (h:RdC w base rb v T en L s c) (n:Bool):RdC (w.setCell ⟨rb,21,none⟩ (.bool n)) base rb v T en L s { c with all:=n }:=by
 obtain ⟨ea,wa,h1,h2⟩:=h
 have q:=h2.put (Nat.lt_succ_self rb) 21 (.bool n)
 exact ⟨ea,wa,h1.field 17 (.bool n),⟨q.cols,q.vals,q.fields,q.expr,q.wh⟩⟩
theorem ylv {w:World} {base rb:Nat} {v:Value} {T:List Tk} {en:Int} {L:Value×Value×Value} {s:Sx} {c:Cm} (h:RdC w base rb v T en L s c):(∃ x,w.cell? ⟨rb,21,none⟩=some x)∧w.frozen? ⟨rb,21,none⟩=false:=by
 obtain ⟨ea,wa,h1,h2⟩:=h
 exact ⟨⟨_,(Lib.cell_of_heap h1.blk _).trans rfl⟩,Lib.frozen_of_heap h1.blk _⟩
end Go.Proofs.YtkpeklealgicpabGreatDoor
