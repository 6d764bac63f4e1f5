/-
  The printer: two with an operator between.
  The printer's expr, whole.
  CheckCmd of the document: what is set.
  CheckCmd of the document: its first regions.
  CheckCmd of the document: Type and Value.
  CheckCmd of the document: how many of each.
  CheckCmd of the document: columns.
  CheckCmd of the document: values.
  CheckCmd of the document: fields.
-/
import Derived.Test.YtkpeklealgicpabGreatDoorQa
import Derived.Test.YtkpeklealgicpabGreatDoorQg
import Derived.Test.YtkpeklealgicpabGreatDoorQh
import Derived.Test.YtkpeklealgicpabGreatDoorQi

set_option maxRecDepth 100000
set_option maxHeartbeats 8000000
namespace Go.Proofs.YtkpeklealgicpabGreatDoor
open Go.RowKit
theorem ymN {B b:Nat} {Tb:World→Prop} {w0:World} (k:ItoaOk B Tb) (hw:w0.heap.size≤B) (m:Int) (hm:5≤m∧m≤11) (hop:atL ya0 m≠[]) (x y:Ex) (ihx:PE B b Tb w0 x) (ihy:PE B b Tb w0 y):PE B b Tb w0 (.mk m vl0 [] [x,y]):=by
 intro u hu ws W hS hlen
 obtain ⟨ao,ca,us,rfl,h1⟩:=hu.spread
 obtain ⟨g,o,rfl,-,hg,hc,hx⟩:=h1 (by simp [Ex.args])
 obtain ⟨ky,vy,ny,ay,ey,t0,t1,t2,t3,t4,t5⟩:=hc 0 (by simp [Ex.args])
 obtain ⟨kz,vz,nz,az,ez,r0,r1,r2,r3,r4,r5⟩:=hc 1 (by simp [Ex.args])
 simp only [Nat.mul_zero,Nat.add_zero,Nat.mul_one] at t0 t1 t2 t3 t4 t5 r0 r1 r2 r3 r4 r5
 have hx0:=hx 0 x rfl
 have hx1:=hx 1 y rfl
 have ew:yat (.mk m vl0 [] [x,y])=[[40]]++(yat x++([atL ya0 m]++(yat y++[[41]]))):=by
  have e1:¬ m=1:=by omega
  have e2:¬ m=2:=by omega
  have e3:¬ m=3:=by omega
  have e4:¬ m=4:=by omega
  simp [yat,ydc,e1,e2,e3,e4]
 rw [ew] at hlen ⊢
 have L:∀ p q:List (List UInt8),p++q=ws++([[40]]++(yat x++([atL ya0 m]++(yat y++[[41]]))))→(yaz p).length≤1000000:=fun p q e=>Nat.le_trans (yaM p q) (by rw [e];exact hlen)
 have hp:=yae (ycP k hS (.cells #[.int .i64 m,.int .i64 0,.int .i64 0,.string ⟨#[]⟩,.string ⟨#[]⟩,.slice (some ⟨g,o,none⟩) 2 ca] 29) [[40]] 1 #[.string ⟨#[40]⟩] rfl rfl (by intro x hx;simp at hx;subst hx;decide) (L _ (yat x++([atL ya0 m]++(yat y++[[41]]))) (by simp only [List.append_assoc])) (by decide))
 have hr:∀ w1,PSt B b Tb w0 (ws++[[40]]) w1→Calls Tryz.prog 101 #[.pointer (some ⟨b,0,none⟩),us 0] w1 (ybb B b Tb w0 (ws++[[40]]++yat x) w1):=fun w1 h1=>ihx _ hx0 (ws++[[40]]) w1 h1 (L _ ([atL ya0 m]++(yat y++[[41]])) (by simp only [List.append_assoc]))
 have hf:∀ w2,PSt B b Tb w0 (ws++[[40]]++yat x) w2→Calls Tryz.prog 94 #[.pointer (some ⟨b,0,none⟩),.slice (some ⟨w2.heap.size,0,none⟩) 1 1] (w2.alloc (.cells #[.string ⟨(atL ya0 m).toArray⟩] 9)) (ybb B b Tb w0 (ws++[[40]]++yat x++[atL ya0 m]) w2) :=
  fun w2 h2=>ycb k h2 [atL ya0 m] 1 #[.string ⟨(atL ya0 m).toArray⟩] rfl rfl (by intro x hx;simp at hx;subst hx;exact hop) (L _ (yat y++[[41]]) (by simp only [List.append_assoc])) (by decide)
 have hs:∀ w4,PSt B b Tb w0 (ws++[[40]]++yat x++[atL ya0 m]) w4→Calls Tryz.prog 101 #[.pointer (some ⟨b,0,none⟩),us 1] w4 (ybb B b Tb w0 (ws++[[40]]++yat x++[atL ya0 m]++yat y) w4):=fun w4 h4=>ihy _ hx1 _ w4 h4 (L _ [[41]] (by simp only [List.append_assoc]))
 have hz:∀ w5,PSt B b Tb w0 (ws++[[40]]++yat x++[atL ya0 m]++yat y) w5→Calls Tryz.prog 94 #[.pointer (some ⟨b,0,none⟩),.slice (some ⟨w5.heap.size,0,none⟩) 1 1] (w5.alloc (.cells #[.string ⟨#[41]⟩] 9)) (ybb B b Tb w0 (ws++([[40]]++(yat x++([atL ya0 m]++(yat y++[[41]]))))) w5):=by
  intro w5 h5
  have:=ycb k h5 [[41]] 1 #[.string ⟨#[41]⟩] rfl rfl (by intro x hx;simp at hx;subst hx;decide) (L _ [] (by simp only [List.append_assoc,List.append_nil])) (by decide)
  simp only [List.append_assoc] at this
  exact this
 rw [ey] at hr
 rw [ez] at hs
 have hop2:=fun W=>yd0 m W
 have K:=yae k
 have HR:=yae hr
 have HF:=yae hf
 have HSS:=yae hs
 have HZ:=yae hz
 have hgb:g < B:=by omega
 have cells:∀ (ws':List (List UInt8)) w1,PSt B b Tb w0 ws' w1→∀ q,w1.cell? ⟨g,q,none⟩=w0.cell? ⟨g,q,none⟩:=fun _ w1 h1 q=>h1.bel.cell (p:=⟨g,q,none⟩) hgb
 have HC:=yae cells
 have hbW:b < W.heap.size:=hS.pr.lt
 have q1:(m == 1)=false:=by rw [beq_eq_false_iff_ne];omega
 have q2:(m == 2)=false:=by rw [beq_eq_false_iff_ne];omega
 have q3:(m == 3)=false:=by rw [beq_eq_false_iff_ne];omega
 have q4:(m == 4)=false:=by rw [beq_eq_false_iff_ne];omega
 generalize atL ya0 m=op at *
 clear hr hf hs hz hx hc hx0 hx1 h1 ihx ihy cells hS hlen ew L hop hm k
 unfold exV
 simp only [Ex.k,Ex.v,Ex.nm,Ex.args,vl0,List.length_cons,List.length_nil,Nat.zero_add] at *
 go_enter Tryz.func101,Tryz.ntmps101
 go_wp2_with fail
 refine hp.out.mono ?_
 rintro e w1 ⟨rfl,s1,o1⟩
 have kb:w1.heap[W.heap.size]?=some (.cells #[.int .i64 m,.int .i64 0,.int .i64 0,.string ⟨#[]⟩,.string ⟨#[]⟩,.slice (some ⟨g,o,none⟩) 2 ca] 29):=o1 _ _ (heap_alloc_new W _) (by simp;omega) (by intro c f e;cases e)
 have d5:w1.cell? ⟨W.heap.size,5,none⟩=some (.slice (some ⟨g,o,none⟩) 2 ca):=by rw [Lib.cell_of_heap kb];rfl
 have e0:=(HC.out _ w1 s1 _).trans t0
 have e1:=(HC.out _ w1 s1 _).trans t1
 have e2:=(HC.out _ w1 s1 _).trans t2
 have e3:=(HC.out _ w1 s1 _).trans t3
 have e4:=(HC.out _ w1 s1 _).trans t4
 have e5:=(HC.out _ w1 s1 _).trans t5
 have hq:=HR.out w1 s1
 unfold exV at hq
 have HQ:=yae hq
 have O1:=yae o1
 have KB:=yae kb
 clear kb s1 o1 hq t0 t1 t2 t3 t4 t5 hp
 go_wp2_with fail
 refine HQ.out.mono ?_
 rintro e w2 ⟨rfl,s2,o2⟩
 have kb2:=o2 _ _ KB.out (by simp;omega) (by intro c f e;cases e)
 have d0:w2.cell? ⟨W.heap.size,0,none⟩=some (.int .i64 m):=by rw [Lib.cell_of_heap kb2];rfl
 have KB2:=yae kb2
 have S2:=yae s2
 have O2:=yae o2
 clear kb2 s2 o2 e0 e1 e2 e3 e4 e5 d5
 go_wp2_with fail
 go_region_law (first|(go_simp;refine (hop2 _).mono ?_;rintro e w3 ⟨rfl,b3⟩;dsimp only)|(go_simp;refine (HF.out w3 (S2.out.below K.out ((Below.refl _ _).drew.trans b3))).mono ?_;rintro e w4 ⟨rfl,s4,o4⟩;dsimp only))
 all_goals
  have kb3:=(b3.block W.heap.size (by simpa using (ltS KB2.out))).trans KB2.out
  have kb4:=o4 _ _ kb3 (by simp;omega) (by intro c f e;cases e)
  have d5:w4.cell? ⟨W.heap.size,5,none⟩=some (.slice (some ⟨g,o,none⟩) 2 ca):=by rw [Lib.cell_of_heap kb4];rfl
  have f0:=(HC.out _ w4 s4 _).trans r0
  have f1:=(HC.out _ w4 s4 _).trans r1
  have f2:=(HC.out _ w4 s4 _).trans r2
  have f3:=(HC.out _ w4 s4 _).trans r3
  have f4:=(HC.out _ w4 s4 _).trans r4
  have f5:=(HC.out _ w4 s4 _).trans r5
  have hq:=HSS.out w4 s4
  unfold exV at hq
  have HQ:=yae hq
  have kp:Hid (Lib.OthersKept 5 (some b) W w4):=fun q ob hq hne hty=>o4 q ob (yao (b:=b) b3 q ob (O2.out q ob (O1.out q ob ((Below.heap_alloc _ _ _ (ltS hq)).trans hq) hne hty) hne hty) hne hty) hne hty
  clear kb3 kb4 hq r0 r1 r2 r3 r4 r5 s4 o4 b3 d0
  go_wp2_with (first|(go_at_call 101;refine HQ.out.mono ?_;rintro e w5 ⟨rfl,s5,o5⟩;have HY:=yae (HZ.out w5 s5);have O5:=yae o5)|(go_at_call 94;refine HY.out.mono ?_;rintro e w6 ⟨rfl,s6,o6⟩))
  try simp only [Exit.inBlock]
  go_end0
  exact ⟨rfl,s6,fun q ob hq hne hty=>o6 q ob (O5.out q ob (kp.out q ob hq hne hty) hne hty) hne hty⟩
theorem yjw {v:Vl} (h:ycm v=true):v.s.length≤1000:=by
 have h0:=yfa h
 unfold ycw at h0
 split at h0
 ·split at h0
  ·rename_i hh;rw [hh.2];simp
  ·cases h0
 ·split at h0
  ·split at h0
   ·rename_i hh;rw [hh.2];simp
   ·cases h0
  ·split at h0
   ·split at h0
    ·rename_i hh
     have:=hh.2
     simp [ydY] at this
     omega
    ·cases h0
   ·split at h0
    ·split at h0
     ·rename_i hh;rw [hh.2];simp
     ·cases h0
    ·cases h0
theorem ymO {B b:Nat} {Tb:World→Prop} {w0:World} (k:ItoaOk B Tb) (v:Vl) (hv:ycm v=true):PE B b Tb w0 (.mk 1 v [] []):=by
 intro u hu ws W hS hlen
 obtain ⟨ao,ca,us,rfl,-⟩:=hu.spread
 have ew:yat (.mk 1 v [] [])=[ybc v]:=by simp [yat]
 rw [ew] at hlen ⊢
 have h1:=hS.below k ((Below.refl W.heap.size W).alloc (Nat.le_refl _) (.cells #[.int .i64 1,.int .i64 v.k,.int .i64 v.n,.string ⟨v.s.toArray⟩,.string ⟨#[]⟩,.slice ao 0 ca] 29))
 have hp:=yae ((ygi B b ws v _ k h1.tb h1.pr h1.hB hv (yjw hv) hlen).mono fun e w' q=>h1.step k q)
 clear h1 hS hlen hv ew
 unfold exV
 simp only [Ex.k,Ex.v,Ex.nm,Ex.args,List.length_nil] at *
 go_enter Tryz.func101,Tryz.ntmps101
 go_wp2_with (go_at_call 99;refine hp.out.mono ?_;rintro e w1 ⟨rfl,s1,o1⟩)
 try simp only [Exit.inBlock]
 go_end0
 exact ⟨rfl,s1,fun q ob hq hne hty=>o1 q ob ((Below.heap_alloc _ _ _ (ltS hq)).trans hq) hne hty⟩
theorem ymL {B b:Nat} {Tb:World→Prop} {w0:World} (k:ItoaOk B Tb) (nm:List UInt8) (hn:nm≠[]):PE B b Tb w0 (.mk 2 vl0 nm []):=by
 intro u hu ws W hS hlen
 obtain ⟨ao,ca,us,rfl,-⟩:=hu.spread
 have ew:yat (.mk 2 vl0 nm [])=[nm]:=by simp [yat]
 rw [ew] at hlen ⊢
 have b0:=(Below.refl W.heap.size W).alloc (Nat.le_refl _) (.cells #[.int .i64 2,.int .i64 0,.int .i64 0,.string ⟨#[]⟩,.string ⟨nm.toArray⟩,.slice ao 0 ca] 29)
 have h1:=hS.below k b0.drew
 have h0:=ycb k h1 [nm] 1 #[.string ⟨nm.toArray⟩] rfl rfl (by intro x hx;simp at hx;subst hx;exact hn) hlen (by decide)
 rw [show (W.alloc (.cells #[.int .i64 2,.int .i64 0,.int .i64 0,.string ⟨#[]⟩,.string ⟨nm.toArray⟩,.slice ao 0 ca] 29)).drew.heap.size=W.heap.size+1 by simp] at h0
 have hp:=yae h0
 have B0:=yae b0.drew
 clear h1 h0 hS hlen ew hn b0
 unfold exV
 simp only [Ex.k,Ex.v,Ex.nm,Ex.args,vl0,List.length_nil] at *
 go_enter Tryz.func101,Tryz.ntmps101
 go_wp2_with fail
 go_region_law (first|(go_simp;refine hp.out.mono ?_;rintro e w2 ⟨rfl,s2,o2⟩;dsimp only))
 all_goals
  simp only [Exit.inBlock]
  go_end0
  exact ⟨rfl,s2,fun q ob hq hne hty=>o2 q ob (yao (b:=b) B0.out q ob hq hne hty) hne hty⟩
theorem ybr {s:List UInt8} (h:yap s=true):s≠[]:=by
 rintro rfl
 exact absurd h (by decide)
theorem yhs {B b:Nat} {Tb:World→Prop} {w0:World} (k:ItoaOk B Tb) (hw:w0.heap.size≤B) {x:Ex} (h:RightE x):PE B b Tb w0 x:=by
 induction h with
 | val v hv=>exact ymO k v hv
 | col nm hn=>exact ymL k nm (ybr hn)
 | not a _ ih=>exact ymM k hw a ih
 | null a _ ih=>exact ykw k hw a ih
 | two m hm a c _ _ iha ihc =>
  refine ymN k hw m hm ?_ a c iha ihc
  have hc:m=5∨m=6∨m=7∨m=8∨m=9∨m=10∨m=11:=by omega
  rcases hc with rfl|rfl|rfl|rfl|rfl|rfl|rfl <;> decide
noncomputable def k2_R:Array Oper:=((Tryz.f13.body).bind (yaC 2)).getD #[]
def yu2  (j:Nat):Value:=([.int .i64 2]:List Value).getD j undef
def k2_d:List (Option Tmp):=[some 2]
theorem yoT:k2_d.Nodup:=by unfold k2_d;decide
theorem yt3  {S:World→Prop} {a0:Act} {Q:Exit→Act→World→Prop} {w:World}  (ha:a0.tmps.size=272) (hS:S w)
  (hq:∀ a' w',S w'→a'.defers=a0.defers→a'.tmps.size=272→(∀ j d,k2_d[j]?=some (some d)→a'.tmps[d]?=some (yu2  j))→(∀ d,some d ∉ k2_d→a'.tmps[d]?=a0.tmps[d]?)→Q .normal a' w'):(Code.region 2 k2_R false).wp Tryz.prog Q a0 w:=by
 have hz:k2_R.size=1:=by kernel_rfl
 refine yaT (m:=272) hz (by kernel_rfl) yoT (by kernel_rfl) ha ?_ hS hq
 refine us ?_ (ybf hz (by decide) (by kernel_rfl) fun _ _ _ _=>yaV (x:=.const (.int .i64 2)) (by kernel_rfl) (rfl))
 exact fun j hj=>absurd hj (Nat.not_lt_zero j)
noncomputable def k10_R:Array Oper:=((Tryz.f13.body).bind (yaC 10)).getD #[]
def ytI  (j:Nat):Value:=([.int .i64 0]:List Value).getD j undef
def k10_d:List (Option Tmp):=[some 5]
theorem yl7:k10_d.Nodup:=by unfold k10_d;decide
theorem yss  {S:World→Prop} {a0:Act} {Q:Exit→Act→World→Prop} {w:World}  (ha:a0.tmps.size=272) (hS:S w)
  (hq:∀ a' w',S w'→a'.defers=a0.defers→a'.tmps.size=272→(∀ j d,k10_d[j]?=some (some d)→a'.tmps[d]?=some (ytI  j))→(∀ d,some d ∉ k10_d→a'.tmps[d]?=a0.tmps[d]?)→Q .normal a' w'):(Code.region 10 k10_R false).wp Tryz.prog Q a0 w:=by
 have hz:k10_R.size=1:=by kernel_rfl
 refine yaT (m:=272) hz (by kernel_rfl) yl7 (by kernel_rfl) ha ?_ hS hq
 refine us ?_ (ybf hz (by decide) (by kernel_rfl) fun _ _ _ _=>yaV (x:=.const (.int .i64 0)) (by kernel_rfl) (rfl))
 exact fun j hj=>absurd hj (Nat.not_lt_zero j)
noncomputable def k14_R:Array Oper:=((Tryz.f13.body).bind (yaC 14)).getD #[]
def ytM  (j:Nat):Value:=([.int .i64 0]:List Value).getD j undef
def k14_d:List (Option Tmp):=[some 6]
theorem ymb:k14_d.Nodup:=by unfold k14_d;decide
theorem ysw  {S:World→Prop} {a0:Act} {Q:Exit→Act→World→Prop} {w:World}  (ha:a0.tmps.size=272) (hS:S w)
  (hq:∀ a' w',S w'→a'.defers=a0.defers→a'.tmps.size=272→(∀ j d,k14_d[j]?=some (some d)→a'.tmps[d]?=some (ytM  j))→(∀ d,some d ∉ k14_d→a'.tmps[d]?=a0.tmps[d]?)→Q .normal a' w'):(Code.region 14 k14_R false).wp Tryz.prog Q a0 w:=by
 have hz:k14_R.size=1:=by kernel_rfl
 refine yaT (m:=272) hz (by kernel_rfl) ymb (by kernel_rfl) ha ?_ hS hq
 refine us ?_ (ybf hz (by decide) (by kernel_rfl) fun _ _ _ _=>yaV (x:=.const (.int .i64 0)) (by kernel_rfl) (rfl))
 exact fun j hj=>absurd hj (Nat.not_lt_zero j)
noncomputable def k18_R:Array Oper:=((Tryz.f13.body).bind (yaC 18)).getD #[]
def ytQ  (j:Nat):Value:=([.int .i64 0]:List Value).getD j undef
def k18_d:List (Option Tmp):=[some 7]
theorem ymf:k18_d.Nodup:=by unfold k18_d;decide
theorem ysA  {S:World→Prop} {a0:Act} {Q:Exit→Act→World→Prop} {w:World}  (ha:a0.tmps.size=272) (hS:S w)
  (hq:∀ a' w',S w'→a'.defers=a0.defers→a'.tmps.size=272→(∀ j d,k18_d[j]?=some (some d)→a'.tmps[d]?=some (ytQ  j))→(∀ d,some d ∉ k18_d→a'.tmps[d]?=a0.tmps[d]?)→Q .normal a' w'):(Code.region 18 k18_R false).wp Tryz.prog Q a0 w:=by
 have hz:k18_R.size=1:=by kernel_rfl
 refine yaT (m:=272) hz (by kernel_rfl) ymf (by kernel_rfl) ha ?_ hS hq
 refine us ?_ (ybf hz (by decide) (by kernel_rfl) fun _ _ _ _=>yaV (x:=.const (.int .i64 0)) (by kernel_rfl) (rfl))
 exact fun j hj=>absurd hj (Nat.not_lt_zero j)
noncomputable def k31_R:Array Oper:=((Tryz.f13.body).bind (yaC 31)).getD #[]
def yt5  (j:Nat):Value:=([.int .i64 1]:List Value).getD j undef
def k31_d:List (Option Tmp):=[some 2]
theorem yms:k31_d.Nodup:=by unfold k31_d;decide
theorem ysN  {S:World→Prop} {a0:Act} {Q:Exit→Act→World→Prop} {w:World}  (ha:a0.tmps.size=272) (hS:S w)
  (hq:∀ a' w',S w'→a'.defers=a0.defers→a'.tmps.size=272→(∀ j d,k31_d[j]?=some (some d)→a'.tmps[d]?=some (yt5  j))→(∀ d,some d ∉ k31_d→a'.tmps[d]?=a0.tmps[d]?)→Q .normal a' w'):(Code.region 31 k31_R false).wp Tryz.prog Q a0 w:=by
 have hz:k31_R.size=1:=by kernel_rfl
 refine yaT (m:=272) hz (by kernel_rfl) yms (by kernel_rfl) ha ?_ hS hq
 refine us ?_ (ybf hz (by decide) (by kernel_rfl) fun _ _ _ _=>yaV (x:=.const (.int .i64 1)) (by kernel_rfl) (rfl))
 exact fun j hj=>absurd hj (Nat.not_lt_zero j)
noncomputable def k32_R:Array Oper:=((Tryz.f13.body).bind (yaC 32)).getD #[]
def yt6  (j:Nat):Value:=([.int .i64 0]:List Value).getD j undef
def k32_d:List (Option Tmp):=[some 2]
theorem ymt:k32_d.Nodup:=by unfold k32_d;decide
theorem ysO  {S:World→Prop} {a0:Act} {Q:Exit→Act→World→Prop} {w:World}  (ha:a0.tmps.size=272) (hS:S w)
  (hq:∀ a' w',S w'→a'.defers=a0.defers→a'.tmps.size=272→(∀ j d,k32_d[j]?=some (some d)→a'.tmps[d]?=some (yt6  j))→(∀ d,some d ∉ k32_d→a'.tmps[d]?=a0.tmps[d]?)→Q .normal a' w'):(Code.region 32 k32_R false).wp Tryz.prog Q a0 w:=by
 have hz:k32_R.size=1:=by kernel_rfl
 refine yaT (m:=272) hz (by kernel_rfl) ymt (by kernel_rfl) ha ?_ hS hq
 refine us ?_ (ybf hz (by decide) (by kernel_rfl) fun _ _ _ _=>yaV (x:=.const (.int .i64 0)) (by kernel_rfl) (rfl))
 exact fun j hj=>absurd hj (Nat.not_lt_zero j)
noncomputable def k1_R:Array Oper:=((Tryz.f13.body).bind (yaC 1)).getD #[]
def yu1 (c:Cm) (a1 a2 a3 a4 a5:Option Addr) (c1 c2 c3 c4 c5:Nat) (b:Nat) (j:Nat):Value:=([.pointer (some ⟨b,4,none⟩),.slice a1 c.cols.length c1,.int .i64 ((c.cols.length:Nat):Int),.bool (decide (5 < ((c.cols.length:Nat):Int))),.bool (decide (5 < ((c.cols.length:Nat):Int))),gw ((decide (5 < ((c.cols.length:Nat):Int))) == false) (.pointer (some ⟨b,9,none⟩)),gw ((decide (5 < ((c.cols.length:Nat):Int))) == false) (.slice a2 c.vals.length c2),gw ((decide (5 < ((c.cols.length:Nat):Int))) == false) (.int .i64 ((c.vals.length:Nat):Int)),gw ((decide (5 < ((c.cols.length:Nat):Int))) == false) (.bool (decide (5 < ((c.vals.length:Nat):Int)))),.bool ((decide (5 < ((c.cols.length:Nat):Int))) || (decide (5 < ((c.vals.length:Nat):Int)))),.bool ((decide (5 < ((c.cols.length:Nat):Int))) || (decide (5 < ((c.vals.length:Nat):Int)))),gw (((decide (5 < ((c.cols.length:Nat):Int))) || (decide (5 < ((c.vals.length:Nat):Int)))) == false) (.pointer (some ⟨b,10,none⟩)),gw (((decide (5 < ((c.cols.length:Nat):Int))) || (decide (5 < ((c.vals.length:Nat):Int)))) == false) (.slice a3 c.fields.length c3),gw (((decide (5 < ((c.cols.length:Nat):Int))) || (decide (5 < ((c.vals.length:Nat):Int)))) == false) (.int .i64 ((c.fields.length:Nat):Int)),gw (((decide (5 < ((c.cols.length:Nat):Int))) || (decide (5 < ((c.vals.length:Nat):Int)))) == false) (.bool (decide (5 < ((c.fields.length:Nat):Int)))),.bool (((decide (5 < ((c.cols.length:Nat):Int))) || (decide (5 < ((c.vals.length:Nat):Int)))) || (decide (5 < ((c.fields.length:Nat):Int)))),.bool (((decide (5 < ((c.cols.length:Nat):Int))) || (decide (5 < ((c.vals.length:Nat):Int)))) || (decide (5 < ((c.fields.length:Nat):Int)))),gw ((((decide (5 < ((c.cols.length:Nat):Int))) || (decide (5 < ((c.vals.length:Nat):Int)))) || (decide (5 < ((c.fields.length:Nat):Int)))) == false) (.pointer (some ⟨b,11,none⟩)),gw ((((decide (5 < ((c.cols.length:Nat):Int))) || (decide (5 < ((c.vals.length:Nat):Int)))) || (decide (5 < ((c.fields.length:Nat):Int)))) == false) (.agg #[.int .i64 c.expr.k,.int .i64 c.expr.v.k,.int .i64 c.expr.v.n,.string ⟨c.expr.v.s.toArray⟩,.string ⟨c.expr.nm.toArray⟩,.slice a4 c.expr.args.length c4]),gw ((((decide (5 < ((c.cols.length:Nat):Int))) || (decide (5 < ((c.vals.length:Nat):Int)))) || (decide (5 < ((c.fields.length:Nat):Int)))) == false) (.int .i64 ((min (ya4 c.expr) (15+1):Nat):Int)),gw ((((decide (5 < ((c.cols.length:Nat):Int))) || (decide (5 < ((c.vals.length:Nat):Int)))) || (decide (5 < ((c.fields.length:Nat):Int)))) == false) (.bool (decide (15 < ((min (ya4 c.expr) (15+1):Nat):Int)))),.bool ((((decide (5 < ((c.cols.length:Nat):Int))) || (decide (5 < ((c.vals.length:Nat):Int)))) || (decide (5 < ((c.fields.length:Nat):Int)))) || (decide (15 < ((min (ya4 c.expr) (15+1):Nat):Int)))),.bool ((((decide (5 < ((c.cols.length:Nat):Int))) || (decide (5 < ((c.vals.length:Nat):Int)))) || (decide (5 < ((c.fields.length:Nat):Int)))) || (decide (15 < ((min (ya4 c.expr) (15+1):Nat):Int)))),gw (((((decide (5 < ((c.cols.length:Nat):Int))) || (decide (5 < ((c.vals.length:Nat):Int)))) || (decide (5 < ((c.fields.length:Nat):Int)))) || (decide (15 < ((min (ya4 c.expr) (15+1):Nat):Int)))) == false) (.pointer (some ⟨b,18,none⟩)),gw (((((decide (5 < ((c.cols.length:Nat):Int))) || (decide (5 < ((c.vals.length:Nat):Int)))) || (decide (5 < ((c.fields.length:Nat):Int)))) || (decide (15 < ((min (ya4 c.expr) (15+1):Nat):Int)))) == false) (.agg #[.int .i64 c.wh.k,.int .i64 c.wh.v.k,.int .i64 c.wh.v.n,.string ⟨c.wh.v.s.toArray⟩,.string ⟨c.wh.nm.toArray⟩,.slice a5 c.wh.args.length c5]),gw (((((decide (5 < ((c.cols.length:Nat):Int))) || (decide (5 < ((c.vals.length:Nat):Int)))) || (decide (5 < ((c.fields.length:Nat):Int)))) || (decide (15 < ((min (ya4 c.expr) (15+1):Nat):Int)))) == false) (.int .i64 ((min (ya4 c.wh) (15+1):Nat):Int)),gw (((((decide (5 < ((c.cols.length:Nat):Int))) || (decide (5 < ((c.vals.length:Nat):Int)))) || (decide (5 < ((c.fields.length:Nat):Int)))) || (decide (15 < ((min (ya4 c.expr) (15+1):Nat):Int)))) == false) (.bool (decide (15 < ((min (ya4 c.wh) (15+1):Nat):Int)))),.bool (((((decide (5 < ((c.cols.length:Nat):Int))) || (decide (5 < ((c.vals.length:Nat):Int)))) || (decide (5 < ((c.fields.length:Nat):Int)))) || (decide (15 < ((min (ya4 c.expr) (15+1):Nat):Int)))) || (decide (15 < ((min (ya4 c.wh) (15+1):Nat):Int))))]:List Value).getD j undef
def k1_d:List (Option Tmp):=[some 8,some 9,some 10,some 11,some 12,some 13,some 14,some 15,some 16,some 17,some 18,some 19,some 20,some 21,some 22,some 23,some 24,some 25,some 26,some 27,some 28,some 29,some 30,some 31,some 32,some 33,some 34,some 35]
theorem yoS:k1_d.Nodup:=by unfold k1_d;decide
theorem ytS {c:Cm} {a1 a2 a3 a4 a5:Option Addr} {c1 c2 c3 c4 c5:Nat} {b:Nat} {S:World→Prop} {a0:Act} {Q:Exit→Act→World→Prop} {w:World} (h1:a0.tmps[1]?=some (.pointer (some ⟨b,0,none⟩))) (hcell:∀ W,S W→∀ o x,(cmL c (.slice a1 c.cols.length c1) (.slice a2 c.vals.length c2) (.slice a3 c.fields.length c3) (.slice a4 c.expr.args.length c4) (.slice a5 c.wh.args.length c5))[o]?=some x→W.cell? ⟨b,o,none⟩=some x) (q27:∀ W,S W→Calls Tryz.prog 30 #[.agg #[.int .i64 c.expr.k,.int .i64 c.expr.v.k,.int .i64 c.expr.v.n,.string ⟨c.expr.v.s.toArray⟩,.string ⟨c.expr.nm.toArray⟩,.slice a4 c.expr.args.length c4],.int .i64 15] W fun e w'=>e=.returned (.int .i64 ((min (ya4 c.expr) (15+1):Nat):Int))∧S w') (q33:∀ W,S W→Calls Tryz.prog 30 #[.agg #[.int .i64 c.wh.k,.int .i64 c.wh.v.k,.int .i64 c.wh.v.n,.string ⟨c.wh.v.s.toArray⟩,.string ⟨c.wh.nm.toArray⟩,.slice a5 c.wh.args.length c5],.int .i64 15] W fun e w'=>e=.returned (.int .i64 ((min (ya4 c.wh) (15+1):Nat):Int))∧S w') (ha:a0.tmps.size=272) (hS:S w)
  (hq:∀ a' w',S w'→a'.defers=a0.defers→a'.tmps.size=272→(∀ j d,k1_d[j]?=some (some d)→a'.tmps[d]?=some (yu1 c a1 a2 a3 a4 a5 c1 c2 c3 c4 c5 b j))→(∀ d,some d ∉ k1_d→a'.tmps[d]?=a0.tmps[d]?)→Q .normal a' w'):(Code.region 1 k1_R false).wp Tryz.prog Q a0 w:=by
 have hz:k1_R.size=28:=by kernel_rfl
 refine yaT (m:=272) hz (by kernel_rfl) yoS (by kernel_rfl) ha ?_ hS hq
 refine us ?_ (ybf hz (by decide) (by kernel_rfl) fun _ _ s _=>ybI (G:=true) (by kernel_rfl) (s.u 22 30 (by kernel_rfl)) (s.u 26 34 (by kernel_rfl)) rfl rfl)
 refine us ?_ (ybi true 22 30 false hz (by decide) (by kernel_rfl) rfl rfl fun hG _ W s _=>yaR (u:=3) (x:=.tmp 33) (y:=.const (.int .i64 15)) (by kernel_rfl) (s.g 25 33 (by kernel_rfl) hG rfl) (rfl) (yib W _ _ _ _))
 refine us ?_ (yhV true 22 30 false hz (by decide) (by kernel_rfl) rfl rfl (fun hG _ _ s=>ycT (ts:=#[29,3]) (x:=.tmp 32) (y:=.const (.int .i64 15)) (f:=30) yuz (by kernel_rfl) rfl (s.g 24 32 (by kernel_rfl) hG rfl) (rfl)) q33)
 refine us ?_ (ybi true 22 30 false hz (by decide) (by kernel_rfl) rfl rfl fun hG _ W s hS=>yas (x:=.tmp 31) (t:=29) (by kernel_rfl) (s.g 23 31 (by kernel_rfl) hG rfl) (ynK W _ 18 _ _ _ _ _ _ (hcell W hS 18 _ rfl) (hcell W hS 19 _ rfl) (hcell W hS 20 _ rfl) (hcell W hS 21 _ rfl) (hcell W hS 22 _ rfl) (hcell W hS 23 _ rfl)))
 refine us ?_ (ybi true 22 30 false hz (by decide) (by kernel_rfl) rfl rfl fun _ _ W s _=>yal (x:=.tmp 1) (t:=31) (f:=11) (by kernel_rfl) (s.b 1 (by kernel_rfl) h1) (yrX W _))
 refine us ?_ (ybf hz (by decide) (by kernel_rfl) fun _ _ s _=>yai (x:=.tmp 29) (by kernel_rfl) (s.u 21 29 (by kernel_rfl)))
 refine us ?_ (ybf hz (by decide) (by kernel_rfl) fun _ _ s _=>ybI (G:=true) (by kernel_rfl) (s.u 16 24 (by kernel_rfl)) (s.u 20 28 (by kernel_rfl)) rfl rfl)
 refine us ?_ (ybi true 16 24 false hz (by decide) (by kernel_rfl) rfl rfl fun hG _ W s _=>yaR (u:=3) (x:=.tmp 27) (y:=.const (.int .i64 15)) (by kernel_rfl) (s.g 19 27 (by kernel_rfl) hG rfl) (rfl) (yib W _ _ _ _))
 refine us ?_ (yhV true 16 24 false hz (by decide) (by kernel_rfl) rfl rfl (fun hG _ _ s=>ycT (ts:=#[29,3]) (x:=.tmp 26) (y:=.const (.int .i64 15)) (f:=30) yuz (by kernel_rfl) rfl (s.g 18 26 (by kernel_rfl) hG rfl) (rfl)) q27)
 refine us ?_ (ybi true 16 24 false hz (by decide) (by kernel_rfl) rfl rfl fun hG _ W s hS=>yas (x:=.tmp 25) (t:=29) (by kernel_rfl) (s.g 17 25 (by kernel_rfl) hG rfl) (ynK W _ 11 _ _ _ _ _ _ (hcell W hS 11 _ rfl) (hcell W hS 12 _ rfl) (hcell W hS 13 _ rfl) (hcell W hS 14 _ rfl) (hcell W hS 15 _ rfl) (hcell W hS 16 _ rfl)))
 refine us ?_ (ybi true 16 24 false hz (by decide) (by kernel_rfl) rfl rfl fun _ _ W s _=>yal (x:=.tmp 1) (t:=31) (f:=9) (by kernel_rfl) (s.b 1 (by kernel_rfl) h1) (fa9 W _))
 refine us ?_ (ybf hz (by decide) (by kernel_rfl) fun _ _ s _=>yai (x:=.tmp 23) (by kernel_rfl) (s.u 15 23 (by kernel_rfl)))
 refine us ?_ (ybf hz (by decide) (by kernel_rfl) fun _ _ s _=>ybI (G:=true) (by kernel_rfl) (s.u 10 18 (by kernel_rfl)) (s.u 14 22 (by kernel_rfl)) rfl rfl)
 refine us ?_ (ybi true 10 18 false hz (by decide) (by kernel_rfl) rfl rfl fun hG _ W s _=>yaR (u:=3) (x:=.tmp 21) (y:=.const (.int .i64 5)) (by kernel_rfl) (s.g 13 21 (by kernel_rfl) hG rfl) (rfl) (yib W _ _ _ _))
 refine us ?_ (ybi true 10 18 false hz (by decide) (by kernel_rfl) rfl rfl fun hG _ W s _=>ydh (ts:=#[26]) (x:=.tmp 20) (by kernel_rfl) (fun ty=>yo4 W a3 c.fields.length c3 ty) (s.g 12 20 (by kernel_rfl) hG rfl))
 refine us ?_ (ybi true 10 18 false hz (by decide) (by kernel_rfl) rfl rfl fun hG _ W s hS=>yas (x:=.tmp 19) (t:=26) (by kernel_rfl) (s.g 11 19 (by kernel_rfl) hG rfl) (yrN W _ 10 _ (hcell W hS 10 _ rfl)))
 refine us ?_ (ybi true 10 18 false hz (by decide) (by kernel_rfl) rfl rfl fun _ _ W s _=>yal (x:=.tmp 1) (t:=31) (f:=8) (by kernel_rfl) (s.b 1 (by kernel_rfl) h1) (fa8 W _))
 refine us ?_ (ybf hz (by decide) (by kernel_rfl) fun _ _ s _=>yai (x:=.tmp 17) (by kernel_rfl) (s.u 9 17 (by kernel_rfl)))
 refine us ?_ (ybf hz (by decide) (by kernel_rfl) fun _ _ s _=>ybI (G:=true) (by kernel_rfl) (s.u 4 12 (by kernel_rfl)) (s.u 8 16 (by kernel_rfl)) rfl rfl)
 refine us ?_ (ybi true 4 12 false hz (by decide) (by kernel_rfl) rfl rfl fun hG _ W s _=>yaR (u:=3) (x:=.tmp 15) (y:=.const (.int .i64 5)) (by kernel_rfl) (s.g 7 15 (by kernel_rfl) hG rfl) (rfl) (yib W _ _ _ _))
 refine us ?_ (ybi true 4 12 false hz (by decide) (by kernel_rfl) rfl rfl fun hG _ W s _=>ydh (ts:=#[25]) (x:=.tmp 14) (by kernel_rfl) (fun ty=>yo3 W a2 c.vals.length c2 ty) (s.g 6 14 (by kernel_rfl) hG rfl))
 refine us ?_ (ybi true 4 12 false hz (by decide) (by kernel_rfl) rfl rfl fun hG _ W s hS=>yas (x:=.tmp 13) (t:=25) (by kernel_rfl) (s.g 5 13 (by kernel_rfl) hG rfl) (yrM W _ 9 _ (hcell W hS 9 _ rfl)))
 refine us ?_ (ybi true 4 12 false hz (by decide) (by kernel_rfl) rfl rfl fun _ _ W s _=>yal (x:=.tmp 1) (t:=31) (f:=7) (by kernel_rfl) (s.b 1 (by kernel_rfl) h1) (fa7 W _))
 refine us ?_ (ybf hz (by decide) (by kernel_rfl) fun _ _ s _=>yai (x:=.tmp 11) (by kernel_rfl) (s.u 3 11 (by kernel_rfl)))
 refine us ?_ (ybf hz (by decide) (by kernel_rfl) fun _ W s _=>yaR (u:=3) (x:=.tmp 10) (y:=.const (.int .i64 5)) (by kernel_rfl) (s.u 2 10 (by kernel_rfl)) (rfl) (yib W _ _ _ _))
 refine us ?_ (ybf hz (by decide) (by kernel_rfl) fun _ W s _=>ydh (ts:=#[22]) (x:=.tmp 9) (by kernel_rfl) (fun ty=>yo2 W a1 c.cols.length c1 ty) (s.u 1 9 (by kernel_rfl)))
 refine us ?_ (ybf hz (by decide) (by kernel_rfl) fun _ W s hS=>yas (x:=.tmp 8) (t:=22) (by kernel_rfl) (s.u 0 8 (by kernel_rfl)) (yrb W _ 4 _ (hcell W hS 4 _ rfl)))
 refine us ?_ (ybf hz (by decide) (by kernel_rfl) fun _ W s _=>yal (x:=.tmp 1) (t:=31) (f:=4) (by kernel_rfl) (s.b 1 (by kernel_rfl) h1) (fa4 W _))
 exact fun j hj=>absurd hj (Nat.not_lt_zero j)
noncomputable def k3_R:Array Oper:=((Tryz.f13.body).bind (yaC 3)).getD #[]
def yu3 (c:Cm) (b:Nat) (j:Nat):Value:=([.pointer (some ⟨b,0,none⟩),.int .i64 c.kind,.int .i64 c.kind]:List Value).getD j undef
def k3_d:List (Option Tmp):=[some 36,some 37,some 3]
theorem yoU:k3_d.Nodup:=by unfold k3_d;decide
theorem yt7 {c:Cm} {a1 a2 a3 a4 a5:Option Addr} {c1 c2 c3 c4 c5:Nat} {b:Nat} {S:World→Prop} {a0:Act} {Q:Exit→Act→World→Prop} {w:World} (h1:a0.tmps[1]?=some (.pointer (some ⟨b,0,none⟩))) (hcell:∀ W,S W→∀ o x,(cmL c (.slice a1 c.cols.length c1) (.slice a2 c.vals.length c2) (.slice a3 c.fields.length c3) (.slice a4 c.expr.args.length c4) (.slice a5 c.wh.args.length c5))[o]?=some x→W.cell? ⟨b,o,none⟩=some x) (ha:a0.tmps.size=272) (hS:S w)
  (hq:∀ a' w',S w'→a'.defers=a0.defers→a'.tmps.size=272→(∀ j d,k3_d[j]?=some (some d)→a'.tmps[d]?=some (yu3 c b j))→(∀ d,some d ∉ k3_d→a'.tmps[d]?=a0.tmps[d]?)→Q .normal a' w'):(Code.region 3 k3_R false).wp Tryz.prog Q a0 w:=by
 have hz:k3_R.size=3:=by kernel_rfl
 refine yaT (m:=272) hz (by kernel_rfl) yoU (by kernel_rfl) ha ?_ hS hq
 refine us ?_ (ybf hz (by decide) (by kernel_rfl) fun _ _ s _=>yaV (x:=.tmp 37) (by kernel_rfl) (s.u 1 37 (by kernel_rfl)))
 refine us ?_ (ybf hz (by decide) (by kernel_rfl) fun _ W s hS=>yas (x:=.tmp 36) (t:=3) (by kernel_rfl) (s.u 0 36 (by kernel_rfl)) (ld3 W _ 0 _ (hcell W hS 0 _ rfl)))
 refine us ?_ (ybf hz (by decide) (by kernel_rfl) fun _ W s _=>yal (x:=.tmp 1) (t:=31) (f:=0) (by kernel_rfl) (s.b 1 (by kernel_rfl) h1) (fa0 W _))
 exact fun j hj=>absurd hj (Nat.not_lt_zero j)
noncomputable def k5_R:Array Oper:=((Tryz.f13.body).bind (yaC 5)).getD #[]
def yu4 (c:Cm) (j:Nat):Value:=([.int .i64 c.kind,.bool (decide (c.kind=3)),.bool (decide (c.kind=3)),gw ((decide (c.kind=3)) == false) (.int .i64 c.kind),gw ((decide (c.kind=3)) == false) (.bool (decide (c.kind=6))),.bool ((decide (c.kind=3)) || (decide (c.kind=6)))]:List Value).getD j undef
def k5_d:List (Option Tmp):=[some 77,some 78,some 79,some 80,some 81,some 82]
theorem yoV:k5_d.Nodup:=by unfold k5_d;decide
theorem yt8 {c:Cm} {S:World→Prop} {a0:Act} {Q:Exit→Act→World→Prop} {w:World} (h3:a0.tmps[3]?=some (.int .i64 c.kind)) (ha:a0.tmps.size=272) (hS:S w)
  (hq:∀ a' w',S w'→a'.defers=a0.defers→a'.tmps.size=272→(∀ j d,k5_d[j]?=some (some d)→a'.tmps[d]?=some (yu4 c j))→(∀ d,some d ∉ k5_d→a'.tmps[d]?=a0.tmps[d]?)→Q .normal a' w'):(Code.region 5 k5_R false).wp Tryz.prog Q a0 w:=by
 have hz:k5_R.size=6:=by kernel_rfl
 refine yaT (m:=272) hz (by kernel_rfl) yoV (by kernel_rfl) ha ?_ hS hq
 refine us ?_ (ybf hz (by decide) (by kernel_rfl) fun _ _ s _=>ybI (G:=true) (by kernel_rfl) (s.u 2 79 (by kernel_rfl)) (s.u 4 81 (by kernel_rfl)) rfl rfl)
 refine us ?_ (ybi true 2 79 false hz (by decide) (by kernel_rfl) rfl rfl fun hG _ W s _=>yaR (u:=3) (x:=.tmp 80) (y:=.const (.int .i64 6)) (by kernel_rfl) (s.g 3 80 (by kernel_rfl) hG rfl) (rfl) (ye0 W _ _ _ _))
 refine us ?_ (ybi true 2 79 false hz (by decide) (by kernel_rfl) rfl rfl fun _ _ _ s _=>yai (x:=.tmp 3) (by kernel_rfl) (s.b 3 (by kernel_rfl) h3))
 refine us ?_ (ybf hz (by decide) (by kernel_rfl) fun _ _ s _=>yai (x:=.tmp 78) (by kernel_rfl) (s.u 1 78 (by kernel_rfl)))
 refine us ?_ (ybf hz (by decide) (by kernel_rfl) fun _ W s _=>yaR (u:=3) (x:=.tmp 77) (y:=.const (.int .i64 3)) (by kernel_rfl) (s.u 0 77 (by kernel_rfl)) (rfl) (ye0 W _ _ _ _))
 refine us ?_ (ybf hz (by decide) (by kernel_rfl) fun _ _ s _=>yai (x:=.tmp 3) (by kernel_rfl) (s.b 3 (by kernel_rfl) h3))
 exact fun j hj=>absurd hj (Nat.not_lt_zero j)
noncomputable def k6_R:Array Oper:=((Tryz.f13.body).bind (yaC 6)).getD #[]
def yu5 (c:Cm) (b:Nat) (ok:Bool) (j:Nat):Value:=([.bool ok,.bool ok,gw (ok == true) (.pointer (some ⟨b,5,none⟩)),gw (ok == true) (.int .i64 c.ty),gw (ok == true) (.bool (ya6 c.ty 1 3)),.bool (ok&&(ya6 c.ty 1 3)),.bool (ok&&(ya6 c.ty 1 3))]:List Value).getD j undef
def k6_d:List (Option Tmp):=[some 83,some 84,some 85,some 86,some 87,some 88,some 4]
theorem yoW:k6_d.Nodup:=by unfold k6_d;decide
theorem yt9 {c:Cm} {a1 a2 a3 a4 a5:Option Addr} {c1 c2 c3 c4 c5:Nat} {b:Nat} {ok:Bool} {S:World→Prop} {a0:Act} {Q:Exit→Act→World→Prop} {w:World} (h1:a0.tmps[1]?=some (.pointer (some ⟨b,0,none⟩))) (h4:a0.tmps[4]?=some (.bool ok)) (hcell:∀ W,S W→∀ o x,(cmL c (.slice a1 c.cols.length c1) (.slice a2 c.vals.length c2) (.slice a3 c.fields.length c3) (.slice a4 c.expr.args.length c4) (.slice a5 c.wh.args.length c5))[o]?=some x→W.cell? ⟨b,o,none⟩=some x) (q87:∀ W,S W→Calls Tryz.prog 31 #[.int .i64 c.ty,.int .i64 1,.int .i64 3] W fun e w'=>e=.returned (.bool (ya6 c.ty 1 3))∧S w') (ha:a0.tmps.size=272) (hS:S w)
  (hq:∀ a' w',S w'→a'.defers=a0.defers→a'.tmps.size=272→(∀ j d,k6_d[j]?=some (some d)→a'.tmps[d]?=some (yu5 c b ok j))→(∀ d,some d ∉ k6_d→a'.tmps[d]?=a0.tmps[d]?)→Q .normal a' w'):(Code.region 6 k6_R false).wp Tryz.prog Q a0 w:=by
 have hz:k6_R.size=7:=by kernel_rfl
 refine yaT (m:=272) hz (by kernel_rfl) yoW (by kernel_rfl) ha ?_ hS hq
 refine us ?_ (ybf hz (by decide) (by kernel_rfl) fun _ _ s _=>yaV (x:=.tmp 88) (by kernel_rfl) (s.u 5 88 (by kernel_rfl)))
 refine us ?_ (ybf hz (by decide) (by kernel_rfl) fun _ _ s _=>yaE (G:=true) (by kernel_rfl) (s.u 1 84 (by kernel_rfl)) (s.u 4 87 (by kernel_rfl)) rfl rfl)
 refine us ?_ (yhV true 1 84 true hz (by decide) (by kernel_rfl) rfl rfl (fun hG _ _ s=>ydm (ts:=#[3,3,3]) (x:=.tmp 86) (y:=.const (.int .i64 1)) (z:=.const (.int .i64 3)) (f:=31) yql (by kernel_rfl) rfl (s.g 3 86 (by kernel_rfl) hG rfl) (rfl) (rfl)) q87)
 refine us ?_ (ybi true 1 84 true hz (by decide) (by kernel_rfl) rfl rfl fun hG _ W s hS=>yas (x:=.tmp 85) (t:=3) (by kernel_rfl) (s.g 2 85 (by kernel_rfl) hG rfl) (ld3 W _ 5 _ (hcell W hS 5 _ rfl)))
 refine us ?_ (ybi true 1 84 true hz (by decide) (by kernel_rfl) rfl rfl fun _ _ W s _=>yal (x:=.tmp 1) (t:=31) (f:=5) (by kernel_rfl) (s.b 1 (by kernel_rfl) h1) (fa5 W _))
 refine us ?_ (ybf hz (by decide) (by kernel_rfl) fun _ _ s _=>yai (x:=.tmp 83) (by kernel_rfl) (s.u 0 83 (by kernel_rfl)))
 refine us ?_ (ybf hz (by decide) (by kernel_rfl) fun _ _ s _=>yai (x:=.tmp 4) (by kernel_rfl) (s.b 4 (by kernel_rfl) h4))
 exact fun j hj=>absurd hj (Nat.not_lt_zero j)
noncomputable def k7_R:Array Oper:=((Tryz.f13.body).bind (yaC 7)).getD #[]
def yu6 (c:Cm) (b:Nat) (ok:Bool) (j:Nat):Value:=([.bool ok,.bool ok,gw (ok == true) (.pointer (some ⟨b,5,none⟩)),gw (ok == true) (.int .i64 c.ty),gw (ok == true) (.bool (decide (c.ty=0))),.bool (ok&&(decide (c.ty=0))),.bool (ok&&(decide (c.ty=0)))]:List Value).getD j undef
def k7_d:List (Option Tmp):=[some 89,some 90,some 91,some 92,some 93,some 94,some 4]
theorem yoX:k7_d.Nodup:=by unfold k7_d;decide
theorem yua {c:Cm} {a1 a2 a3 a4 a5:Option Addr} {c1 c2 c3 c4 c5:Nat} {b:Nat} {ok:Bool} {S:World→Prop} {a0:Act} {Q:Exit→Act→World→Prop} {w:World} (h1:a0.tmps[1]?=some (.pointer (some ⟨b,0,none⟩))) (h4:a0.tmps[4]?=some (.bool ok)) (hcell:∀ W,S W→∀ o x,(cmL c (.slice a1 c.cols.length c1) (.slice a2 c.vals.length c2) (.slice a3 c.fields.length c3) (.slice a4 c.expr.args.length c4) (.slice a5 c.wh.args.length c5))[o]?=some x→W.cell? ⟨b,o,none⟩=some x) (ha:a0.tmps.size=272) (hS:S w)
  (hq:∀ a' w',S w'→a'.defers=a0.defers→a'.tmps.size=272→(∀ j d,k7_d[j]?=some (some d)→a'.tmps[d]?=some (yu6 c b ok j))→(∀ d,some d ∉ k7_d→a'.tmps[d]?=a0.tmps[d]?)→Q .normal a' w'):(Code.region 7 k7_R false).wp Tryz.prog Q a0 w:=by
 have hz:k7_R.size=7:=by kernel_rfl
 refine yaT (m:=272) hz (by kernel_rfl) yoX (by kernel_rfl) ha ?_ hS hq
 refine us ?_ (ybf hz (by decide) (by kernel_rfl) fun _ _ s _=>yaV (x:=.tmp 94) (by kernel_rfl) (s.u 5 94 (by kernel_rfl)))
 refine us ?_ (ybf hz (by decide) (by kernel_rfl) fun _ _ s _=>yaE (G:=true) (by kernel_rfl) (s.u 1 90 (by kernel_rfl)) (s.u 4 93 (by kernel_rfl)) rfl rfl)
 refine us ?_ (ybi true 1 90 true hz (by decide) (by kernel_rfl) rfl rfl fun hG _ W s _=>yaR (u:=3) (x:=.tmp 92) (y:=.const (.int .i64 0)) (by kernel_rfl) (s.g 3 92 (by kernel_rfl) hG rfl) (rfl) (ye0 W _ _ _ _))
 refine us ?_ (ybi true 1 90 true hz (by decide) (by kernel_rfl) rfl rfl fun hG _ W s hS=>yas (x:=.tmp 91) (t:=3) (by kernel_rfl) (s.g 2 91 (by kernel_rfl) hG rfl) (ld3 W _ 5 _ (hcell W hS 5 _ rfl)))
 refine us ?_ (ybi true 1 90 true hz (by decide) (by kernel_rfl) rfl rfl fun _ _ W s _=>yal (x:=.tmp 1) (t:=31) (f:=5) (by kernel_rfl) (s.b 1 (by kernel_rfl) h1) (fa5 W _))
 refine us ?_ (ybf hz (by decide) (by kernel_rfl) fun _ _ s _=>yai (x:=.tmp 89) (by kernel_rfl) (s.u 0 89 (by kernel_rfl)))
 refine us ?_ (ybf hz (by decide) (by kernel_rfl) fun _ _ s _=>yai (x:=.tmp 4) (by kernel_rfl) (s.b 4 (by kernel_rfl) h4))
 exact fun j hj=>absurd hj (Nat.not_lt_zero j)
noncomputable def k8_R:Array Oper:=((Tryz.f13.body).bind (yaC 8)).getD #[]
def yu7 (c:Cm) (b:Nat) (ok:Bool) (j:Nat):Value:=([.bool ok,.bool ok,gw (ok == true) (.pointer (some ⟨b,6,none⟩)),gw (ok == true) (.agg #[.int .i64 c.val.k,.int .i64 c.val.n,.string ⟨c.val.s.toArray⟩]),gw (ok == true) (.int .i64 ((ycw c.val.k c.val.n c.val.s:Nat):Int)),gw (ok == true) (.bool (decide (((ycw c.val.k c.val.n c.val.s:Nat):Int)=0))),.bool (ok&&(decide (((ycw c.val.k c.val.n c.val.s:Nat):Int)=0))),.bool (ok&&(decide (((ycw c.val.k c.val.n c.val.s:Nat):Int)=0))),gw ((ok&&(decide (((ycw c.val.k c.val.n c.val.s:Nat):Int)=0))) == true) (.int .i64 c.kind),gw ((ok&&(decide (((ycw c.val.k c.val.n c.val.s:Nat):Int)=0))) == true) (.bool (decide (c.kind=3))),gw ((ok&&(decide (((ycw c.val.k c.val.n c.val.s:Nat):Int)=0))) == true) (.bool (decide (c.kind=3))),gw (((ok&&(decide (((ycw c.val.k c.val.n c.val.s:Nat):Int)=0))) == true)&&((decide (c.kind=3)) == false)) (.pointer (some ⟨b,6,none⟩)),gw (((ok&&(decide (((ycw c.val.k c.val.n c.val.s:Nat):Int)=0))) == true)&&((decide (c.kind=3)) == false)) (.agg #[.int .i64 c.val.k,.int .i64 c.val.n,.string ⟨c.val.s.toArray⟩]),gw (((ok&&(decide (((ycw c.val.k c.val.n c.val.s:Nat):Int)=0))) == true)&&((decide (c.kind=3)) == false)) (.agg #[.int .i64 0,.int .i64 0,.string ⟨#[]⟩]),gw (((ok&&(decide (((ycw c.val.k c.val.n c.val.s:Nat):Int)=0))) == true)&&((decide (c.kind=3)) == false)) (.bool (ybU c.val)),gw ((ok&&(decide (((ycw c.val.k c.val.n c.val.s:Nat):Int)=0))) == true) (.bool ((decide (c.kind=3)) || (ybU c.val))),.bool ((ok&&(decide (((ycw c.val.k c.val.n c.val.s:Nat):Int)=0)))&&((decide (c.kind=3)) || (ybU c.val))),.bool ((ok&&(decide (((ycw c.val.k c.val.n c.val.s:Nat):Int)=0)))&&((decide (c.kind=3)) || (ybU c.val)))]:List Value).getD j undef
def k8_d:List (Option Tmp):=[some 95,some 96,some 97,some 98,some 99,some 100,some 101,some 102,some 103,some 104,some 105,some 106,some 107,some 108,some 109,some 110,some 111,some 4]
theorem yoY:k8_d.Nodup:=by unfold k8_d;decide
theorem yub {c:Cm} {a1 a2 a3 a4 a5:Option Addr} {c1 c2 c3 c4 c5:Nat} {b:Nat} {ok:Bool} {S:World→Prop} {a0:Act} {Q:Exit→Act→World→Prop} {w:World} (h1:a0.tmps[1]?=some (.pointer (some ⟨b,0,none⟩))) (h3:a0.tmps[3]?=some (.int .i64 c.kind)) (h4:a0.tmps[4]?=some (.bool ok)) (hcell:∀ W,S W→∀ o x,(cmL c (.slice a1 c.cols.length c1) (.slice a2 c.vals.length c2) (.slice a3 c.fields.length c3) (.slice a4 c.expr.args.length c4) (.slice a5 c.wh.args.length c5))[o]?=some x→W.cell? ⟨b,o,none⟩=some x) (q99:∀ W,S W→Calls Tryz.prog 33 #[.agg #[.int .i64 c.val.k,.int .i64 c.val.n,.string ⟨c.val.s.toArray⟩]] W fun e w'=>e=.returned (.int .i64 ((ycw c.val.k c.val.n c.val.s:Nat):Int))∧S w') (q109:∀ W,S W→Calls Tryz.prog 25 #[.agg #[.int .i64 c.val.k,.int .i64 c.val.n,.string ⟨c.val.s.toArray⟩],.agg #[.int .i64 0,.int .i64 0,.string ⟨#[]⟩]] W fun e w'=>e=.returned (.bool (ybU c.val))∧S w') (ha:a0.tmps.size=272) (hS:S w)
  (hq:∀ a' w',S w'→a'.defers=a0.defers→a'.tmps.size=272→(∀ j d,k8_d[j]?=some (some d)→a'.tmps[d]?=some (yu7 c b ok j))→(∀ d,some d ∉ k8_d→a'.tmps[d]?=a0.tmps[d]?)→Q .normal a' w'):(Code.region 8 k8_R false).wp Tryz.prog Q a0 w:=by
 have hz:k8_R.size=18:=by kernel_rfl
 refine yaT (m:=272) hz (by kernel_rfl) yoY (by kernel_rfl) ha ?_ hS hq
 refine us ?_ (ybf hz (by decide) (by kernel_rfl) fun _ _ s _=>yaV (x:=.tmp 111) (by kernel_rfl) (s.u 16 111 (by kernel_rfl)))
 refine us ?_ (ybf hz (by decide) (by kernel_rfl) fun _ _ s _=>yaE (G:=true) (by kernel_rfl) (s.u 7 102 (by kernel_rfl)) (s.u 15 110 (by kernel_rfl)) rfl rfl)
 refine us ?_ (ybi true 7 102 true hz (by decide) (by kernel_rfl) rfl rfl fun hG _ _ s _=>ybI (by kernel_rfl) (s.g 10 105 (by kernel_rfl) hG rfl) (s.u 14 109 (by kernel_rfl)) rfl hG)
 refine us ?_ (yhV _ 10 105 false hz (by decide) (by kernel_rfl) rfl rfl (fun hG _ _ s=>ycT (ts:=#[24,24]) (x:=.tmp 107) (y:=.tmp 108) (f:=25) yuy (by kernel_rfl) rfl (s.g 12 107 (by kernel_rfl) hG rfl) (s.g 13 108 (by kernel_rfl) hG rfl)) q109)
 refine us ?_ (ybi _ 10 105 false hz (by decide) (by kernel_rfl) rfl rfl fun _ _ _ _ _=>yeE (by kernel_rfl))
 refine us ?_ (ybi _ 10 105 false hz (by decide) (by kernel_rfl) rfl rfl fun hG _ W s hS=>yas (x:=.tmp 106) (t:=24) (by kernel_rfl) (s.g 11 106 (by kernel_rfl) hG rfl) (yrL W _ 6 _ _ _ (hcell W hS 6 _ rfl) (hcell W hS 7 _ rfl) (hcell W hS 8 _ rfl)))
 refine us ?_ (ybi _ 10 105 false hz (by decide) (by kernel_rfl) rfl rfl fun _ _ W s _=>yal (x:=.tmp 1) (t:=31) (f:=6) (by kernel_rfl) (s.b 1 (by kernel_rfl) h1) (fa6 W _))
 refine us ?_ (ybi true 7 102 true hz (by decide) (by kernel_rfl) rfl rfl fun hG _ _ s _=>yai (x:=.tmp 104) (by kernel_rfl) (s.g 9 104 (by kernel_rfl) hG rfl))
 refine us ?_ (ybi true 7 102 true hz (by decide) (by kernel_rfl) rfl rfl fun hG _ W s _=>yaR (u:=3) (x:=.tmp 103) (y:=.const (.int .i64 3)) (by kernel_rfl) (s.g 8 103 (by kernel_rfl) hG rfl) (rfl) (ye0 W _ _ _ _))
 refine us ?_ (ybi true 7 102 true hz (by decide) (by kernel_rfl) rfl rfl fun _ _ _ s _=>yai (x:=.tmp 3) (by kernel_rfl) (s.b 3 (by kernel_rfl) h3))
 refine us ?_ (ybf hz (by decide) (by kernel_rfl) fun _ _ s _=>yai (x:=.tmp 101) (by kernel_rfl) (s.u 6 101 (by kernel_rfl)))
 refine us ?_ (ybf hz (by decide) (by kernel_rfl) fun _ _ s _=>yaE (G:=true) (by kernel_rfl) (s.u 1 96 (by kernel_rfl)) (s.u 5 100 (by kernel_rfl)) rfl rfl)
 refine us ?_ (ybi true 1 96 true hz (by decide) (by kernel_rfl) rfl rfl fun hG _ W s _=>yaR (u:=32) (x:=.tmp 99) (y:=.const (.int .i64 0)) (by kernel_rfl) (s.g 4 99 (by kernel_rfl) hG rfl) (rfl) (yrV W _ _ _ _))
 refine us ?_ (yhV true 1 96 true hz (by decide) (by kernel_rfl) rfl rfl (fun hG _ _ s=>ybm (ts:=#[24]) (x:=.tmp 98) (f:=33) yuA (by kernel_rfl) rfl (s.g 3 98 (by kernel_rfl) hG rfl)) q99)
 refine us ?_ (ybi true 1 96 true hz (by decide) (by kernel_rfl) rfl rfl fun hG _ W s hS=>yas (x:=.tmp 97) (t:=24) (by kernel_rfl) (s.g 2 97 (by kernel_rfl) hG rfl) (yrL W _ 6 _ _ _ (hcell W hS 6 _ rfl) (hcell W hS 7 _ rfl) (hcell W hS 8 _ rfl)))
 refine us ?_ (ybi true 1 96 true hz (by decide) (by kernel_rfl) rfl rfl fun _ _ W s _=>yal (x:=.tmp 1) (t:=31) (f:=6) (by kernel_rfl) (s.b 1 (by kernel_rfl) h1) (fa6 W _))
 refine us ?_ (ybf hz (by decide) (by kernel_rfl) fun _ _ s _=>yai (x:=.tmp 95) (by kernel_rfl) (s.u 0 95 (by kernel_rfl)))
 refine us ?_ (ybf hz (by decide) (by kernel_rfl) fun _ _ s _=>yai (x:=.tmp 4) (by kernel_rfl) (s.b 4 (by kernel_rfl) h4))
 exact fun j hj=>absurd hj (Nat.not_lt_zero j)
noncomputable def k9_R:Array Oper:=((Tryz.f13.body).bind (yaC 9)).getD #[]
def yu8 (c:Cm) (a1 a2 a3:Option Addr) (c1 c2 c3:Nat) (b:Nat) (ok:Bool) (j:Nat):Value:=([.bool ok,.bool ok,gw (ok == true) (.int .i64 c.kind),gw (ok == true) (.bool (decide (c.kind=1))),gw (ok == true) (.pointer (some ⟨b,4,none⟩)),gw (ok == true) (.slice a1 c.cols.length c1),gw (ok == true) (.int .i64 ((c.cols.length:Nat):Int)),gw (ok == true) (.bool (decide (0 < ((c.cols.length:Nat):Int)))),gw (ok == true) (.bool ((decide (c.kind=1)) == (decide (0 < ((c.cols.length:Nat):Int))))),.bool (ok&&((decide (c.kind=1)) == (decide (0 < ((c.cols.length:Nat):Int))))),.bool (ok&&((decide (c.kind=1)) == (decide (0 < ((c.cols.length:Nat):Int))))),gw ((ok&&((decide (c.kind=1)) == (decide (0 < ((c.cols.length:Nat):Int))))) == true) (.int .i64 c.kind),gw ((ok&&((decide (c.kind=1)) == (decide (0 < ((c.cols.length:Nat):Int))))) == true) (.bool (decide (c.kind=10))),gw ((ok&&((decide (c.kind=1)) == (decide (0 < ((c.cols.length:Nat):Int))))) == true) (.pointer (some ⟨b,9,none⟩)),gw ((ok&&((decide (c.kind=1)) == (decide (0 < ((c.cols.length:Nat):Int))))) == true) (.slice a2 c.vals.length c2),gw ((ok&&((decide (c.kind=1)) == (decide (0 < ((c.cols.length:Nat):Int))))) == true) (.int .i64 ((c.vals.length:Nat):Int)),gw ((ok&&((decide (c.kind=1)) == (decide (0 < ((c.cols.length:Nat):Int))))) == true) (.bool (decide (0 < ((c.vals.length:Nat):Int)))),gw ((ok&&((decide (c.kind=1)) == (decide (0 < ((c.cols.length:Nat):Int))))) == true) (.bool ((decide (c.kind=10)) == (decide (0 < ((c.vals.length:Nat):Int))))),.bool ((ok&&((decide (c.kind=1)) == (decide (0 < ((c.cols.length:Nat):Int)))))&&((decide (c.kind=10)) == (decide (0 < ((c.vals.length:Nat):Int))))),.bool ((ok&&((decide (c.kind=1)) == (decide (0 < ((c.cols.length:Nat):Int)))))&&((decide (c.kind=10)) == (decide (0 < ((c.vals.length:Nat):Int))))),gw (((ok&&((decide (c.kind=1)) == (decide (0 < ((c.cols.length:Nat):Int)))))&&((decide (c.kind=10)) == (decide (0 < ((c.vals.length:Nat):Int))))) == true) (.int .i64 c.kind),gw (((ok&&((decide (c.kind=1)) == (decide (0 < ((c.cols.length:Nat):Int)))))&&((decide (c.kind=10)) == (decide (0 < ((c.vals.length:Nat):Int))))) == true) (.bool (decide (c.kind=13))),gw (((ok&&((decide (c.kind=1)) == (decide (0 < ((c.cols.length:Nat):Int)))))&&((decide (c.kind=10)) == (decide (0 < ((c.vals.length:Nat):Int))))) == true) (.bool (decide (c.kind=13))),gw ((((ok&&((decide (c.kind=1)) == (decide (0 < ((c.cols.length:Nat):Int)))))&&((decide (c.kind=10)) == (decide (0 < ((c.vals.length:Nat):Int))))) == true)&&((decide (c.kind=13)) == false)) (.pointer (some ⟨b,10,none⟩)),gw ((((ok&&((decide (c.kind=1)) == (decide (0 < ((c.cols.length:Nat):Int)))))&&((decide (c.kind=10)) == (decide (0 < ((c.vals.length:Nat):Int))))) == true)&&((decide (c.kind=13)) == false)) (.slice a3 c.fields.length c3),gw ((((ok&&((decide (c.kind=1)) == (decide (0 < ((c.cols.length:Nat):Int)))))&&((decide (c.kind=10)) == (decide (0 < ((c.vals.length:Nat):Int))))) == true)&&((decide (c.kind=13)) == false)) (.int .i64 ((c.fields.length:Nat):Int)),gw ((((ok&&((decide (c.kind=1)) == (decide (0 < ((c.cols.length:Nat):Int)))))&&((decide (c.kind=10)) == (decide (0 < ((c.vals.length:Nat):Int))))) == true)&&((decide (c.kind=13)) == false)) (.bool (decide (((c.fields.length:Nat):Int)=0))),gw ((((ok&&((decide (c.kind=1)) == (decide (0 < ((c.cols.length:Nat):Int)))))&&((decide (c.kind=10)) == (decide (0 < ((c.vals.length:Nat):Int))))) == true)&&((decide (c.kind=13)) == false)) (.bool (decide (((c.fields.length:Nat):Int)=0))),gw (((((ok&&((decide (c.kind=1)) == (decide (0 < ((c.cols.length:Nat):Int)))))&&((decide (c.kind=10)) == (decide (0 < ((c.vals.length:Nat):Int))))) == true)&&((decide (c.kind=13)) == false))&&((decide (((c.fields.length:Nat):Int)=0)) == true)) (.pointer (some ⟨b,24,none⟩)),gw (((((ok&&((decide (c.kind=1)) == (decide (0 < ((c.cols.length:Nat):Int)))))&&((decide (c.kind=10)) == (decide (0 < ((c.vals.length:Nat):Int))))) == true)&&((decide (c.kind=13)) == false))&&((decide (((c.fields.length:Nat):Int)=0)) == true)) (.string ⟨c.order.toArray⟩),gw (((((ok&&((decide (c.kind=1)) == (decide (0 < ((c.cols.length:Nat):Int)))))&&((decide (c.kind=10)) == (decide (0 < ((c.vals.length:Nat):Int))))) == true)&&((decide (c.kind=13)) == false))&&((decide (((c.fields.length:Nat):Int)=0)) == true)) (.bool (decide (c.order=[]))),gw ((((ok&&((decide (c.kind=1)) == (decide (0 < ((c.cols.length:Nat):Int)))))&&((decide (c.kind=10)) == (decide (0 < ((c.vals.length:Nat):Int))))) == true)&&((decide (c.kind=13)) == false)) (.bool ((decide (((c.fields.length:Nat):Int)=0))&&(decide (c.order=[])))),gw ((((ok&&((decide (c.kind=1)) == (decide (0 < ((c.cols.length:Nat):Int)))))&&((decide (c.kind=10)) == (decide (0 < ((c.vals.length:Nat):Int))))) == true)&&((decide (c.kind=13)) == false)) (.bool ((decide (((c.fields.length:Nat):Int)=0))&&(decide (c.order=[])))),gw (((((ok&&((decide (c.kind=1)) == (decide (0 < ((c.cols.length:Nat):Int)))))&&((decide (c.kind=10)) == (decide (0 < ((c.vals.length:Nat):Int))))) == true)&&((decide (c.kind=13)) == false))&&(((decide (((c.fields.length:Nat):Int)=0))&&(decide (c.order=[]))) == true)) (.pointer (some ⟨b,25,none⟩)),gw (((((ok&&((decide (c.kind=1)) == (decide (0 < ((c.cols.length:Nat):Int)))))&&((decide (c.kind=10)) == (decide (0 < ((c.vals.length:Nat):Int))))) == true)&&((decide (c.kind=13)) == false))&&(((decide (((c.fields.length:Nat):Int)=0))&&(decide (c.order=[]))) == true)) (.int .i64 c.limit),gw (((((ok&&((decide (c.kind=1)) == (decide (0 < ((c.cols.length:Nat):Int)))))&&((decide (c.kind=10)) == (decide (0 < ((c.vals.length:Nat):Int))))) == true)&&((decide (c.kind=13)) == false))&&(((decide (((c.fields.length:Nat):Int)=0))&&(decide (c.order=[]))) == true)) (.bool (decide (c.limit=0))),gw ((((ok&&((decide (c.kind=1)) == (decide (0 < ((c.cols.length:Nat):Int)))))&&((decide (c.kind=10)) == (decide (0 < ((c.vals.length:Nat):Int))))) == true)&&((decide (c.kind=13)) == false)) (.bool (((decide (((c.fields.length:Nat):Int)=0))&&(decide (c.order=[])))&&(decide (c.limit=0)))),gw (((ok&&((decide (c.kind=1)) == (decide (0 < ((c.cols.length:Nat):Int)))))&&((decide (c.kind=10)) == (decide (0 < ((c.vals.length:Nat):Int))))) == true) (.bool ((decide (c.kind=13)) || (((decide (((c.fields.length:Nat):Int)=0))&&(decide (c.order=[])))&&(decide (c.limit=0))))),.bool (((ok&&((decide (c.kind=1)) == (decide (0 < ((c.cols.length:Nat):Int)))))&&((decide (c.kind=10)) == (decide (0 < ((c.vals.length:Nat):Int)))))&&((decide (c.kind=13)) || (((decide (((c.fields.length:Nat):Int)=0))&&(decide (c.order=[])))&&(decide (c.limit=0))))),.bool (((ok&&((decide (c.kind=1)) == (decide (0 < ((c.cols.length:Nat):Int)))))&&((decide (c.kind=10)) == (decide (0 < ((c.vals.length:Nat):Int)))))&&((decide (c.kind=13)) || (((decide (((c.fields.length:Nat):Int)=0))&&(decide (c.order=[])))&&(decide (c.limit=0)))))]:List Value).getD j undef
def k9_d:List (Option Tmp):=[some 112,some 113,some 114,some 115,some 116,some 117,some 118,some 119,some 120,some 121,some 122,some 123,some 124,some 125,some 126,some 127,some 128,some 129,some 130,some 131,some 132,some 133,some 134,some 135,some 136,some 137,some 138,some 139,some 140,some 141,some 142,some 143,some 144,some 145,some 146,some 147,some 148,some 149,some 150,some 4]
theorem yoZ:k9_d.Nodup:=by unfold k9_d;decide
theorem yuc {c:Cm} {a1 a2 a3 a4 a5:Option Addr} {c1 c2 c3 c4 c5:Nat} {b:Nat} {ok:Bool} {S:World→Prop} {a0:Act} {Q:Exit→Act→World→Prop} {w:World} (h1:a0.tmps[1]?=some (.pointer (some ⟨b,0,none⟩))) (h3:a0.tmps[3]?=some (.int .i64 c.kind)) (h4:a0.tmps[4]?=some (.bool ok)) (hcell:∀ W,S W→∀ o x,(cmL c (.slice a1 c.cols.length c1) (.slice a2 c.vals.length c2) (.slice a3 c.fields.length c3) (.slice a4 c.expr.args.length c4) (.slice a5 c.wh.args.length c5))[o]?=some x→W.cell? ⟨b,o,none⟩=some x) (ha:a0.tmps.size=272) (hS:S w)
  (hq:∀ a' w',S w'→a'.defers=a0.defers→a'.tmps.size=272→(∀ j d,k9_d[j]?=some (some d)→a'.tmps[d]?=some (yu8 c a1 a2 a3 c1 c2 c3 b ok j))→(∀ d,some d ∉ k9_d→a'.tmps[d]?=a0.tmps[d]?)→Q .normal a' w'):(Code.region 9 k9_R false).wp Tryz.prog Q a0 w:=by
 have hz:k9_R.size=40:=by kernel_rfl
 refine yaT (m:=272) hz (by kernel_rfl) yoZ (by kernel_rfl) ha ?_ hS hq
 refine us ?_ (ybf hz (by decide) (by kernel_rfl) fun _ _ s _=>yaV (x:=.tmp 150) (by kernel_rfl) (s.u 38 150 (by kernel_rfl)))
 refine us ?_ (ybf hz (by decide) (by kernel_rfl) fun _ _ s _=>yaE (G:=true) (by kernel_rfl) (s.u 19 131 (by kernel_rfl)) (s.u 37 149 (by kernel_rfl)) rfl rfl)
 refine us ?_ (ybi true 19 131 true hz (by decide) (by kernel_rfl) rfl rfl fun hG _ _ s _=>ybI (by kernel_rfl) (s.g 22 134 (by kernel_rfl) hG rfl) (s.u 36 148 (by kernel_rfl)) rfl hG)
 refine us ?_ (ybi _ 22 134 false hz (by decide) (by kernel_rfl) rfl rfl fun hG _ _ s _=>yaE (by kernel_rfl) (s.g 32 144 (by kernel_rfl) hG rfl) (s.u 35 147 (by kernel_rfl)) rfl hG)
 refine us ?_ (ybi _ 32 144 true hz (by decide) (by kernel_rfl) rfl rfl fun hG _ W s _=>yaR (u:=3) (x:=.tmp 146) (y:=.const (.int .i64 0)) (by kernel_rfl) (s.g 34 146 (by kernel_rfl) hG rfl) (rfl) (ye0 W _ _ _ _))
 refine us ?_ (ybi _ 32 144 true hz (by decide) (by kernel_rfl) rfl rfl fun hG _ W s hS=>yas (x:=.tmp 145) (t:=3) (by kernel_rfl) (s.g 33 145 (by kernel_rfl) hG rfl) (ld3 W _ 25 _ (hcell W hS 25 _ rfl)))
 refine us ?_ (ybi _ 32 144 true hz (by decide) (by kernel_rfl) rfl rfl fun _ _ W s _=>yal (x:=.tmp 1) (t:=31) (f:=13) (by kernel_rfl) (s.b 1 (by kernel_rfl) h1) (yrY W _))
 refine us ?_ (ybi _ 22 134 false hz (by decide) (by kernel_rfl) rfl rfl fun hG _ _ s _=>yai (x:=.tmp 143) (by kernel_rfl) (s.g 31 143 (by kernel_rfl) hG rfl))
 refine us ?_ (ybi _ 22 134 false hz (by decide) (by kernel_rfl) rfl rfl fun hG _ _ s _=>yaE (by kernel_rfl) (s.g 27 139 (by kernel_rfl) hG rfl) (s.u 30 142 (by kernel_rfl)) rfl hG)
 refine us ?_ (ybi _ 27 139 true hz (by decide) (by kernel_rfl) rfl rfl fun hG _ W s _=>yaR (u:=9) (x:=.tmp 141) (y:=.const (.string ⟨#[]⟩)) (by kernel_rfl) (s.g 29 141 (by kernel_rfl) hG rfl) (rfl) (eq9 W _ _ _))
 refine us ?_ (ybi _ 27 139 true hz (by decide) (by kernel_rfl) rfl rfl fun hG _ W s hS=>yas (x:=.tmp 140) (t:=9) (by kernel_rfl) (s.g 28 140 (by kernel_rfl) hG rfl) (ld9 W _ 24 _ (hcell W hS 24 _ rfl)))
 refine us ?_ (ybi _ 27 139 true hz (by decide) (by kernel_rfl) rfl rfl fun _ _ W s _=>yal (x:=.tmp 1) (t:=31) (f:=12) (by kernel_rfl) (s.b 1 (by kernel_rfl) h1) (yrJ W _))
 refine us ?_ (ybi _ 22 134 false hz (by decide) (by kernel_rfl) rfl rfl fun hG _ _ s _=>yai (x:=.tmp 138) (by kernel_rfl) (s.g 26 138 (by kernel_rfl) hG rfl))
 refine us ?_ (ybi _ 22 134 false hz (by decide) (by kernel_rfl) rfl rfl fun hG _ W s _=>yaR (u:=3) (x:=.tmp 137) (y:=.const (.int .i64 0)) (by kernel_rfl) (s.g 25 137 (by kernel_rfl) hG rfl) (rfl) (ye0 W _ _ _ _))
 refine us ?_ (ybi _ 22 134 false hz (by decide) (by kernel_rfl) rfl rfl fun hG _ W s _=>ydh (ts:=#[26]) (x:=.tmp 136) (by kernel_rfl) (fun ty=>yo4 W a3 c.fields.length c3 ty) (s.g 24 136 (by kernel_rfl) hG rfl))
 refine us ?_ (ybi _ 22 134 false hz (by decide) (by kernel_rfl) rfl rfl fun hG _ W s hS=>yas (x:=.tmp 135) (t:=26) (by kernel_rfl) (s.g 23 135 (by kernel_rfl) hG rfl) (yrN W _ 10 _ (hcell W hS 10 _ rfl)))
 refine us ?_ (ybi _ 22 134 false hz (by decide) (by kernel_rfl) rfl rfl fun _ _ W s _=>yal (x:=.tmp 1) (t:=31) (f:=8) (by kernel_rfl) (s.b 1 (by kernel_rfl) h1) (fa8 W _))
 refine us ?_ (ybi true 19 131 true hz (by decide) (by kernel_rfl) rfl rfl fun hG _ _ s _=>yai (x:=.tmp 133) (by kernel_rfl) (s.g 21 133 (by kernel_rfl) hG rfl))
 refine us ?_ (ybi true 19 131 true hz (by decide) (by kernel_rfl) rfl rfl fun hG _ W s _=>yaR (u:=3) (x:=.tmp 132) (y:=.const (.int .i64 13)) (by kernel_rfl) (s.g 20 132 (by kernel_rfl) hG rfl) (rfl) (ye0 W _ _ _ _))
 refine us ?_ (ybi true 19 131 true hz (by decide) (by kernel_rfl) rfl rfl fun _ _ _ s _=>yai (x:=.tmp 3) (by kernel_rfl) (s.b 3 (by kernel_rfl) h3))
 refine us ?_ (ybf hz (by decide) (by kernel_rfl) fun _ _ s _=>yai (x:=.tmp 130) (by kernel_rfl) (s.u 18 130 (by kernel_rfl)))
 refine us ?_ (ybf hz (by decide) (by kernel_rfl) fun _ _ s _=>yaE (G:=true) (by kernel_rfl) (s.u 10 122 (by kernel_rfl)) (s.u 17 129 (by kernel_rfl)) rfl rfl)
 refine us ?_ (ybi true 10 122 true hz (by decide) (by kernel_rfl) rfl rfl fun hG _ W s _=>yaR (u:=4) (x:=.tmp 124) (y:=.tmp 128) (by kernel_rfl) (s.g 12 124 (by kernel_rfl) hG rfl) (s.g 16 128 (by kernel_rfl) hG rfl) (yuE W _ _ _ _))
 refine us ?_ (ybi true 10 122 true hz (by decide) (by kernel_rfl) rfl rfl fun hG _ W s _=>yaR (u:=3) (x:=.tmp 127) (y:=.const (.int .i64 0)) (by kernel_rfl) (s.g 15 127 (by kernel_rfl) hG rfl) (rfl) (yib W _ _ _ _))
 refine us ?_ (ybi true 10 122 true hz (by decide) (by kernel_rfl) rfl rfl fun hG _ W s _=>ydh (ts:=#[25]) (x:=.tmp 126) (by kernel_rfl) (fun ty=>yo3 W a2 c.vals.length c2 ty) (s.g 14 126 (by kernel_rfl) hG rfl))
 refine us ?_ (ybi true 10 122 true hz (by decide) (by kernel_rfl) rfl rfl fun hG _ W s hS=>yas (x:=.tmp 125) (t:=25) (by kernel_rfl) (s.g 13 125 (by kernel_rfl) hG rfl) (yrM W _ 9 _ (hcell W hS 9 _ rfl)))
 refine us ?_ (ybi true 10 122 true hz (by decide) (by kernel_rfl) rfl rfl fun _ _ W s _=>yal (x:=.tmp 1) (t:=31) (f:=7) (by kernel_rfl) (s.b 1 (by kernel_rfl) h1) (fa7 W _))
 refine us ?_ (ybi true 10 122 true hz (by decide) (by kernel_rfl) rfl rfl fun hG _ W s _=>yaR (u:=3) (x:=.tmp 123) (y:=.const (.int .i64 10)) (by kernel_rfl) (s.g 11 123 (by kernel_rfl) hG rfl) (rfl) (ye0 W _ _ _ _))
 refine us ?_ (ybi true 10 122 true hz (by decide) (by kernel_rfl) rfl rfl fun _ _ _ s _=>yai (x:=.tmp 3) (by kernel_rfl) (s.b 3 (by kernel_rfl) h3))
 refine us ?_ (ybf hz (by decide) (by kernel_rfl) fun _ _ s _=>yai (x:=.tmp 121) (by kernel_rfl) (s.u 9 121 (by kernel_rfl)))
 refine us ?_ (ybf hz (by decide) (by kernel_rfl) fun _ _ s _=>yaE (G:=true) (by kernel_rfl) (s.u 1 113 (by kernel_rfl)) (s.u 8 120 (by kernel_rfl)) rfl rfl)
 refine us ?_ (ybi true 1 113 true hz (by decide) (by kernel_rfl) rfl rfl fun hG _ W s _=>yaR (u:=4) (x:=.tmp 115) (y:=.tmp 119) (by kernel_rfl) (s.g 3 115 (by kernel_rfl) hG rfl) (s.g 7 119 (by kernel_rfl) hG rfl) (yuE W _ _ _ _))
 refine us ?_ (ybi true 1 113 true hz (by decide) (by kernel_rfl) rfl rfl fun hG _ W s _=>yaR (u:=3) (x:=.tmp 118) (y:=.const (.int .i64 0)) (by kernel_rfl) (s.g 6 118 (by kernel_rfl) hG rfl) (rfl) (yib W _ _ _ _))
 refine us ?_ (ybi true 1 113 true hz (by decide) (by kernel_rfl) rfl rfl fun hG _ W s _=>ydh (ts:=#[22]) (x:=.tmp 117) (by kernel_rfl) (fun ty=>yo2 W a1 c.cols.length c1 ty) (s.g 5 117 (by kernel_rfl) hG rfl))
 refine us ?_ (ybi true 1 113 true hz (by decide) (by kernel_rfl) rfl rfl fun hG _ W s hS=>yas (x:=.tmp 116) (t:=22) (by kernel_rfl) (s.g 4 116 (by kernel_rfl) hG rfl) (yrb W _ 4 _ (hcell W hS 4 _ rfl)))
 refine us ?_ (ybi true 1 113 true hz (by decide) (by kernel_rfl) rfl rfl fun _ _ W s _=>yal (x:=.tmp 1) (t:=31) (f:=4) (by kernel_rfl) (s.b 1 (by kernel_rfl) h1) (fa4 W _))
 refine us ?_ (ybi true 1 113 true hz (by decide) (by kernel_rfl) rfl rfl fun hG _ W s _=>yaR (u:=3) (x:=.tmp 114) (y:=.const (.int .i64 1)) (by kernel_rfl) (s.g 2 114 (by kernel_rfl) hG rfl) (rfl) (ye0 W _ _ _ _))
 refine us ?_ (ybi true 1 113 true hz (by decide) (by kernel_rfl) rfl rfl fun _ _ _ s _=>yai (x:=.tmp 3) (by kernel_rfl) (s.b 3 (by kernel_rfl) h3))
 refine us ?_ (ybf hz (by decide) (by kernel_rfl) fun _ _ s _=>yai (x:=.tmp 112) (by kernel_rfl) (s.u 0 112 (by kernel_rfl)))
 refine us ?_ (ybf hz (by decide) (by kernel_rfl) fun _ _ s _=>yai (x:=.tmp 4) (by kernel_rfl) (s.b 4 (by kernel_rfl) h4))
 exact fun j hj=>absurd hj (Nat.not_lt_zero j)
noncomputable def k11_R:Array Oper:=((Tryz.f13.body).bind (yaC 11)).getD #[]
def ytJ (c:Cm) (a1:Option Addr) (c1:Nat) (b:Nat) (i:Nat) (j:Nat):Value:=([.int .i64 (i:Int),.pointer (some ⟨b,4,none⟩),.slice a1 c.cols.length c1,.int .i64 ((c.cols.length:Nat):Int),.bool (decide ((i:Int) < ((c.cols.length:Nat):Int)))]:List Value).getD j undef
def k11_d:List (Option Tmp):=[some 151,some 152,some 153,some 154,some 155]
theorem yl8:k11_d.Nodup:=by unfold k11_d;decide
theorem yst {c:Cm} {a1 a2 a3 a4 a5:Option Addr} {c1 c2 c3 c4 c5:Nat} {b:Nat} {i:Nat} {S:World→Prop} {a0:Act} {Q:Exit→Act→World→Prop} {w:World} (h1:a0.tmps[1]?=some (.pointer (some ⟨b,0,none⟩))) (h5:a0.tmps[5]?=some (.int .i64 (i:Int))) (hcell:∀ W,S W→∀ o x,(cmL c (.slice a1 c.cols.length c1) (.slice a2 c.vals.length c2) (.slice a3 c.fields.length c3) (.slice a4 c.expr.args.length c4) (.slice a5 c.wh.args.length c5))[o]?=some x→W.cell? ⟨b,o,none⟩=some x) (ha:a0.tmps.size=272) (hS:S w)
  (hq:∀ a' w',S w'→a'.defers=a0.defers→a'.tmps.size=272→(∀ j d,k11_d[j]?=some (some d)→a'.tmps[d]?=some (ytJ c a1 c1 b i j))→(∀ d,some d ∉ k11_d→a'.tmps[d]?=a0.tmps[d]?)→Q .normal a' w'):(Code.region 11 k11_R false).wp Tryz.prog Q a0 w:=by
 have hz:k11_R.size=5:=by kernel_rfl
 refine yaT (m:=272) hz (by kernel_rfl) yl8 (by kernel_rfl) ha ?_ hS hq
 refine us ?_ (ybf hz (by decide) (by kernel_rfl) fun _ W s _=>yaR (u:=3) (x:=.tmp 151) (y:=.tmp 154) (by kernel_rfl) (s.u 0 151 (by kernel_rfl)) (s.u 3 154 (by kernel_rfl)) (yre W _ _ _ _))
 refine us ?_ (ybf hz (by decide) (by kernel_rfl) fun _ W s _=>ydh (ts:=#[22]) (x:=.tmp 153) (by kernel_rfl) (fun ty=>yo2 W a1 c.cols.length c1 ty) (s.u 2 153 (by kernel_rfl)))
 refine us ?_ (ybf hz (by decide) (by kernel_rfl) fun _ W s hS=>yas (x:=.tmp 152) (t:=22) (by kernel_rfl) (s.u 1 152 (by kernel_rfl)) (yrb W _ 4 _ (hcell W hS 4 _ rfl)))
 refine us ?_ (ybf hz (by decide) (by kernel_rfl) fun _ W s _=>yal (x:=.tmp 1) (t:=31) (f:=4) (by kernel_rfl) (s.b 1 (by kernel_rfl) h1) (fa4 W _))
 refine us ?_ (ybf hz (by decide) (by kernel_rfl) fun _ _ s _=>yai (x:=.tmp 5) (by kernel_rfl) (s.b 5 (by kernel_rfl) h5))
 exact fun j hj=>absurd hj (Nat.not_lt_zero j)
noncomputable def k13_R:Array Oper:=((Tryz.f13.body).bind (yaC 13)).getD #[]
def ytL (c:Cm) (c1:Nat) (b g o i:Nat) (ok:Bool) (x:Cl) (j:Nat):Value:=([.bool ok,.bool ok,gw (ok == true) (.pointer (some ⟨b,4,none⟩)),gw (ok == true) (.slice (some ⟨g,o,none⟩) c.cols.length c1),gw (ok == true) (.int .i64 (i:Int)),gw (ok == true) (.pointer (some ⟨g,o+i*2,none⟩)),gw (ok == true) (.pointer (some ⟨g,o+i*2,none⟩)),gw (ok == true) (.string ⟨x.name.toArray⟩),gw (ok == true) (.bool (yap x.name)),.bool (ok&&(yap x.name)),.bool (ok&&(yap x.name)),gw ((ok&&(yap x.name)) == true) (.pointer (some ⟨b,4,none⟩)),gw ((ok&&(yap x.name)) == true) (.slice (some ⟨g,o,none⟩) c.cols.length c1),gw ((ok&&(yap x.name)) == true) (.int .i64 (i:Int)),gw ((ok&&(yap x.name)) == true) (.pointer (some ⟨g,o+i*2,none⟩)),gw ((ok&&(yap x.name)) == true) (.pointer (some ⟨g,o+i*2+1,none⟩)),gw ((ok&&(yap x.name)) == true) (.int .i64 x.ty),gw ((ok&&(yap x.name)) == true) (.bool (ya6 x.ty 1 3)),.bool ((ok&&(yap x.name))&&(ya6 x.ty 1 3)),.bool ((ok&&(yap x.name))&&(ya6 x.ty 1 3))]:List Value).getD j undef
def k13_d:List (Option Tmp):=[some 158,some 159,some 160,some 161,some 162,some 163,some 164,some 165,some 166,some 167,some 168,some 169,some 170,some 171,some 172,some 173,some 174,some 175,some 176,some 4]
theorem yma:k13_d.Nodup:=by unfold k13_d;decide
theorem ysv {c:Cm} {a2 a3 a4 a5:Option Addr} {c1 c2 c3 c4 c5:Nat} {b g o i:Nat} {ok:Bool} {x:Cl} {S:World→Prop} {a0:Act} {Q:Exit→Act→World→Prop} {w:World} (h1:a0.tmps[1]?=some (.pointer (some ⟨b,0,none⟩))) (h4:a0.tmps[4]?=some (.bool ok)) (h5:a0.tmps[5]?=some (.int .i64 (i:Int))) (hcell:∀ W,S W→∀ p y,(cmL c (.slice (some ⟨g,o,none⟩) c.cols.length c1) (.slice a2 c.vals.length c2) (.slice a3 c.fields.length c3) (.slice a4 c.expr.args.length c4) (.slice a5 c.wh.args.length c5))[p]?=some y→W.cell? ⟨b,p,none⟩=some y) (hix:i < c.cols.length) (e0:∀ W,S W→W.cell? ⟨g,o+i*2,none⟩=some (.string ⟨x.name.toArray⟩)) (e1:∀ W,S W→W.cell? ⟨g,o+i*2+1,none⟩=some (.int .i64 x.ty)) (q166:∀ W,S W→Calls Tryz.prog 34 #[.string ⟨x.name.toArray⟩] W fun e w'=>e=.returned (.bool (yap x.name))∧S w') (q175:∀ W,S W→Calls Tryz.prog 31 #[.int .i64 x.ty,.int .i64 1,.int .i64 3] W fun e w'=>e=.returned (.bool (ya6 x.ty 1 3))∧S w') (ha:a0.tmps.size=272) (hS:S w)
  (hq:∀ a' w',S w'→a'.defers=a0.defers→a'.tmps.size=272→(∀ j d,k13_d[j]?=some (some d)→a'.tmps[d]?=some (ytL c c1 b g o i ok x j))→(∀ d,some d ∉ k13_d→a'.tmps[d]?=a0.tmps[d]?)→Q .normal a' w'):(Code.region 13 k13_R false).wp Tryz.prog Q a0 w:=by
 have hz:k13_R.size=20:=by kernel_rfl
 refine yaT (m:=272) hz (by kernel_rfl) yma (by kernel_rfl) ha ?_ hS hq
 refine us ?_ (ybf hz (by decide) (by kernel_rfl) fun _ _ s _=>yaV (x:=.tmp 176) (by kernel_rfl) (s.u 18 176 (by kernel_rfl)))
 refine us ?_ (ybf hz (by decide) (by kernel_rfl) fun _ _ s _=>yaE (G:=true) (by kernel_rfl) (s.u 10 168 (by kernel_rfl)) (s.u 17 175 (by kernel_rfl)) rfl rfl)
 refine us ?_ (yhV true 10 168 true hz (by decide) (by kernel_rfl) rfl rfl (fun hG _ _ s=>ydm (ts:=#[3,3,3]) (x:=.tmp 174) (y:=.const (.int .i64 1)) (z:=.const (.int .i64 3)) (f:=31) yql (by kernel_rfl) rfl (s.g 16 174 (by kernel_rfl) hG rfl) (rfl) (rfl)) q175)
 refine us ?_ (ybi true 10 168 true hz (by decide) (by kernel_rfl) rfl rfl fun hG _ W s hS=>yas (x:=.tmp 173) (t:=3) (by kernel_rfl) (s.g 15 173 (by kernel_rfl) hG rfl) (ld3 W _ (o+i*2+1) _ (e1 W hS)))
 refine us ?_ (ybi true 10 168 true hz (by decide) (by kernel_rfl) rfl rfl fun hG _ W s _=>yal (x:=.tmp 172) (t:=56) (f:=1) (by kernel_rfl) (s.g 14 172 (by kernel_rfl) hG rfl) (fc1 W _ _))
 refine us ?_ (ybi true 10 168 true hz (by decide) (by kernel_rfl) rfl rfl fun hG _ W s _=>ye2 (t:=22) (x:=.tmp 170) (y:=.tmp 171) (by kernel_rfl) (s.g 12 170 (by kernel_rfl) hG rfl) (s.g 13 171 (by kernel_rfl) hG rfl) (yuG W _ _ _ _ _ hix))
 refine us ?_ (ybi true 10 168 true hz (by decide) (by kernel_rfl) rfl rfl fun _ _ _ s _=>yai (x:=.tmp 5) (by kernel_rfl) (s.b 5 (by kernel_rfl) h5))
 refine us ?_ (ybi true 10 168 true hz (by decide) (by kernel_rfl) rfl rfl fun hG _ W s hS=>yas (x:=.tmp 169) (t:=22) (by kernel_rfl) (s.g 11 169 (by kernel_rfl) hG rfl) (yrb W _ 4 _ (hcell W hS 4 _ rfl)))
 refine us ?_ (ybi true 10 168 true hz (by decide) (by kernel_rfl) rfl rfl fun _ _ W s _=>yal (x:=.tmp 1) (t:=31) (f:=4) (by kernel_rfl) (s.b 1 (by kernel_rfl) h1) (fa4 W _))
 refine us ?_ (ybf hz (by decide) (by kernel_rfl) fun _ _ s _=>yai (x:=.tmp 167) (by kernel_rfl) (s.u 9 167 (by kernel_rfl)))
 refine us ?_ (ybf hz (by decide) (by kernel_rfl) fun _ _ s _=>yaE (G:=true) (by kernel_rfl) (s.u 1 159 (by kernel_rfl)) (s.u 8 166 (by kernel_rfl)) rfl rfl)
 refine us ?_ (yhV true 1 159 true hz (by decide) (by kernel_rfl) rfl rfl (fun hG _ _ s=>ybm (ts:=#[9]) (x:=.tmp 165) (f:=34) yty (by kernel_rfl) rfl (s.g 7 165 (by kernel_rfl) hG rfl)) q166)
 refine us ?_ (ybi true 1 159 true hz (by decide) (by kernel_rfl) rfl rfl fun hG _ W s hS=>yas (x:=.tmp 164) (t:=9) (by kernel_rfl) (s.g 6 164 (by kernel_rfl) hG rfl) (ld9 W _ (o+i*2) _ (e0 W hS)))
 refine us ?_ (ybi true 1 159 true hz (by decide) (by kernel_rfl) rfl rfl fun hG _ W s _=>yal (x:=.tmp 163) (t:=56) (f:=0) (by kernel_rfl) (s.g 5 163 (by kernel_rfl) hG rfl) (fc0 W _ _))
 refine us ?_ (ybi true 1 159 true hz (by decide) (by kernel_rfl) rfl rfl fun hG _ W s _=>ye2 (t:=22) (x:=.tmp 161) (y:=.tmp 162) (by kernel_rfl) (s.g 3 161 (by kernel_rfl) hG rfl) (s.g 4 162 (by kernel_rfl) hG rfl) (yuG W _ _ _ _ _ hix))
 refine us ?_ (ybi true 1 159 true hz (by decide) (by kernel_rfl) rfl rfl fun _ _ _ s _=>yai (x:=.tmp 5) (by kernel_rfl) (s.b 5 (by kernel_rfl) h5))
 refine us ?_ (ybi true 1 159 true hz (by decide) (by kernel_rfl) rfl rfl fun hG _ W s hS=>yas (x:=.tmp 160) (t:=22) (by kernel_rfl) (s.g 2 160 (by kernel_rfl) hG rfl) (yrb W _ 4 _ (hcell W hS 4 _ rfl)))
 refine us ?_ (ybi true 1 159 true hz (by decide) (by kernel_rfl) rfl rfl fun _ _ W s _=>yal (x:=.tmp 1) (t:=31) (f:=4) (by kernel_rfl) (s.b 1 (by kernel_rfl) h1) (fa4 W _))
 refine us ?_ (ybf hz (by decide) (by kernel_rfl) fun _ _ s _=>yai (x:=.tmp 158) (by kernel_rfl) (s.u 0 158 (by kernel_rfl)))
 refine us ?_ (ybf hz (by decide) (by kernel_rfl) fun _ _ s _=>yai (x:=.tmp 4) (by kernel_rfl) (s.b 4 (by kernel_rfl) h4))
 exact fun j hj=>absurd hj (Nat.not_lt_zero j)
noncomputable def k12_R:Array Oper:=((Tryz.f13.body).bind (yaC 12)).getD #[]
def ytK (i:Nat) (j:Nat):Value:=([.int .i64 (i:Int),.int .i64 ((i+1:Nat):Int),.int .i64 ((i+1:Nat):Int)]:List Value).getD j undef
def k12_d:List (Option Tmp):=[some 156,some 157,some 5]
theorem yl9:k12_d.Nodup:=by unfold k12_d;decide
theorem ysu {i:Nat} {S:World→Prop} {a0:Act} {Q:Exit→Act→World→Prop} {w:World} (h5:a0.tmps[5]?=some (.int .i64 (i:Int))) (hadd:i < 1000000000000001) (ha:a0.tmps.size=272) (hS:S w)
  (hq:∀ a' w',S w'→a'.defers=a0.defers→a'.tmps.size=272→(∀ j d,k12_d[j]?=some (some d)→a'.tmps[d]?=some (ytK i j))→(∀ d,some d ∉ k12_d→a'.tmps[d]?=a0.tmps[d]?)→Q .normal a' w'):(Code.region 12 k12_R false).wp Tryz.prog Q a0 w:=by
 have hz:k12_R.size=3:=by kernel_rfl
 refine yaT (m:=272) hz (by kernel_rfl) yl9 (by kernel_rfl) ha ?_ hS hq
 refine us ?_ (ybf hz (by decide) (by kernel_rfl) fun _ _ s _=>yaV (x:=.tmp 157) (by kernel_rfl) (s.u 1 157 (by kernel_rfl)))
 refine us ?_ (ybf hz (by decide) (by kernel_rfl) fun _ W s _=>yaR (u:=3) (x:=.tmp 156) (y:=.const (.int .i64 1)) (by kernel_rfl) (s.u 0 156 (by kernel_rfl)) (rfl) (yp0 W _ _ _ hadd))
 refine us ?_ (ybf hz (by decide) (by kernel_rfl) fun _ _ s _=>yai (x:=.tmp 5) (by kernel_rfl) (s.b 5 (by kernel_rfl) h5))
 exact fun j hj=>absurd hj (Nat.not_lt_zero j)
noncomputable def k15_R:Array Oper:=((Tryz.f13.body).bind (yaC 15)).getD #[]
def ytN (c:Cm) (a2:Option Addr) (c2:Nat) (b:Nat) (i:Nat) (j:Nat):Value:=([.int .i64 (i:Int),.pointer (some ⟨b,9,none⟩),.slice a2 c.vals.length c2,.int .i64 ((c.vals.length:Nat):Int),.bool (decide ((i:Int) < ((c.vals.length:Nat):Int)))]:List Value).getD j undef
def k15_d:List (Option Tmp):=[some 177,some 178,some 179,some 180,some 181]
theorem ymc:k15_d.Nodup:=by unfold k15_d;decide
theorem ysx {c:Cm} {a1 a2 a3 a4 a5:Option Addr} {c1 c2 c3 c4 c5:Nat} {b:Nat} {i:Nat} {S:World→Prop} {a0:Act} {Q:Exit→Act→World→Prop} {w:World} (h1:a0.tmps[1]?=some (.pointer (some ⟨b,0,none⟩))) (h6:a0.tmps[6]?=some (.int .i64 (i:Int))) (hcell:∀ W,S W→∀ o x,(cmL c (.slice a1 c.cols.length c1) (.slice a2 c.vals.length c2) (.slice a3 c.fields.length c3) (.slice a4 c.expr.args.length c4) (.slice a5 c.wh.args.length c5))[o]?=some x→W.cell? ⟨b,o,none⟩=some x) (ha:a0.tmps.size=272) (hS:S w)
  (hq:∀ a' w',S w'→a'.defers=a0.defers→a'.tmps.size=272→(∀ j d,k15_d[j]?=some (some d)→a'.tmps[d]?=some (ytN c a2 c2 b i j))→(∀ d,some d ∉ k15_d→a'.tmps[d]?=a0.tmps[d]?)→Q .normal a' w'):(Code.region 15 k15_R false).wp Tryz.prog Q a0 w:=by
 have hz:k15_R.size=5:=by kernel_rfl
 refine yaT (m:=272) hz (by kernel_rfl) ymc (by kernel_rfl) ha ?_ hS hq
 refine us ?_ (ybf hz (by decide) (by kernel_rfl) fun _ W s _=>yaR (u:=3) (x:=.tmp 177) (y:=.tmp 180) (by kernel_rfl) (s.u 0 177 (by kernel_rfl)) (s.u 3 180 (by kernel_rfl)) (yre W _ _ _ _))
 refine us ?_ (ybf hz (by decide) (by kernel_rfl) fun _ W s _=>ydh (ts:=#[25]) (x:=.tmp 179) (by kernel_rfl) (fun ty=>yo3 W a2 c.vals.length c2 ty) (s.u 2 179 (by kernel_rfl)))
 refine us ?_ (ybf hz (by decide) (by kernel_rfl) fun _ W s hS=>yas (x:=.tmp 178) (t:=25) (by kernel_rfl) (s.u 1 178 (by kernel_rfl)) (yrM W _ 9 _ (hcell W hS 9 _ rfl)))
 refine us ?_ (ybf hz (by decide) (by kernel_rfl) fun _ W s _=>yal (x:=.tmp 1) (t:=31) (f:=7) (by kernel_rfl) (s.b 1 (by kernel_rfl) h1) (fa7 W _))
 refine us ?_ (ybf hz (by decide) (by kernel_rfl) fun _ _ s _=>yai (x:=.tmp 6) (by kernel_rfl) (s.b 6 (by kernel_rfl) h6))
 exact fun j hj=>absurd hj (Nat.not_lt_zero j)
noncomputable def k17_R:Array Oper:=((Tryz.f13.body).bind (yaC 17)).getD #[]
def ytP (c:Cm) (c2:Nat) (b g o i:Nat) (ok:Bool) (x:Vl) (j:Nat):Value:=([.bool ok,.bool ok,gw (ok == true) (.pointer (some ⟨b,9,none⟩)),gw (ok == true) (.slice (some ⟨g,o,none⟩) c.vals.length c2),gw (ok == true) (.int .i64 (i:Int)),gw (ok == true) (.pointer (some ⟨g,o+i*3,none⟩)),gw (ok == true) (.agg #[.int .i64 x.k,.int .i64 x.n,.string ⟨x.s.toArray⟩]),gw (ok == true) (.int .i64 ((ycw x.k x.n x.s:Nat):Int)),gw (ok == true) (.bool (decide (((ycw x.k x.n x.s:Nat):Int)=0))),.bool (ok&&(decide (((ycw x.k x.n x.s:Nat):Int)=0))),.bool (ok&&(decide (((ycw x.k x.n x.s:Nat):Int)=0)))]:List Value).getD j undef
def k17_d:List (Option Tmp):=[some 184,some 185,some 186,some 187,some 188,some 189,some 190,some 191,some 192,some 193,some 4]
theorem yme:k17_d.Nodup:=by unfold k17_d;decide
theorem ysz {c:Cm} {a1 a3 a4 a5:Option Addr} {c1 c2 c3 c4 c5:Nat} {b g o i:Nat} {ok:Bool} {x:Vl} {S:World→Prop} {a0:Act} {Q:Exit→Act→World→Prop} {w:World} (h1:a0.tmps[1]?=some (.pointer (some ⟨b,0,none⟩))) (h4:a0.tmps[4]?=some (.bool ok)) (h6:a0.tmps[6]?=some (.int .i64 (i:Int))) (hcell:∀ W,S W→∀ p y,(cmL c (.slice a1 c.cols.length c1) (.slice (some ⟨g,o,none⟩) c.vals.length c2) (.slice a3 c.fields.length c3) (.slice a4 c.expr.args.length c4) (.slice a5 c.wh.args.length c5))[p]?=some y→W.cell? ⟨b,p,none⟩=some y) (hix:i < c.vals.length) (e0:∀ W,S W→W.cell? ⟨g,o+i*3,none⟩=some (.int .i64 x.k)) (e1:∀ W,S W→W.cell? ⟨g,o+i*3+1,none⟩=some (.int .i64 x.n)) (e2:∀ W,S W→W.cell? ⟨g,o+i*3+2,none⟩=some (.string ⟨x.s.toArray⟩)) (q191:∀ W,S W→Calls Tryz.prog 33 #[.agg #[.int .i64 x.k,.int .i64 x.n,.string ⟨x.s.toArray⟩]] W fun e w'=>e=.returned (.int .i64 ((ycw x.k x.n x.s:Nat):Int))∧S w') (ha:a0.tmps.size=272) (hS:S w)
  (hq:∀ a' w',S w'→a'.defers=a0.defers→a'.tmps.size=272→(∀ j d,k17_d[j]?=some (some d)→a'.tmps[d]?=some (ytP c c2 b g o i ok x j))→(∀ d,some d ∉ k17_d→a'.tmps[d]?=a0.tmps[d]?)→Q .normal a' w'):(Code.region 17 k17_R false).wp Tryz.prog Q a0 w:=by
 have hz:k17_R.size=11:=by kernel_rfl
 refine yaT (m:=272) hz (by kernel_rfl) yme (by kernel_rfl) ha ?_ hS hq
 refine us ?_ (ybf hz (by decide) (by kernel_rfl) fun _ _ s _=>yaV (x:=.tmp 193) (by kernel_rfl) (s.u 9 193 (by kernel_rfl)))
 refine us ?_ (ybf hz (by decide) (by kernel_rfl) fun _ _ s _=>yaE (G:=true) (by kernel_rfl) (s.u 1 185 (by kernel_rfl)) (s.u 8 192 (by kernel_rfl)) rfl rfl)
 refine us ?_ (ybi true 1 185 true hz (by decide) (by kernel_rfl) rfl rfl fun hG _ W s _=>yaR (u:=32) (x:=.tmp 191) (y:=.const (.int .i64 0)) (by kernel_rfl) (s.g 7 191 (by kernel_rfl) hG rfl) (rfl) (yrV W _ _ _ _))
 refine us ?_ (yhV true 1 185 true hz (by decide) (by kernel_rfl) rfl rfl (fun hG _ _ s=>ybm (ts:=#[24]) (x:=.tmp 190) (f:=33) yuA (by kernel_rfl) rfl (s.g 6 190 (by kernel_rfl) hG rfl)) q191)
 refine us ?_ (ybi true 1 185 true hz (by decide) (by kernel_rfl) rfl rfl fun hG _ W s hS=>yas (x:=.tmp 189) (t:=24) (by kernel_rfl) (s.g 5 189 (by kernel_rfl) hG rfl) (yrL W _ (o+i*3) _ _ _ (e0 W hS) (e1 W hS) (e2 W hS)))
 refine us ?_ (ybi true 1 185 true hz (by decide) (by kernel_rfl) rfl rfl fun hG _ W s _=>ye2 (t:=25) (x:=.tmp 187) (y:=.tmp 188) (by kernel_rfl) (s.g 3 187 (by kernel_rfl) hG rfl) (s.g 4 188 (by kernel_rfl) hG rfl) (yuZ W _ _ _ _ _ hix))
 refine us ?_ (ybi true 1 185 true hz (by decide) (by kernel_rfl) rfl rfl fun _ _ _ s _=>yai (x:=.tmp 6) (by kernel_rfl) (s.b 6 (by kernel_rfl) h6))
 refine us ?_ (ybi true 1 185 true hz (by decide) (by kernel_rfl) rfl rfl fun hG _ W s hS=>yas (x:=.tmp 186) (t:=25) (by kernel_rfl) (s.g 2 186 (by kernel_rfl) hG rfl) (yrM W _ 9 _ (hcell W hS 9 _ rfl)))
 refine us ?_ (ybi true 1 185 true hz (by decide) (by kernel_rfl) rfl rfl fun _ _ W s _=>yal (x:=.tmp 1) (t:=31) (f:=7) (by kernel_rfl) (s.b 1 (by kernel_rfl) h1) (fa7 W _))
 refine us ?_ (ybf hz (by decide) (by kernel_rfl) fun _ _ s _=>yai (x:=.tmp 184) (by kernel_rfl) (s.u 0 184 (by kernel_rfl)))
 refine us ?_ (ybf hz (by decide) (by kernel_rfl) fun _ _ s _=>yai (x:=.tmp 4) (by kernel_rfl) (s.b 4 (by kernel_rfl) h4))
 exact fun j hj=>absurd hj (Nat.not_lt_zero j)
noncomputable def k16_R:Array Oper:=((Tryz.f13.body).bind (yaC 16)).getD #[]
def ytO (i:Nat) (j:Nat):Value:=([.int .i64 (i:Int),.int .i64 ((i+1:Nat):Int),.int .i64 ((i+1:Nat):Int)]:List Value).getD j undef
def k16_d:List (Option Tmp):=[some 182,some 183,some 6]
theorem ymd:k16_d.Nodup:=by unfold k16_d;decide
theorem ysy {i:Nat} {S:World→Prop} {a0:Act} {Q:Exit→Act→World→Prop} {w:World} (h6:a0.tmps[6]?=some (.int .i64 (i:Int))) (hadd:i < 1000000000000001) (ha:a0.tmps.size=272) (hS:S w)
  (hq:∀ a' w',S w'→a'.defers=a0.defers→a'.tmps.size=272→(∀ j d,k16_d[j]?=some (some d)→a'.tmps[d]?=some (ytO i j))→(∀ d,some d ∉ k16_d→a'.tmps[d]?=a0.tmps[d]?)→Q .normal a' w'):(Code.region 16 k16_R false).wp Tryz.prog Q a0 w:=by
 have hz:k16_R.size=3:=by kernel_rfl
 refine yaT (m:=272) hz (by kernel_rfl) ymd (by kernel_rfl) ha ?_ hS hq
 refine us ?_ (ybf hz (by decide) (by kernel_rfl) fun _ _ s _=>yaV (x:=.tmp 183) (by kernel_rfl) (s.u 1 183 (by kernel_rfl)))
 refine us ?_ (ybf hz (by decide) (by kernel_rfl) fun _ W s _=>yaR (u:=3) (x:=.tmp 182) (y:=.const (.int .i64 1)) (by kernel_rfl) (s.u 0 182 (by kernel_rfl)) (rfl) (yp0 W _ _ _ hadd))
 refine us ?_ (ybf hz (by decide) (by kernel_rfl) fun _ _ s _=>yai (x:=.tmp 6) (by kernel_rfl) (s.b 6 (by kernel_rfl) h6))
 exact fun j hj=>absurd hj (Nat.not_lt_zero j)
noncomputable def k19_R:Array Oper:=((Tryz.f13.body).bind (yaC 19)).getD #[]
def ytR (c:Cm) (a3:Option Addr) (c3:Nat) (b:Nat) (i:Nat) (j:Nat):Value:=([.int .i64 (i:Int),.pointer (some ⟨b,10,none⟩),.slice a3 c.fields.length c3,.int .i64 ((c.fields.length:Nat):Int),.bool (decide ((i:Int) < ((c.fields.length:Nat):Int)))]:List Value).getD j undef
def k19_d:List (Option Tmp):=[some 194,some 195,some 196,some 197,some 198]
theorem ymg:k19_d.Nodup:=by unfold k19_d;decide
theorem ysB {c:Cm} {a1 a2 a3 a4 a5:Option Addr} {c1 c2 c3 c4 c5:Nat} {b:Nat} {i:Nat} {S:World→Prop} {a0:Act} {Q:Exit→Act→World→Prop} {w:World} (h1:a0.tmps[1]?=some (.pointer (some ⟨b,0,none⟩))) (h7:a0.tmps[7]?=some (.int .i64 (i:Int))) (hcell:∀ W,S W→∀ o x,(cmL c (.slice a1 c.cols.length c1) (.slice a2 c.vals.length c2) (.slice a3 c.fields.length c3) (.slice a4 c.expr.args.length c4) (.slice a5 c.wh.args.length c5))[o]?=some x→W.cell? ⟨b,o,none⟩=some x) (ha:a0.tmps.size=272) (hS:S w)
  (hq:∀ a' w',S w'→a'.defers=a0.defers→a'.tmps.size=272→(∀ j d,k19_d[j]?=some (some d)→a'.tmps[d]?=some (ytR c a3 c3 b i j))→(∀ d,some d ∉ k19_d→a'.tmps[d]?=a0.tmps[d]?)→Q .normal a' w'):(Code.region 19 k19_R false).wp Tryz.prog Q a0 w:=by
 have hz:k19_R.size=5:=by kernel_rfl
 refine yaT (m:=272) hz (by kernel_rfl) ymg (by kernel_rfl) ha ?_ hS hq
 refine us ?_ (ybf hz (by decide) (by kernel_rfl) fun _ W s _=>yaR (u:=3) (x:=.tmp 194) (y:=.tmp 197) (by kernel_rfl) (s.u 0 194 (by kernel_rfl)) (s.u 3 197 (by kernel_rfl)) (yre W _ _ _ _))
 refine us ?_ (ybf hz (by decide) (by kernel_rfl) fun _ W s _=>ydh (ts:=#[26]) (x:=.tmp 196) (by kernel_rfl) (fun ty=>yo4 W a3 c.fields.length c3 ty) (s.u 2 196 (by kernel_rfl)))
 refine us ?_ (ybf hz (by decide) (by kernel_rfl) fun _ W s hS=>yas (x:=.tmp 195) (t:=26) (by kernel_rfl) (s.u 1 195 (by kernel_rfl)) (yrN W _ 10 _ (hcell W hS 10 _ rfl)))
 refine us ?_ (ybf hz (by decide) (by kernel_rfl) fun _ W s _=>yal (x:=.tmp 1) (t:=31) (f:=8) (by kernel_rfl) (s.b 1 (by kernel_rfl) h1) (fa8 W _))
 refine us ?_ (ybf hz (by decide) (by kernel_rfl) fun _ _ s _=>yai (x:=.tmp 7) (by kernel_rfl) (s.b 7 (by kernel_rfl) h7))
 exact fun j hj=>absurd hj (Nat.not_lt_zero j)
noncomputable def k21_R:Array Oper:=((Tryz.f13.body).bind (yaC 21)).getD #[]
def ytU (c:Cm) (c3:Nat) (b g o i:Nat) (ok:Bool) (x:List UInt8) (j:Nat):Value:=([.bool ok,.bool ok,gw (ok == true) (.pointer (some ⟨b,10,none⟩)),gw (ok == true) (.slice (some ⟨g,o,none⟩) c.fields.length c3),gw (ok == true) (.int .i64 (i:Int)),gw (ok == true) (.pointer (some ⟨g,o+i,none⟩)),gw (ok == true) (.string ⟨x.toArray⟩),gw (ok == true) (.bool (yap x)),.bool (ok&&(yap x)),.bool (ok&&(yap x))]:List Value).getD j undef
def k21_d:List (Option Tmp):=[some 201,some 202,some 203,some 204,some 205,some 206,some 207,some 208,some 209,some 4]
theorem ymi:k21_d.Nodup:=by unfold k21_d;decide
theorem ysD {c:Cm} {a1 a2 a4 a5:Option Addr} {c1 c2 c3 c4 c5:Nat} {b g o i:Nat} {ok:Bool} {x:List UInt8} {S:World→Prop} {a0:Act} {Q:Exit→Act→World→Prop} {w:World} (h1:a0.tmps[1]?=some (.pointer (some ⟨b,0,none⟩))) (h4:a0.tmps[4]?=some (.bool ok)) (h7:a0.tmps[7]?=some (.int .i64 (i:Int))) (hcell:∀ W,S W→∀ p y,(cmL c (.slice a1 c.cols.length c1) (.slice a2 c.vals.length c2) (.slice (some ⟨g,o,none⟩) c.fields.length c3) (.slice a4 c.expr.args.length c4) (.slice a5 c.wh.args.length c5))[p]?=some y→W.cell? ⟨b,p,none⟩=some y) (hix:i < c.fields.length) (e0:∀ W,S W→W.cell? ⟨g,o+i,none⟩=some (.string ⟨x.toArray⟩)) (q208:∀ W,S W→Calls Tryz.prog 34 #[.string ⟨x.toArray⟩] W fun e w'=>e=.returned (.bool (yap x))∧S w') (ha:a0.tmps.size=272) (hS:S w)
  (hq:∀ a' w',S w'→a'.defers=a0.defers→a'.tmps.size=272→(∀ j d,k21_d[j]?=some (some d)→a'.tmps[d]?=some (ytU c c3 b g o i ok x j))→(∀ d,some d ∉ k21_d→a'.tmps[d]?=a0.tmps[d]?)→Q .normal a' w'):(Code.region 21 k21_R false).wp Tryz.prog Q a0 w:=by
 have hz:k21_R.size=10:=by kernel_rfl
 refine yaT (m:=272) hz (by kernel_rfl) ymi (by kernel_rfl) ha ?_ hS hq
 refine us ?_ (ybf hz (by decide) (by kernel_rfl) fun _ _ s _=>yaV (x:=.tmp 209) (by kernel_rfl) (s.u 8 209 (by kernel_rfl)))
 refine us ?_ (ybf hz (by decide) (by kernel_rfl) fun _ _ s _=>yaE (G:=true) (by kernel_rfl) (s.u 1 202 (by kernel_rfl)) (s.u 7 208 (by kernel_rfl)) rfl rfl)
 refine us ?_ (yhV true 1 202 true hz (by decide) (by kernel_rfl) rfl rfl (fun hG _ _ s=>ybm (ts:=#[9]) (x:=.tmp 207) (f:=34) yty (by kernel_rfl) rfl (s.g 6 207 (by kernel_rfl) hG rfl)) q208)
 refine us ?_ (ybi true 1 202 true hz (by decide) (by kernel_rfl) rfl rfl fun hG _ W s hS=>yas (x:=.tmp 206) (t:=9) (by kernel_rfl) (s.g 5 206 (by kernel_rfl) hG rfl) (ld9 W _ (o+i) _ (e0 W hS)))
 refine us ?_ (ybi true 1 202 true hz (by decide) (by kernel_rfl) rfl rfl fun hG _ W s _=>ye2 (t:=26) (x:=.tmp 204) (y:=.tmp 205) (by kernel_rfl) (s.g 3 204 (by kernel_rfl) hG rfl) (s.g 4 205 (by kernel_rfl) hG rfl) (yu0 W _ _ _ _ _ hix))
 refine us ?_ (ybi true 1 202 true hz (by decide) (by kernel_rfl) rfl rfl fun _ _ _ s _=>yai (x:=.tmp 7) (by kernel_rfl) (s.b 7 (by kernel_rfl) h7))
 refine us ?_ (ybi true 1 202 true hz (by decide) (by kernel_rfl) rfl rfl fun hG _ W s hS=>yas (x:=.tmp 203) (t:=26) (by kernel_rfl) (s.g 2 203 (by kernel_rfl) hG rfl) (yrN W _ 10 _ (hcell W hS 10 _ rfl)))
 refine us ?_ (ybi true 1 202 true hz (by decide) (by kernel_rfl) rfl rfl fun _ _ W s _=>yal (x:=.tmp 1) (t:=31) (f:=8) (by kernel_rfl) (s.b 1 (by kernel_rfl) h1) (fa8 W _))
 refine us ?_ (ybf hz (by decide) (by kernel_rfl) fun _ _ s _=>yai (x:=.tmp 201) (by kernel_rfl) (s.u 0 201 (by kernel_rfl)))
 refine us ?_ (ybf hz (by decide) (by kernel_rfl) fun _ _ s _=>yai (x:=.tmp 4) (by kernel_rfl) (s.b 4 (by kernel_rfl) h4))
 exact fun j hj=>absurd hj (Nat.not_lt_zero j)
noncomputable def k20_R:Array Oper:=((Tryz.f13.body).bind (yaC 20)).getD #[]
def ytT (i:Nat) (j:Nat):Value:=([.int .i64 (i:Int),.int .i64 ((i+1:Nat):Int),.int .i64 ((i+1:Nat):Int)]:List Value).getD j undef
def k20_d:List (Option Tmp):=[some 199,some 200,some 7]
theorem ymh:k20_d.Nodup:=by unfold k20_d;decide
theorem ysC {i:Nat} {S:World→Prop} {a0:Act} {Q:Exit→Act→World→Prop} {w:World} (h7:a0.tmps[7]?=some (.int .i64 (i:Int))) (hadd:i < 1000000000000001) (ha:a0.tmps.size=272) (hS:S w)
  (hq:∀ a' w',S w'→a'.defers=a0.defers→a'.tmps.size=272→(∀ j d,k20_d[j]?=some (some d)→a'.tmps[d]?=some (ytT i j))→(∀ d,some d ∉ k20_d→a'.tmps[d]?=a0.tmps[d]?)→Q .normal a' w'):(Code.region 20 k20_R false).wp Tryz.prog Q a0 w:=by
 have hz:k20_R.size=3:=by kernel_rfl
 refine yaT (m:=272) hz (by kernel_rfl) ymh (by kernel_rfl) ha ?_ hS hq
 refine us ?_ (ybf hz (by decide) (by kernel_rfl) fun _ _ s _=>yaV (x:=.tmp 200) (by kernel_rfl) (s.u 1 200 (by kernel_rfl)))
 refine us ?_ (ybf hz (by decide) (by kernel_rfl) fun _ W s _=>yaR (u:=3) (x:=.tmp 199) (y:=.const (.int .i64 1)) (by kernel_rfl) (s.u 0 199 (by kernel_rfl)) (rfl) (yp0 W _ _ _ hadd))
 refine us ?_ (ybf hz (by decide) (by kernel_rfl) fun _ _ s _=>yai (x:=.tmp 7) (by kernel_rfl) (s.b 7 (by kernel_rfl) h7))
 exact fun j hj=>absurd hj (Nat.not_lt_zero j)
end Go.Proofs.YtkpeklealgicpabGreatDoor
