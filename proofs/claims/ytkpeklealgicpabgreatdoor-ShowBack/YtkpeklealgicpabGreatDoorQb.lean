/-
  Plain functions' laws on tokens, over lists of bytes: the same as over the other laws' program.
  'isInt', 'isQuotable' and 'Check' of package value.
  Commands without memory: what the words of package words say, what the parser of package command answers on tokens, what Check answers.
  What the library's package-level variables hold, as far as this program reads them; strconv's two calls.
  The parser of package command in memory; its next token.
  'giveUp', 'may', 'must', 'oneOf' of the parser.
  Package words.
  'name', 'kindOf', 'number', 'column' of the parser.
  'column' and 'value' of the parser.
-/
import Derived.Test.YtkpeklealgicpabGreatDoorQa

set_option maxRecDepth 100000
set_option maxHeartbeats 8000000
namespace Go.Proofs.YtkpeklealgicpabGreatDoor
open Go.RowKit
def yfv (s:List UInt8):Nat→List Tk→Prop
 | _,[]=>True
 | p,x::r=>∃ A:Nat,x.a=(A:Int)∧p≤A∧1≤x.t.length∧A+x.t.length≤s.length∧x.t=(s.drop A).take x.t.length∧yfv s (A+x.t.length) r
theorem yhu (s:List UInt8) (p q:Nat) (h:q≤p) (L:List Tk) (hL:yfv s p L):yfv s q L:=by
 cases L with
 | nil=>trivial
 | cons x r=>obtain ⟨A,h1,h2,h3⟩:=hL;exact ⟨A,h1,by omega,h3⟩
theorem yes (s:List UInt8) (f:Nat):∀ (a:Nat) (l:List UInt8) (acc:List Tk),a≤s.length→l=s.drop a→(yb1 f a l acc).2.2=0→∃ new,(yb1 f a l acc).1=acc++new∧yfv s a new:=by
 induction f with
 | zero=>intro a l acc _ _ _;exact ⟨[],by simp [yb1],trivial⟩
 | succ f ih =>
  intro a l acc ha hl h0
  cases l with
  | nil=>exact ⟨[],by simp [yb1],trivial⟩
  | cons c r =>
   have hlen:(c::r).length=s.length - a:=by rw [hl];simp
   simp only [List.length_cons] at hlen
   have hr:r=s.drop (a+1):=by rw [← List.drop_drop,← hl];rfl
   rw [yb1] at h0 ⊢
   by_cases hb:isB c=true
   ·rw [if_pos hb] at h0 ⊢
    obtain ⟨new,h1,h2⟩:=ih (a+1) r acc (by omega) hr h0
    exact ⟨new,h1,yhu s _ _ (by omega) new h2⟩
   ·rw [if_neg hb] at h0 ⊢
    by_cases hw:yaD (yba (c::r)).1 ((c::r).take (yba (c::r)).2)=0
    ·rw [if_pos hw] at h0 ⊢
     have hpos:=ydr c r (ycf hw)
     have hle:=ygQ (c::r)
     generalize yba (c::r)=p at *
     obtain ⟨K,N⟩:=p
     simp only [List.length_cons] at *
     obtain ⟨new,h1,h2⟩:=ih (a+N) _ _ (by omega) (by rw [hl,List.drop_drop]) h0
     have hT:((c::r).take N).length=N:=by rw [List.length_take,List.length_cons];omega
     refine ⟨⟨(K:Nat),(a:Nat),(c::r).take N⟩::new,by rw [h1];simp,a,rfl,Nat.le_refl _, ?_, ?_, ?_, ?_⟩
     ·show 1≤((c::r).take N).length;omega
     ·show a+((c::r).take N).length≤s.length;omega
     ·show (c::r).take N=(s.drop a).take ((c::r).take N).length;rw [hT,← hl]
     ·show yfv s (a+((c::r).take N).length) new;rw [hT];exact h2
    ·rw [if_neg hw] at h0
     exact absurd h0 hw
theorem yae {p:Prop} (h:p):Hid p:=h
theorem ypF (c d:UInt8):((c.toNat:Int) == (d.toNat:Int))=decide (c=d):=by
 rw [Bool.eq_iff_iff]
 simp only [beq_iff_eq,decide_eq_true_eq]
 constructor
 ·intro h;apply UInt8.toNat_inj.1;omega
 ·intro h;rw [h]
theorem ycZ (c:UInt8) (r:List UInt8):ycY (c::r)=(decide (c=124)&&decide (r.head?=some 124)):=by
 unfold ycY Lib.hasPrefix
 cases r with
 | nil=>simp [List.isPrefixOf]
 | cons d r=>simp [List.isPrefixOf];rw [Bool.eq_iff_iff];simp [eq_comm (a:=(124:UInt8))]
theorem yhd {c:UInt8} (h:isB c=true):((c.toNat:Int) == 32)=true∨(((c.toNat:Int) == 32)=false∧((c.toNat:Int) == 9)=true)∨(((c.toNat:Int) == 32)=false∧((c.toNat:Int) == 9)=false∧((c.toNat:Int) == 10)=true):=by
 unfold isB at h
 cases h1:((c.toNat:Int) == 32) <;> cases h2:((c.toNat:Int) == 9) <;> cases h3:((c.toNat:Int) == 10) <;> simp_all
theorem yq3 {c:UInt8} (h:isB c=false):((c.toNat:Int) == 32)=false∧((c.toNat:Int) == 9)=false∧((c.toNat:Int) == 10)=false:=by
 unfold isB at h
 cases h1:((c.toNat:Int) == 32) <;> cases h2:((c.toNat:Int) == 9) <;> cases h3:((c.toNat:Int) == 10) <;> simp_all
def ybv (K:Int) (l:List UInt8):Bool:=decide (l≠[]∧l.length≤2000∧((yba l).1:Int)=K∧(yba l).2=l.length∧yaD (yba l).1 l=0)
theorem ygr (c:UInt8) (r:List UInt8) (h:isB c=true):yba (c::r)=(0,0):=by
 have hc:c=32∨c=9∨c=10:=by
  rcases yhd h with h|⟨_,h⟩|⟨_,_,h⟩
  ·left;apply UInt8.toNat_inj.1;have:=eq_of_beq h;simp;omega
  ·right;left;apply UInt8.toNat_inj.1;have:=eq_of_beq h;simp;omega
  ·right;right;apply UInt8.toNat_inj.1;have:=eq_of_beq h;simp;omega
 rcases hc with rfl|rfl|rfl
 all_goals
  rw [yba,if_neg (by decide),if_neg (by decide),if_neg (by decide),if_neg (by rw [ycZ];simp),if_neg (by decide)]
theorem ydC (K:Int) (l:List UInt8):ybk K l=ybv K l:=by
 rw [Bool.eq_iff_iff]
 constructor
 ·intro h
  have hlen:=yfb h
  unfold ybk at h
  split at h
  ·rename_i x p hs
   simp only [decide_eq_true_eq] at h
   obtain ⟨hk,ha,ht⟩:=h
   cases l with
   | nil=>simp [yaH,ya7,yb1] at hs
   | cons c r =>
    have hs':ya7 0 (c::r) []=([x],p,0):=by
     have:yaH (c::r)=ya7 0 (c::r) []:=by unfold yaH;rw [if_neg (by omega)]
     rw [← this];exact hs
    cases hB:isB c
    ·by_cases hw:yaD (yba (c::r)).1 ((c::r).take (yba (c::r)).2)=0
     ·have h1:=yet 0 c r [] hB hw
      have hle:=ygQ (c::r)
      rw [hs'] at h1
      obtain ⟨new,h2,_⟩:=yes (c::r) _ (0+(yba (c::r)).2) _ ([]++[⟨((yba (c::r)).1:Nat),((0:Nat):Int),(c::r).take (yba (c::r)).2⟩]) (by omega) (by rw [Nat.zero_add]) (by unfold ya7 at h1;rw [← h1])
      have h3:([x]:List Tk)=[⟨((yba (c::r)).1:Nat),((0:Nat):Int),(c::r).take (yba (c::r)).2⟩]++new:=by
       have:=congrArg Prod.fst h1
       unfold ya7 at this
       rw [h2] at this
       simpa using this
      simp only [List.cons_append,List.nil_append,List.cons.injEq] at h3
      obtain ⟨rfl,_⟩:=h3
      simp only at hk ht
      have hN:(yba (c::r)).2=(c::r).length:=by
       have:=congrArg List.length ht
       rw [List.length_take] at this;omega
      rw [ht] at hw
      simp only [ybv,decide_eq_true_eq]
      exact ⟨by simp,by omega,hk,hN,hw⟩
     ·have h1:=yhB 0 c r [] hB hw
      rw [hs'] at h1
      simp at h1
    ·have h1:=ydq 0 c r [] hB
     rw [hs'] at h1
     obtain ⟨new,h2,h3⟩:=yes (c::r) (r.length+1) 1 r [] (by simp) rfl (by unfold ya7 at h1;rw [← h1])
     have h4:([x]:List Tk)=new:=by
      have:=congrArg Prod.fst h1
      unfold ya7 at this
      rw [h2] at this
      simpa using this
     subst h4
     obtain ⟨A,e1,e2,_⟩:=h3
     rw [ha] at e1
     omega
  ·cases h
 ·intro h
  simp only [ybv,decide_eq_true_eq] at h
  obtain ⟨h0,hlen,hk,hN,hw⟩:=h
  cases l with
  | nil=>exact absurd rfl h0
  | cons c r =>
   have hB:isB c=false:=by
    cases hB:isB c
    ·rfl
    ·rw [ygr c r hB] at hw;simp [yaD] at hw
   have h1:=yet 0 c r [] hB (by rw [hN,List.take_of_length_le (Nat.le_refl _)];exact hw)
   rw [hN,List.take_of_length_le (Nat.le_refl _),List.drop_eq_nil_of_le (Nat.le_refl _),yhD] at h1
   unfold ybk
   rw [show yaH (c::r)=ya7 0 (c::r) [] by unfold yaH;rw [if_neg (by omega)],h1]
   simp [hk]
theorem yeh (a b:List UInt8):((⟨a.toArray⟩:ByteArray)++⟨b.toArray⟩)=⟨(a++b).toArray⟩:=by
 apply ByteArray.ext
 simp
def ydY (S:List UInt8):Bool:=decide (S.length≤20)&&S.all isQ
theorem ym5 (S:List UInt8) (h:S.all isQ=true):ycN isQ (S++[39])=S.length:=by
 induction S with
 | nil=>rfl
 | cons c r ih =>
  rw [List.all_cons,Bool.and_eq_true] at h
  rw [List.cons_append,yby,if_pos h.1,ih h.2];rfl
theorem yhy (S:List UInt8) (h:S.all isQ=false):ycN isQ (S++[39]) < S.length:=by
 induction S with
 | nil=>cases h
 | cons c r ih =>
  rw [List.cons_append,yby]
  by_cases hc:isQ c=true
  ·rw [if_pos hc]
   rw [List.all_cons,hc,Bool.true_and] at h
   have:=ih h
   simp only [List.length_cons];omega
  ·rw [if_neg hc];simp
theorem ygj (S:List UInt8):ybk 3 (39::(S++[39]))=ydY S:=by
 rw [ydC,Bool.eq_iff_iff]
 have l39:isL 39=false:=by decide
 have d39:isD 39=false:=by decide
 have hlen:(39::(S++[39])).length=S.length+2:=by simp
 simp only [ybv,ydY,decide_eq_true_eq,Bool.and_eq_true]
 cases hA:S.all isQ
 ·have hlt:=yhy S hA
  constructor
  ·rintro ⟨_,_,h3,h4,_⟩
   rw [yba,if_neg (by simp [l39]),if_neg (by simp [d39]),if_pos rfl] at h3 h4
   split at h3
   ·rename_i hz
    rw [if_pos hz] at h4
    simp only at h4
    omega
   ·simp at h3
  ·rintro ⟨_,h⟩;cases h
 ·have hrun:=ym5 S hA
  have hz:(S++[39])[ycN isQ (S++[39])]?=some 39:=by rw [hrun,List.getElem?_append_right (by omega)];simp
  have ht:yba (39::(S++[39]))=(3,S.length+2):=by
   rw [yba,if_neg (by simp [l39]),if_neg (by simp [d39]),if_pos rfl,if_pos hz,hrun]
  rw [ht]
  simp only [hlen]
  constructor
  ·rintro ⟨_,_,_,_,hw⟩
   refine ⟨?_,trivial⟩
   rcases Nat.lt_or_ge 20 S.length with h|h
   ·have:yaD 3 (39::(S++[39]))=2:=by
     unfold yaD
     rw [hlen,if_neg (by omega),if_pos (by omega)]
    rw [this] at hw;cases hw
   ·exact h
  ·rintro ⟨h,_⟩
   refine ⟨by simp,by omega,rfl,trivial, ?_⟩
   unfold yaD
   simp only [hlen]
   rw [if_neg (by omega),if_neg (by omega),if_neg (by omega)]
theorem ymU (S:List UInt8) (a:Int):(yfp [⟨3,a,39::(S++[39])⟩]).2=if ydY S=true then 0 else 1:=by
 unfold yfp
 have e:([⟨3,a,39::(S++[39])⟩]:List Tk).all (fun x=>ybk x.k x.t)=ydY S:=by simp [ygj]
 rw [e]
 by_cases h:ydY S=true
 ·rw [if_pos h,if_pos h]
  have:¬ 2000 < (ycI [⟨3,a,39::(S++[39])⟩]).length:=by
   simp only [ydY,Bool.and_eq_true,decide_eq_true_eq] at h
   simp [ycI];omega
  rw [if_neg this]
 ·rw [if_neg h,if_neg h]
def yfU (n:Int):Bool:=decide ((-999999999:Int)≤n)&&decide (n≤999999999)
theorem yl2 (n:Int) (w:World) :
  Calls Tryz.prog 158 #[.int .i64 n] w fun e w'=>e=.returned (.bool (yfU n))∧w'=w:=by
 go_enter Tryz.func158,Tryz.ntmps158
 go_wp2
 all_goals go_ret
 all_goals exact ⟨yaF (by simp [yfU, *] <;> omega),rfl⟩
theorem ytc (s:ByteArray):((⟨#[39]⟩:ByteArray)++s++⟨#[39]⟩)=⟨(39::(s.data.toList++[39])).toArray⟩:=by
 obtain ⟨⟨l⟩⟩:=s
 have:=yeh ([39]++l) [39]
 rw [← yeh] at this
 simpa using this
theorem ypk (s:ByteArray) (w:World):yk4 (w.alloc (.cells #[.int .i64 3,.int .i64 0,.string ((⟨#[39]⟩:ByteArray)++s++⟨#[39]⟩)] 63)) w.heap.size 0 1 [⟨3,0,39::(s.data.toList++[39])⟩]:=by
 refine ⟨rfl, ?_⟩
 intro i x hx
 match i,hx with
 | 0,hx =>
  simp only [List.getElem?_cons_zero,Option.some.injEq] at hx
  subst hx
  rw [ytc]
  refine ⟨by simp,by simp,by simp⟩
theorem ymT (s:ByteArray) (w:World) (hs:s.size≤140737488355328) :
  Calls Tryz.prog 16 #[.slice (some ⟨w.heap.size,0,none⟩) 1 1] (w.alloc (.cells #[.int .i64 3,.int .i64 0,.string ((⟨#[39]⟩:ByteArray)++s++⟨#[39]⟩)] 63)) fun e w' =>
   (∃ S:List UInt8,e=.returned (.tuple #[.string ⟨S.toArray⟩,.int .i64 ((if ydY s.data.toList=true then 0 else 1:Nat):Int)]))∧Below w.heap.size w w':=by
 have hsz:s.data.toList.length=s.size:=by simp
 refine (yhg w.heap.size 0 1 1 [⟨3,0,39::(s.data.toList++[39])⟩] _ (by decide) (by decide) (by simp) (ypk s w) (by intro x hx;simp at hx;subst hx;simp;omega)).mono ?_
 rintro e w' ⟨rfl,hb⟩
 rw [ymU]
 exact ⟨⟨_,rfl⟩,((Below.refl _ _).alloc (Nat.le_refl _) _).trans (hb.mono (by simp))⟩
theorem ykh (s:ByteArray) (w:World) (hs:s.size≤140737488355328) :
  Calls Tryz.prog 159 #[.string s] w fun e w'=>e=.returned (.bool (ydY s.data.toList))∧Below w.heap.size w w':=by
 have hj:=ymT s w hs
 cases hq:ydY s.data.toList
 all_goals
  rw [hq] at hj
  clear hq
  go_enter Tryz.func159,Tryz.ntmps159
  go_wp2_with (go_at_call 16;refine hj.mono ?_;rintro e w' ⟨⟨S,rfl⟩,hb⟩)
  go_ret
  exact ⟨rfl,hb⟩
def ycw (K N:Int) (S:List UInt8):Nat :=
 if K=0 then (if N=0∧S=[] then 0 else 3)
 else if K=1 then (if yfU N=true∧S=[] then 0 else 3)
 else if K=2 then (if N=0∧ydY S=true then 0 else 3)
 else if K=3 then (if (N=0∨N=1)∧S=[] then 0 else 3)
 else 7
theorem yee (s:ByteArray):s.toList.isEmpty=decide (s.data.toList=[]):=by
 rw [Lib.toList_data];cases s.data.toList <;> simp
theorem yqm (N:Int) (s:ByteArray) (w:World) :
  Calls Tryz.prog 124 #[.agg #[.int .i64 0,.int .i64 N,.string s]] w fun e w'=>e=.returned (.int .i64 ((if (N == 0)=true∧s.toList.isEmpty=true then 0 else 3:Nat):Int))∧Below w.heap.size w w':=by
 cases h1:(N == 0) <;> cases h2:s.toList.isEmpty
 all_goals
  go_enter Tryz.func124,Tryz.ntmps124
  go_wp2
  go_ret
  exact ⟨rfl,(Below.refl _ _).alloc (Nat.le_refl _) _⟩
theorem yqn (N:Int) (s:ByteArray) (w:World) :
  Calls Tryz.prog 124 #[.agg #[.int .i64 1,.int .i64 N,.string s]] w fun e w'=>e=.returned (.int .i64 ((if yfU N=true∧s.toList.isEmpty=true then 0 else 3:Nat):Int))∧Below w.heap.size w w':=by
 have hi:=yl2 N
 cases h1:yfU N <;> cases h2:s.toList.isEmpty
 all_goals
  rw [h1] at hi
  clear h1
  go_enter Tryz.func124,Tryz.ntmps124
  go_wp2_with (go_at_call 158;refine (hi _).mono ?_;rintro e w' ⟨rfl,hw'⟩;obtain rfl:=hw'.symm;clear hw')
  go_ret
  exact ⟨rfl,(Below.refl _ _).alloc (Nat.le_refl _) _⟩
theorem yqo (N:Int) (s:ByteArray) (w:World) (hs:s.size≤140737488355328) :
  Calls Tryz.prog 124 #[.agg #[.int .i64 2,.int .i64 N,.string s]] w fun e w'=>e=.returned (.int .i64 ((if (N == 0)=true∧ydY s.data.toList=true then 0 else 3:Nat):Int))∧Below w.heap.size w w':=by
 have hi:=fun W=>ykh s W hs
 cases h1:(N == 0) <;> cases h2:ydY s.data.toList
 all_goals
  rw [h2] at hi
  clear h2
  go_enter Tryz.func124,Tryz.ntmps124
  go_wp2_with (go_at_call 159;refine (hi _).mono ?_;rintro e w' ⟨rfl,hb⟩)
  go_ret
  first
   | exact ⟨rfl,(Below.refl _ _).alloc (Nat.le_refl _) _⟩
   | exact ⟨rfl,((Below.refl _ _).alloc (Nat.le_refl _) _).trans (hb.mono (by simp))⟩
theorem yqp (N:Int) (s:ByteArray) (w:World) :
  Calls Tryz.prog 124 #[.agg #[.int .i64 3,.int .i64 N,.string s]] w fun e w'=>e=.returned (.int .i64 ((if ((N == 0)=true∨(N == 1)=true)∧s.toList.isEmpty=true then 0 else 3:Nat):Int))∧Below w.heap.size w w':=by
 cases h1:(N == 0) <;> cases h3:(N == 1) <;> cases h2:s.toList.isEmpty
 all_goals
  go_enter Tryz.func124,Tryz.ntmps124
  go_wp2
  go_ret
  exact ⟨rfl,(Below.refl _ _).alloc (Nat.le_refl _) _⟩
theorem yh4 (K N:Int) (s:ByteArray) (w:World) (h0:(K == 0)=false) (h1:(K == 1)=false) (h2:(K == 2)=false) (h3:(K == 3)=false) :
  Calls Tryz.prog 124 #[.agg #[.int .i64 K,.int .i64 N,.string s]] w fun e w'=>e=.returned (.int .i64 7)∧Below w.heap.size w w':=by
 go_enter Tryz.func124,Tryz.ntmps124
 go_wp2
 go_ret
 exact ⟨rfl,(Below.refl _ _).alloc (Nat.le_refl _) _⟩
theorem yli (K N:Int) (s:ByteArray) (w:World) (hs:s.size≤140737488355328) :
  Calls Tryz.prog 124 #[.agg #[.int .i64 K,.int .i64 N,.string s]] w fun e w'=>e=.returned (.int .i64 (ycw K N s.data.toList:Nat))∧Below w.heap.size w w':=by
 by_cases h0:K=0
 ·subst h0
  have:=yqm N s w
  simp only [yee,beq_iff_eq,decide_eq_true_eq] at this
  simpa only [ycw,if_true] using this
 by_cases h1:K=1
 ·subst h1
  have:=yqn N s w
  simp only [yee,decide_eq_true_eq] at this
  simpa [ycw] using this
 by_cases h2:K=2
 ·subst h2
  have:=yqo N s w hs
  simp only [beq_iff_eq] at this
  simpa [ycw] using this
 by_cases h3:K=3
 ·subst h3
  have:=yqp N s w
  simp only [yee,beq_iff_eq,decide_eq_true_eq] at this
  simpa [ycw] using this
 rw [show ycw K N s.data.toList=7 by simp [ycw,h0,h1,h2,h3]]
 exact yh4 K N s w (by simp [h0]) (by simp [h1]) (by simp [h2]) (by simp [h3])
structure Vl where
 k:Int
 n:Int
 s:List UInt8
inductive Ex where
 | mk (k:Int) (v:Vl) (name:List UInt8) (args:List Ex)
structure Cl where
 name:List UInt8
 ty:Int
structure Cm where
 kind:Int
 name:List UInt8
 other:List UInt8
 column:List UInt8
 cols:List Cl
 ty:Int
 val:Vl
 vals:List Vl
 fields:List (List UInt8)
 expr:Ex
 all:Bool
 wh:Ex
 order:List UInt8
 limit:Int
def vl0:Vl:=⟨0,0,[]⟩
def ex0:Ex:=.mk 0 vl0 [] []
def cm0:Cm:=⟨0,[],[],[],[],0,vl0,[],[],ex0,false,ex0,[],0⟩
abbrev w_create:List UInt8:=[99,114,101,97,116,101]
abbrev w_table:List UInt8:=[116,97,98,108,101]
abbrev w_drop:List UInt8:=[100,114,111,112]
abbrev w_alter:List UInt8:=[97,108,116,101,114]
abbrev w_add:List UInt8:=[97,100,100]
abbrev w_default:List UInt8:=[100,101,102,97,117,108,116]
abbrev w_rename:List UInt8:=[114,101,110,97,109,101]
abbrev w_to:List UInt8:=[116,111]
abbrev w_retype:List UInt8:=[114,101,116,121,112,101]
abbrev w_index:List UInt8:=[105,110,100,101,120]
abbrev w_on:List UInt8:=[111,110]
abbrev w_insert:List UInt8:=[105,110,115,101,114,116]
abbrev w_into:List UInt8:=[105,110,116,111]
abbrev w_values:List UInt8:=[118,97,108,117,101,115]
abbrev w_delete:List UInt8:=[100,101,108,101,116,101]
abbrev w_from:List UInt8:=[102,114,111,109]
abbrev w_where:List UInt8:=[119,104,101,114,101]
abbrev w_update:List UInt8:=[117,112,100,97,116,101]
abbrev w_set:List UInt8:=[115,101,116]
abbrev w_select:List UInt8:=[115,101,108,101,99,116]
abbrev w_order:List UInt8:=[111,114,100,101,114]
abbrev w_by:List UInt8:=[98,121]
abbrev w_limit:List UInt8:=[108,105,109,105,116]
abbrev w_begin:List UInt8:=[98,101,103,105,110]
abbrev w_commit:List UInt8:=[99,111,109,109,105,116]
abbrev w_rollback:List UInt8:=[114,111,108,108,98,97,99,107]
abbrev ytj:List UInt8:=[105,110,116]
abbrev ypZ:List UInt8:=[116,101,120,116]
abbrev ypY:List UInt8:=[98,111,111,108]
abbrev yb9:List UInt8:=[116,114,117,101]
abbrev ybH:List UInt8:=[102,97,108,115,101]
abbrev w_null:List UInt8:=[110,117,108,108]
abbrev w_not:List UInt8:=[110,111,116]
abbrev w_is:List UInt8:=[105,115]
abbrev ynD:List UInt8:=[97,110,100]
abbrev ytk:List UInt8:=[111,114]
def takenL:List (List UInt8):=[w_create,w_table,w_drop,w_alter,w_add,w_default,w_rename,w_to,w_retype,w_index,w_on,w_insert,w_into,w_values,w_delete,w_from,w_where,w_update,w_set,w_select,w_order,w_by,w_limit,w_begin,w_commit,w_rollback,ytj,ypZ,ypY,yb9,ybH,w_null,w_not,w_is,ynD,ytk]
def yaI:List (List UInt8):=[[],ytj,ypZ,ypY]
def ya0:List (List UInt8):=[[],[],[],[],[],ynD,ytk,[43],[45],[124,124],[60],[61]]
def yap (s:List UInt8):Bool:=ybk 1 s&&!takenL.contains s
def ybx (l:List (List UInt8)) (s:List UInt8):Nat:=(l.idxOf? s).getD 0
def atL (l:List (List UInt8)) (k:Int):List UInt8:=if k < 0 then [] else l.getD k.toNat []
inductive Rs (α:Type) where
 | ok (a:α) (i:Nat)
 | bad (i:Nat)
def Rs.then {α β:Type} (r:Rs α) (f:α→Nat→Rs β):Rs β :=
 match r with
 | .ok a i=>f a i
 | .bad i=>.bad i
@[simp] theorem Rs.then_ok {α β:Type} (a:α) (i:Nat) (f:α→Nat→Rs β):(Rs.ok a i).then f=f a i:=rfl
@[simp] theorem Rs.then_bad {α β:Type} (i:Nat) (f:α→Nat→Rs β):(Rs.bad i:Rs α).then f=.bad i:=rfl
def tx (T:List Tk) (i:Nat):List UInt8:=match T[i]? with|some t=>t.t|none=>[]
def kd (T:List Tk) (i:Nat):Int:=match T[i]? with|some t=>t.k|none=>0
def pl (T:List Tk) (en:Int) (i:Nat):Int:=match T[i]? with|some t=>t.a|none=>en
def ybl (T:List Tk):List (List UInt8)→Nat→Rs Unit
 | [],i=>.ok () i
 | w::ws,i=>if tx T i=w then ybl T ws (i+1) else .bad i
def may (T:List Tk) (first:List UInt8) (others:List (List UInt8)) (i:Nat):Rs Bool :=
 if tx T i=first then (ybl T others (i+1)).then fun _ j=>.ok true j else .ok false i
def yaS (T:List Tk):List (List UInt8)→Nat→Rs (List UInt8)
 | [],i=>.bad i
 | w::ws,i=>if tx T i=w then .ok w (i+1) else yaS T ws i
def ycj (T:List Tk) (f:List UInt8→Nat) (i:Nat):Rs Nat:=if f (tx T i)=0 then .bad i else .ok (f (tx T i)) (i+1)
def yau (T:List Tk) (i:Nat):Rs (List UInt8):=if yap (tx T i)=true then .ok (tx T i) (i+1) else .bad i
def yfO (l:List UInt8):Nat:=l.foldl (fun n c=>10*n+(c.toNat - 48)) 0
def yaX (T:List Tk) (least:Nat) (i:Nat):Rs Nat:=if kd T i=2∧least≤yfO (tx T i) then .ok (yfO (tx T i)) (i+1) else .bad i
def yaG (T:List Tk) (i:Nat):Rs Cl:=(yau T i).then fun s j=>(ycj T (ybx yaI) j).then fun k j=>.ok ⟨s,(k:Nat)⟩ j
def yaJ (T:List Tk) (i:Nat):Rs Vl :=
 if kd T i=2 then (yaX T 0 i).then fun n j=>.ok ⟨1,(n:Nat),[]⟩ j
 else if kd T i=3 then .ok ⟨2,0,((tx T i).drop 1).take ((tx T i).length - 2)⟩ (i+1)
 else (yaS T [[45],yb9,ybH,w_null] i).then fun s j =>
  if s=[45] then (yaX T 1 j).then fun n j=>.ok ⟨1,-(n:Nat),[]⟩ j
  else if s=yb9 then .ok ⟨3,1,[]⟩ j
  else if s=ybH then .ok ⟨3,0,[]⟩ j
  else .ok vl0 j
def ydX (T:List Tk) (i:Nat):Rs Ex :=
 if yap (tx T i)=true then .ok (.mk 2 vl0 (tx T i) []) (i+1)
 else (yaJ T i).then fun v j=>.ok (.mk 1 v [] []) j
def ycH (T:List Tk) (ex:Nat→Rs Ex) (i:Nat):Rs Ex :=
 (ex i).then fun a j=>(may T w_is [w_null,[41]] j).then fun b j =>
  if b=true then .ok (.mk 4 vl0 [] [a]) j
  else (ycj T (ybx ya0) j).then fun k j=>(ex j).then fun b j=>(ybl T [[41]] j).then fun _ j=>.ok (.mk (k:Nat) vl0 [] [a,b]) j
def ybd (T:List Tk):Nat→Nat→Rs Ex
 | 0,i=>ydX T i
 | f+1,i =>
  if tx T i=w_not then (ybd T f (i+1)).then fun a j=>.ok (.mk 3 vl0 [] [a]) j
  else if tx T i=[40] then ycH T (ybd T f) (i+1)
  else ydX T i
def ybL {α:Type} (T:List Tk) (one:Nat→Rs α):Nat→List α→Nat→Rs (List α)
 | 0,l,i=>.ok l i
 | f+1,l,i=>if tx T i=[44] then (one (i+1)).then fun x j=>ybL T one f (l++[x]) j else .ok l i
def ybX {α:Type} (T:List Tk) (one:Nat→Rs α) (i:Nat):Rs (List α):=(one i).then fun x j=>ybL T one (T.length+1) [x] j
def ycy {α:Type} (T:List Tk) (one:Nat→Rs α) (i:Nat):Rs (List α) :=
 (ybl T [[40]] i).then fun _ j=>(ybX T one j).then fun l j=>(ybl T [[41]] j).then fun _ j=>.ok l j
def ybh (T:List Tk) (c:Cm) (i:Nat):Rs Cm :=
 (may T w_where [] i).then fun b j=>if b=true then (ybd T 60 j).then fun e j=>.ok { c with all:=false,wh:=e } j else .ok { c with all:=true } j
def ybC (T:List Tk) (i:Nat):Rs Cm :=
 (yaS T [w_table,w_index] i).then fun s j =>
  if s=w_table then (yau T j).then fun n j=>(ycy T (yaG T) j).then fun l j=>.ok { cm0 with kind:=1,name:=n,cols:=l } j
  else (yau T j).then fun n j=>(ybl T [w_on] j).then fun _ j=>(yau T j).then fun o j=>(ybl T [[40]] j).then fun _ j=>(yau T j).then fun c j=>(ybl T [[41]] j).then fun _ j =>
   .ok { cm0 with kind:=8,name:=n,other:=o,column:=c } j
def ydW (T:List Tk) (i:Nat):Rs Cm :=
 (yaS T [w_table,w_index] i).then fun s j=>(yau T j).then fun n j=>.ok { cm0 with kind:=if s=w_index then 9 else 2,name:=n } j
def ybF (T:List Tk) (c:Cm) (i:Nat):Rs Cm :=
 (may T w_to [] i).then fun b j =>
  if b=true then (yau T j).then fun o j=>.ok { c with kind:=7,other:=o } j
  else (yau T j).then fun l j=>(ybl T [w_to] j).then fun _ j=>(yau T j).then fun o j=>.ok { c with kind:=5,column:=l,other:=o } j
def ybK (T:List Tk) (i:Nat):Rs Cm :=
 (ybl T [w_table] i).then fun _ j=>(yau T j).then fun n j=>(yaS T [w_add,w_drop,w_rename,w_retype] j).then fun s j =>
  if s=w_add then (yaG T j).then fun c j=>(ybl T [w_default] j).then fun _ j=>(yaJ T j).then fun v j=>.ok { cm0 with kind:=3,name:=n,column:=c.name,ty:=c.ty,val:=v } j
  else if s=w_drop then (yau T j).then fun c j=>.ok { cm0 with kind:=4,name:=n,column:=c } j
  else if s=w_rename then ybF T { cm0 with name:=n } j
  else (yaG T j).then fun c j=>.ok { cm0 with kind:=6,name:=n,column:=c.name,ty:=c.ty } j
def ycp (T:List Tk) (i:Nat):Rs Cm :=
 (ybl T [w_into] i).then fun _ j=>(yau T j).then fun n j=>(ybl T [w_values] j).then fun _ j=>(ycy T (yaJ T) j).then fun l j=>.ok { cm0 with kind:=10,name:=n,vals:=l } j
def ycx (T:List Tk) (i:Nat):Rs Cm :=
 (ybl T [w_from] i).then fun _ j=>(yau T j).then fun n j=>ybh T { cm0 with kind:=11,name:=n } j
def yca (T:List Tk) (i:Nat):Rs Cm :=
 (yau T i).then fun n j=>(ybl T [w_set] j).then fun _ j=>(yau T j).then fun c j=>(ybl T [[61]] j).then fun _ j=>(ybd T 60 j).then fun e j =>
  ybh T { cm0 with kind:=12,name:=n,column:=c,expr:=e } j
def yfk (T:List Tk) (i:Nat):Rs (List (List UInt8)) :=
 (may T [42] [] i).then fun b j=>if b=true then .ok [] j else ybX T (yau T) j
def ycJ (T:List Tk) (c:Cm) (i:Nat):Rs Cm :=
 (may T w_order [w_by] i).then fun b j=>if b=true then (yau T j).then fun o j=>.ok { c with order:=o } j else .ok c j
def ybT (T:List Tk) (c:Cm) (i:Nat):Rs Cm :=
 (may T w_limit [] i).then fun b j=>if b=true then (yaX T 0 j).then fun n j=>.ok { c with limit:=(n:Nat) } j else .ok c j
def yaK (T:List Tk) (i:Nat):Rs Cm :=
 (yfk T i).then fun l j=>(ybl T [w_from] j).then fun _ j=>(yau T j).then fun n j =>
  (ybh T { cm0 with kind:=13,limit:=-1,fields:=l,name:=n } j).then fun c j=>(ycJ T c j).then fun c j=>ybT T c j
def yb8:List (List UInt8):=[w_create,w_drop,w_alter,w_insert,w_delete,w_update,w_select,w_begin,w_commit,w_rollback]
def yaA (T:List Tk) (i:Nat):Rs Cm :=
 (yaS T yb8 i).then fun s j =>
  if s=w_create then ybC T j else if s=w_drop then ydW T j else if s=w_alter then ybK T j else if s=w_insert then ycp T j
  else if s=w_delete then ycx T j else if s=w_update then yca T j else if s=w_select then yaK T j
  else if s=w_begin then .ok { cm0 with kind:=14 } j else if s=w_commit then .ok { cm0 with kind:=15 } j else .ok { cm0 with kind:=16 } j
def ycc (T:List Tk):Rs Cm:=(yaA T 0).then fun c j=>if j < T.length then .bad j else .ok c j
theorem yfJ {P:Program} {W W':World} {n:String} {cs:Array Value} {g:Nat} (hg:P.globalNamed n=some g) (hk:W'.heap[g]?=W.heap[g]?) (hv:W.var? P n=some cs):W'.var? P n=some cs:=by
 unfold World.var? at hv ⊢
 rw [hg] at hv ⊢
 simp only [Option.bind_some] at hv ⊢
 rw [hk];exact hv
theorem Tryz.gPow:Tryz.prog.globalNamed "internal/strconv.uint64pow10" = some 1:=by kernel_rfl
theorem Tryz.gES:Tryz.prog.globalNamed "strconv.ErrSyntax" = some 2:=by kernel_rfl
theorem Tryz.gER:Tryz.prog.globalNamed "strconv.ErrRange" = some 3:=by kernel_rfl
structure Laid (w:World):Prop where
 tab:Lib.TabIs Tryz.prog w "internal/strconv.uint64pow10" .u64 Lib.pow10Tab
 es:∃ tp p,w.var? Tryz.prog "strconv.ErrSyntax" = some #[.iface tp p]
 er:∃ tp p,w.var? Tryz.prog "strconv.ErrRange" = some #[.iface tp p]
 ml:∃ m,w.cell? ⟨0,0,none⟩=some (.int .i64 m)
 sz:6≤w.heap.size
theorem Laid.keep {w w':World} (h:Laid w) (hs:w.heap.size≤w'.heap.size) (hk:∀ k,k < 6→w'.heap[k]?=w.heap[k]?):Laid w':=by
 obtain ⟨h1,⟨tp,p,h2⟩,⟨tq,q,h3⟩,⟨m,h4⟩,h5⟩:=h
 exact ⟨yfJ Tryz.gPow (hk 1 (by decide)) h1,⟨tp,p,yfJ Tryz.gES (hk 2 (by decide)) h2⟩,⟨tq,q,yfJ Tryz.gER (hk 3 (by decide)) h3⟩,
  ⟨m,(World.cell?_of_block (w:=w) (hk 0 (by decide))).trans h4⟩,Nat.le_trans h5 hs⟩
theorem Laid.below {w w':World} (h:Laid w) (hb:Below w.heap.size w w'):Laid w':=h.keep hb.size fun k hk=>hb.block k (Nat.lt_of_lt_of_le hk h.sz)
theorem Laid.grown {w w':World} {pb:Nat} (h:Laid w) (hp:6≤pb) (hg:w.grownBy w' (some pb)):Laid w' :=
 h.keep hg.size fun k hk=>hg.block k (Nat.lt_of_lt_of_le hk h.sz) (by intro e;cases e;omega)
theorem yjC (w:World) (q:Nat) (os:Array Obj):Below w.heap.size w (Sort.grow (w.drewN q) os):=by
 refine ⟨rfl,rfl,rfl, ?_, ?_⟩
 ·show w.heap.size≤(w.heap++os).size
  simp
 ·intro k hk
  show (w.heap++os)[k]?=w.heap[k]?
  rw [Array.getElem?_append_left hk]
theorem yoR (n:Int) (w:World) (h0:-9223372036854775808≤n) (h1:n≤9223372036854775807) (hl:Laid w) :
  Calls Tryz.prog 136 #[.int .i64 n] w fun e w'=>e=.returned (.string ⟨(Lib.itoa n).toArray⟩)∧Below w.heap.size w w':=by
 refine (Tryz.strconv_Itoa n h0 h1 w hl.tab).mono ?_
 rintro e w' ⟨rfl,k,os,rfl⟩
 exact ⟨rfl,yjC w k os⟩
theorem yh3 (w:World) (t:ByteArray):Below w.heap.size w (Lib.bytesWorld w 5 t):=by
 unfold Lib.bytesWorld
 exact Lib.below_freeze ((Below.refl _ _).drew.alloc (Nat.le_refl _) _) (by simp) _
def yh0 (l:List UInt8):Int:=match Lib.atoiAll l with|.ok v=>v|.range=>Lib.atoiSat l|_=>0
theorem ynO (s:ByteArray) (w:World) (hs:s.size≤140737488355328) (hl:Laid w) :
  Calls Tryz.prog 174 #[.string s] w fun e w'=>(∃ x,e=.returned (.tuple #[.int .i64 (yh0 s.data.toList),x]))∧Below w.heap.size w w':=by
 cases hr:Lib.atoiAll s.data.toList with
 | ok v =>
  refine (Tryz.strconv_Atoi_ok s (by omega) v hr w).mono ?_
  rintro e w' ⟨rfl,rfl|⟨t,rfl⟩⟩
  ·exact ⟨⟨_,by simp only [yh0,hr];rfl⟩,Below.refl _ _⟩
  ·exact ⟨⟨_,by simp only [yh0,hr];rfl⟩,yh3 w t⟩
 | range =>
  obtain ⟨tq,q,hv⟩:=hl.er
  refine (Tryz.strconv_Atoi_range_var s (by omega) hr tq q w hv).mono ?_
  rintro e w' ⟨N,rfl,-,-,hb⟩
  exact ⟨⟨_,by simp only [yh0,hr];rfl⟩,hb⟩
 | _ =>
  obtain ⟨tq,q,hv⟩:=hl.es
  refine (Tryz.strconv_Atoi_syntax_var s (by omega) hr tq q w hv).mono ?_
  rintro e w' ⟨N,rfl,-,-,hb⟩
  exact ⟨⟨_,by simp only [yh0,hr];rfl⟩,hb⟩
theorem yfR (l:List UInt8):∀ acc,(∀ c ∈ l,isD c=true)→Lib.decFrom acc l=some (l.foldl (fun n c=>10*n+(c.toNat - 48)) acc):=by
 induction l with
 | nil=>intro acc _;rfl
 | cons c r ih =>
  intro acc h
  have hc:=h c (List.mem_cons_self ..)
  simp only [isD,Bool.and_eq_true,decide_eq_true_eq] at hc
  have hd:Lib.digitVal c=some (c.toNat - 48):=by unfold Lib.digitVal;rw [if_pos (by omega)]
  simp only [Lib.decFrom,hd,List.foldl_cons]
  rw [ih _ fun c hc=>h c (List.mem_cons_of_mem _ hc),Nat.mul_comm]
theorem ygX (l:List UInt8) (h0:l≠[]) (h9:l.length≤9) (hd:∀ c ∈ l,isD c=true):yh0 l=(yfO l:Nat):=by
 unfold yh0
 rw [Lib.atoiAll_short l (by omega)]
 obtain ⟨c,r,rfl⟩:=List.exists_cons_of_ne_nil h0
 have hc:=hd c (List.mem_cons_self ..)
 simp only [isD,Bool.and_eq_true,decide_eq_true_eq] at hc
 have h1:(c == 45)=false:=by rw [beq_eq_false_iff_ne];intro e;subst e;simp at hc
 have h2:(c == 43)=false:=by rw [beq_eq_false_iff_ne];intro e;subst e;simp at hc
 have hn:Lib.decNat (c::r)=some (yfO (c::r)):=by rw [Lib.decNat,if_neg (by simp),yfR _ _ hd];rfl
 simp only [Lib.atoi,h1,h2,hn]
 rfl
theorem yh7 (l:List UInt8) (hd:∀ c ∈ l,isD c=true):yfO l < 10 ^ l.length:=by
 have go:∀ (l:List UInt8) (acc:Nat),(∀ c ∈ l,isD c=true)→l.foldl (fun n c=>10*n+(c.toNat - 48)) acc < (acc+1)*10 ^ l.length:=by
  intro l
  induction l with
  | nil=>intro acc _;simp
  | cons c r ih =>
   intro acc h
   have hc:=h c (List.mem_cons_self ..)
   simp only [isD,Bool.and_eq_true,decide_eq_true_eq] at hc
   have:=ih (10*acc+(c.toNat - 48)) fun c hc=>h c (List.mem_cons_of_mem _ hc)
   simp only [List.foldl_cons,List.length_cons,Nat.pow_succ]
   refine Nat.lt_of_lt_of_le this ?_
   have h10:10*acc+(c.toNat - 48)+1≤(acc+1)*10:=by omega
   exact Nat.le_trans (Nat.mul_le_mul_right _ h10) (Nat.le_of_eq (by rw [Nat.mul_assoc,Nat.mul_comm 10]))
 have:=go l 0 hd
 simpa [yfO] using this
structure TokOk (x:Tk):Prop where
 short:x.t.length≤22
 num:x.k=2→x.t≠[]∧x.t.length≤9∧∀ c ∈ x.t,isD c=true
 txt:x.k=3→2≤x.t.length
structure St (w:World) (base pb:Nat) (v:Value) (T:List Tk) (en:Int) (i:Nat):Prop where
 blk:w.heap[pb]?=some (.cells #[v,.int .i64 (i:Int),.int .i64 en] 94)
 own:w.ownsRow base 63 3 v T.length (ybM T)
 ne:v.ownBlock≠some pb
 le:i≤T.length
 few:T.length≤2000
 six:6≤pb
 gl:Laid w
 toks:∀ x ∈ T,TokOk x
theorem ycl {W:World} {b:Nat} {x y z:Value} {t:TypeId} (h:W.heap[b]?=some (.cells #[x,y,z] t)) :
  (W.cell? ⟨b,0,none⟩=some x∧W.cell? ⟨b,1,none⟩=some y∧W.cell? ⟨b,2,none⟩=some z)∧(W.frozen? ⟨b,0,none⟩=false∧W.frozen? ⟨b,1,none⟩=false∧W.frozen? ⟨b,2,none⟩=false):=by
 refine ⟨⟨?_, ?_, ?_⟩,Lib.frozen_of_heap h 0,Lib.frozen_of_heap h 1,Lib.frozen_of_heap h 2⟩
 ·rw [Lib.cell_of_heap h];rfl
 ·rw [Lib.cell_of_heap h];rfl
 ·rw [Lib.cell_of_heap h];rfl
theorem yoE (w:World) (pb n cap:Nat) (ao:Option Addr) (en:Int) (hb:pb < w.heap.size)
  (c0:w.cell? ⟨pb,0,none⟩=some (.slice ao n cap)) (c1:w.cell? ⟨pb,1,none⟩=some (.int .i64 (n:Int))) (c2:w.cell? ⟨pb,2,none⟩=some (.int .i64 en)) :
  Calls Tryz.prog 112 #[.pointer (some ⟨pb,0,none⟩)] w fun e w'=>e=.returned (.agg #[.int .i64 0,.int .i64 en,.string ⟨#[]⟩])∧Below w.heap.size w w':=by
 have d0:∀ o,(w.alloc o).cell? ⟨pb,0,none⟩=some (.slice ao n cap):=fun o=>(ya2 o hb).trans c0
 have d1:∀ o,(w.alloc o).cell? ⟨pb,1,none⟩=some (.int .i64 (n:Int)):=fun o=>(ya2 o hb).trans c1
 have d2:∀ o,(w.alloc o).cell? ⟨pb,2,none⟩=some (.int .i64 en):=fun o=>(ya2 o hb).trans c2
 go_enter Tryz.func112,Tryz.ntmps112
 go_wp2
 go_quiet (fail)
 go_wp2
 refine bodyPost_ret (v:=.agg #[.int .i64 0,.int .i64 en,.string ⟨#[]⟩]) ?_ rfl ⟨rfl, ?_⟩
 ·simp [results,Tryz.results112,go_sem]
 ·exact (((below_drewN ((Below.refl _ _).alloc (Nat.le_refl _) _) _).setCell (by simp) _).setCell (by simp) _).setCell (by simp) _
theorem yq2 (w:World) (pb n cap g:Nat) (i:Nat) (k a:Int) (t:ByteArray) (hb:pb < w.heap.size) (hg:g < w.heap.size)
  (c0:w.cell? ⟨pb,0,none⟩=some (.slice (some ⟨g,0,none⟩) n cap)) (c1:w.cell? ⟨pb,1,none⟩=some (.int .i64 (i:Int))) (hi:(i:Int) < (n:Int)) (hne:((i:Int) == (n:Int))=false)
  (e0:w.cell? ⟨g,i*3,none⟩=some (.int .i64 k)) (e1:w.cell? ⟨g,i*3+1,none⟩=some (.int .i64 a)) (e2:w.cell? ⟨g,i*3+2,none⟩=some (.string t)) :
  Calls Tryz.prog 112 #[.pointer (some ⟨pb,0,none⟩)] w fun e w'=>e=.returned (.agg #[.int .i64 k,.int .i64 a,.string t])∧Below w.heap.size w w':=by
 have d0:∀ o,(w.alloc o).cell? ⟨pb,0,none⟩=some (.slice (some ⟨g,0,none⟩) n cap):=fun o=>(ya2 o hb).trans c0
 have d1:∀ o,(w.alloc o).cell? ⟨pb,1,none⟩=some (.int .i64 (i:Int)):=fun o=>(ya2 o hb).trans c1
 have f0:∀ o,(w.alloc o).cell? ⟨g,i*3,none⟩=some (.int .i64 k):=fun o=>(ya2 o hg).trans e0
 have f1:∀ o,(w.alloc o).cell? ⟨g,i*3+1,none⟩=some (.int .i64 a):=fun o=>(ya2 o hg).trans e1
 have f2:∀ o,(w.alloc o).cell? ⟨g,i*3+2,none⟩=some (.string t):=fun o=>(ya2 o hg).trans e2
 go_enter Tryz.func112,Tryz.ntmps112
 go_wp2
 go_quiet (fail)
 go_wp2
 go_region
 go_wp2
 refine bodyPost_ret (v:=.agg #[.int .i64 k,.int .i64 a,.string t]) ?_ rfl ⟨rfl, ?_⟩
 ·simp [results,Tryz.results112,go_sem]
 ·exact (((below_drewN ((Below.refl _ _).alloc (Nat.le_refl _) _) _).setCell (by simp) _).setCell (by simp) _).setCell (by simp) _
theorem ygZ (T:List Tk):∀ (i:Nat) (x:Tk),T[i]?=some x→(ybM T)[i*3]?=some (.int .i64 x.k)∧(ybM T)[i*3+1]?=some (.int .i64 x.a)∧(ybM T)[i*3+2]?=some (.string ⟨x.t.toArray⟩):=by
 induction T with
 | nil=>intro i x h;simp at h
 | cons y r ih =>
  intro i x h
  cases i with
  | zero=>simp at h;subst h;simp [ybM,Tk.cells]
  | succ i =>
   have:=ih i x (by simpa using h)
   have e:ybM (y::r)=y.cells++ybM r:=rfl
   rw [e]
   have e1:(i+1)*3=y.cells.length+i*3:=by simp [Tk.cells];omega
   rw [e1]
   refine ⟨?_, ?_, ?_⟩
   ·rw [List.getElem?_append_right (by omega)];simpa using this.1
   ·rw [Nat.add_assoc,List.getElem?_append_right (by omega)];simpa using this.2.1
   ·rw [Nat.add_assoc,List.getElem?_append_right (by omega)];simpa using this.2.2
theorem ydR {w:World} {base:Nat} {e:TypeId} {size:Nat} {g n cap:Nat} {xs:List Value} (h:w.ownsRow base e size (.slice (some ⟨g,0,none⟩) n cap) n xs) (j:Nat) (x:Value) (hx:xs[j]?=some x) :
  w.cell? ⟨g,j,none⟩=some x:=by
 have hj:=(List.getElem?_eq_some_iff.1 hx).1
 exact (h.cellAt j (by rw [← h.1];exact hj)).trans hx
theorem ycd {w:World} {base pb:Nat} {v:Value} {T:List Tk} {en:Int} {i:Nat} (h:St w base pb v T en i) :
  Calls Tryz.prog 112 #[.pointer (some ⟨pb,0,none⟩)] w fun e w'=>e=.returned (.agg #[.int .i64 (kd T i),.int .i64 (pl T en i),.string ⟨(tx T i).toArray⟩])∧Below w.heap.size w w':=by
 obtain ⟨⟨c0,c1,c2⟩,-⟩:=ycl h.blk
 have hb:pb < w.heap.size:=(ltS h.blk)
 by_cases hi:i=T.length
 ·obtain ⟨ao,cap,hv⟩:=ybV h.own
  subst hi
  rw [hv] at c0
  have e1:kd T T.length=0:=by simp [kd]
  have e2:pl T en T.length=en:=by simp [pl]
  have e3:tx T T.length=[]:=by simp [tx]
  rw [e1,e2,e3]
  exact yoE w pb T.length cap ao en hb c0 c1 c2
 ·have hlt:i < T.length:=by have:=h.le;omega
  obtain ⟨g,cap,hv,hg1,hg2⟩:=yen h.own (by omega)
  have ho:=h.own
  rw [hv] at c0 ho
  have hx:T[i]?=some T[i]:=List.getElem?_eq_getElem hlt
  obtain ⟨a0,a1,a2⟩:=ygZ T i _ hx
  have e1:kd T i=T[i].k:=by simp [kd,hx]
  have e2:pl T en i=T[i].a:=by simp [pl,hx]
  have e3:tx T i=T[i].t:=by simp [tx,hx]
  rw [e1,e2,e3]
  exact yq2 w pb T.length cap g i _ _ _ hb hg2 c0 c1 (by omega) (by simp;omega) (ydR ho _ _ a0) (ydR ho _ _ a1) (ydR ho _ _ a2)
theorem St.below {w w':World} {base pb:Nat} {v:Value} {T:List Tk} {en:Int} {i:Nat} (h:St w base pb v T en i) (hb:Below w.heap.size w w'):St w' base pb v T en i :=
 ⟨(hb.block pb (ltS h.blk)).trans h.blk,ycz h.own hb,h.ne,h.le,h.few,h.six,h.gl.below hb,h.toks⟩
theorem yuv (k a:Int) (t:ByteArray) (w:World):(Instr.field 63 (.agg #[.int .i64 k,.int .i64 a,.string t]) 1).run Tryz.prog w=.ok (.int .i64 a) w:=by kernel_rfl
theorem yi1 (k a:Int) (t:ByteArray) (w:World):(Instr.field 63 (.agg #[.int .i64 k,.int .i64 a,.string t]) 2).run Tryz.prog w=.ok (.string t) w:=by kernel_rfl
abbrev pan (at_:Int):Ending:=.panicked [{ v:=.iface 90 (.int .i64 at_),recovered:=false }]
theorem ycg {w:World} {base pb:Nat} {v:Value} {T:List Tk} {en:Int} {i:Nat} (h:St w base pb v T en i) :
  Calls Tryz.prog 57 #[.pointer (some ⟨pb,0,none⟩)] w fun e w'=>e=pan (pl T en i)∧Below w.heap.size w w':=by
 have hh:=ycd h
 have t1:=yuv
 go_enter Tryz.func57,Tryz.ntmps57
 go_wp2_with (go_at_call 112;refine hh.mono ?_;rintro e w1 ⟨rfl,hb1⟩)
 exact ⟨rfl,rfl,hb1⟩
theorem ypR {w:World} {base pb:Nat} {v:Value} {T:List Tk} {en:Int} {i:Nat} (h:St w base pb v T en i) (s:ByteArray) (o:Value) (hs:tx T i≠s.data.toList) :
  Calls Tryz.prog 141 #[.pointer (some ⟨pb,0,none⟩),.string s,o] w fun e w'=>e=.returned (.bool false)∧Below w.heap.size w w':=by
 have hh:=ycd h
 have t2:=yi1
 have hne:((tx T i) == s.toList)=false:=by rw [Lib.toList_data];simpa using hs
 go_enter Tryz.func141,Tryz.ntmps141
 go_wp2_with (go_at_call 112;refine hh.mono ?_;rintro e w1 ⟨rfl,hb1⟩)
 go_ret
 exact ⟨rfl,hb1⟩
theorem ybe (w:World) (r:Option Nat):w.grownBy w r:=⟨rfl,rfl,rfl,Nat.le_refl _,fun _ _ _=>rfl⟩
theorem yad {w w':World} (h:Below w.heap.size w w') (r:Option Nat):w.grownBy w' r:=⟨h.os,h.tape,h.output,h.size,fun k hk _=>h.block k hk⟩
theorem yaa {a b c:World} {r:Option Nat} (h:a.grownBy b r) (k:b.grownBy c r):a.grownBy c r :=
 ⟨k.os.trans h.os,k.tape.trans h.tape,k.output.trans h.output,Nat.le_trans h.size k.size,fun i hi hr=>(k.block i (Nat.lt_of_lt_of_le hi h.size) hr).trans (h.block i hi hr)⟩
theorem yaw (w:World) (b o:Nat) (x:Value):w.grownBy (w.setCell ⟨b,o,none⟩ x) (some b) :=
 ⟨rfl,rfl,rfl,by simp [World.setCell],fun k _ hk=>heap_setCell_other w _ k x (by intro e;exact hk (by rw [e]))⟩
theorem St.set {w:World} {base pb:Nat} {v:Value} {T:List Tk} {en:Int} {i:Nat} (h:St w base pb v T en i) (j:Nat) (hj:j≤T.length):St (w.setCell ⟨pb,1,none⟩ (.int .i64 (j:Int))) base pb v T en j:=by
 refine ⟨?_, ?_,h.ne,hj,h.few,h.six,h.gl.grown h.six (yaw w pb 1 _),h.toks⟩
 ·exact heap_setCell_same _ pb 1 _ 94 (.int .i64 (j:Int)) h.blk
 ·exact h.own.kept (yaw w pb 1 _) (.inr h.ne)
structure Out {α:Type} (W:World) (base pb:Nat) (v:Value) (T:List Tk) (en:Int) (rep:World→Value→α→Prop) (r:Rs α) (e:Ending) (w':World):Prop where
 grown:W.grownBy w' (some pb)
 ok:∀ a j,r=.ok a j→∃ u,e=.returned u∧rep w' u a∧St w' base pb v T en j
 bad:∀ j,r=.bad j→e=pan (pl T en j)
theorem Out.mkOk {α:Type} {W:World} {base pb:Nat} {v:Value} {T:List Tk} {en:Int} {rep:World→Value→α→Prop} {r:Rs α} {w':World} {u:Value} {a:α} {j:Nat}
  (hg:W.grownBy w' (some pb)) (hr:r=.ok a j) (hu:rep w' u a) (hs:St w' base pb v T en j):Out W base pb v T en rep r (.returned u) w' :=
 ⟨hg,by intro a' j' h;rw [hr] at h;cases h;exact ⟨u,rfl,hu,hs⟩,by intro j' h;rw [hr] at h;cases h⟩
theorem Out.mkBad {α:Type} {W:World} {base pb:Nat} {v:Value} {T:List Tk} {en:Int} {rep:World→Value→α→Prop} {r:Rs α} {w':World} {j:Nat}
  (hg:W.grownBy w' (some pb)) (hr:r=.bad j):Out W base pb v T en rep r (pan (pl T en j)) w' :=
 ⟨hg,(by intro a' j' h;rw [hr] at h;cases h),(by intro j' h;rw [hr] at h;cases h;rfl)⟩
def yts (_:World) (u:Value) (b:Bool):Prop:=u=.bool b
def yte (_:World) (u:Value) (_:Unit):Prop:=u=.tuple #[]
def yum (_:World) (u:Value) (s:List UInt8):Prop:=u=.string ⟨s.toArray⟩
def yul (_:World) (u:Value) (n:Nat):Prop:=u=.int .i64 (n:Int)
def Strs (w:World) (pb:Nat) (o:Value) (ws:List (List UInt8)):Prop :=
 (ws=[]∧o=.slice none 0 0)∨∃ b cap,o=.slice (some ⟨b,0,none⟩) ws.length cap∧b≠pb∧b < w.heap.size∧∀ k s,ws[k]?=some s→w.cell? ⟨b,k,none⟩=some (.string ⟨s.toArray⟩)
theorem ygS {T:List Tk} {i:Nat} (h:tx T i≠[]):i < T.length:=by
 rcases Nat.lt_or_ge i T.length with h'|h'
 ·exact h'
 ·exact absurd (by simp [tx,List.getElem?_eq_none h']) h
theorem ymy {w:World} {base pb:Nat} {v:Value} {T:List Tk} {en:Int} {i:Nat} (h:St w base pb v T en i) (s:ByteArray) (o:Value) (hs:tx T i=s.data.toList) (h0:s.data.toList≠[]) (ws:List (List UInt8))
  (hm:∀ W,w.grownBy W (some pb)→St W base pb v T en (i+1)→Calls Tryz.prog 145 #[.pointer (some ⟨pb,0,none⟩),o] W fun e w'=>Out W base pb v T en yte (ybl T ws (i+1)) e w') :
  Calls Tryz.prog 141 #[.pointer (some ⟨pb,0,none⟩),.string s,o] w fun e w'=>Out w base pb v T en yts (may T s.data.toList ws i) e w':=by
 have hh:=ycd h
 have t2:=yi1
 have heq:((tx T i) == s.toList)=true:=by rw [Lib.toList_data,hs];simp
 have hlt:i < T.length:=ygS (by rw [hs];exact h0)
 have hmay:may T s.data.toList ws i=(ybl T ws (i+1)).then fun _ j=>.ok true j:=by rw [may,if_pos hs]
 rw [hmay]
 clear hmay hs
 have hf:=h.few
 go_enter Tryz.func141,Tryz.ntmps141
 go_wp2_with (go_at_call 112;refine hh.mono ?_;rintro e w1 ⟨rfl,hb1⟩;have s1:=h.below hb1;obtain ⟨⟨c0,c1,c2⟩,f0,f1,f2⟩:=ycl s1.blk)
 have e1:((i:Int)+1)=((i+1:Nat):Int):=by omega
 have s2:=s1.set (i+1) hlt
 have g2:w.grownBy (w1.setCell ⟨pb,1,none⟩ (.int .i64 ((i+1:Nat):Int))) (some pb):=yaa (yad hb1 _) (yaw _ _ _ _)
 have e2:Value.int .i64 ((i:Int)+1)=.int .i64 ((i+1:Nat):Int):=by rw [e1]
 rw [e2]
 refine (hm _ g2 s2).mono ?_
 intro e w2 o2
 have g3:=yaa g2 o2.grown
 cases hr:ybl T ws (i+1) with
 | bad j =>
  obtain rfl:=o2.bad j hr
  exact ⟨rfl,.mkBad g3 (by simp [hr])⟩
 | ok a j =>
  obtain ⟨u,rfl,hu,s3⟩:=o2.ok a j hr
  have HR:Hid ((ybl T ws (i+1)).then (fun _ j=>.ok true j)=.ok true j):=by simp [Hid,hr]
  clear hr o2 hm s2 g2 hh c0 c1 c2 f0 f1 f2
  go_wp2
  go_ret
  exact .mkOk g3 HR.out rfl s3
theorem Strs.grown {w w':World} {pb:Nat} {o:Value} {ws:List (List UInt8)} (h:Strs w pb o ws) (hg:w.grownBy w' (some pb)):Strs w' pb o ws:=by
 rcases h with h|⟨b,cap,rfl,hb,hl,hc⟩
 ·exact .inl h
 ·exact .inr ⟨b,cap,rfl,hb,Nat.lt_of_lt_of_le hl hg.size,fun k s hk=>(ydN hg hl (by simpa using hb)).trans (hc k s hk)⟩
theorem yjg {w:World} {base pb:Nat} {v:Value} {T:List Tk} {en:Int} {i:Nat} (h:St w base pb v T en i) :
  Calls Tryz.prog 145 #[.pointer (some ⟨pb,0,none⟩),.slice none 0 0] w fun e w'=>Out w base pb v T en yte (ybl T [] i) e w':=by
 go_enter Tryz.func145,Tryz.ntmps145
 go_wp2
 go_loopw [8] (fun k wr=>k=.int .i64 0∧wr=w) (fun _ _=>0)
 case atStart=>exact ⟨rfl,rfl⟩
 case round =>
  obtain ⟨rfl,rfl⟩:=hrel
  go_wp2
  go_end0
  exact .mkOk (ybe _ _) (a:=()) rfl rfl h
theorem yc0 {w:World} {base pb:Nat} {v:Value} {T:List Tk} {en:Int} {i:Nat} (h:St w base pb v T en i) (s:List UInt8) (h0:s≠[]) :
  Calls Tryz.prog 141 #[.pointer (some ⟨pb,0,none⟩),.string ⟨s.toArray⟩,.slice none 0 0] w fun e w' =>
   e=.returned (.bool (decide (tx T i=s)))∧w.grownBy w' (some pb)∧St w' base pb v T en (if tx T i=s then i+1 else i):=by
 by_cases hs:tx T i=s
 ·refine (ymy h ⟨s.toArray⟩ (.slice none 0 0) (by simpa using hs) (by simpa using h0) [] fun W _ hW=>yjg hW).mono ?_
  intro e w1 o1
  obtain ⟨u,rfl,hu,s1⟩:=o1.ok true (i+1) (by simp [may,ybl,hs])
  rw [hu,if_pos hs]
  exact ⟨by simp [hs],o1.grown,s1⟩
 ·refine (ypR h ⟨s.toArray⟩ (.slice none 0 0) (by simpa using hs)).mono ?_
  rintro e w1 ⟨rfl,hb⟩
  rw [if_neg hs]
  exact ⟨by simp [hs],yad hb _,h.below hb⟩
theorem yhl {w:World} {base pb:Nat} {v:Value} {T:List Tk} {en:Int} {i:Nat} (h:St w base pb v T en i) (b cap:Nat) (ws:List (List UInt8)) (hne:b≠pb) (hb:b < w.heap.size)
  (hn:ws.length≤100) (hc:∀ k s,ws[k]?=some s→w.cell? ⟨b,k,none⟩=some (.string ⟨s.toArray⟩)) (h0:∀ s ∈ ws,s≠[]) :
  Calls Tryz.prog 145 #[.pointer (some ⟨pb,0,none⟩),.slice (some ⟨b,0,none⟩) ws.length cap] w fun e w'=>Out w base pb v T en yte (ybl T ws i) e w':=by
 obtain ⟨n,hl⟩:∃ n,ws.length=n:=⟨_,rfl⟩
 rw [hl] at hn ⊢
 go_enter Tryz.func145,Tryz.ntmps145
 go_wp2
 go_loopw [8] (fun x wr=>∃ k:Nat,k≤n∧x=.int .i64 k∧w.grownBy wr (some pb)∧St wr base pb v T en (i+k)∧Hid (ybl T ws i=ybl T (ws.drop k) (i+k))) (fun x _=>n - (intOf x).toNat)
 case atStart=>exact ⟨0,Nat.zero_le _,rfl,ybe _ _,h,rfl⟩
 case round =>
  obtain ⟨k,hk,rfl,hg,hst,HM⟩:=hrel
  by_cases hlt:k < n
  ·obtain ⟨s,hs⟩:∃ s,ws[k]?=some s:=⟨ws[k],List.getElem?_eq_getElem (by omega)⟩
   have a0:=(ydN hg (b:=b) (o:=k) hb (by simpa using hne)).trans (hc k s hs)
   have hmay:=yc0 hst s (h0 s (List.mem_of_getElem? hs))
   have hd:ws.drop k=s::ws.drop (k+1):=by rw [List.drop_eq_getElem_cons (by omega)];congr 1;exact (List.getElem?_eq_some_iff.1 hs).2
   have hlt':(k:Int) < (n:Int):=by omega
   have HH:=HM.out
   rw [hd,ybl] at HH
   by_cases ht:tx T (i+k)=s
   ·rw [if_pos ht] at HH
    simp only [ht,if_true,decide_true] at hmay
    have HM2:Hid (ybl T ws i=ybl T (ws.drop (k+1)) (i+k+1)):=HH
    clear HH HM hs hc hd ht
    go_wp2_with (go_at_call 141;refine hmay.mono ?_;rintro e w2 ⟨rfl,g2,s2⟩)
    go_roundw
    case rel=>exact ⟨k+1,by omega,by go_num,yaa hg g2,s2,HM2⟩
    case measure=>simp [intOf];omega
   ·rw [if_neg ht] at HH
    simp only [ht,if_false,decide_false] at hmay
    have HM2:Hid (ybl T ws i=.bad (i+k)):=HH
    clear HH HM hs hc hd ht
    go_wp2_with (first|(go_at_call 141;refine hmay.mono ?_;rintro e w2 ⟨rfl,g2,s2⟩)|(go_at_call 57;refine (ycg s2).mono ?_;rintro e w3 ⟨rfl,b3⟩))
    exact ⟨rfl,.mkBad (yaa (yaa hg g2) (yad b3 _)) HM2.out⟩
  ·have hkn:k=n:=by omega
   have HH:=HM.out
   rw [List.drop_eq_nil_of_le (by omega),ybl] at HH
   have HM2:Hid (ybl T ws i=.ok () (i+k)):=HH
   clear HH HM hc
   go_wp2
   go_end0
   exact .mkOk hg HM2.out rfl hst
theorem ypb {w:World} {base pb:Nat} {v:Value} {T:List Tk} {en:Int} {i:Nat} (h:St w base pb v T en i) (o:Value) (ws:List (List UInt8)) (ho:Strs w pb o ws) (hn:ws.length≤100) (h0:∀ s ∈ ws,s≠[]) :
  Calls Tryz.prog 145 #[.pointer (some ⟨pb,0,none⟩),o] w fun e w'=>Out w base pb v T en yte (ybl T ws i) e w':=by
 rcases ho with ⟨rfl,rfl⟩|⟨b,cap,rfl,hb,hl,hc⟩
 ·exact yjg h
 ·exact yhl h b cap ws hb hl hn hc h0
theorem ymx {w:World} {base pb:Nat} {v:Value} {T:List Tk} {en:Int} {i:Nat} (h:St w base pb v T en i) (s:List UInt8) (hs:s≠[]) (o:Value) (ws:List (List UInt8)) (ho:Strs w pb o ws) (hn:ws.length≤100) (h0:∀ s ∈ ws,s≠[]) :
  Calls Tryz.prog 141 #[.pointer (some ⟨pb,0,none⟩),.string ⟨s.toArray⟩,o] w fun e w'=>Out w base pb v T en yts (may T s ws i) e w':=by
 by_cases ht:tx T i=s
 ·have:=ymy h ⟨s.toArray⟩ o (by simpa using ht) (by simpa using hs) ws fun W hW sW=>ypb sW o ws (ho.grown hW) hn h0
  simpa using this
 ·refine (ypR h ⟨s.toArray⟩ o (by simpa using ht)).mono ?_
  rintro e w1 ⟨rfl,hb⟩
  exact .mkOk (yad hb _) (by rw [may,if_neg ht]) rfl (h.below hb)
theorem ykr {w:World} {base pb:Nat} {v:Value} {T:List Tk} {en:Int} {i:Nat} (h:St w base pb v T en i) (b cap:Nat) (ws:List (List UInt8)) (hne:b≠pb) (hb:b < w.heap.size)
  (hn:ws.length≤100) (hc:∀ k s,ws[k]?=some s→w.cell? ⟨b,k,none⟩=some (.string ⟨s.toArray⟩)) (h0:∀ s ∈ ws,s≠[]) :
  Calls Tryz.prog 104 #[.pointer (some ⟨pb,0,none⟩),.slice (some ⟨b,0,none⟩) ws.length cap] w fun e w'=>Out w base pb v T en yum (yaS T ws i) e w':=by
 obtain ⟨n,hl⟩:∃ n,ws.length=n:=⟨_,rfl⟩
 rw [hl] at hn ⊢
 go_enter Tryz.func104,Tryz.ntmps104
 go_wp2
 go_loopw [9] (fun x wr=>∃ k:Nat,k≤n∧x=.int .i64 k∧w.grownBy wr (some pb)∧St wr base pb v T en i∧Hid (yaS T ws i=yaS T (ws.drop k) i)) (fun x _=>n - (intOf x).toNat)
 case atStart=>exact ⟨0,Nat.zero_le _,rfl,ybe _ _,h,rfl⟩
 case round =>
  obtain ⟨k,hk,rfl,hg,hst,HM⟩:=hrel
  by_cases hlt:k < n
  ·obtain ⟨s,hs⟩:∃ s,ws[k]?=some s:=⟨ws[k],List.getElem?_eq_getElem (by omega)⟩
   have a0:=(ydN hg (b:=b) (o:=k) hb (by simpa using hne)).trans (hc k s hs)
   have hmay:=yc0 hst s (h0 s (List.mem_of_getElem? hs))
   have hd:ws.drop k=s::ws.drop (k+1):=by rw [List.drop_eq_getElem_cons (by omega)];congr 1;exact (List.getElem?_eq_some_iff.1 hs).2
   have hlt':(k:Int) < (n:Int):=by omega
   have HH:=HM.out
   rw [hd,yaS] at HH
   by_cases ht:tx T i=s
   ·rw [if_pos ht] at HH
    simp only [ht,if_true,decide_true] at hmay
    have HM2:Hid (yaS T ws i=.ok s (i+1)):=HH
    clear HH HM hs hc hd ht
    go_wp2_with (go_at_call 141;refine hmay.mono ?_;rintro e w2 ⟨rfl,g2,s2⟩)
    go_ret
    exact .mkOk (yaa hg g2) HM2.out rfl s2
   ·rw [if_neg ht] at HH
    simp only [ht,if_false,decide_false] at hmay
    have HM2:Hid (yaS T ws i=yaS T (ws.drop (k+1)) i):=HH
    clear HH HM hs hc hd ht
    go_wp2_with (go_at_call 141;refine hmay.mono ?_;rintro e w2 ⟨rfl,g2,s2⟩)
    go_roundw
    case rel=>exact ⟨k+1,by omega,by go_num,yaa hg g2,s2,HM2⟩
    case measure=>simp [intOf];omega
  ·have hkn:k=n:=by omega
   have HH:=HM.out
   rw [List.drop_eq_nil_of_le (by omega),yaS] at HH
   have HM2:Hid (yaS T ws i=.bad i):=HH
   clear HH HM hc
   go_wp2_with (go_at_call 57;refine (ycg hst).mono ?_;rintro e w3 ⟨rfl,b3⟩)
   exact ⟨rfl,.mkBad (yaa hg (yad b3 _)) HM2.out⟩
theorem contains_cons (b:UInt8) (l sub:List UInt8):Lib.contains (b::l) sub=(sub.isPrefixOf (b::l) || Lib.contains l sub):=by
 have h:=Lib.index_ge l sub
 unfold Lib.contains
 rw [Lib.index]
 split
 ·rename_i h1;simp [h1]
 ·rename_i h1
  split
  ·rename_i h2
   have h2':Lib.index l sub = -1:=by simpa using h2
   simp [h1,h2']
  ·rename_i h2
   have h2':Lib.index l sub≠-1:=by simpa using h2
   have e1:(0≤Lib.index l sub+1):=by omega
   have e2:(0≤Lib.index l sub):=by omega
   simp [h1,e1,e2]
theorem ypj (rest:List UInt8):∀ (s w:List UInt8),(32:UInt8) ∉ s→(32:UInt8) ∉ w→(s++[32]).isPrefixOf (w++32::rest)=(s == w):=by
 intro s
 induction s with
 | nil =>
  intro w _ hw
  cases w with
  | nil=>simp
  | cons c r =>
   simp only [List.mem_cons,not_or] at hw
   rw [List.nil_append,List.cons_append,List.isPrefixOf_cons_cons,beq_eq_false_iff_ne.2 hw.1]
   rfl
 | cons c r ih =>
  intro w hs hw
  cases w with
  | nil =>
   simp only [List.mem_cons,not_or] at hs
   rw [List.nil_append,List.cons_append,List.isPrefixOf_cons_cons,beq_eq_false_iff_ne.2 (Ne.symm hs.1)]
   rfl
  | cons d q =>
   simp only [List.mem_cons,not_or] at hs hw
   have:=ih q hs.2 hw.2
   simp only [List.cons_append,List.isPrefixOf_cons_cons,this]
   rfl
theorem ynu (sub rest:List UInt8):∀ w:List UInt8,(32:UInt8) ∉ w→Lib.contains (w++32::rest) (32::sub)=Lib.contains (32::rest) (32::sub):=by
 intro w
 induction w with
 | nil=>intro _;rfl
 | cons c r ih =>
  intro h
  simp only [List.mem_cons,not_or] at h
  rw [List.cons_append,contains_cons,ih h.2,List.isPrefixOf_cons_cons]
  have:((32:UInt8) == c)=false:=by rw [beq_eq_false_iff_ne];exact h.1
  rw [this];rfl
def ynJ:List (List UInt8)→List UInt8
 | []=>[]
 | w::ws=>w++32::ynJ ws
theorem yfQ (s:List UInt8) (hs:(32:UInt8) ∉ s):∀ ws:List (List UInt8),(∀ w ∈ ws,(32:UInt8) ∉ w)→Lib.contains (32::ynJ ws) (32::(s++[32]))=ws.contains s:=by
 intro ws
 induction ws with
 | nil =>
  intro _
  rw [contains_cons]
  have h1:(32::(s++[32])).isPrefixOf (32::ynJ [])=false:=by cases s <;> simp [ynJ]
  have h2:Lib.contains (ynJ []) (32::(s++[32]))=false:=by simp [ynJ,Lib.contains,Lib.index]
  rw [h1,h2];rfl
 | cons w ws ih =>
  intro h
  have hw:=h w (List.mem_cons_self ..)
  rw [contains_cons,ynJ,List.isPrefixOf_cons_cons,ypj _ s w hs hw,ynu _ _ _ hw,ih fun x hx=>h x (List.mem_cons_of_mem _ hx)]
  rw [List.contains_cons];rfl
theorem ypq (p:UInt8→Bool) (l:List UInt8) (h:ycN p l=l.length):∀ c ∈ l,p c=true:=by
 induction l with
 | nil=>intro c hc;cases hc
 | cons a r ih =>
  rw [yby] at h
  by_cases ha:p a=true
  ·rw [if_pos ha] at h
   intro c hc
   rcases List.mem_cons.1 hc with rfl|hc
   ·exact ha
   ·exact ih (by simpa using h) c hc
  ·rw [if_neg ha] at h;simp at h
theorem yga {s:List UInt8} (h:ybk 1 s=true):∃ c r,s=c::r∧isL c=true∧(∀ x ∈ r,isW x=true)∧s.length≤12:=by
 rw [ydC] at h
 unfold ybv at h
 simp only [decide_eq_true_eq] at h
 obtain ⟨h0,-,h1,h2,h3⟩:=h
 obtain ⟨c,r,rfl⟩:=List.exists_cons_of_ne_nil h0
 have hk:(yba (c::r)).1=1:=by omega
 rw [hk] at h3
 have hl:¬ 12 < (c::r).length:=by
  intro hgt
  rw [yaD,if_neg (by decide),if_pos (.inl ⟨rfl,hgt⟩)] at h3
  cases h3
 rw [yba] at hk h2
 by_cases hc:isL c=true
 ·rw [if_pos hc] at h2
  exact ⟨c,r,rfl,hc,ypq isW r (by simpa using h2),by omega⟩
 ·rw [if_neg hc] at hk
  split at hk
  ·cases hk
  ·split at hk
   ·split at hk <;> cases hk
   ·split at hk
    ·cases hk
    ·split at hk <;> cases hk
theorem yhf {c:UInt8} (h:isW c=true):c≠32:=by
 intro e;subst e;revert h;decide
theorem yq4 {c:UInt8} (h:isL c=true):isW c=true:=by simp [isW,h]
theorem yfV {s:List UInt8} (h:ybk 1 s=true):(32:UInt8) ∉ s:=by
 obtain ⟨c,r,rfl,hc,hr,-⟩:=yga h
 intro hm
 rcases List.mem_cons.1 hm with e|hm
 ·exact yhf (yq4 hc) e.symm
 ·exact yhf (hr _ hm) rfl
theorem yfX:∀ w ∈ takenL,(32:UInt8) ∉ w:=by decide +kernel
theorem yfP {s:List UInt8} (h:ybk 1 s=true):Lib.contains (32::ynJ takenL) (32::(s++[32]))=takenL.contains s :=
 yfQ s (yfV h) takenL yfX
theorem yqk (s:ByteArray):((⟨#[32]⟩:ByteArray)++s++⟨#[32]⟩)=⟨(32::(s.data.toList++[32])).toArray⟩:=by
 obtain ⟨⟨l⟩⟩:=s
 have:=yeh ([32]++l) [32]
 rw [← yeh] at this
 simpa using this
theorem ypd (s:ByteArray) (w:World):yk4 (w.alloc (.cells #[.int .i64 1,.int .i64 0,.string s] 63)) w.heap.size 0 1 [⟨1,0,s.data.toList⟩]:=by
 refine ⟨rfl, ?_⟩
 intro i x hx
 match i,hx with
 | 0,hx =>
  simp at hx;subst hx
  simp
 | i+1,hx=>simp at hx
theorem ykn (s:List UInt8):(yfp [⟨1,0,s⟩]).2=if ybk 1 s=true then 0 else 1:=by
 unfold yfp
 by_cases h:ybk 1 s=true
 ·obtain ⟨_,_,_,_,_,hl⟩:=yga h
  rw [if_pos (by simpa using h),if_pos h,if_neg]
  show ¬ 2000 < s.length
  omega
 ·rw [if_neg (by simpa using h),if_neg h]
theorem yhm (s:ByteArray) (w:World) (hs:s.size≤140737488355328) :
  Calls Tryz.prog 16 #[.slice (some ⟨w.heap.size,0,none⟩) 1 1] (w.alloc (.cells #[.int .i64 1,.int .i64 0,.string s] 63)) fun e w' =>
   (∃ S:List UInt8,e=.returned (.tuple #[.string ⟨S.toArray⟩,.int .i64 ((if ybk 1 s.data.toList=true then 0 else 1:Nat):Int)]))∧Below w.heap.size w w':=by
 have hsz:s.data.toList.length=s.size:=by simp
 refine (yhg w.heap.size 0 1 1 [⟨1,0,s.data.toList⟩] _ (by decide) (by decide) (by simp) (ypd s w) (by intro x hx;simp at hx;subst hx;simp;omega)).mono ?_
 rintro e w' ⟨rfl,hb⟩
 rw [← ykn]
 exact ⟨⟨_,rfl⟩,((Below.refl _ _).alloc (Nat.le_refl _) _).trans (hb.mono (by simp))⟩
theorem yl3 (s:ByteArray) (w:World) (hs:s.size≤140737488355328) (h:ybk 1 s.data.toList=false) :
  Calls Tryz.prog 72 #[.string s] w fun e w'=>e=.returned (.bool false)∧Below w.heap.size w w':=by
 have hj:=yhm s w hs
 simp only [h,Bool.false_eq_true,if_false] at hj
 go_enter Tryz.func72,Tryz.ntmps72
 go_wp2_with (go_at_call 16;refine hj.mono ?_;rintro e w1 ⟨⟨S,rfl⟩,hb1⟩)
 go_ret
 exact ⟨rfl,hb1⟩
theorem ykg (s:ByteArray) (w:World) (hs:s.size≤140737488355328) (hl:Laid w) (h:ybk 1 s.data.toList=true) :
  Calls Tryz.prog 72 #[.string s] w fun e w'=>e=.returned (.bool (!takenL.contains s.data.toList))∧Below w.heap.size w w':=by
 have hj:=yhm s w hs
 simp only [h,if_true] at hj
 have hc:∀ W:World,Laid W→Calls Tryz.prog 120 #[.string ⟨(32::ynJ takenL).toArray⟩,.string ((⟨#[32]⟩:ByteArray)++s++⟨#[32]⟩)] W fun e w'=>e=.returned (.bool (takenL.contains s.data.toList))∧w'=W:=by
  intro W hW
  obtain ⟨m,hm⟩:=hW.ml
  have:=Tryz.strings_Contains ⟨(32::ynJ takenL).toArray⟩ ((⟨#[32]⟩:ByteArray)++s++⟨#[32]⟩) m W (by decide +kernel) hm
  rw [yqk] at this ⊢
  simpa only [yfP h] using this
 generalize takenL.contains s.data.toList=B at hc ⊢
 go_enter Tryz.func72,Tryz.ntmps72
 go_wp2_with (go_at_call 16;refine hj.mono ?_;rintro e w1 ⟨⟨S,rfl⟩,hb1⟩)
 refine (hc _ (hl.below hb1)).mono ?_
 rintro e w2 ⟨rfl,rfl⟩
 go_wp2
 go_ret
 exact ⟨rfl,hb1⟩
theorem yci (s:ByteArray) (w:World) (hs:s.size≤140737488355328) (hl:Laid w) :
  Calls Tryz.prog 72 #[.string s] w fun e w'=>e=.returned (.bool (yap s.data.toList))∧Below w.heap.size w w':=by
 unfold yap
 cases h:ybk 1 s.data.toList
 ·exact yl3 s w hs h
 ·exact ykg s w hs hl h
def ynL (w:World) (b:Nat) (ws:List (List UInt8)):Prop:=∀ k s,ws[k]?=some s→w.cell? ⟨b,k,none⟩=some (.string ⟨s.toArray⟩)
theorem ylf (s:ByteArray) (l:List UInt8):(s.toList == l)=decide (s.data.toList=l):=by
 rw [Lib.toList_data,Bool.eq_iff_iff,beq_iff_eq,decide_eq_true_iff]
theorem yoK (l:List (List UInt8)) (s:List UInt8):∀ k,(∀ j,j < k→l[j]?≠some s)→l[k]?=some s→l.idxOf? s=some k:=by
 induction l with
 | nil=>intro k _ h;simp at h
 | cons x r ih =>
  intro k hn h
  cases k with
  | zero=>simp only [List.getElem?_cons_zero,Option.some.injEq] at h;subst h;simp [List.idxOf?_cons]
  | succ k =>
   have hx:x≠s:=by have:=hn 0 (by omega);simpa using this
   have:=ih k (fun j hj=>by simpa using hn (j+1) (by omega)) (by simpa using h)
   rw [List.idxOf?_cons,if_neg (by simpa using hx),this];rfl
theorem ykd (l:List (List UInt8)) (s:List UInt8) (h:∀ j:Nat,l[j]?≠some s):l.idxOf? s=none:=by
 rw [List.idxOf?_eq_none_iff]
 intro hm
 obtain ⟨j,hj⟩:=List.mem_iff_getElem?.1 hm
 exact h j hj
def yto (l:List (List UInt8)) (s:List UInt8):Int:=match l.idxOf? s with|some k=>(k:Nat)|none=>-1
theorem yl1 (s:ByteArray) (w:World) (b cap:Nat) (ws:List (List UInt8)) (hn:ws.length≤100) (hc:ynL w b ws) :
  Calls Tryz.prog 191 #[.slice (some ⟨b,0,none⟩) ws.length cap,.string s] w fun e w'=>e=.returned (.int .i64 (yto ws s.data.toList))∧w'=w:=by
 obtain ⟨n,hl⟩:∃ n,ws.length=n:=⟨_,rfl⟩
 rw [hl] at hn ⊢
 go_enter Tryz.func191,Tryz.ntmps191
 go_wp2
 go_loopw [8] (fun x wr=>∃ k:Nat,k≤n∧x=.int .i64 k∧wr=w∧Hid (∀ j,j < k→ws[j]?≠some s.data.toList)) (fun x _=>n - (intOf x).toNat)
 case atStart=>exact ⟨0,Nat.zero_le _,rfl,rfl,fun j hj=>absurd hj (Nat.not_lt_zero _)⟩
 case round =>
  obtain ⟨k,hk,rfl,rfl,HM⟩:=hrel
  by_cases hlt:k < n
  ·obtain ⟨u,hu⟩:∃ u,ws[k]?=some u:=⟨ws[k],List.getElem?_eq_getElem (by omega)⟩
   have a0:=hc k u hu
   have hlt':(k:Int) < (n:Int):=by omega
   have HU:Hid (ws[k]?=some u):=hu
   have hq:(s.toList == u)=decide (s.data.toList=u):=ylf s u
   clear hu hc
   by_cases he:s.data.toList=u
   ·rw [decide_eq_true he] at hq
    have HE:Hid (s.data.toList=u):=he
    clear he
    go_wp2
    go_ret
    refine ⟨ycA ?_,rfl⟩
    rw [yto,yoK ws _ k HM.out (by rw [HE.out];exact HU.out)]
   ·rw [decide_eq_false he] at hq
    have HE:Hid (s.data.toList≠u):=he
    clear he
    go_wp2
    go_roundw
    case rel =>
     refine ⟨k+1,by omega,by go_num,trivial,fun j hj=>?_⟩
     rcases Nat.lt_or_ge j k with h|h
     ·exact HM.out j h
     ·rw [show j=k by omega,HU.out];intro e;cases e;exact HE.out rfl
    case measure=>simp [intOf];omega
  ·clear hc
   go_wp2
   go_ret
   refine ⟨ycA ?_,rfl⟩
   rw [yto,ykd ws _ fun j=>?_]
   rcases Nat.lt_or_ge j k with h|h
   ·exact HM.out j h
   ·rw [List.getElem?_eq_none (by omega)];simp
theorem yht (s:ByteArray) (w:World) (b cap:Nat) (ws:List (List UInt8)) (hn:ws.length≤100) (hc:ynL w b ws) :
  Calls Tryz.prog 180 #[.slice (some ⟨b,0,none⟩) ws.length cap,.string s] w fun e w'=>e=.returned (.int .i64 (ybx ws s.data.toList:Nat))∧w'=w:=by
 have hi:=yl1 s w b cap ws hn hc
 go_enter Tryz.func180,Tryz.ntmps180
 go_wp2_with (go_at_call 191;refine hi.mono ?_;rintro e w' ⟨rfl,rfl⟩)
 go_ret
 refine ⟨ycA ?_,rfl⟩
 unfold yto ybx
 cases ws.idxOf? s.data.toList with
 | none=>rfl
 | some k=>simp
theorem yld (ws:List (List UInt8)) (k:Int) (h:k < 0∨(ws.length:Int)≤k):atL ws k=[]:=by
 unfold atL
 split
 ·rfl
 ·rw [List.getD_eq_getElem?_getD,List.getElem?_eq_none (by omega)];rfl
theorem ypN (k:Int) (w:World) (b cap:Nat) (ws:List (List UInt8)) (hc:ynL w b ws) :
  Calls Tryz.prog 156 #[.slice (some ⟨b,0,none⟩) ws.length cap,.int .i64 k] w fun e w'=>e=.returned (.string ⟨(atL ws k).toArray⟩)∧w'=w:=by
 obtain ⟨n,hl⟩:∃ n,ws.length=n:=⟨_,rfl⟩
 rw [hl]
 by_cases h0:k < 0
 ·rw [yld ws k (.inl h0)]
  clear hc
  go_enter Tryz.func156,Tryz.ntmps156
  go_wp2
  go_ret
  exact ⟨rfl,rfl⟩
 by_cases h1:(n:Int)≤k
 ·rw [yld ws k (.inr (by omega))]
  have hd:decide (k < 0)=false:=by simpa using h0
  clear hc h0
  go_enter Tryz.func156,Tryz.ntmps156
  go_wp2
  go_ret
  exact ⟨rfl,rfl⟩
 ·obtain ⟨j,rfl⟩:∃ j:Nat,k=(j:Int):=⟨k.toNat,by omega⟩
  obtain ⟨u,hu⟩:∃ u,ws[j]?=some u:=⟨ws[j],List.getElem?_eq_getElem (by omega)⟩
  have a0:=hc j u hu
  have e:atL ws (j:Int)=u:=by
   unfold atL
   rw [if_neg h0,List.getD_eq_getElem?_getD,Int.toNat_natCast,hu];rfl
  rw [e]
  have hd:decide ((j:Int) < 0)=false:=by simp
  have hd2:decide ((n:Int)≤(j:Int))=false:=by simpa using h1
  have hlt':(j:Int) < (n:Int):=by omega
  clear hc h0 h1 e hu
  go_enter Tryz.func156,Tryz.ntmps156
  go_wp2
  go_ret
  exact ⟨rfl,rfl⟩
def yex (ws:List (List UInt8)):Array Value:=(ws.map fun s=>Value.string ⟨s.toArray⟩).toArray
theorem yc3 (w:World) (ws:List (List UInt8)):ynL (w.alloc (.cells (yex ws) 9)) w.heap.size ws:=by
 intro k s hk
 have h:(w.alloc (.cells (yex ws) 9)).heap[w.heap.size]?=some (.cells (yex ws) 9):=heap_alloc_new _ _
 rw [Lib.cell_of_heap h]
 simp [yex,hk]
theorem yhO (w:World):Calls Tryz.prog 157 #[] w fun e w'=>e=.returned (.slice (some ⟨w.heap.size,0,none⟩) 4 4)∧w'=w.alloc (.cells (yex yaI) 9):=by
 go_enter Tryz.func157,Tryz.ntmps157
 go_wp2
 go_ret
 exact ⟨rfl,rfl⟩
theorem yem (w:World):Calls Tryz.prog 168 #[] w fun e w'=>e=.returned (.slice (some ⟨w.heap.size,0,none⟩) 12 12)∧w'=w.alloc (.cells (yex ya0) 9):=by
 go_enter Tryz.func168,Tryz.ntmps168
 go_wp2
 go_ret
 exact ⟨rfl,rfl⟩
theorem ypE (s:ByteArray) (w:World):Calls Tryz.prog 171 #[.string s] w fun e w'=>e=.returned (.int .i64 (ybx yaI s.data.toList:Nat))∧Below w.heap.size w w':=by
 have h2:=yht s _ w.heap.size 4 yaI (by decide) (yc3 w yaI)
 go_enter Tryz.func171,Tryz.ntmps171
 go_wp2_with (first|(go_at_call 157;refine (yhO _).mono ?_;rintro e w1 ⟨rfl,rfl⟩)|(go_at_call 180;refine h2.mono ?_;rintro e w2 ⟨rfl,rfl⟩))
 go_ret
 exact ⟨rfl,(Below.refl _ _).alloc (Nat.le_refl _) _⟩
theorem yhn (s:ByteArray) (w:World):Calls Tryz.prog 181 #[.string s] w fun e w'=>e=.returned (.int .i64 (ybx ya0 s.data.toList:Nat))∧Below w.heap.size w w':=by
 have h2:=yht s _ w.heap.size 12 ya0 (by decide) (yc3 w ya0)
 go_enter Tryz.func181,Tryz.ntmps181
 go_wp2_with (first|(go_at_call 168;refine (yem _).mono ?_;rintro e w1 ⟨rfl,rfl⟩)|(go_at_call 180;refine h2.mono ?_;rintro e w2 ⟨rfl,rfl⟩))
 go_ret
 exact ⟨rfl,(Below.refl _ _).alloc (Nat.le_refl _) _⟩
theorem ygb (k:Int) (w:World):Calls Tryz.prog 123 #[.int .i64 k] w fun e w'=>e=.returned (.string ⟨(atL yaI k).toArray⟩)∧Below w.heap.size w w':=by
 have h2:=ypN k _ w.heap.size 4 yaI (yc3 w yaI)
 go_enter Tryz.func123,Tryz.ntmps123
 go_wp2_with (first|(go_at_call 157;refine (yhO _).mono ?_;rintro e w1 ⟨rfl,rfl⟩)|(go_at_call 156;refine h2.mono ?_;rintro e w2 ⟨rfl,rfl⟩))
 go_ret
 exact ⟨rfl,(Below.refl _ _).alloc (Nat.le_refl _) _⟩
theorem yd0 (k:Int) (w:World):Calls Tryz.prog 138 #[.int .i64 k] w fun e w'=>e=.returned (.string ⟨(atL ya0 k).toArray⟩)∧Below w.heap.size w w':=by
 have h2:=ypN k _ w.heap.size 12 ya0 (yc3 w ya0)
 go_enter Tryz.func138,Tryz.ntmps138
 go_wp2_with (first|(go_at_call 168;refine (yem _).mono ?_;rintro e w1 ⟨rfl,rfl⟩)|(go_at_call 156;refine h2.mono ?_;rintro e w2 ⟨rfl,rfl⟩))
 go_ret
 exact ⟨rfl,(Below.refl _ _).alloc (Nat.le_refl _) _⟩
theorem St.short {w:World} {base pb:Nat} {v:Value} {T:List Tk} {en:Int} {i:Nat} (h:St w base pb v T en i):(tx T i).length≤22:=by
 unfold tx
 cases hx:T[i]? with
 | none=>simp
 | some x=>exact (h.toks x (List.mem_of_getElem? hx)).short
theorem ylg (i:Nat):((i+1:Nat):Int)=(i:Int)+1:=by omega
theorem yri {T:List Tk} {i:Nat} (h:yap (tx T i)=true):i < T.length:=by
 refine ygS ?_
 intro e
 rw [e] at h
 revert h
 decide
theorem ya9 {w:World} {base pb:Nat} {v:Value} {T:List Tk} {en:Int} {i:Nat} (h:St w base pb v T en i) :
  Calls Tryz.prog 142 #[.pointer (some ⟨pb,0,none⟩)] w fun e w'=>Out w base pb v T en yum (yau T i) e w':=by
 have hh:=ycd h
 have hsz:=h.short
 have hf:=h.few
 cases hn:yap (tx T i)
 ·have hr:yau T i=.bad i:=by rw [yau,if_neg (by simp [hn])]
  rw [hr]
  go_enter Tryz.func142,Tryz.ntmps142
  go_wp2_with (go_at_call 112;refine hh.mono ?_;rintro e w1 ⟨rfl,b1⟩)
  have s1:=h.below b1
  have b2:=(Below.refl w1.heap.size w1).alloc (Nat.le_refl _) (.cells #[.int .i64 (kd T i),.int .i64 (pl T en i),.string ⟨(tx T i).toArray⟩] 63)
  have s2:=s1.below b2
  refine (yci _ _ (by rw [yaN];omega) s2.gl).mono ?_
  rw [hn]
  rintro e w2 ⟨rfl,b3⟩
  have s3:=s2.below b3
  clear hn hh
  go_wp2_with (go_at_call 57;refine (ycg s3).mono ?_;rintro e w3 ⟨rfl,b4⟩)
  exact ⟨rfl,.mkBad (yaa (yaa (yad b1 _) (yad b2 _)) (yaa (yad b3 _) (yad b4 _))) rfl⟩
 ·have hr:yau T i=.ok (tx T i) (i+1):=by rw [yau,if_pos hn]
  rw [hr]
  have hlt:=yri hn
  go_enter Tryz.func142,Tryz.ntmps142
  go_wp2_with (go_at_call 112;refine hh.mono ?_;rintro e w1 ⟨rfl,b1⟩)
  have s1:=h.below b1
  have b2:=(Below.refl w1.heap.size w1).alloc (Nat.le_refl _) (.cells #[.int .i64 (kd T i),.int .i64 (pl T en i),.string ⟨(tx T i).toArray⟩] 63)
  have s2:=s1.below b2
  refine (yci _ _ (by rw [yaN];omega) s2.gl).mono ?_
  rw [hn]
  rintro e w2 ⟨rfl,b3⟩
  have s3:=s2.below b3
  obtain ⟨⟨c0,c1,c2⟩,f0,f1,f2⟩:=ycl s3.blk
  have d2:w2.cell? ⟨w1.heap.size,2,none⟩=some (.string ⟨(tx T i).toArray⟩):=(b3.cell (by simp)).trans (by simp)
  have hne:w1.heap.size≠pb:=by have:=(ltS s1.blk);omega
  have s4:=s3.set (i+1) hlt
  have g4:=yaa (yaa (yad b1 _) (yad b2 _)) (yaa (yad b3 _) (yaw w2 pb 1 (.int .i64 ((i+1:Nat):Int))))
  rw [ylg] at s4 g4
  clear hn hh
  go_wp2_with fail
  go_ret
  exact .mkOk g4 rfl rfl s4
theorem yiq {w:World} {base pb:Nat} {v:Value} {T:List Tk} {en:Int} {i:Nat} (h:St w base pb v T en i) :
  Calls Tryz.prog 170 #[.pointer (some ⟨pb,0,none⟩),.func (.func 171) #[] #[]] w fun e w'=>Out w base pb v T en yul (ycj T (ybx yaI) i) e w':=by
 have hh:=ycd h
 have h0:ybx yaI []=0:=by decide
 have t2:=yi1
 have hsz:=h.short
 have hfw:=h.few
 go_enter Tryz.func170,Tryz.ntmps170
 go_wp2_with (go_at_call 112;refine hh.mono ?_;rintro e w1 ⟨rfl,b1⟩)
 have s1:=h.below b1
 refine (ypE _ _).mono ?_
 rintro e w2 ⟨rfl,b2⟩
 have s2:=s1.below b2
 have g2:w.grownBy w2 (some pb):=yaa (yad b1 _) (yad b2 _)
 by_cases hn:ybx yaI (tx T i)=0
 ·have HR:Hid (ycj T (ybx yaI) i=.bad i):=by show _=_;rw [ycj,if_pos hn]
  have hz:((ybx yaI (tx T i):Nat):Int)=0:=by omega
  simp only [hz]
  clear hn hh hz
  go_wp2_with (go_at_call 57;refine (ycg s2).mono ?_;rintro e w3 ⟨rfl,b4⟩)
  exact ⟨rfl,.mkBad (yaa g2 (yad b4 _)) HR.out⟩
 ·have HR:Hid (ycj T (ybx yaI) i=.ok (ybx yaI (tx T i)) (i+1)):=by show _=_;rw [ycj,if_neg hn]
  have hlt:i < T.length:=ygS (by intro e;rw [e] at hn;exact hn h0)
  have hz:(((ybx yaI (tx T i):Nat):Int) == 0)=false:=by simpa using hn
  obtain ⟨⟨c0,c1,c2⟩,f0,f1,f2⟩:=ycl s2.blk
  have s4:=s2.set (i+1) hlt
  have g4:=yaa g2 (yaw w2 pb 1 (.int .i64 ((i+1:Nat):Int)))
  rw [ylg] at s4 g4
  clear hn hh h0
  go_wp2_with fail
  go_ret
  exact .mkOk g4 HR.out rfl s4
theorem yip {w:World} {base pb:Nat} {v:Value} {T:List Tk} {en:Int} {i:Nat} (h:St w base pb v T en i) :
  Calls Tryz.prog 170 #[.pointer (some ⟨pb,0,none⟩),.func (.func 181) #[] #[]] w fun e w'=>Out w base pb v T en yul (ycj T (ybx ya0) i) e w':=by
 have hh:=ycd h
 have h0:ybx ya0 []=0:=by decide
 have t2:=yi1
 have hsz:=h.short
 have hfw:=h.few
 go_enter Tryz.func170,Tryz.ntmps170
 go_wp2_with (go_at_call 112;refine hh.mono ?_;rintro e w1 ⟨rfl,b1⟩)
 have s1:=h.below b1
 refine (yhn _ _).mono ?_
 rintro e w2 ⟨rfl,b2⟩
 have s2:=s1.below b2
 have g2:w.grownBy w2 (some pb):=yaa (yad b1 _) (yad b2 _)
 by_cases hn:ybx ya0 (tx T i)=0
 ·have HR:Hid (ycj T (ybx ya0) i=.bad i):=by show _=_;rw [ycj,if_pos hn]
  have hz:((ybx ya0 (tx T i):Nat):Int)=0:=by omega
  simp only [hz]
  clear hn hh hz
  go_wp2_with (go_at_call 57;refine (ycg s2).mono ?_;rintro e w3 ⟨rfl,b4⟩)
  exact ⟨rfl,.mkBad (yaa g2 (yad b4 _)) HR.out⟩
 ·have HR:Hid (ycj T (ybx ya0) i=.ok (ybx ya0 (tx T i)) (i+1)):=by show _=_;rw [ycj,if_neg hn]
  have hlt:i < T.length:=ygS (by intro e;rw [e] at hn;exact hn h0)
  have hz:(((ybx ya0 (tx T i):Nat):Int) == 0)=false:=by simpa using hn
  obtain ⟨⟨c0,c1,c2⟩,f0,f1,f2⟩:=ycl s2.blk
  have s4:=s2.set (i+1) hlt
  have g4:=yaa g2 (yaw w2 pb 1 (.int .i64 ((i+1:Nat):Int)))
  rw [ylg] at s4 g4
  clear hn hh h0
  go_wp2_with fail
  go_ret
  exact .mkOk g4 HR.out rfl s4
theorem ypU {T:List Tk} (hT:∀ x ∈ T,TokOk x) {i:Nat} (hk:kd T i=2):tx T i≠[]∧(tx T i).length≤9∧∀ c ∈ tx T i,isD c=true:=by
 unfold kd at hk
 unfold tx
 cases hx:T[i]? with
 | none=>rw [hx] at hk;cases hk
 | some x=>rw [hx] at hk;exact (hT x (List.mem_of_getElem? hx)).num hk
theorem ycW {w:World} {base pb:Nat} {v:Value} {T:List Tk} {en:Int} {i:Nat} (h:St w base pb v T en i) (least:Nat) :
  Calls Tryz.prog 152 #[.pointer (some ⟨pb,0,none⟩),.int .i64 (least:Int)] w fun e w'=>Out w base pb v T en yul (yaX T least i) e w':=by
 have hh:=ycd h
 have hsz:=h.short
 have hfw:=h.few
 have hnum:=ypU h.toks (i:=i)
 go_enter Tryz.func152,Tryz.ntmps152
 go_wp2_with (go_at_call 112;refine hh.mono ?_;rintro e w1 ⟨rfl,b1⟩)
 have s1:=h.below b1
 have b2:=(Below.refl w1.heap.size w1).alloc (Nat.le_refl _) (.cells #[.int .i64 (kd T i),.int .i64 (pl T en i),.string ⟨(tx T i).toArray⟩] 63)
 have s2:=s1.below b2
 refine (ynO _ _ (by rw [yaN];omega) s2.gl).mono ?_
 rintro e w2 ⟨⟨x,rfl⟩,b3⟩
 have s3:=s2.below b3
 have d0:w2.cell? ⟨w1.heap.size,0,none⟩=some (.int .i64 (kd T i)):=(b3.cell (by simp)).trans (by simp)
 have g3:=yaa (yaa (yad b1 (some pb)) (yad b2 _)) (yad b3 _)
 have e0:(⟨(tx T i).toArray⟩:ByteArray).data.toList=tx T i:=by simp
 rw [e0]
 clear b2 s2 b3
 by_cases hk:kd T i=2
 ·obtain ⟨n0,n9,nd⟩:=hnum hk
  rw [ygX _ n0 n9 nd]
  have hlt:i < T.length:=ygS n0
  have hz:(kd T i != 2)=false:=by simp [hk]
  clear n0 n9 nd hnum e0
  by_cases hl:least≤yfO (tx T i)
  ·have HR:Hid (yaX T least i=.ok (yfO (tx T i)) (i+1)):=by show _=_;rw [yaX,if_pos ⟨hk,hl⟩]
   obtain ⟨⟨c0,c1,c2⟩,f0,f1,f2⟩:=ycl s3.blk
   have s4:=s3.set (i+1) hlt
   have g4:=yaa g3 (yaw w2 pb 1 (.int .i64 ((i+1:Nat):Int)))
   rw [ylg] at s4 g4
   have hl2:¬ yfO (tx T i) < least:=by omega
   clear hh hk hl
   go_wp2_with fail
   go_ret
   exact .mkOk g4 HR.out rfl s4
  ·have HR:Hid (yaX T least i=.bad i):=by show _=_;rw [yaX,if_neg (by simp [hl])]
   have hl2:yfO (tx T i) < least:=by omega
   clear hh hk hl
   go_wp2_with (go_at_call 57;refine (ycg s3).mono ?_;rintro e w3 ⟨rfl,b4⟩)
   exact ⟨rfl,.mkBad (yaa g3 (yad b4 _)) HR.out⟩
 ·have HR:Hid (yaX T least i=.bad i):=by show _=_;rw [yaX,if_neg (by simp [hk])]
  have hz:(kd T i != 2)=true:=by simpa using hk
  clear hh hk hnum e0
  go_wp2_with (go_at_call 57;refine (ycg s3).mono ?_;rintro e w3 ⟨rfl,b4⟩)
  exact ⟨rfl,.mkBad (yaa g3 (yad b4 _)) HR.out⟩
theorem yan {w w':World} {r:Option Nat} (h:w.grownBy w' r) {b:Nat} (hb:w.heap.size≤b) (o:Nat) (x:Value):w.grownBy (w'.setCell ⟨b,o,none⟩ x) r :=
 ⟨h.os,h.tape,h.output,by simpa [World.setCell] using h.size,fun k hk hr=>(heap_setCell_other w' ⟨b,o,none⟩ k x (by simp only;omega)).trans (h.block k hk hr)⟩
theorem yax {w w':World} {r:Option Nat} (h:w.grownBy w' r) (o:Obj):w.grownBy (w'.alloc o) r :=
 yaa h (yad ((Below.refl _ _).alloc (Nat.le_refl _) o) r)
theorem St.fresh {w:World} {base pb:Nat} {v:Value} {T:List Tk} {en:Int} {i:Nat} (h:St w base pb v T en i) {b:Nat} (hb:w.heap.size≤b):b≠pb∧v.ownBlock≠some b∧6≤b:=by
 refine ⟨?_, ?_,Nat.le_trans h.gl.sz hb⟩
 ·have:=(ltS h.blk);omega
 ·rcases h.own.2 with ⟨hv,-⟩|⟨g,cap,cur,hv,-,hg,-⟩
  ·rw [hv];simp [Value.ownBlock]
  ·rw [hv]
   have:=(ltS hg)
   simp only [Value.ownBlock,ne_eq,Option.some.injEq]
   omega
theorem St.put {w:World} {base pb:Nat} {v:Value} {T:List Tk} {en:Int} {i:Nat} (h:St w base pb v T en i) {b:Nat} (hb:b≠pb∧v.ownBlock≠some b∧6≤b) (o:Nat) (x:Value):St (w.setCell ⟨b,o,none⟩ x) base pb v T en i :=
 ⟨(heap_setCell_other w ⟨b,o,none⟩ pb x (Ne.symm hb.1)).trans h.blk,h.own.kept (yaw w b o x) (.inr hb.2.1),h.ne,h.le,h.few,h.six,h.gl.grown hb.2.2 (yaw w b o x),h.toks⟩
theorem St.alloc {w:World} {base pb:Nat} {v:Value} {T:List Tk} {en:Int} {i:Nat} (h:St w base pb v T en i) (o:Obj):St (w.alloc o) base pb v T en i:=h.below ((Below.refl _ _).alloc (Nat.le_refl _) o)
theorem two {W:World} {b:Nat} {x y:Value} {t:TypeId} (h:W.heap[b]?=some (.cells #[x,y] t)) :
  (W.cell? ⟨b,0,none⟩=some x∧W.cell? ⟨b,1,none⟩=some y)∧(W.frozen? ⟨b,0,none⟩=false∧W.frozen? ⟨b,1,none⟩=false):=by
 refine ⟨⟨?_, ?_⟩,Lib.frozen_of_heap h 0,Lib.frozen_of_heap h 1⟩
 ·rw [Lib.cell_of_heap h];rfl
 ·rw [Lib.cell_of_heap h];rfl
theorem yrC {W:World} {b:Nat} {x y:Value} {t:TypeId} (h:W.heap[b]?=some (.cells #[x,y] t)) (x' y':Value) :
  ((W.setCell ⟨b,0,none⟩ x').setCell ⟨b,1,none⟩ y').heap[b]?=some (.cells #[x',y'] t) :=
 heap_setCell_same _ b 1 _ t y' (heap_setCell_same W b 0 _ t x' h)
theorem ydi {W:World} {b:Nat} {x y z:Value} {t:TypeId} (h:W.heap[b]?=some (.cells #[x,y,z] t)) (x' y' z':Value) :
  (((W.setCell ⟨b,0,none⟩ x').setCell ⟨b,1,none⟩ y').setCell ⟨b,2,none⟩ z').heap[b]?=some (.cells #[x',y',z'] t) :=
 heap_setCell_same _ b 2 _ t z' (heap_setCell_same _ b 1 _ t y' (heap_setCell_same W b 0 _ t x' h))
def clV (c:Cl):Value:=.agg #[.string ⟨c.name.toArray⟩,.int .i64 c.ty]
def vlV (x:Vl):Value:=.agg #[.int .i64 x.k,.int .i64 x.n,.string ⟨x.s.toArray⟩]
def yvo (_:World) (u:Value) (c:Cl):Prop:=u=clV c
def ytt (_:World) (u:Value) (x:Vl):Prop:=u=vlV x
theorem ydO {w:World} {base pb:Nat} {v:Value} {T:List Tk} {en:Int} {i:Nat} (h:St w base pb v T en i) :
  Calls Tryz.prog 144 #[.pointer (some ⟨pb,0,none⟩)] w fun e w'=>Out w base pb v T en yvo (yaG T i) e w':=by
 have hfr:=h.fresh (Nat.le_refl _)
 have s0:=h.alloc (.cells #[.string ⟨#[]⟩,.int .i64 0] 56)
 have g0:=yax (ybe w (some pb)) (.cells #[.string ⟨#[]⟩,.int .i64 0] 56)
 have k0:(w.alloc (.cells #[.string ⟨#[]⟩,.int .i64 0] 56)).heap[w.heap.size]?=some (.cells #[.string ⟨#[]⟩,.int .i64 0] 56):=heap_alloc_new _ _
 go_enter Tryz.func144,Tryz.ntmps144
 go_wp2_with fail
 refine (ya9 s0).mono ?_
 intro e w1 o1
 have g1:=yaa g0 o1.grown
 cases hn:yau T i with
 | bad j =>
  obtain rfl:=o1.bad j hn
  exact ⟨rfl,.mkBad g1 (by simp [yaG,hn])⟩
 | ok s j =>
  obtain ⟨u,rfl,hu,s1⟩:=o1.ok s j hn
  cases hu
  have k1:=(o1.grown.block w.heap.size (by simp) (by simpa using hfr.1)).trans k0
  have HN:Hid (yau T i=.ok s j):=hn
  clear hn o1 k0 g0 s0
  go_wp2_with fail
  refine (yiq s1).mono ?_
  intro e w2 o2
  have g2:=yaa g1 o2.grown
  cases hk:ycj T (ybx yaI) j with
  | bad j2 =>
   obtain rfl:=o2.bad j2 hk
   exact ⟨rfl,.mkBad g2 (by simp [yaG,HN.out,hk])⟩
  | ok k j2 =>
   obtain ⟨u,rfl,hu,s2⟩:=o2.ok k j2 hk
   cases hu
   have k2:=(o2.grown.block w.heap.size (by have:=g1.size;have:=(ltS k1);omega) (by simpa using hfr.1)).trans k1
   have HR:Hid (yaG T i=.ok ⟨s,(k:Nat)⟩ j2):=by show _=_;simp [yaG,HN.out,hk]
   obtain ⟨⟨c0,c1⟩,f0,f1⟩:=two k2
   have k3:=yrC k2 (.string ⟨s.toArray⟩) (.int .i64 (k:Int))
   have s3:=(s2.put hfr 0 (.string ⟨s.toArray⟩)).put hfr 1 (.int .i64 (k:Int))
   have g3:=yan (yan g2 (Nat.le_refl _) 0 (.string ⟨s.toArray⟩)) (Nat.le_refl _) 1 (.int .i64 (k:Int))
   clear hk o2 k1 k2 HN g1 s1 s2 g2
   go_wp2_with fail
   generalize (w2.setCell ⟨w.heap.size,0,none⟩ (.string ⟨s.toArray⟩)).setCell ⟨w.heap.size,1,none⟩ (.int .i64 (k:Int))=w3 at *
   obtain ⟨⟨e0,e1⟩,-⟩:=two k3
   refine bodyPost_ret (v:=clV ⟨s,(k:Nat)⟩) ?_ rfl (.mkOk g3 HR.out rfl s3)
   simp [results,Tryz.results144,go_sem,clV,e0,e1]
theorem ynB {w:World} {base pb:Nat} {v:Value} {T:List Tk} {en:Int} {i:Nat} (h:St w base pb v T en i) (hk:kd T i=2) :
  Calls Tryz.prog 146 #[.pointer (some ⟨pb,0,none⟩)] w fun e w'=>Out w base pb v T en ytt (yaJ T i) e w':=by
 have hh:=ycd (h.alloc (.cells #[.int .i64 0,.int .i64 0,.string ⟨#[]⟩] 24))
 have hfr:=h.fresh (Nat.le_refl _)
 have s0:=h.alloc (.cells #[.int .i64 0,.int .i64 0,.string ⟨#[]⟩] 24)
 have g0:=yax (ybe w (some pb)) (.cells #[.int .i64 0,.int .i64 0,.string ⟨#[]⟩] 24)
 have k0:(w.alloc (.cells #[.int .i64 0,.int .i64 0,.string ⟨#[]⟩] 24)).heap[w.heap.size]?=some (.cells #[.int .i64 0,.int .i64 0,.string ⟨#[]⟩] 24):=heap_alloc_new _ _
 rw [hk] at hh
 have hsz:=h.short
 have hfw:=h.few
 go_enter Tryz.func146,Tryz.ntmps146
 go_wp2_with (go_at_call 112;refine hh.mono ?_;rintro e w1 ⟨rfl,b1⟩)
 have s1:=(s0.below b1).alloc (.cells #[.int .i64 2,.int .i64 (pl T en i),.string ⟨(tx T i).toArray⟩] 63)
 have g1:=yax (yaa g0 (yad b1 _)) (.cells #[.int .i64 2,.int .i64 (pl T en i),.string ⟨(tx T i).toArray⟩] 63)
 have k1:(w1.alloc (.cells #[.int .i64 2,.int .i64 (pl T en i),.string ⟨(tx T i).toArray⟩] 63)).heap[w.heap.size]?=some (.cells #[.int .i64 0,.int .i64 0,.string ⟨#[]⟩] 24) :=
  (((Below.refl _ _).alloc (Nat.le_refl _) _).block _ (by have:=b1.size;simp at this;omega)).trans ((b1.block _ (by simp)).trans k0)
 clear hh b1 k0 g0 s0
 refine (ycW s1 0).mono ?_
 intro e w2 o2
 have g2:=yaa g1 o2.grown
 cases hn:yaX T 0 i with
 | bad j =>
  obtain rfl:=o2.bad j hn
  exact ⟨rfl,.mkBad g2 (by simp [yaJ,hk,hn])⟩
 | ok n j =>
  obtain ⟨u,rfl,hu,s2⟩:=o2.ok n j hn
  cases hu
  have k2:=(o2.grown.block w.heap.size (ltS k1) (by simpa using hfr.1)).trans k1
  have HR:Hid (yaJ T i=.ok ⟨1,(n:Nat),[]⟩ j):=by show _=_;simp [yaJ,hk,hn]
  obtain ⟨⟨c0,c1,c2⟩,f0,f1,f2⟩:=ycl k2
  have kz:=ydi k2 (.int .i64 1) (.int .i64 (n:Int)) (.string ⟨#[]⟩)
  have sz:=((s2.put hfr 0 (.int .i64 1)).put hfr 1 (.int .i64 (n:Int))).put hfr 2 (.string ⟨#[]⟩)
  have gz:=yan (yan (yan g2 (Nat.le_refl _) 0 (.int .i64 1)) (Nat.le_refl _) 1 (.int .i64 (n:Int))) (Nat.le_refl _) 2 (.string ⟨#[]⟩)
  clear hn o2 k1 k2 g1 g2 s1 s2 hk
  go_wp2_with fail
  generalize ((w2.setCell ⟨w.heap.size,0,none⟩ (.int .i64 1)).setCell ⟨w.heap.size,1,none⟩ (.int .i64 (n:Int))).setCell ⟨w.heap.size,2,none⟩ (.string ⟨#[]⟩)=wz at *
  obtain ⟨⟨e0,e1,e2⟩,-⟩:=ycl kz
  refine bodyPost_ret (v:=vlV ⟨1,(n:Nat),[]⟩) ?_ rfl (.mkOk gz HR.out rfl sz)
  simp [results,Tryz.results146,go_sem,vlV,e0,e1,e2]
theorem yti {T:List Tk} (hT:∀ x ∈ T,TokOk x) {i:Nat} (hk:kd T i=3):2≤(tx T i).length:=by
 unfold kd at hk
 unfold tx
 cases hx:T[i]? with
 | none=>rw [hx] at hk;cases hk
 | some x=>rw [hx] at hk;exact (hT x (List.mem_of_getElem? hx)).txt hk
theorem ysp (l:List UInt8) (a b:Nat):(⟨l.toArray⟩:ByteArray).extract a b=⟨((l.drop a).take (b - a)).toArray⟩:=by
 have h:((⟨l.toArray⟩:ByteArray).extract a b).data=((l.drop a).take (b - a)).toArray:=by
  rw [ByteArray.data_extract];simp
 rw [← h]
theorem ynC {w:World} {base pb:Nat} {v:Value} {T:List Tk} {en:Int} {i:Nat} (h:St w base pb v T en i) (hk:kd T i=3) :
  Calls Tryz.prog 146 #[.pointer (some ⟨pb,0,none⟩)] w fun e w'=>Out w base pb v T en ytt (yaJ T i) e w':=by
 have hh:=ycd (h.alloc (.cells #[.int .i64 0,.int .i64 0,.string ⟨#[]⟩] 24))
 have hfr:=h.fresh (Nat.le_refl _)
 have s0:=h.alloc (.cells #[.int .i64 0,.int .i64 0,.string ⟨#[]⟩] 24)
 have g0:=yax (ybe w (some pb)) (.cells #[.int .i64 0,.int .i64 0,.string ⟨#[]⟩] 24)
 have k0:(w.alloc (.cells #[.int .i64 0,.int .i64 0,.string ⟨#[]⟩] 24)).heap[w.heap.size]?=some (.cells #[.int .i64 0,.int .i64 0,.string ⟨#[]⟩] 24):=heap_alloc_new _ _
 rw [hk] at hh
 have hlen:=yti h.toks hk
 have hlt:i < T.length:=ygS (by intro e;rw [e] at hlen;simp at hlen)
 have hbs:=yaN (tx T i)
 have HR:Hid (yaJ T i=.ok ⟨2,0,((tx T i).drop 1).take ((tx T i).length - 2)⟩ (i+1)):=by show _=_;simp [yaJ,hk]
 have hsz:=h.short
 have hfw:=h.few
 go_enter Tryz.func146,Tryz.ntmps146
 go_wp2_with (go_at_call 112;refine hh.mono ?_;rintro e w1 ⟨rfl,b1⟩;have s1:=s0.below b1;have D1:=fun o=>(ycl (s1.alloc o).blk).1.2.1;have F1:=fun o=>(ycl (s1.alloc o).blk).2.2.1;have hz1:w1.heap.size≠pb:=(s1.fresh (Nat.le_refl _)).1;have hz2:w.heap.size < w1.heap.size:=(by have:=b1.size;simp at this;omega);have hz3:=hfr.1;have K:=fun o=>(((Below.refl w1.heap.size w1).alloc (Nat.le_refl _) o).block _ hz2).trans ((b1.block _ (by simp)).trans k0);have E0:=fun o=>(ycl (K o)).1.1;have E1:=fun o=>(ycl (K o)).1.2.1;have E2:=fun o=>(ycl (K o)).1.2.2;have G0:=fun o=>(ycl (K o)).2.1;have G1:=fun o=>(ycl (K o)).2.2.1;have G2:=fun o=>(ycl (K o)).2.2.2)
 rw [ysp,show (tx T i).length - 1 - 1=(tx T i).length - 2 by omega]
 have s2:=(s1.alloc (.cells #[.int .i64 3,.int .i64 (pl T en i),.string ⟨(tx T i).toArray⟩] 63)).set (i+1) hlt
 have g2:=yaa (yax (yaa g0 (yad b1 _)) (.cells #[.int .i64 3,.int .i64 (pl T en i),.string ⟨(tx T i).toArray⟩] 63)) (yaw _ pb 1 (.int .i64 ((i+1:Nat):Int)))
 have k2:=(heap_setCell_other (w1.alloc (.cells #[.int .i64 3,.int .i64 (pl T en i),.string ⟨(tx T i).toArray⟩] 63)) ⟨pb,1,none⟩ w.heap.size (.int .i64 ((i+1:Nat):Int)) hz3).trans (K _)
 rw [ylg] at s2 g2 k2
 have kz:=ydi k2 (.int .i64 2) (.int .i64 0) (.string ⟨(((tx T i).drop 1).take ((tx T i).length - 2)).toArray⟩)
 have sz:=((s2.put hfr 0 (.int .i64 2)).put hfr 1 (.int .i64 0)).put hfr 2 (.string ⟨(((tx T i).drop 1).take ((tx T i).length - 2)).toArray⟩)
 have gz:=yan (yan (yan g2 (Nat.le_refl _) 0 (.int .i64 2)) (Nat.le_refl _) 1 (.int .i64 0)) (Nat.le_refl _) 2 (.string ⟨(((tx T i).drop 1).take ((tx T i).length - 2)).toArray⟩)
 generalize ((((w1.alloc (.cells #[.int .i64 3,.int .i64 (pl T en i),.string ⟨(tx T i).toArray⟩] 63)).setCell ⟨pb,1,none⟩ (.int .i64 ((i:Int)+1))).setCell ⟨w.heap.size,0,none⟩ (.int .i64 2)).setCell ⟨w.heap.size,1,none⟩ (.int .i64 0)).setCell ⟨w.heap.size,2,none⟩ (.string ⟨(((tx T i).drop 1).take ((tx T i).length - 2)).toArray⟩)=wz at *
 obtain ⟨⟨e0,e1,e2⟩,-⟩:=ycl kz
 refine bodyPost_ret (v:=vlV ⟨2,0,((tx T i).drop 1).take ((tx T i).length - 2)⟩) ?_ rfl (.mkOk gz HR.out rfl sz)
 simp [results,Tryz.results146,go_sem,vlV,e0,e1,e2]
theorem St.heapLt {w:World} {base pb:Nat} {v:Value} {T:List Tk} {en:Int} {i:Nat} (h:St w base pb v T en i):pb < w.heap.size:=(ltS h.blk)
theorem Out.back {α:Type} {W W':World} {base pb:Nat} {v:Value} {T:List Tk} {en:Int} {rep:World→Value→α→Prop} {r:Rs α} {e:Ending} {w':World} (h:Out W' base pb v T en rep r e w') (hg:W.grownBy W' (some pb)):Out W base pb v T en rep r e w' :=
 ⟨yaa hg h.grown,h.ok,h.bad⟩
theorem ydE {W:World} {base pb:Nat} {v:Value} {T:List Tk} {en:Int} {i:Nat} (h:St W base pb v T en i) (ws:List (List UInt8)) (n b:Nat) (hb:b=W.heap.size) (lit:Array Value) (hl:lit=yex ws) (hn:ws.length=n) (h1:n≤100) (h0:∀ s ∈ ws,s≠[]) :
  Calls Tryz.prog 104 #[.pointer (some ⟨pb,0,none⟩),.slice (some ⟨b,0,none⟩) n n] (W.alloc (.cells lit 9)) fun e w'=>Out W base pb v T en yum (yaS T ws i) e w':=by
 subst hl hn hb
 exact (ykr (h.alloc _) W.heap.size ws.length ws (h.fresh (Nat.le_refl _)).1 (by simp) h1 (yc3 W ws) h0).mono fun e w' o=>o.back (yax (ybe W _) _)
theorem ybz {W:World} {base pb:Nat} {v:Value} {T:List Tk} {en:Int} {i:Nat} (h:St W base pb v T en i) (ws:List (List UInt8)) (n b:Nat) (hb:b=W.heap.size) (lit:Array Value) (hl:lit=yex ws) (hn:ws.length=n) (h1:n≤100) (h0:∀ s ∈ ws,s≠[]) :
  Calls Tryz.prog 145 #[.pointer (some ⟨pb,0,none⟩),.slice (some ⟨b,0,none⟩) n n] (W.alloc (.cells lit 9)) fun e w'=>Out W base pb v T en yte (ybl T ws i) e w':=by
 subst hl hn hb
 exact (yhl (h.alloc _) W.heap.size ws.length ws (h.fresh (Nat.le_refl _)).1 (by simp) h1 (yc3 W ws) h0).mono fun e w' o=>o.back (yax (ybe W _) _)
theorem yiu {W:World} {base pb:Nat} {v:Value} {T:List Tk} {en:Int} {i:Nat} (h:St W base pb v T en i) (s:List UInt8) (hs:s≠[]) (ws:List (List UInt8)) (n b:Nat) (hb:b=W.heap.size) (lit:Array Value) (hl:lit=yex ws) (hn:ws.length=n) (h1:n≤100) (h0:∀ s ∈ ws,s≠[]) :
  Calls Tryz.prog 141 #[.pointer (some ⟨pb,0,none⟩),.string ⟨s.toArray⟩,.slice (some ⟨b,0,none⟩) n n] (W.alloc (.cells lit 9)) fun e w'=>Out W base pb v T en yts (may T s ws i) e w':=by
 subst hl hn hb
 exact (ymx (h.alloc _) s hs _ ws (.inr ⟨W.heap.size,_,rfl,(h.fresh (Nat.le_refl _)).1,by simp,yc3 W ws⟩) h1 h0).mono fun e w' o=>o.back (yax (ybe W _) _)
theorem yeH {W:World} {base pb:Nat} {v:Value} {T:List Tk} {en:Int} {i:Nat} (h:St W base pb v T en i) (s:List UInt8) (hs:s≠[]) :
  Calls Tryz.prog 141 #[.pointer (some ⟨pb,0,none⟩),.string ⟨s.toArray⟩,.slice none 0 0] W fun e w'=>Out W base pb v T en yts (may T s [] i) e w' :=
 ymx h s hs _ [] (.inl ⟨rfl,rfl⟩) (by decide) (by simp)
theorem ydD (T:List Tk) (i:Nat) (s:List UInt8) (j:Nat):∀ ws,yaS T ws i=.ok s j→s ∈ ws:=by
 intro ws
 induction ws with
 | nil=>intro h;cases h
 | cons x r ih =>
  intro h
  rw [yaS] at h
  split at h
  ·cases h;exact List.mem_cons_self ..
  ·exact List.mem_cons_of_mem _ (ih h)
theorem ymG {T:List Tk} (hT:∀ x ∈ T,TokOk x) {least i n j:Nat} (h:yaX T least i=.ok n j):n < 1000000000:=by
 rw [yaX] at h
 split at h
 ·rename_i hk
  cases h
  obtain ⟨-,h9,hd⟩:=ypU hT hk.1
  exact Nat.lt_of_lt_of_le (yh7 _ hd) (Nat.pow_le_pow_right (by decide) h9)
 ·cases h
theorem ykV {w:World} {base pb:Nat} {v:Value} {T:List Tk} {en:Int} {i:Nat} (h:St w base pb v T en i) (hk2:kd T i≠2) (hk3:kd T i≠3) :
  Calls Tryz.prog 146 #[.pointer (some ⟨pb,0,none⟩)] w fun e w'=>Out w base pb v T en ytt (yaJ T i) e w':=by
 have hh:=ycd (h.alloc (.cells #[.int .i64 0,.int .i64 0,.string ⟨#[]⟩] 24))
 have hfr:=h.fresh (Nat.le_refl _)
 have s0:=h.alloc (.cells #[.int .i64 0,.int .i64 0,.string ⟨#[]⟩] 24)
 have g0:=yax (ybe w (some pb)) (.cells #[.int .i64 0,.int .i64 0,.string ⟨#[]⟩] 24)
 have k0:(w.alloc (.cells #[.int .i64 0,.int .i64 0,.string ⟨#[]⟩] 24)).heap[w.heap.size]?=some (.cells #[.int .i64 0,.int .i64 0,.string ⟨#[]⟩] 24):=heap_alloc_new _ _
 have q2:(kd T i == 2)=false:=by simpa using hk2
 have q3:(kd T i == 3)=false:=by simpa using hk3
 have HV:Hid (yaJ T i=(yaS T [[45],yb9,ybH,w_null] i).then fun s j =>
  if s=[45] then (yaX T 1 j).then fun n j=>.ok ⟨1,-(n:Nat),[]⟩ j
  else if s=yb9 then .ok ⟨3,1,[]⟩ j
  else if s=ybH then .ok ⟨3,0,[]⟩ j
  else .ok vl0 j):=by show _=_;rw [yaJ,if_neg hk2,if_neg hk3]
 have htk:=h.toks
 clear hk2 hk3
 go_enter Tryz.func146,Tryz.ntmps146
 go_wp2_with (go_at_call 112;refine hh.mono ?_;rintro e w1 ⟨rfl,b1⟩)
 have s1:=(s0.below b1).alloc (.cells #[.int .i64 (kd T i),.int .i64 (pl T en i),.string ⟨(tx T i).toArray⟩] 63)
 have g1:=yax (yaa g0 (yad b1 _)) (.cells #[.int .i64 (kd T i),.int .i64 (pl T en i),.string ⟨(tx T i).toArray⟩] 63)
 have k1:(w1.alloc (.cells #[.int .i64 (kd T i),.int .i64 (pl T en i),.string ⟨(tx T i).toArray⟩] 63)).heap[w.heap.size]?=some (.cells #[.int .i64 0,.int .i64 0,.string ⟨#[]⟩] 24) :=
  (((Below.refl _ _).alloc (Nat.le_refl _) _).block _ (by have:=b1.size;simp at this;omega)).trans ((b1.block _ (by simp)).trans k0)
 clear hh b1 k0 g0 s0
 refine (ydE s1 [[45],yb9,ybH,w_null] 4 _ (by simp) _ (by rfl) (by rfl) (by decide) (by decide)).mono ?_
 intro e w2 o2
 have g2:=yaa g1 o2.grown
 have h2:=HV.out
 clear HV
 cases hn:yaS T [[45],yb9,ybH,w_null] i with
 | bad j =>
  obtain rfl:=o2.bad j hn
  rw [hn,Rs.then_bad] at h2
  exact ⟨rfl,.mkBad g2 h2⟩
 | ok s j =>
  obtain ⟨u,rfl,hu,s2⟩:=o2.ok s j hn
  cases hu
  have k2:=(o2.grown.block w.heap.size (ltS k1) (by simpa using hfr.1)).trans k1
  have hm:=ydD T i s j _ hn
  rw [hn,Rs.then_ok] at h2
  clear hn o2 k1 s1 g1
  simp only [List.mem_cons,List.not_mem_nil,or_false] at hm
  rcases hm with rfl|rfl|rfl|rfl
  ·rw [if_pos rfl] at h2
   have HV:Hid (yaJ T i=(yaX T 1 j).then fun n j=>.ok ⟨1,-(n:Nat),[]⟩ j):=h2
   clear h2
   go_wp2_with fail
   refine (ycW s2 1).mono ?_
   intro e w3 o3
   have g3:=yaa g2 o3.grown
   have h3:=HV.out
   clear HV
   cases hn:yaX T 1 j with
   | bad j3 =>
    obtain rfl:=o3.bad j3 hn
    rw [hn,Rs.then_bad] at h3
    exact ⟨rfl,.mkBad g3 h3⟩
   | ok n j3 =>
    obtain ⟨u,rfl,hu,s3⟩:=o3.ok n j3 hn
    cases hu
    have k3:=(o3.grown.block w.heap.size (ltS k2) (by simpa using hfr.1)).trans k2
    have hlt:=ymG htk hn
    rw [hn,Rs.then_ok] at h3
    have HV:Hid (yaJ T i=.ok ⟨1,-(n:Nat),[]⟩ j3):=h3
    obtain ⟨⟨c0,c1,c2⟩,f0,f1,f2⟩:=ycl k3
    have kz:=ydi k3 (.int .i64 1) (.int .i64 (-(n:Int))) (.string ⟨#[]⟩)
    have sz:=((s3.put hfr 0 (.int .i64 1)).put hfr 1 (.int .i64 (-(n:Int)))).put hfr 2 (.string ⟨#[]⟩)
    have gz:=yan (yan (yan g3 (Nat.le_refl _) 0 (.int .i64 1)) (Nat.le_refl _) 1 (.int .i64 (-(n:Int)))) (Nat.le_refl _) 2 (.string ⟨#[]⟩)
    clear hn o3 k2 k3 s2 s3 g2 g3 h3
    go_wp2_with fail
    generalize ((w3.setCell ⟨w.heap.size,0,none⟩ (.int .i64 1)).setCell ⟨w.heap.size,1,none⟩ (.int .i64 (-(n:Int)))).setCell ⟨w.heap.size,2,none⟩ (.string ⟨#[]⟩)=wz at *
    obtain ⟨⟨e0,e1,e2⟩,-⟩:=ycl kz
    refine bodyPost_ret (v:=vlV ⟨1,-(n:Nat),[]⟩) ?_ rfl (.mkOk gz HV.out rfl sz)
    simp [results,Tryz.results146,go_sem,vlV,e0,e1,e2]
  ·rw [if_neg (by decide),if_pos rfl] at h2
   have HV:Hid (yaJ T i=.ok ⟨3,1,[]⟩ j):=h2
   obtain ⟨⟨c0,c1,c2⟩,f0,f1,f2⟩:=ycl k2
   have kz:=ydi k2 (.int .i64 3) (.int .i64 1) (.string ⟨#[]⟩)
   have sz:=((s2.put hfr 0 (.int .i64 3)).put hfr 1 (.int .i64 1)).put hfr 2 (.string ⟨#[]⟩)
   have gz:=yan (yan (yan g2 (Nat.le_refl _) 0 (.int .i64 3)) (Nat.le_refl _) 1 (.int .i64 1)) (Nat.le_refl _) 2 (.string ⟨#[]⟩)
   clear h2 k2 s2 g2
   go_wp2_with fail
   generalize ((w2.setCell ⟨w.heap.size,0,none⟩ (.int .i64 3)).setCell ⟨w.heap.size,1,none⟩ (.int .i64 1)).setCell ⟨w.heap.size,2,none⟩ (.string ⟨#[]⟩)=wz at *
   obtain ⟨⟨e0,e1,e2⟩,-⟩:=ycl kz
   refine bodyPost_ret (v:=vlV ⟨3,1,[]⟩) ?_ rfl (.mkOk gz HV.out rfl sz)
   simp [results,Tryz.results146,go_sem,vlV,e0,e1,e2]
  ·rw [if_neg (by decide),if_neg (by decide),if_pos rfl] at h2
   have HV:Hid (yaJ T i=.ok ⟨3,0,[]⟩ j):=h2
   obtain ⟨⟨c0,c1,c2⟩,f0,f1,f2⟩:=ycl k2
   have kz:=ydi k2 (.int .i64 3) (.int .i64 0) (.string ⟨#[]⟩)
   have sz:=((s2.put hfr 0 (.int .i64 3)).put hfr 1 (.int .i64 0)).put hfr 2 (.string ⟨#[]⟩)
   have gz:=yan (yan (yan g2 (Nat.le_refl _) 0 (.int .i64 3)) (Nat.le_refl _) 1 (.int .i64 0)) (Nat.le_refl _) 2 (.string ⟨#[]⟩)
   clear h2 k2 s2 g2
   go_wp2_with fail
   generalize ((w2.setCell ⟨w.heap.size,0,none⟩ (.int .i64 3)).setCell ⟨w.heap.size,1,none⟩ (.int .i64 0)).setCell ⟨w.heap.size,2,none⟩ (.string ⟨#[]⟩)=wz at *
   obtain ⟨⟨e0,e1,e2⟩,-⟩:=ycl kz
   refine bodyPost_ret (v:=vlV ⟨3,0,[]⟩) ?_ rfl (.mkOk gz HV.out rfl sz)
   simp [results,Tryz.results146,go_sem,vlV,e0,e1,e2]
  ·rw [if_neg (by decide),if_neg (by decide),if_neg (by decide)] at h2
   have HV:Hid (yaJ T i=.ok ⟨0,0,[]⟩ j):=h2
   obtain ⟨⟨c0,c1,c2⟩,f0,f1,f2⟩:=ycl k2
   have kz:=ydi k2 (.int .i64 0) (.int .i64 0) (.string ⟨#[]⟩)
   have sz:=((s2.put hfr 0 (.int .i64 0)).put hfr 1 (.int .i64 0)).put hfr 2 (.string ⟨#[]⟩)
   have gz:=yan (yan (yan g2 (Nat.le_refl _) 0 (.int .i64 0)) (Nat.le_refl _) 1 (.int .i64 0)) (Nat.le_refl _) 2 (.string ⟨#[]⟩)
   clear h2 k2 s2 g2
   go_wp2_with fail
   generalize ((w2.setCell ⟨w.heap.size,0,none⟩ (.int .i64 0)).setCell ⟨w.heap.size,1,none⟩ (.int .i64 0)).setCell ⟨w.heap.size,2,none⟩ (.string ⟨#[]⟩)=wz at *
   obtain ⟨⟨e0,e1,e2⟩,-⟩:=ycl kz
   refine bodyPost_ret (v:=vlV ⟨0,0,[]⟩) ?_ rfl (.mkOk gz HV.out rfl sz)
   simp [results,Tryz.results146,go_sem,vlV,e0,e1,e2]
theorem ydK {w:World} {base pb:Nat} {v:Value} {T:List Tk} {en:Int} {i:Nat} (h:St w base pb v T en i) :
  Calls Tryz.prog 146 #[.pointer (some ⟨pb,0,none⟩)] w fun e w'=>Out w base pb v T en ytt (yaJ T i) e w':=by
 by_cases h2:kd T i=2
 ·exact ynB h h2
 by_cases h3:kd T i=3
 ·exact ynC h h3
 ·exact ykV h h2 h3
end Go.Proofs.YtkpeklealgicpabGreatDoor
