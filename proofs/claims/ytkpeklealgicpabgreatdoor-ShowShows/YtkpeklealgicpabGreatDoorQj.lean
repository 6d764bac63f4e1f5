/-
  The printer's column and value.
  The printer's value.
  Expressions and lists are read back.
  The printer's expr.
  The printer: 'is null'.
  The printer: two with an operator between.
  The printer's expr, whole.
  The printer: listed columns.
  The printer: listed values; what stands in brackets.
  The sixteen ways a command is right; each of its words is one.
  The printer's where; listed fields.
  The printer's command: the short ones.
  The printer's command: delete.
  The printer's command: update, create, insert.
-/
import Derived.Deep.RegionWith
import Derived.Deep.RegionLaw
import Derived.Test.YtkpeklealgicpabGreatDoorQa
import Derived.Test.YtkpeklealgicpabGreatDoorQb
import Derived.Test.YtkpeklealgicpabGreatDoorQi

set_option maxRecDepth 100000
set_option maxHeartbeats 8000000
namespace Go.Proofs.YtkpeklealgicpabGreatDoor
open Go.RowKit
theorem PrW.below {B b:Nat} {ws:List (List UInt8)} {w w':World} (h:PrW B b ws w) (hb:Below w.heap.size w w'):PrW B b ws w':=⟨h.is.keep hb,h.ne⟩
theorem PrW.lt {B b:Nat} {ws:List (List UInt8)} {w:World} (h:PrW B b ws w):b < w.heap.size:=by
 rcases h.is with h|h
 ·exact h.lt
 ·exact h.lt
def Puts (B b:Nat) (ws:List (List UInt8)) (w:World) (e:Ending) (w':World):Prop:=e=.returned (.tuple #[])∧PrW B b ws w'∧Below B w w'∧Lib.OthersKept 5 (some b) w w'
theorem Puts.of {B b:Nat} {ws:List (List UInt8)} {w w1 w':World} {e:Ending} (hB:B≤w.heap.size) (hb:Below w.heap.size w w1) (h:Puts B b ws w1 e w'):Puts B b ws w e w' :=
 ⟨h.1,h.2.1,(hb.mono hB).trans h.2.2.1,fun k o hk hne hc=>h.2.2.2 k o ((hb.block k (ltS hk)).trans hk) hne hc⟩
theorem yh4 (B b:Nat) (ws ts:List (List UInt8)) (n:Nat) (cs:Array Value) (W:World) (h:PrW B b ws W) (hB:B≤W.heap.size) (hcs:cs.toList=ts.map fun x=>Value.string ⟨x.toArray⟩) (hn:ts.length=n) (hne:∀ x ∈ ts,x≠[]) (hlen:(yaj (ws++ts)).length≤1000000) (hsm:n≤1000000) :
  Calls Tryz.prog 94 #[.pointer (some ⟨b,0,none⟩),.slice (some ⟨W.heap.size,0,none⟩) n n] (W.alloc (.cells cs 9)) (Puts B b (ws++ts) W):=by
 have hb:Below W.heap.size W (W.alloc (.cells cs 9)):=(Below.refl _ _).alloc (Nat.le_refl _) _
 refine (yl8 B b W.heap.size ws ts n n cs (0,0) _ (h.below hb) (Nat.le_trans hB hb.size) (heap_alloc_new W _) (by have:=h.lt;omega) ?_ hn hne hlen hsm).mono fun e w' q=>Puts.of hB hb q
 intro i x hx
 rw [← Array.getElem?_toList,hcs,List.getElem?_map,hx];rfl
structure ItoaOk (B:Nat) (Tb:World→Prop):Prop where
 keep:∀ {W W':World},Tb W→Below B W W'→Tb W'
 itoa:∀ (n:Int) (W:World),Tb W→-999999999≤n→n≤999999999→Calls Tryz.prog 136 #[.int .i64 n] W fun e w'=>e=.returned (.string ⟨(Lib.itoa n).toArray⟩)∧Below W.heap.size W w'
theorem ye6 (x:Bool) (w:World):Calls Tryz.prog 137 #[.bool x] w fun e w'=>e=.returned (.string ⟨(if x=true then ycD else yce).toArray⟩)∧Below w.heap.size w w':=by
 cases x
 all_goals
  go_enter Tryz.func137,Tryz.ntmps137
  go_wp2
  go_ret
  exact ⟨rfl,Below.refl _ _⟩
theorem yh2 (B b:Nat) (ws:List (List UInt8)) (nm:List UInt8) (ty:Int) (w:World) (h:PrW B b ws w) (hB:B≤w.heap.size) (h1:nm≠[]) (h2:atL yaB ty≠[]) (hlen:(yaj (ws++[nm,atL yaB ty])).length≤1000000) :
  Calls Tryz.prog 96 #[.pointer (some ⟨b,0,none⟩),.agg #[.string ⟨nm.toArray⟩,.int .i64 ty]] w (Puts B b (ws++[nm,atL yaB ty]) w):=by
 have hty:=fun W=>yfw ty W
 have HP:Hid (∀ W,Below w.heap.size w W→Calls Tryz.prog 94 #[.pointer (some ⟨b,0,none⟩),.slice (some ⟨W.heap.size,0,none⟩) 2 2] (W.alloc (.cells #[.string ⟨nm.toArray⟩,.string ⟨(atL yaB ty).toArray⟩] 9)) (Puts B b (ws++[nm,atL yaB ty]) w)):=by
  intro W hW
  have hb:Below w.heap.size w (W.alloc (.cells #[.string ⟨nm.toArray⟩,.string ⟨(atL yaB ty).toArray⟩] 9)):=hW.alloc hW.size _
  refine (yl8 B b W.heap.size ws [nm,atL yaB ty] 2 2 #[.string ⟨nm.toArray⟩,.string ⟨(atL yaB ty).toArray⟩] (0,0) _ (h.below hb) (Nat.le_trans hB hb.size) (heap_alloc_new W _) (by have:=h.lt;have:=hW.size;omega) ?_ rfl ?_ hlen (by decide)).mono fun e w' q=>Puts.of hB hb q
  ·intro i x hx
   match i,hx with
   | 0,hx=>simp at hx;subst hx;rfl
   | 1,hx=>simp at hx;subst hx;rfl
  ·intro x hx
   simp at hx
   rcases hx with rfl|rfl
   ·exact h1
   ·exact h2
 generalize atL yaB ty=tw at *
 clear h h1 h2 hlen
 have b0:=(Below.refl w.heap.size w).alloc (Nat.le_refl _) (.cells #[.string ⟨nm.toArray⟩,.int .i64 ty] 56)
 go_enter Tryz.func96,Tryz.ntmps96
 go_wp2_with fail
 go_region_law (first|(go_simp;refine (hty _).mono ?_;rintro e w1 ⟨rfl,b1⟩;have B1:Below w.heap.size w w1:=b0.drew.trans (b1.mono (by simp));have d0:w1.cell? ⟨w.heap.size,0,none⟩=some (.string ⟨nm.toArray⟩):=(b1.cell (p:=⟨w.heap.size,0,none⟩) (by simp)).trans (by simp);dsimp only)|(go_simp;refine (HP.out _ B1).mono ?_;rintro e w2 ⟨rfl,q2⟩;dsimp only))
 all_goals (go_end0;exact ⟨rfl,q2⟩)
theorem yeA (n:Int):Lib.itoa n≠[]:=by
 unfold Lib.itoa
 split
 ·simp
 ·rw [Lib.decDigits];split <;> simp
theorem yfz {Tb:World→Prop} (B b:Nat) (ws:List (List UInt8)) (v:Vl) (w:World) (k:ItoaOk B Tb) (hT:Tb w) (h:PrW B b ws w) (hB:B≤w.heap.size) (hv:ybJ v=true) (hs:v.s.length≤1000) (hlen:(yaj (ws++[yaI v])).length≤1000000) :
  Calls Tryz.prog 99 #[.pointer (some ⟨b,0,none⟩),.agg #[.int .i64 v.k,.int .i64 v.n,.string ⟨v.s.toArray⟩]] w (Puts B b (ws++[yaI v]) w):=by
 obtain ⟨vk,vn,vs⟩:=v
 have b0:=(Below.refl w.heap.size w).alloc (Nat.le_refl _) (.cells #[.int .i64 vk,.int .i64 vn,.string ⟨vs.toArray⟩] 24)
 have HP:∀ x:List UInt8,yaI ⟨vk,vn,vs⟩=x→x≠[]→Hid (∀ W,Below w.heap.size w W→Calls Tryz.prog 94 #[.pointer (some ⟨b,0,none⟩),.slice (some ⟨W.heap.size,0,none⟩) 1 1] (W.alloc (.cells #[.string ⟨x.toArray⟩] 9)) (Puts B b (ws++[yaI ⟨vk,vn,vs⟩]) w)):=by
  rintro x rfl hx W hW
  exact (yh4 B b ws [yaI ⟨vk,vn,vs⟩] 1 _ W (h.below hW) (Nat.le_trans hB hW.size) rfl rfl (by simpa using hx) hlen (by decide)).mono fun e w' q=>Puts.of hB hW q
 have hr:vk=1→-999999999≤vn∧vn≤999999999:=by
  rintro rfl
  have:=yel hv
  simp only [ybT] at this
  simp at this
  exact yey this.1
 by_cases h1:vk=1
 ·have hi:=fun W (hW:Below w.heap.size w W)=>k.itoa vn W (k.keep hT (hW.mono hB)) (hr h1).1 (hr h1).2
  have HQ:=HP (Lib.itoa vn) (by simp [yaI,h1]) (yeA vn)
  subst h1
  clear h hlen hv HP hr hT k
  go_enter Tryz.func99,Tryz.ntmps99
  go_wp2_with fail
  go_region_law (first|(go_simp;refine (hi _ b0.drew).mono ?_;rintro e w1 ⟨rfl,b1⟩;have B1:Below w.heap.size w w1:=b0.drew.trans (b1.mono (by simp));dsimp only)|(go_simp;refine (HQ.out _ B1).mono ?_;rintro e w2 ⟨rfl,q2⟩;dsimp only))
  all_goals (simp only [Exit.inBlock];go_end0;exact ⟨rfl,q2⟩)
 ·by_cases h2:vk=2
  ·have e:(⟨#[39]⟩++⟨vs.toArray⟩++⟨#[39]⟩:ByteArray)=⟨(39::(vs++[39])).toArray⟩:=by
    apply ByteArray.ext
    simp [ByteArray.data_append]
   have HQ0:=(HP (39::(vs++[39])) (by simp [yaI,h2]) (by simp)).out
   rw [← e] at HQ0
   have HQ:=yaa HQ0
   have z1:¬ (9223372036854775807 < 1+vs.length):=by simp at hs;omega
   have z2:¬ (9223372036854775807 < 1+vs.length+1):=by simp at hs;omega
   subst h2
   have HR0:=HQ.out _ b0.drew
   rw [show (w.alloc (.cells #[.int .i64 2,.int .i64 vn,.string ⟨vs.toArray⟩] 24)).drew.heap.size=w.heap.size+1 by simp] at HR0
   have HR:=yaa HR0
   clear e HQ0 HR0
   clear h hlen hv HP hr hT k h1
   go_enter Tryz.func99,Tryz.ntmps99
   go_wp2_with fail
   go_region_law (first|(go_simp;refine HR.out.mono ?_;rintro e w2 ⟨rfl,q2⟩;dsimp only))
   all_goals (simp only [Exit.inBlock];go_end0;exact ⟨rfl,q2⟩)
  ·by_cases h3:vk=3
   ·have hi:=fun W=>ye6 (vn == 1) W
    have HQ:=HP (if (vn == 1)=true then ycD else yce) (by simp [yaI,h3]) (by split <;> decide)
    generalize (if (vn == 1)=true then ycD else yce)=x at hi HQ
    subst h3
    clear h hlen hv HP hr hT k h1 h2
    go_enter Tryz.func99,Tryz.ntmps99
    go_wp2_with fail
    go_region_law (first|(go_simp;refine (hi _).mono ?_;rintro e w1 ⟨rfl,b1⟩;have B1:Below w.heap.size w w1:=b0.drew.trans (b1.mono (by simp));dsimp only)|(go_simp;refine (HQ.out _ B1).mono ?_;rintro e w2 ⟨rfl,q2⟩;dsimp only))
    all_goals (simp only [Exit.inBlock];go_end0;exact ⟨rfl,q2⟩)
   ·have HQ:=HP w_null (by simp [yaI,h1,h2,h3]) (by decide)
    have q1:(vk == 1)=false:=by simpa using h1
    have q2:(vk == 2)=false:=by simpa using h2
    have q3:(vk == 3)=false:=by simpa using h3
    have HR0:=HQ.out _ b0
    rw [show (w.alloc (.cells #[.int .i64 vk,.int .i64 vn,.string ⟨vs.toArray⟩] 24)).heap.size=w.heap.size+1 by simp] at HR0
    have HR:=yaa HR0
    clear h hlen hv HP hr hT k h1 h2 h3 HQ HR0
    go_enter Tryz.func99,Tryz.ntmps99
    go_wp2_with (go_at_call 94;refine HR.out.mono ?_;rintro e w2 ⟨rfl,p2⟩)
    go_end0
    exact ⟨rfl,p2⟩
theorem yjH (k:Int) (h:5≤k∧k≤11):(∃ q,yec (atL ya3 k)=[(atL ya3 k,q)])∧okB (atL ya3 k)=true∧((yfy ya3 (atL ya3 k):Nat):Int)=k∧yfy ya3 (atL ya3 k)≠0∧atL ya3 k≠w_is:=by
 have hc:k=5∨k=6∨k=7∨k=8∨k=9∨k=10∨k=11:=by omega
 rcases hc with rfl|rfl|rfl|rfl|rfl|rfl|rfl
 all_goals exact ⟨⟨_,rfl⟩,by decide +kernel,by decide,by decide,by decide⟩
theorem yd0 (k:Int) (h:1≤k∧k≤3):yec (atL yaB k)=[(atL yaB k,1)]∧okB (atL yaB k)=true∧((yfy yaB (atL yaB k):Nat):Int)=k∧yfy yaB (atL yaB k)≠0:=by
 have hc:k=1∨k=2∨k=3:=by omega
 rcases hc with rfl|rfl|rfl
 all_goals exact ⟨by decide +kernel,by decide +kernel,by decide,by decide⟩
theorem ybk {v:Vl} (h:ybu v=true):v=vl0:=by
 obtain ⟨k,n,s⟩:=v
 simp only [ybu,Bool.and_eq_true,decide_eq_true_eq] at h
 obtain ⟨⟨rfl,rfl⟩,rfl⟩:=h
 rfl
theorem yaK {x:Ex} (h:ybe x=true):x=ex0:=by
 obtain ⟨k,v,nm,args⟩:=x
 simp only [ybe,Ex.k,Ex.v,Ex.nm,Ex.args,Bool.and_eq_true] at h
 obtain ⟨⟨⟨h1,h2⟩,h3⟩,h4⟩:=h
 rw [of_decide_eq_true h1,ybk h2,of_decide_eq_true h3,of_decide_eq_true h4];rfl
inductive RightE:Ex→Prop where
 | val (v:Vl) (h:ybJ v=true):RightE (.mk 1 v [] [])
 | col (nm:List UInt8) (h:yan nm=true):RightE (.mk 2 vl0 nm [])
 | not (a:Ex) (h:RightE a):RightE (.mk 3 vl0 [] [a])
 | null (a:Ex) (h:RightE a):RightE (.mk 4 vl0 [] [a])
 | two (k:Int) (hk:5≤k∧k≤11) (a b:Ex) (ha:RightE a) (hb:RightE b):RightE (.mk k vl0 [] [a,b])
theorem yeL:∀ (n:Nat) (x:Ex),yaQ x≤n→exR x=true→RightE x:=by
 intro n
 induction n with
 | zero=>intro x h;obtain ⟨k,v,nm,args⟩:=x;rw [yaQ] at h;omega
 | succ n ih =>
  intro x h hr
  obtain ⟨k,v,nm,args⟩:=x
  rw [exR] at hr
  simp only [yeK,Bool.and_eq_true,Bool.or_eq_true,decide_eq_true_eq] at hr
  obtain ⟨⟨⟨⟨⟨hn,hm⟩,hv⟩,h2⟩,hV⟩,hA⟩:=hr
  rw [yaQ] at h
  have h1:¬ (k < 1∨11 < k):=by intro hk;rw [ybz,if_pos hk] at hn;omega
  rw [ybz,if_neg h1] at hn
  by_cases k1:k=1
  ·subst k1
   rw [if_pos (by decide)] at hn
   have:args=[]:=List.eq_nil_of_length_eq_zero (by omega)
   subst this
   have hm':nm=[]:=by rcases hm with h|h;omega;exact h
   subst hm'
   exact .val v hV
  have hv0:v=vl0:=ybk (by rcases hv with h|h;exact absurd h k1;exact h)
  subst hv0
  by_cases k2:k=2
  ·subst k2
   rw [if_pos (by decide)] at hn
   have:args=[]:=List.eq_nil_of_length_eq_zero (by omega)
   subst this
   exact .col nm (by simpa using h2)
  have hm':nm=[]:=by rcases hm with h|h;exact absurd h k2;exact h
  subst hm'
  rw [if_neg (by omega)] at hn
  by_cases k4:k≤4
  ·rw [if_pos k4] at hn
   obtain ⟨a,rfl⟩:∃ a,args=[a]:=List.length_eq_one_iff.1 (by omega)
   simp only [yil,Bool.and_true] at hA
   simp only [ybl] at h
   have ha:=ih a (by omega) hA
   by_cases k3:k=3
   ·subst k3;exact .not a ha
   ·have:k=4:=by omega
    subst this;exact .null a ha
  ·rw [if_neg k4] at hn
   obtain ⟨a,b,rfl⟩:∃ a b,args=[a,b]:=(by match args,hn with|[a,b],_=>exact ⟨a,b,rfl⟩|[],h=>simp at h|[_],h=>simp at h|_::_::_::_,h=>simp at h;omega)
   simp only [yil,Bool.and_true,Bool.and_eq_true] at hA
   simp only [ybl] at h
   exact .two k (by omega) a b (ih a (by omega) hA.1) (ih b (by omega) hA.2)
theorem ye1 {x:Ex} (h:RightE x):∀ w ∈ yat x,okW w:=by
 induction h with
 | val v h=>intro w hw;simp [yat] at hw;rw [hw];exact yem h
 | col nm h=>intro w hw;simp [yat] at hw;rw [hw];exact ya7 h
 | not a _ ih =>
  intro w hw
  simp [yat,yb9] at hw
  rcases hw with rfl|hw
  ·exact ycn (by decide +kernel)
  ·exact ih w hw
 | null a _ ih =>
  intro w hw
  simp [yat,yb9] at hw
  rcases hw with rfl|hw|rfl|rfl|rfl
  ·exact ycn (by decide +kernel)
  ·exact ih w hw
  ·exact ycn (by decide +kernel)
  ·exact ycn (by decide +kernel)
  ·exact ycn (by decide +kernel)
 | two k hk a b _ _ iha ihb =>
  intro w hw
  rw [yat,if_neg (by omega),if_neg (by omega),if_neg (by omega),if_neg (by omega)] at hw
  simp [yb9] at hw
  rcases hw with rfl|hw|rfl|hw|rfl
  ·exact ycn (by decide +kernel)
  ·exact iha w hw
  ·exact ycn (yjH k hk).2.1
  ·exact ihb w hw
  ·exact ycn (by decide +kernel)
theorem yhm {α:Type} (f:α→List (List UInt8)):∀ (x:α) (xs:List α),yal f (x::xs)=f x++xs.flatMap fun x=>[44]::f x:=by
 intro x xs
 induction xs generalizing x with
 | nil=>simp [yal]
 | cons y r ih=>rw [yal,ih];simp
structure PSt (B b:Nat) (Tb:World→Prop) (w0:World) (ws:List (List UInt8)) (W:World):Prop where
 pr:PrW B b ws W
 bel:Below B w0 W
 tb:Tb W
 hB:B≤W.heap.size
def ya0 (B b:Nat) (Tb:World→Prop) (w0:World) (ws:List (List UInt8)) (W:World) (e:Ending) (w':World):Prop:=e=.returned (.tuple #[])∧PSt B b Tb w0 ws w'∧Lib.OthersKept 5 (some b) W w'
section
variable {B b:Nat} {Tb:World→Prop} {w0:World} {ws ws':List (List UInt8)} {W W':World}
theorem PSt.step (k:ItoaOk B Tb) (h:PSt B b Tb w0 ws W) {e:Ending} (q:Puts B b ws' W e W'):ya0 B b Tb w0 ws' W e W' :=
 ⟨q.1,⟨q.2.1,h.bel.trans q.2.2.1,k.keep h.tb q.2.2.1,Nat.le_trans h.hB q.2.2.1.size⟩,q.2.2.2⟩
theorem PSt.below (k:ItoaOk B Tb) (h:PSt B b Tb w0 ws W) (hb:Below W.heap.size W W'):PSt B b Tb w0 ws W' :=
 ⟨h.pr.below hb,h.bel.trans (hb.mono h.hB),k.keep h.tb (hb.mono h.hB),Nat.le_trans h.hB hb.size⟩
theorem yak {b:Nat} (hb:Below W.heap.size W W'):Lib.OthersKept 5 (some b) W W':=fun k _ hk _ _=>(hb.block k (ltS hk)).trans hk
theorem ycb (k:ItoaOk B Tb) (h:PSt B b Tb w0 ws W) (o:Obj) (ts:List (List UInt8)) (n:Nat) (cs:Array Value) (hcs:cs.toList=ts.map fun x=>Value.string ⟨x.toArray⟩) (hn:ts.length=n) (hne:∀ x ∈ ts,x≠[]) (hlen:(yaj (ws++ts)).length≤1000000) (hsm:n≤1000000) :
  Calls Tryz.prog 94 #[.pointer (some ⟨b,0,none⟩),.slice (some ⟨W.heap.size+1,0,none⟩) n n] ((W.alloc o).alloc (.cells cs 9)) (ya0 B b Tb w0 (ws++ts) (W.alloc o)):=by
 have h1:=h.below k ((Below.refl W.heap.size W).alloc (Nat.le_refl _) o)
 have:=yh4 B b ws ts n cs (W.alloc o) h1.pr h1.hB hcs hn hne hlen hsm
 rw [show (W.alloc o).heap.size=W.heap.size+1 by simp] at this
 exact this.mono fun e w' q=>h1.step k q
theorem ybG (k:ItoaOk B Tb) (h:PSt B b Tb w0 ws W) (ts:List (List UInt8)) (n:Nat) (cs:Array Value) (hcs:cs.toList=ts.map fun x=>Value.string ⟨x.toArray⟩) (hn:ts.length=n) (hne:∀ x ∈ ts,x≠[]) (hlen:(yaj (ws++ts)).length≤1000000) (hsm:n≤1000000) :
  Calls Tryz.prog 94 #[.pointer (some ⟨b,0,none⟩),.slice (some ⟨W.heap.size,0,none⟩) n n] (W.alloc (.cells cs 9)) (ya0 B b Tb w0 (ws++ts) W) :=
 (yh4 B b ws ts n cs W h.pr h.hB hcs hn hne hlen hsm).mono fun _ _ q=>h.step k q
end
def PE (B b:Nat) (Tb:World→Prop) (w0:World) (x:Ex):Prop :=
 ∀ u,ExAt 0 w0 u x→∀ ws W,PSt B b Tb w0 ws W→(yaj (ws++yat x)).length≤1000000→Calls Tryz.prog 101 #[.pointer (some ⟨b,0,none⟩),u] W (ya0 B b Tb w0 (ws++yat x) W)
theorem yl3 {B b:Nat} {Tb:World→Prop} {w0:World} (k:ItoaOk B Tb) (hw:w0.heap.size≤B) (a:Ex) (ih:PE B b Tb w0 a):PE B b Tb w0 (.mk 3 vl0 [] [a]):=by
 intro u hu ws W hS hlen
 obtain ⟨ao,ca,us,rfl,h1⟩:=hu.spread
 obtain ⟨g,o,rfl,-,hg,hc,hx⟩:=h1 (by simp [Ex.args])
 obtain ⟨ky,vy,ny,ay,ey,t0,t1,t2,t3,t4,t5⟩:=hc 0 (by simp [Ex.args])
 simp only [Nat.mul_zero,Nat.add_zero] at t0 t1 t2 t3 t4 t5
 have hx0:=hx 0 a rfl
 have ew:yat (.mk 3 vl0 [] [a])=[w_not]++yat a:=by simp [yat,yb9]
 rw [ew] at hlen ⊢
 have hl1:(yaj (ws++[w_not])).length≤1000000:=Nat.le_trans (yaD _ (yat a)) (by rw [List.append_assoc];exact hlen)
 have hp:=yaa (ycb k hS (.cells #[.int .i64 3,.int .i64 0,.int .i64 0,.string ⟨#[]⟩,.string ⟨#[]⟩,.slice (some ⟨g,o,none⟩) 1 ca] 29) [w_not] 1 #[.string ⟨w_not.toArray⟩] rfl rfl (by intro x hx;simp at hx;subst hx;decide) hl1 (by decide))
 have hr:∀ w1,PSt B b Tb w0 (ws++[w_not]) w1→Calls Tryz.prog 101 #[.pointer (some ⟨b,0,none⟩),us 0] w1 (ya0 B b Tb w0 (ws++([w_not]++yat a)) w1):=by
  intro w1 h1
  have:=ih _ hx0 (ws++[w_not]) w1 h1 (by rw [List.append_assoc];exact hlen)
  rwa [List.append_assoc] at this
 rw [ey] at hr
 have HR:=yaa hr
 have hgb:g < B:=by omega
 have cells:∀ w1,PSt B b Tb w0 (ws++[w_not]) w1→∀ q,w1.cell? ⟨g,q,none⟩=w0.cell? ⟨g,q,none⟩:=fun w1 h1 q=>h1.bel.cell (p:=⟨g,q,none⟩) hgb
 have HC:=yaa cells
 have hbW:b < W.heap.size:=hS.pr.lt
 have HS:=yaa hS
 clear hr hx hc hx0 h1 ih cells hS hl1 hlen ew
 unfold exV
 simp only [Ex.k,Ex.v,Ex.nm,Ex.args,vl0,List.length_cons,List.length_nil,Nat.zero_add] at *
 go_enter Tryz.func101,Tryz.ntmps101
 go_wp2_with fail
 refine hp.out.mono ?_
 rintro e w1 ⟨rfl,s1,o1⟩
 have kb:w1.heap[W.heap.size]?=some (.cells #[.int .i64 3,.int .i64 0,.int .i64 0,.string ⟨#[]⟩,.string ⟨#[]⟩,.slice (some ⟨g,o,none⟩) 1 ca] 29):=o1 _ _ (heap_alloc_new W _) (by simp;omega) (by intro c f e;cases e)
 have d5:w1.cell? ⟨W.heap.size,5,none⟩=some (.slice (some ⟨g,o,none⟩) 1 ca):=by rw [Lib.cell_of_heap kb];rfl
 have e0:=(HC.out w1 s1 _).trans t0
 have e1:=(HC.out w1 s1 _).trans t1
 have e2:=(HC.out w1 s1 _).trans t2
 have e3:=(HC.out w1 s1 _).trans t3
 have e4:=(HC.out w1 s1 _).trans t4
 have e5:=(HC.out w1 s1 _).trans t5
 have hq:=HR.out w1 s1
 unfold exV at hq
 have HQ:=yaa hq
 have O1:=yaa o1
 clear kb s1 o1 hq t0 t1 t2 t3 t4 t5
 go_wp2_with (go_at_call 101;refine HQ.out.mono ?_;rintro e w2 ⟨rfl,s2,o2⟩)
 try simp only [Exit.inBlock]
 go_end0
 exact ⟨rfl,s2,fun q ob hq hne hty=>o2 q ob (O1.out q ob ((Below.heap_alloc _ _ _ (ltS hq)).trans hq) hne hty) hne hty⟩
theorem yjJ {B b:Nat} {Tb:World→Prop} {w0:World} (k:ItoaOk B Tb) (hw:w0.heap.size≤B) (a:Ex) (ih:PE B b Tb w0 a):PE B b Tb w0 (.mk 4 vl0 [] [a]):=by
 intro u hu ws W hS hlen
 obtain ⟨ao,ca,us,rfl,h1⟩:=hu.spread
 obtain ⟨g,o,rfl,-,hg,hc,hx⟩:=h1 (by simp [Ex.args])
 obtain ⟨ky,vy,ny,ay,ey,t0,t1,t2,t3,t4,t5⟩:=hc 0 (by simp [Ex.args])
 simp only [Nat.mul_zero,Nat.add_zero] at t0 t1 t2 t3 t4 t5
 have hx0:=hx 0 a rfl
 have ew:yat (.mk 4 vl0 [] [a])=[[40]]++(yat a++[w_is,w_null,[41]]):=by simp [yat,yb9]
 rw [ew] at hlen ⊢
 have hl1:(yaj (ws++[[40]])).length≤1000000:=Nat.le_trans (yaD _ (yat a++[w_is,w_null,[41]])) (by rw [List.append_assoc];exact hlen)
 have hp:=yaa (ycb k hS (.cells #[.int .i64 4,.int .i64 0,.int .i64 0,.string ⟨#[]⟩,.string ⟨#[]⟩,.slice (some ⟨g,o,none⟩) 1 ca] 29) [[40]] 1 #[.string ⟨[40].toArray⟩] rfl rfl (by intro x hx;simp at hx;subst hx;decide) hl1 (by decide))
 have hr:∀ w1,PSt B b Tb w0 (ws++[[40]]) w1→Calls Tryz.prog 101 #[.pointer (some ⟨b,0,none⟩),us 0] w1 (ya0 B b Tb w0 (ws++[[40]]++yat a) w1):=by
  intro w1 h1
  refine ih _ hx0 (ws++[[40]]) w1 h1 (Nat.le_trans (yaD _ [w_is,w_null,[41]]) ?_)
  simp only [List.append_assoc] at hlen ⊢
  exact hlen
 rw [ey] at hr
 have HR:=yaa hr
 have hf:∀ w2,PSt B b Tb w0 (ws++[[40]]++yat a) w2→Calls Tryz.prog 94 #[.pointer (some ⟨b,0,none⟩),.slice (some ⟨w2.heap.size,0,none⟩) 3 3] (w2.alloc (.cells #[.string ⟨w_is.toArray⟩,.string ⟨w_null.toArray⟩,.string ⟨#[41]⟩] 9)) (ya0 B b Tb w0 (ws++([[40]]++(yat a++[w_is,w_null,[41]]))) w2):=by
  intro w2 h2
  have:=ybG k h2 [w_is,w_null,[41]] 3 #[.string ⟨w_is.toArray⟩,.string ⟨w_null.toArray⟩,.string ⟨#[41]⟩] rfl rfl (by intro x hx;simp at hx;rcases hx with rfl|rfl|rfl <;> decide) (by simp only [List.append_assoc] at hlen ⊢;exact hlen) (by decide)
  simp only [List.append_assoc] at this
  exact this
 have HF:=yaa hf
 have hgb:g < B:=by omega
 have cells:∀ w1,PSt B b Tb w0 (ws++[[40]]) w1→∀ q,w1.cell? ⟨g,q,none⟩=w0.cell? ⟨g,q,none⟩:=fun w1 h1 q=>h1.bel.cell (p:=⟨g,q,none⟩) hgb
 have HC:=yaa cells
 have hbW:b < W.heap.size:=hS.pr.lt
 have HS:=yaa hS
 clear hf hr hx hc hx0 h1 ih cells hS hl1 hlen ew
 unfold exV
 simp only [Ex.k,Ex.v,Ex.nm,Ex.args,vl0,List.length_cons,List.length_nil,Nat.zero_add] at *
 go_enter Tryz.func101,Tryz.ntmps101
 go_wp2_with fail
 refine hp.out.mono ?_
 rintro e w1 ⟨rfl,s1,o1⟩
 have kb:w1.heap[W.heap.size]?=some (.cells #[.int .i64 4,.int .i64 0,.int .i64 0,.string ⟨#[]⟩,.string ⟨#[]⟩,.slice (some ⟨g,o,none⟩) 1 ca] 29):=o1 _ _ (heap_alloc_new W _) (by simp;omega) (by intro c f e;cases e)
 have d5:w1.cell? ⟨W.heap.size,5,none⟩=some (.slice (some ⟨g,o,none⟩) 1 ca):=by rw [Lib.cell_of_heap kb];rfl
 have e0:=(HC.out w1 s1 _).trans t0
 have e1:=(HC.out w1 s1 _).trans t1
 have e2:=(HC.out w1 s1 _).trans t2
 have e3:=(HC.out w1 s1 _).trans t3
 have e4:=(HC.out w1 s1 _).trans t4
 have e5:=(HC.out w1 s1 _).trans t5
 have hq:=HR.out w1 s1
 unfold exV at hq
 have HQ:=yaa hq
 have O1:=yaa o1
 clear kb s1 o1 hq t0 t1 t2 t3 t4 t5
 go_wp2_with (first|(go_at_call 101;refine HQ.out.mono ?_;rintro e w2 ⟨rfl,s2,o2⟩;have HZ:=yaa (HF.out w2 s2);have O2:=yaa o2)|(go_at_call 94;refine HZ.out.mono ?_;rintro e w3 ⟨rfl,s3,o3⟩))
 try simp only [Exit.inBlock]
 go_end0
 exact ⟨rfl,s3,fun q ob hq hne hty=>o3 q ob (O2.out q ob (O1.out q ob ((Below.heap_alloc _ _ _ (ltS hq)).trans hq) hne hty) hne hty) hne hty⟩
theorem yl4 {B b:Nat} {Tb:World→Prop} {w0:World} (k:ItoaOk B Tb) (hw:w0.heap.size≤B) (m:Int) (hm:5≤m∧m≤11) (hop:atL ya3 m≠[]) (x y:Ex) (ihx:PE B b Tb w0 x) (ihy:PE B b Tb w0 y):PE B b Tb w0 (.mk m vl0 [] [x,y]):=by
 intro u hu ws W hS hlen
 obtain ⟨ao,ca,us,rfl,h1⟩:=hu.spread
 obtain ⟨g,o,rfl,-,hg,hc,hx⟩:=h1 (by simp [Ex.args])
 obtain ⟨ky,vy,ny,ay,ey,t0,t1,t2,t3,t4,t5⟩:=hc 0 (by simp [Ex.args])
 obtain ⟨kz,vz,nz,az,ez,r0,r1,r2,r3,r4,r5⟩:=hc 1 (by simp [Ex.args])
 simp only [Nat.mul_zero,Nat.add_zero,Nat.mul_one] at t0 t1 t2 t3 t4 t5 r0 r1 r2 r3 r4 r5
 have hx0:=hx 0 x rfl
 have hx1:=hx 1 y rfl
 have ew:yat (.mk m vl0 [] [x,y])=[[40]]++(yat x++([atL ya3 m]++(yat y++[[41]]))):=by
  have e1:¬ m=1:=by omega
  have e2:¬ m=2:=by omega
  have e3:¬ m=3:=by omega
  have e4:¬ m=4:=by omega
  simp [yat,yb9,e1,e2,e3,e4]
 rw [ew] at hlen ⊢
 have L:∀ p q:List (List UInt8),p++q=ws++([[40]]++(yat x++([atL ya3 m]++(yat y++[[41]]))))→(yaj p).length≤1000000:=fun p q e=>Nat.le_trans (yaD p q) (by rw [e];exact hlen)
 have hp:=yaa (ycb k hS (.cells #[.int .i64 m,.int .i64 0,.int .i64 0,.string ⟨#[]⟩,.string ⟨#[]⟩,.slice (some ⟨g,o,none⟩) 2 ca] 29) [[40]] 1 #[.string ⟨#[40]⟩] rfl rfl (by intro x hx;simp at hx;subst hx;decide) (L _ (yat x++([atL ya3 m]++(yat y++[[41]]))) (by simp only [List.append_assoc])) (by decide))
 have hr:∀ w1,PSt B b Tb w0 (ws++[[40]]) w1→Calls Tryz.prog 101 #[.pointer (some ⟨b,0,none⟩),us 0] w1 (ya0 B b Tb w0 (ws++[[40]]++yat x) w1):=fun w1 h1=>ihx _ hx0 (ws++[[40]]) w1 h1 (L _ ([atL ya3 m]++(yat y++[[41]])) (by simp only [List.append_assoc]))
 have hf:∀ w2,PSt B b Tb w0 (ws++[[40]]++yat x) w2→Calls Tryz.prog 94 #[.pointer (some ⟨b,0,none⟩),.slice (some ⟨w2.heap.size,0,none⟩) 1 1] (w2.alloc (.cells #[.string ⟨(atL ya3 m).toArray⟩] 9)) (ya0 B b Tb w0 (ws++[[40]]++yat x++[atL ya3 m]) w2) :=
  fun w2 h2=>ybG k h2 [atL ya3 m] 1 #[.string ⟨(atL ya3 m).toArray⟩] rfl rfl (by intro x hx;simp at hx;subst hx;exact hop) (L _ (yat y++[[41]]) (by simp only [List.append_assoc])) (by decide)
 have hs:∀ w4,PSt B b Tb w0 (ws++[[40]]++yat x++[atL ya3 m]) w4→Calls Tryz.prog 101 #[.pointer (some ⟨b,0,none⟩),us 1] w4 (ya0 B b Tb w0 (ws++[[40]]++yat x++[atL ya3 m]++yat y) w4):=fun w4 h4=>ihy _ hx1 _ w4 h4 (L _ [[41]] (by simp only [List.append_assoc]))
 have hz:∀ w5,PSt B b Tb w0 (ws++[[40]]++yat x++[atL ya3 m]++yat y) w5→Calls Tryz.prog 94 #[.pointer (some ⟨b,0,none⟩),.slice (some ⟨w5.heap.size,0,none⟩) 1 1] (w5.alloc (.cells #[.string ⟨#[41]⟩] 9)) (ya0 B b Tb w0 (ws++([[40]]++(yat x++([atL ya3 m]++(yat y++[[41]]))))) w5):=by
  intro w5 h5
  have:=ybG k h5 [[41]] 1 #[.string ⟨#[41]⟩] rfl rfl (by intro x hx;simp at hx;subst hx;decide) (L _ [] (by simp only [List.append_assoc,List.append_nil])) (by decide)
  simp only [List.append_assoc] at this
  exact this
 rw [ey] at hr
 rw [ez] at hs
 have hop2:=fun W=>ydc m W
 have K:=yaa k
 have HR:=yaa hr
 have HF:=yaa hf
 have HSS:=yaa hs
 have HZ:=yaa hz
 have hgb:g < B:=by omega
 have cells:∀ (ws':List (List UInt8)) w1,PSt B b Tb w0 ws' w1→∀ q,w1.cell? ⟨g,q,none⟩=w0.cell? ⟨g,q,none⟩:=fun _ w1 h1 q=>h1.bel.cell (p:=⟨g,q,none⟩) hgb
 have HC:=yaa cells
 have hbW:b < W.heap.size:=hS.pr.lt
 have q1:(m == 1)=false:=by rw [beq_eq_false_iff_ne];omega
 have q2:(m == 2)=false:=by rw [beq_eq_false_iff_ne];omega
 have q3:(m == 3)=false:=by rw [beq_eq_false_iff_ne];omega
 have q4:(m == 4)=false:=by rw [beq_eq_false_iff_ne];omega
 generalize atL ya3 m=op at *
 clear hr hf hs hz hx hc hx0 hx1 h1 ihx ihy cells hS hlen ew L hop hm k
 unfold exV
 simp only [Ex.k,Ex.v,Ex.nm,Ex.args,vl0,List.length_cons,List.length_nil,Nat.zero_add] at *
 go_enter Tryz.func101,Tryz.ntmps101
 go_wp2_with fail
 refine hp.out.mono ?_
 rintro e w1 ⟨rfl,s1,o1⟩
 have kb:w1.heap[W.heap.size]?=some (.cells #[.int .i64 m,.int .i64 0,.int .i64 0,.string ⟨#[]⟩,.string ⟨#[]⟩,.slice (some ⟨g,o,none⟩) 2 ca] 29):=o1 _ _ (heap_alloc_new W _) (by simp;omega) (by intro c f e;cases e)
 have d5:w1.cell? ⟨W.heap.size,5,none⟩=some (.slice (some ⟨g,o,none⟩) 2 ca):=by rw [Lib.cell_of_heap kb];rfl
 have e0:=(HC.out _ w1 s1 _).trans t0
 have e1:=(HC.out _ w1 s1 _).trans t1
 have e2:=(HC.out _ w1 s1 _).trans t2
 have e3:=(HC.out _ w1 s1 _).trans t3
 have e4:=(HC.out _ w1 s1 _).trans t4
 have e5:=(HC.out _ w1 s1 _).trans t5
 have hq:=HR.out w1 s1
 unfold exV at hq
 have HQ:=yaa hq
 have O1:=yaa o1
 have KB:=yaa kb
 clear kb s1 o1 hq t0 t1 t2 t3 t4 t5 hp
 go_wp2_with fail
 refine HQ.out.mono ?_
 rintro e w2 ⟨rfl,s2,o2⟩
 have kb2:=o2 _ _ KB.out (by simp;omega) (by intro c f e;cases e)
 have d0:w2.cell? ⟨W.heap.size,0,none⟩=some (.int .i64 m):=by rw [Lib.cell_of_heap kb2];rfl
 have KB2:=yaa kb2
 have S2:=yaa s2
 have O2:=yaa o2
 clear kb2 s2 o2 e0 e1 e2 e3 e4 e5 d5
 go_wp2_with fail
 go_region_law (first|(go_simp;refine (hop2 _).mono ?_;rintro e w3 ⟨rfl,b3⟩;dsimp only)|(go_simp;refine (HF.out w3 (S2.out.below K.out ((Below.refl _ _).drew.trans b3))).mono ?_;rintro e w4 ⟨rfl,s4,o4⟩;dsimp only))
 all_goals
  have kb3:=(b3.block W.heap.size (by simpa using (ltS KB2.out))).trans KB2.out
  have kb4:=o4 _ _ kb3 (by simp;omega) (by intro c f e;cases e)
  have d5:w4.cell? ⟨W.heap.size,5,none⟩=some (.slice (some ⟨g,o,none⟩) 2 ca):=by rw [Lib.cell_of_heap kb4];rfl
  have f0:=(HC.out _ w4 s4 _).trans r0
  have f1:=(HC.out _ w4 s4 _).trans r1
  have f2:=(HC.out _ w4 s4 _).trans r2
  have f3:=(HC.out _ w4 s4 _).trans r3
  have f4:=(HC.out _ w4 s4 _).trans r4
  have f5:=(HC.out _ w4 s4 _).trans r5
  have hq:=HSS.out w4 s4
  unfold exV at hq
  have HQ:=yaa hq
  have kp:Hid (Lib.OthersKept 5 (some b) W w4):=fun q ob hq hne hty=>o4 q ob (yak (b:=b) b3 q ob (O2.out q ob (O1.out q ob ((Below.heap_alloc _ _ _ (ltS hq)).trans hq) hne hty) hne hty) hne hty) hne hty
  clear kb3 kb4 hq r0 r1 r2 r3 r4 r5 s4 o4 b3 d0
  go_wp2_with (first|(go_at_call 101;refine HQ.out.mono ?_;rintro e w5 ⟨rfl,s5,o5⟩;have HY:=yaa (HZ.out w5 s5);have O5:=yaa o5)|(go_at_call 94;refine HY.out.mono ?_;rintro e w6 ⟨rfl,s6,o6⟩))
  try simp only [Exit.inBlock]
  go_end0
  exact ⟨rfl,s6,fun q ob hq hne hty=>o6 q ob (O5.out q ob (kp.out q ob hq hne hty) hne hty) hne hty⟩
theorem ygf {v:Vl} (h:ybJ v=true):v.s.length≤1000:=by
 have h0:=yel h
 unfold ybT at h0
 split at h0
 ·split at h0
  ·rename_i hh;rw [hh.2];simp
  ·cases h0
 ·split at h0
  ·split at h0
   ·rename_i hh;rw [hh.2];simp
   ·cases h0
  ·split at h0
   ·split at h0
    ·rename_i hh
     have:=hh.2
     simp [yda] at this
     omega
    ·cases h0
   ·split at h0
    ·split at h0
     ·rename_i hh;rw [hh.2];simp
     ·cases h0
    ·cases h0
theorem yl5 {B b:Nat} {Tb:World→Prop} {w0:World} (k:ItoaOk B Tb) (v:Vl) (hv:ybJ v=true):PE B b Tb w0 (.mk 1 v [] []):=by
 intro u hu ws W hS hlen
 obtain ⟨ao,ca,us,rfl,-⟩:=hu.spread
 have ew:yat (.mk 1 v [] [])=[yaI v]:=by simp [yat]
 rw [ew] at hlen ⊢
 have h1:=hS.below k ((Below.refl W.heap.size W).alloc (Nat.le_refl _) (.cells #[.int .i64 1,.int .i64 v.k,.int .i64 v.n,.string ⟨v.s.toArray⟩,.string ⟨#[]⟩,.slice ao 0 ca] 29))
 have hp:=yaa ((yfz B b ws v _ k h1.tb h1.pr h1.hB hv (ygf hv) hlen).mono fun e w' q=>h1.step k q)
 clear h1 hS hlen hv ew
 unfold exV
 simp only [Ex.k,Ex.v,Ex.nm,Ex.args,List.length_nil] at *
 go_enter Tryz.func101,Tryz.ntmps101
 go_wp2_with (go_at_call 99;refine hp.out.mono ?_;rintro e w1 ⟨rfl,s1,o1⟩)
 try simp only [Exit.inBlock]
 go_end0
 exact ⟨rfl,s1,fun q ob hq hne hty=>o1 q ob ((Below.heap_alloc _ _ _ (ltS hq)).trans hq) hne hty⟩
theorem yl2 {B b:Nat} {Tb:World→Prop} {w0:World} (k:ItoaOk B Tb) (nm:List UInt8) (hn:nm≠[]):PE B b Tb w0 (.mk 2 vl0 nm []):=by
 intro u hu ws W hS hlen
 obtain ⟨ao,ca,us,rfl,-⟩:=hu.spread
 have ew:yat (.mk 2 vl0 nm [])=[nm]:=by simp [yat]
 rw [ew] at hlen ⊢
 have b0:=(Below.refl W.heap.size W).alloc (Nat.le_refl _) (.cells #[.int .i64 2,.int .i64 0,.int .i64 0,.string ⟨#[]⟩,.string ⟨nm.toArray⟩,.slice ao 0 ca] 29)
 have h1:=hS.below k b0.drew
 have h0:=ybG k h1 [nm] 1 #[.string ⟨nm.toArray⟩] rfl rfl (by intro x hx;simp at hx;subst hx;exact hn) hlen (by decide)
 rw [show (W.alloc (.cells #[.int .i64 2,.int .i64 0,.int .i64 0,.string ⟨#[]⟩,.string ⟨nm.toArray⟩,.slice ao 0 ca] 29)).drew.heap.size=W.heap.size+1 by simp] at h0
 have hp:=yaa h0
 have B0:=yaa b0.drew
 clear h1 h0 hS hlen ew hn b0
 unfold exV
 simp only [Ex.k,Ex.v,Ex.nm,Ex.args,vl0,List.length_nil] at *
 go_enter Tryz.func101,Tryz.ntmps101
 go_wp2_with fail
 go_region_law (first|(go_simp;refine hp.out.mono ?_;rintro e w2 ⟨rfl,s2,o2⟩;dsimp only))
 all_goals
  simp only [Exit.inBlock]
  go_end0
  exact ⟨rfl,s2,fun q ob hq hne hty=>o2 q ob (yak (b:=b) B0.out q ob hq hne hty) hne hty⟩
theorem yba {s:List UInt8} (h:yan s=true):s≠[]:=by
 rintro rfl
 exact absurd h (by decide)
theorem ygK {B b:Nat} {Tb:World→Prop} {w0:World} (k:ItoaOk B Tb) (hw:w0.heap.size≤B) {x:Ex} (h:RightE x):PE B b Tb w0 x:=by
 induction h with
 | val v hv=>exact yl5 k v hv
 | col nm hn=>exact yl2 k nm (yba hn)
 | not a _ ih=>exact yl3 k hw a ih
 | null a _ ih=>exact yjJ k hw a ih
 | two m hm a c _ _ iha ihc =>
  refine yl4 k hw m hm ?_ a c iha ihc
  have hc:m=5∨m=6∨m=7∨m=8∨m=9∨m=10∨m=11:=by omega
  rcases hc with rfl|rfl|rfl|rfl|rfl|rfl|rfl <;> decide
theorem yes {α:Type} (f:α→List (List UInt8)):∀ (l:List α) (x:α),l≠[]→yal f (l++[x])=yal f l++([[44]]++f x)
 | [],_,h=>absurd rfl h
 | [y],x,_=>by simp [yal]
 | y::z::r,x,_=>by
  have:=yes f (z::r) x (by simp)
  rw [List.cons_append,List.cons_append,yal,← List.cons_append,this,yal]
  simp
theorem yci {α:Type} (f:α→List (List UInt8)) (l:List α) (k:Nat) (x:α) (h:l[k]?=some x):yal f (l.take (k+1))=yal f (l.take k)++((if k=0 then [] else [[44]])++f x):=by
 rw [List.take_add_one,h]
 by_cases h0:k=0
 ·subst h0;simp [yal]
 ·rw [if_neg h0]
  refine yes f _ x ?_
  intro e
  have h1:=congrArg List.length e
  have h2:=(List.getElem?_eq_some_iff.1 h).1
  rw [List.length_take,List.length_nil] at h1
  omega
theorem yer {α:Type} (f:α→List (List UInt8)) (l:List α) (k:Nat):∃ r,yal f l=yal f (l.take k)++r:=by
 by_cases hk:l.length≤k
 ·exact ⟨[],by rw [List.take_of_length_le hk];simp⟩
 ·induction hd:l.length - k generalizing k with
  | zero=>omega
  | succ d ih =>
   obtain ⟨x,hx⟩:∃ x,l[k]?=some x:=⟨l[k]'(by omega),List.getElem?_eq_getElem (by omega)⟩
   by_cases h2:l.length≤k+1
   ·have:=yci f l k x hx
    rw [List.take_of_length_le h2] at this
    exact ⟨_,this⟩
   ·obtain ⟨r,hr⟩:=ih (k+1) h2 (by omega)
    rw [yci f l k x hx] at hr
    exact ⟨_,by rw [hr,List.append_assoc]⟩
theorem yf0 {B b:Nat} {Tb:World→Prop} {w0:World} {ws:List (List UInt8)} {W:World} (k:ItoaOk B Tb) (h:PSt B b Tb w0 ws W) (x:Cl) (h1:x.name≠[]) (h2:atL yaB x.ty≠[]) (hlen:(yaj (ws++yaV x)).length≤1000000) :
  Calls Tryz.prog 96 #[.pointer (some ⟨b,0,none⟩),.agg #[.string ⟨x.name.toArray⟩,.int .i64 x.ty]] W (ya0 B b Tb w0 (ws++yaV x) W) :=
 (yh2 B b ws x.name x.ty W h.pr h.hB h1 h2 hlen).mono fun _ _ q=>h.step k q
theorem yjK {B b:Nat} {Tb:World→Prop} {w0:World} (k:ItoaOk B Tb) (l:List Cl) (g o ca:Nat) (hg:g < B) (hrow:∀ i x,l[i]?=some x→w0.cell? ⟨g,o+i*2,none⟩=some (.string ⟨x.name.toArray⟩)∧w0.cell? ⟨g,o+i*2+1,none⟩=some (.int .i64 x.ty)) (hok:∀ x ∈ l,x.name≠[]∧atL yaB x.ty≠[]) (hn:l.length≤1000)
  (ws:List (List UInt8)) (W:World) (hS:PSt B b Tb w0 ws W) (hlen:(yaj (ws++yal yaV l)).length≤1000000) :
  Calls Tryz.prog 134 #[.pointer (some ⟨b,0,none⟩),.slice (some ⟨g,o,none⟩) l.length ca,.func (.func 96) #[.pointer (some ⟨b,0,none⟩)] #[]] W (ya0 B b Tb w0 (ws++yal yaV l) W):=by
 have HS:=yaa hS
 have HROW:=yaa hrow
 have HOK:=yaa hok
 have HLEN:=yaa hlen
 have K:=yaa k
 clear hS hrow hok hlen k
 go_enter Tryz.func134,Tryz.ntmps134
 go_wp2
 go_loopw [6,7,10] (fun _ _ i wl=>∃ j:Nat,j≤l.length∧i=.int .i64 (j:Int)∧Hid (PSt B b Tb w0 (ws++yal yaV (l.take j)) wl)∧Hid (Lib.OthersKept 5 (some b) W wl)) (fun _ _ i _=>l.length - (intOf i).toNat)
 case atStart=>exact ⟨0,Nat.zero_le _,rfl,by simpa [yal] using HS,Lib.OthersKept.refl _ _ _⟩
 case round =>
  obtain ⟨j,hj,rfl,R,HO⟩:=hrel
  by_cases hlt:j < l.length
  ·obtain ⟨x,hx⟩:∃ x,l[j]?=some x:=⟨l[j]'hlt,List.getElem?_eq_getElem hlt⟩
   have hlt':(j:Int) < (l.length:Int):=by omega
   have up:∀ q,wr.cell? ⟨g,q,none⟩=w0.cell? ⟨g,q,none⟩:=fun q=>R.out.bel.cell (p:=⟨g,q,none⟩) hg
   have e0:=(up _).trans (HROW.out j x hx).1
   have e1:=(up _).trans (HROW.out j x hx).2
   have hbw:b < wr.heap.size:=R.out.pr.lt
   have hxo:=HOK.out x (List.mem_of_getElem? hx)
   have ht:=yci yaV l j x hx
   have hle:(yaj (ws++yal yaV (l.take (j+1)))).length≤1000000:=by
    obtain ⟨r,hr⟩:=yer yaV l (j+1)
    refine Nat.le_trans (yaD _ r) ?_
    rw [List.append_assoc,← hr];exact HLEN.out
   have b0:=(Below.refl wr.heap.size wr).alloc (Nat.le_refl _) (.cells #[.string ⟨x.name.toArray⟩,.int .i64 x.ty] 56)
   by_cases h0:j=0
   ·rw [if_pos h0,List.nil_append] at ht
    rw [ht,← List.append_assoc] at hle
    have hq:=yaa (yf0 K.out (R.out.below K.out b0) x hxo.1 hxo.2 hle)
    have h0':¬ ((0:Int) < (j:Int)):=by omega
    have HT:=yaa ht
    have B0:=yaa b0
    clear hx up ht hle b0 hxo h0
    go_wp2_with (go_at_call 96;refine hq.out.mono ?_;rintro e w2 ⟨rfl,s2,o2⟩)
    go_roundw
    case rel=>exact ⟨j+1,by omega,by go_num,by rw [HT.out,← List.append_assoc];exact s2,fun q ob hq hne hty=>o2 q ob (yak (b:=b) B0.out q ob (HO.out q ob hq hne hty) hne hty) hne hty⟩
    case measure=>simp [intOf];omega
   ·rw [if_neg h0] at ht
    rw [ht,← List.append_assoc,← List.append_assoc] at hle
    have hp:=yaa (ycb K.out R.out (.cells #[.string ⟨x.name.toArray⟩,.int .i64 x.ty] 56) [[44]] 1 #[.string ⟨#[44]⟩] rfl rfl (by intro x hx;simp at hx;subst hx;decide) (Nat.le_trans (yaD _ (yaV x)) hle) (by decide))
    have hq:=yaa (fun w1 (s1:PSt B b Tb w0 (ws++yal yaV (l.take j)++[[44]]) w1)=>yf0 K.out s1 x hxo.1 hxo.2 hle)
    have h0':((0:Int) < (j:Int)):=by omega
    have HT:=yaa ht
    have B0:=yaa b0
    clear hx up ht hle b0 hxo h0
    go_wp2_with fail
    refine hp.out.mono ?_
    rintro e w1 ⟨rfl,s1,o1⟩
    have kb:=o1 _ _ (heap_alloc_new wr _) (by simp;omega) (by intro c f e;cases e)
    have d0:w1.cell? ⟨wr.heap.size,0,none⟩=some (.string ⟨x.name.toArray⟩):=by rw [Lib.cell_of_heap kb];rfl
    have d1:w1.cell? ⟨wr.heap.size,1,none⟩=some (.int .i64 x.ty):=by rw [Lib.cell_of_heap kb];rfl
    have HQ:=yaa (hq.out w1 s1)
    have O1:=yaa o1
    clear kb s1 o1 hp hq
    go_wp2_with (go_at_call 96;refine HQ.out.mono ?_;rintro e w2 ⟨rfl,s2,o2⟩)
    go_roundw
    case rel=>exact ⟨j+1,by omega,by go_num,by rw [HT.out,← List.append_assoc,← List.append_assoc];exact s2,fun q ob hq hne hty=>o2 q ob (O1.out q ob (yak (b:=b) B0.out q ob (HO.out q ob hq hne hty) hne hty) hne hty) hne hty⟩
    case measure=>simp [intOf];omega
  ·have hlt':¬ ((j:Int) < (l.length:Int)):=by omega
   go_wp2
   go_end0
   have e:l.take j=l:=List.take_of_length_le (by omega)
   refine ⟨rfl, ?_,HO.out⟩
   have:=R.out
   rwa [e] at this
theorem yh5 {B b:Nat} {Tb:World→Prop} {w0:World} {ws:List (List UInt8)} {W:World} (k:ItoaOk B Tb) (h:PSt B b Tb w0 ws W) (x:Vl) (h1:ybJ x=true) (hlen:(yaj (ws++[yaI x])).length≤1000000) :
  Calls Tryz.prog 99 #[.pointer (some ⟨b,0,none⟩),.agg #[.int .i64 x.k,.int .i64 x.n,.string ⟨x.s.toArray⟩]] W (ya0 B b Tb w0 (ws++[yaI x]) W) :=
 (yfz B b ws x W k h.tb h.pr h.hB h1 (ygf h1) hlen).mono fun _ _ q=>h.step k q
theorem yjL {B b:Nat} {Tb:World→Prop} {w0:World} (k:ItoaOk B Tb) (l:List Vl) (g o ca:Nat) (hg:g < B) (hrow:∀ i x,l[i]?=some x→w0.cell? ⟨g,o+i*3,none⟩=some (.int .i64 x.k)∧w0.cell? ⟨g,o+i*3+1,none⟩=some (.int .i64 x.n)∧w0.cell? ⟨g,o+i*3+2,none⟩=some (.string ⟨x.s.toArray⟩)) (hok:∀ x ∈ l,ybJ x=true) (hn:l.length≤1000)
  (ws:List (List UInt8)) (W:World) (hS:PSt B b Tb w0 ws W) (hlen:(yaj (ws++yal (fun v=>[yaI v]) l)).length≤1000000) :
  Calls Tryz.prog 135 #[.pointer (some ⟨b,0,none⟩),.slice (some ⟨g,o,none⟩) l.length ca,.func (.func 99) #[.pointer (some ⟨b,0,none⟩)] #[]] W (ya0 B b Tb w0 (ws++yal (fun v=>[yaI v]) l) W):=by
 have HS:=yaa hS
 have HROW:=yaa hrow
 have HOK:=yaa hok
 have HLEN:=yaa hlen
 have K:=yaa k
 clear hS hrow hok hlen k
 go_enter Tryz.func135,Tryz.ntmps135
 go_wp2
 go_loopw [6,7,10] (fun _ _ i wl=>∃ j:Nat,j≤l.length∧i=.int .i64 (j:Int)∧Hid (PSt B b Tb w0 (ws++yal (fun v=>[yaI v]) (l.take j)) wl)∧Hid (Lib.OthersKept 5 (some b) W wl)) (fun _ _ i _=>l.length - (intOf i).toNat)
 case atStart=>exact ⟨0,Nat.zero_le _,rfl,by simpa [yal] using HS,Lib.OthersKept.refl _ _ _⟩
 case round =>
  obtain ⟨j,hj,rfl,R,HO⟩:=hrel
  by_cases hlt:j < l.length
  ·obtain ⟨x,hx⟩:∃ x,l[j]?=some x:=⟨l[j]'hlt,List.getElem?_eq_getElem hlt⟩
   have hlt':(j:Int) < (l.length:Int):=by omega
   have up:∀ q,wr.cell? ⟨g,q,none⟩=w0.cell? ⟨g,q,none⟩:=fun q=>R.out.bel.cell (p:=⟨g,q,none⟩) hg
   have e0:=(up _).trans (HROW.out j x hx).1
   have e1:=(up _).trans (HROW.out j x hx).2.1
   have e2:=(up _).trans (HROW.out j x hx).2.2
   have hbw:b < wr.heap.size:=R.out.pr.lt
   have hxo:=HOK.out x (List.mem_of_getElem? hx)
   have ht:=yci (fun v=>[yaI v]) l j x hx
   have hle:(yaj (ws++yal (fun v=>[yaI v]) (l.take (j+1)))).length≤1000000:=by
    obtain ⟨r,hr⟩:=yer (fun v=>[yaI v]) l (j+1)
    refine Nat.le_trans (yaD _ r) ?_
    rw [List.append_assoc,← hr];exact HLEN.out
   have b0:=(Below.refl wr.heap.size wr).alloc (Nat.le_refl _) (.cells #[.int .i64 x.k,.int .i64 x.n,.string ⟨x.s.toArray⟩] 24)
   by_cases h0:j=0
   ·rw [if_pos h0,List.nil_append] at ht
    rw [ht,← List.append_assoc] at hle
    have hq:=yaa (yh5 K.out (R.out.below K.out b0) x hxo hle)
    have h0':¬ ((0:Int) < (j:Int)):=by omega
    have HT:=yaa ht
    have B0:=yaa b0
    clear hx up ht hle b0 hxo h0
    go_wp2_with (go_at_call 99;refine hq.out.mono ?_;rintro e w2 ⟨rfl,s2,o2⟩)
    go_roundw
    case rel=>exact ⟨j+1,by omega,by go_num,by rw [HT.out,← List.append_assoc];exact s2,fun q ob hq hne hty=>o2 q ob (yak (b:=b) B0.out q ob (HO.out q ob hq hne hty) hne hty) hne hty⟩
    case measure=>simp [intOf];omega
   ·rw [if_neg h0] at ht
    rw [ht,← List.append_assoc,← List.append_assoc] at hle
    have hp:=yaa (ycb K.out R.out (.cells #[.int .i64 x.k,.int .i64 x.n,.string ⟨x.s.toArray⟩] 24) [[44]] 1 #[.string ⟨#[44]⟩] rfl rfl (by intro x hx;simp at hx;subst hx;decide) (Nat.le_trans (yaD _ ([yaI x])) hle) (by decide))
    have hq:=yaa (fun w1 (s1:PSt B b Tb w0 (ws++yal (fun v=>[yaI v]) (l.take j)++[[44]]) w1)=>yh5 K.out s1 x hxo hle)
    have h0':((0:Int) < (j:Int)):=by omega
    have HT:=yaa ht
    have B0:=yaa b0
    clear hx up ht hle b0 hxo h0
    go_wp2_with fail
    refine hp.out.mono ?_
    rintro e w1 ⟨rfl,s1,o1⟩
    have kb:=o1 _ _ (heap_alloc_new wr _) (by simp;omega) (by intro c f e;cases e)
    have d0:w1.cell? ⟨wr.heap.size,0,none⟩=some (.int .i64 x.k):=by rw [Lib.cell_of_heap kb];rfl
    have d1:w1.cell? ⟨wr.heap.size,1,none⟩=some (.int .i64 x.n):=by rw [Lib.cell_of_heap kb];rfl
    have d2:w1.cell? ⟨wr.heap.size,2,none⟩=some (.string ⟨x.s.toArray⟩):=by rw [Lib.cell_of_heap kb];rfl
    have HQ:=yaa (hq.out w1 s1)
    have O1:=yaa o1
    clear kb s1 o1 hp hq
    go_wp2_with (go_at_call 99;refine HQ.out.mono ?_;rintro e w2 ⟨rfl,s2,o2⟩)
    go_roundw
    case rel=>exact ⟨j+1,by omega,by go_num,by rw [HT.out,← List.append_assoc,← List.append_assoc];exact s2,fun q ob hq hne hty=>o2 q ob (O1.out q ob (yak (b:=b) B0.out q ob (HO.out q ob hq hne hty) hne hty) hne hty) hne hty⟩
    case measure=>simp [intOf];omega
  ·have hlt':¬ ((j:Int) < (l.length:Int)):=by omega
   go_wp2
   go_end0
   have e:l.take j=l:=List.take_of_length_le (by omega)
   refine ⟨rfl, ?_,HO.out⟩
   have:=R.out
   rwa [e] at this
theorem yhR {B b:Nat} {Tb:World→Prop} {w0:World} (k:ItoaOk B Tb) (u f:Value) (vs:List (List UInt8)) (ws:List (List UInt8)) (W:World) (hS:PSt B b Tb w0 ws W)
  (hl:∀ w1,PSt B b Tb w0 (ws++[[40]]) w1→Calls Tryz.prog 134 #[.pointer (some ⟨b,0,none⟩),u,f] w1 (ya0 B b Tb w0 (ws++[[40]]++vs) w1)) (hlen:(yaj (ws++([[40]]++(vs++[[41]])))).length≤1000000) :
  Calls Tryz.prog 95 #[.pointer (some ⟨b,0,none⟩),u,f] W (ya0 B b Tb w0 (ws++([[40]]++(vs++[[41]]))) W):=by
 have hp:=yaa (ybG k hS [[40]] 1 #[.string ⟨#[40]⟩] rfl rfl (by intro x hx;simp at hx;subst hx;decide) (Nat.le_trans (yaD _ (vs++[[41]])) (by rw [List.append_assoc];exact hlen)) (by decide))
 have hf:∀ w2,PSt B b Tb w0 (ws++[[40]]++vs) w2→Calls Tryz.prog 94 #[.pointer (some ⟨b,0,none⟩),.slice (some ⟨w2.heap.size,0,none⟩) 1 1] (w2.alloc (.cells #[.string ⟨#[41]⟩] 9)) (ya0 B b Tb w0 (ws++([[40]]++(vs++[[41]]))) w2):=by
  intro w2 h2
  have:=ybG k h2 [[41]] 1 #[.string ⟨#[41]⟩] rfl rfl (by intro x hx;simp at hx;subst hx;decide) (by simp only [List.append_assoc] at hlen ⊢;exact hlen) (by decide)
  simp only [List.append_assoc] at this
  exact this
 have HF:=yaa hf
 have HL:=yaa hl
 clear hf hl hlen hS
 go_enter Tryz.func95,Tryz.ntmps95
 go_wp2_with fail
 refine hp.out.mono ?_
 rintro e w1 ⟨rfl,s1,o1⟩
 have HQ:=yaa (HL.out w1 s1)
 have O1:=yaa o1
 clear s1 o1 hp HL
 go_wp2_with (first|(go_at_call 134;refine HQ.out.mono ?_;rintro e w2 ⟨rfl,s2,o2⟩;have HZ:=yaa (HF.out w2 s2);have O2:=yaa o2)|(go_at_call 94;refine HZ.out.mono ?_;rintro e w3 ⟨rfl,s3,o3⟩))
 go_end0
 exact ⟨rfl,s3,fun q ob hq hne hty=>o3 q ob (O2.out q ob (O1.out q ob hq hne hty) hne hty) hne hty⟩
theorem yhS {B b:Nat} {Tb:World→Prop} {w0:World} (k:ItoaOk B Tb) (u f:Value) (vs:List (List UInt8)) (ws:List (List UInt8)) (W:World) (hS:PSt B b Tb w0 ws W)
  (hl:∀ w1,PSt B b Tb w0 (ws++[[40]]) w1→Calls Tryz.prog 135 #[.pointer (some ⟨b,0,none⟩),u,f] w1 (ya0 B b Tb w0 (ws++[[40]]++vs) w1)) (hlen:(yaj (ws++([[40]]++(vs++[[41]])))).length≤1000000) :
  Calls Tryz.prog 98 #[.pointer (some ⟨b,0,none⟩),u,f] W (ya0 B b Tb w0 (ws++([[40]]++(vs++[[41]]))) W):=by
 have hp:=yaa (ybG k hS [[40]] 1 #[.string ⟨#[40]⟩] rfl rfl (by intro x hx;simp at hx;subst hx;decide) (Nat.le_trans (yaD _ (vs++[[41]])) (by rw [List.append_assoc];exact hlen)) (by decide))
 have hf:∀ w2,PSt B b Tb w0 (ws++[[40]]++vs) w2→Calls Tryz.prog 94 #[.pointer (some ⟨b,0,none⟩),.slice (some ⟨w2.heap.size,0,none⟩) 1 1] (w2.alloc (.cells #[.string ⟨#[41]⟩] 9)) (ya0 B b Tb w0 (ws++([[40]]++(vs++[[41]]))) w2):=by
  intro w2 h2
  have:=ybG k h2 [[41]] 1 #[.string ⟨#[41]⟩] rfl rfl (by intro x hx;simp at hx;subst hx;decide) (by simp only [List.append_assoc] at hlen ⊢;exact hlen) (by decide)
  simp only [List.append_assoc] at this
  exact this
 have HF:=yaa hf
 have HL:=yaa hl
 clear hf hl hlen hS
 go_enter Tryz.func98,Tryz.ntmps98
 go_wp2_with fail
 refine hp.out.mono ?_
 rintro e w1 ⟨rfl,s1,o1⟩
 have HQ:=yaa (HL.out w1 s1)
 have O1:=yaa o1
 clear s1 o1 hp HL
 go_wp2_with (first|(go_at_call 135;refine HQ.out.mono ?_;rintro e w2 ⟨rfl,s2,o2⟩;have HZ:=yaa (HF.out w2 s2);have O2:=yaa o2)|(go_at_call 94;refine HZ.out.mono ?_;rintro e w3 ⟨rfl,s3,o3⟩))
 go_end0
 exact ⟨rfl,s3,fun q ob hq hne hty=>o3 q ob (O2.out q ob (O1.out q ob hq hne hty) hne hty) hne hty⟩
inductive RightW:Bool→Ex→Prop where
 | none:RightW true ex0
 | some (x:Ex) (h:RightE x) (hs:yaQ x≤15):RightW false x
inductive RightC:Cm→Prop where
 | create (n:List UInt8) (hn:yan n=true) (l:List Cl) (hl:l≠[]) (h5:l.length≤5) (h:∀ x ∈ l,yan x.name=true∧1≤x.ty∧x.ty≤3):RightC { cm0 with kind:=1,name:=n,cols:=l }
 | drop (n:List UInt8) (hn:yan n=true):RightC { cm0 with kind:=2,name:=n }
 | add (n c:List UInt8) (hn:yan n=true) (hc:yan c=true) (t:Int) (ht:1≤t∧t≤3) (v:Vl) (hv:ybJ v=true):RightC { cm0 with kind:=3,name:=n,column:=c,ty:=t,val:=v }
 | take (n c:List UInt8) (hn:yan n=true) (hc:yan c=true):RightC { cm0 with kind:=4,name:=n,column:=c }
 | column (n c o:List UInt8) (hn:yan n=true) (hc:yan c=true) (ho:yan o=true):RightC { cm0 with kind:=5,name:=n,column:=c,other:=o }
 | retype (n c:List UInt8) (hn:yan n=true) (hc:yan c=true) (t:Int) (ht:1≤t∧t≤3):RightC { cm0 with kind:=6,name:=n,column:=c,ty:=t }
 | table (n o:List UInt8) (hn:yan n=true) (ho:yan o=true):RightC { cm0 with kind:=7,name:=n,other:=o }
 | index (n c o:List UInt8) (hn:yan n=true) (hc:yan c=true) (ho:yan o=true):RightC { cm0 with kind:=8,name:=n,other:=o,column:=c }
 | unindex (n:List UInt8) (hn:yan n=true):RightC { cm0 with kind:=9,name:=n }
 | insert (n:List UInt8) (hn:yan n=true) (l:List Vl) (hl:l≠[]) (h5:l.length≤5) (h:∀ x ∈ l,ybJ x=true):RightC { cm0 with kind:=10,name:=n,vals:=l }
 | delete (n:List UInt8) (hn:yan n=true) (a:Bool) (x:Ex) (hw:RightW a x):RightC { cm0 with kind:=11,name:=n,all:=a,wh:=x }
 | update (n c:List UInt8) (hn:yan n=true) (hc:yan c=true) (y:Ex) (hy:RightE y) (hs:yaQ y≤15) (a:Bool) (x:Ex) (hw:RightW a x):RightC { cm0 with kind:=12,name:=n,column:=c,expr:=y,all:=a,wh:=x }
 | select (n:List UInt8) (hn:yan n=true) (l:List (List UInt8)) (h5:l.length≤5) (hl:∀ x ∈ l,yan x=true) (a:Bool) (x:Ex) (hw:RightW a x) (o:List UInt8) (ho:o=[]∨yan o=true) (m:Int) (hm:-1≤m∧m≤999999999) :
   RightC { cm0 with kind:=13,name:=n,fields:=l,all:=a,wh:=x,order:=o,limit:=m }
 | begin_:RightC { cm0 with kind:=14 }
 | commit:RightC { cm0 with kind:=15 }
 | rollback:RightC { cm0 with kind:=16 }
theorem yiH {c:Cm} (hr:ybF c=true) (hm:yaN c=false):RightC c:=by
 obtain ⟨k,name,other,column,cols,ty,val,vals,fields,expr,all,wh,order,limit⟩:=c
 simp only [ybF] at hr
 simp only [yaN,Bool.or_eq_false_iff,decide_eq_false_iff_not] at hm
 obtain ⟨⟨m1,m2⟩,m3⟩:=hm
 have m1:cols.length≤5∧vals.length≤5∧fields.length≤5:=by omega
 have hk:k=1∨k=2∨k=3∨k=4∨k=5∨k=6∨k=7∨k=8∨k=9∨k=10∨k=11∨k=12∨k=13∨k=14∨k=15∨k=16:=by
  simp only [yaW,Bool.and_eq_true,decide_eq_true_eq] at hr
  omega
 have hW:∀ b,(if b=false then exR wh=true else ybe wh=true)→RightW b wh:=by
  intro b hb
  cases b with
  | false=>exact .some wh (yeL _ wh (Nat.le_refl _) hb) (by omega)
  | true=>rw [yaK hb];exact .none
 rcases hk with rfl|rfl|rfl|rfl|rfl|rfl|rfl|rfl|rfl|rfl|rfl|rfl|rfl|rfl|rfl|rfl
 all_goals simp [yaW,yax] at hr
 all_goals obtain ⟨⟨⟨⟨⟨⟨h0,h1⟩,h2⟩,h3⟩,h4⟩,h5⟩,h6⟩:=hr
 ·obtain ⟨⟨⟨⟨a1,rfl⟩,rfl⟩,rfl⟩,-,a2⟩:=h0
  obtain ⟨⟨b1,rfl⟩,⟨rfl,rfl⟩,rfl⟩:=h1
  rw [ybk a2,yaK h5,yaK h6.1,h6.2]
  exact .create name a1 cols (by intro e;subst e;simp at b1) m1.1 h2
 ·obtain ⟨⟨⟨⟨a1,rfl⟩,rfl⟩,rfl⟩,-,a2⟩:=h0
  obtain ⟨⟨rfl,rfl⟩,⟨rfl,rfl⟩,rfl⟩:=h1
  rw [ybk a2]
  rw [yaK h5,yaK h6.1,h6.2]
  exact .drop name a1
 ·obtain ⟨⟨⟨⟨a1,rfl⟩,a3⟩,a4⟩,a2⟩:=h0
  obtain ⟨⟨rfl,rfl⟩,⟨rfl,rfl⟩,rfl⟩:=h1
  rw [yaK h5,yaK h6.1,h6.2]
  exact .add name column a1 a3 ty a4 val a2
 ·obtain ⟨⟨⟨⟨a1,rfl⟩,a3⟩,rfl⟩,-,a2⟩:=h0
  obtain ⟨⟨rfl,rfl⟩,⟨rfl,rfl⟩,rfl⟩:=h1
  rw [ybk a2]
  rw [yaK h5,yaK h6.1,h6.2]
  exact .take name column a1 a3
 ·obtain ⟨⟨⟨⟨a1,a5⟩,a3⟩,rfl⟩,-,a2⟩:=h0
  obtain ⟨⟨rfl,rfl⟩,⟨rfl,rfl⟩,rfl⟩:=h1
  rw [ybk a2]
  rw [yaK h5,yaK h6.1,h6.2]
  exact .column name column other a1 a3 a5
 ·obtain ⟨⟨⟨⟨a1,rfl⟩,a3⟩,a4⟩,-,a2⟩:=h0
  obtain ⟨⟨rfl,rfl⟩,⟨rfl,rfl⟩,rfl⟩:=h1
  rw [ybk a2]
  rw [yaK h5,yaK h6.1,h6.2]
  exact .retype name column a1 a3 ty a4
 ·obtain ⟨⟨⟨⟨a1,a5⟩,rfl⟩,rfl⟩,-,a2⟩:=h0
  obtain ⟨⟨rfl,rfl⟩,⟨rfl,rfl⟩,rfl⟩:=h1
  rw [ybk a2]
  rw [yaK h5,yaK h6.1,h6.2]
  exact .table name other a1 a5
 ·obtain ⟨⟨⟨⟨a1,a5⟩,a3⟩,rfl⟩,-,a2⟩:=h0
  obtain ⟨⟨rfl,rfl⟩,⟨rfl,rfl⟩,rfl⟩:=h1
  rw [ybk a2]
  rw [yaK h5,yaK h6.1,h6.2]
  exact .index name column other a1 a3 a5
 ·obtain ⟨⟨⟨⟨a1,rfl⟩,rfl⟩,rfl⟩,-,a2⟩:=h0
  obtain ⟨⟨rfl,rfl⟩,⟨rfl,rfl⟩,rfl⟩:=h1
  rw [ybk a2]
  rw [yaK h5,yaK h6.1,h6.2]
  exact .unindex name a1
 ·obtain ⟨⟨⟨⟨a1,rfl⟩,rfl⟩,rfl⟩,-,a2⟩:=h0
  obtain ⟨⟨rfl,b1⟩,⟨rfl,rfl⟩,rfl⟩:=h1
  rw [ybk a2]
  rw [yaK h5,yaK h6.1,h6.2]
  exact .insert name a1 vals (by intro e;subst e;simp at b1) m1.2.1 h3
 ·obtain ⟨⟨⟨⟨a1,rfl⟩,rfl⟩,rfl⟩,-,a2⟩:=h0
  obtain ⟨⟨rfl,rfl⟩,⟨rfl,rfl⟩,rfl⟩:=h1
  rw [ybk a2]
  rw [yaK h5]
  exact .delete name a1 all wh (hW all (by cases all <;> simpa using h6))
 ·obtain ⟨⟨⟨⟨a1,rfl⟩,a3⟩,rfl⟩,-,a2⟩:=h0
  obtain ⟨⟨rfl,rfl⟩,⟨rfl,rfl⟩,rfl⟩:=h1
  rw [ybk a2]
  exact .update name column a1 a3 expr (yeL _ expr (Nat.le_refl _) h5) (by omega) all wh (hW all (by cases all <;> simpa using h6))
 ·obtain ⟨⟨⟨⟨⟨a1,rfl⟩,rfl⟩,rfl⟩,-,a2⟩,rfl,rfl⟩:=h0
  rw [ybk a2,yaK h5]
  exact .select name a1 fields m1.2.2 h3 all wh (hW all (by cases all <;> simpa using h6)) order h4.2 limit h4.1
 ·obtain ⟨⟨⟨⟨rfl,rfl⟩,rfl⟩,rfl⟩,-,a2⟩:=h0
  obtain ⟨⟨rfl,rfl⟩,⟨rfl,rfl⟩,rfl⟩:=h1
  rw [ybk a2]
  rw [yaK h5,yaK h6.1,h6.2]
  exact .begin_
 ·obtain ⟨⟨⟨⟨rfl,rfl⟩,rfl⟩,rfl⟩,-,a2⟩:=h0
  obtain ⟨⟨rfl,rfl⟩,⟨rfl,rfl⟩,rfl⟩:=h1
  rw [ybk a2]
  rw [yaK h5,yaK h6.1,h6.2]
  exact .commit
 ·obtain ⟨⟨⟨⟨rfl,rfl⟩,rfl⟩,rfl⟩,-,a2⟩:=h0
  obtain ⟨⟨rfl,rfl⟩,⟨rfl,rfl⟩,rfl⟩:=h1
  rw [ybk a2]
  rw [yaK h5,yaK h6.1,h6.2]
  exact .rollback
theorem ygi {a:Bool} {x:Ex} (h:RightW a x) (c:Cm):∀ w ∈ yap { c with all:=a,wh:=x },okW w:=by
 cases h with
 | none=>intro w hw;simp [yap] at hw
 | some x hx hs =>
  intro w hw
  simp only [yap,Bool.false_eq_true,if_false,List.mem_cons] at hw
  rcases hw with rfl|hw
  ·exact ycn (by decide +kernel)
  ·exact ye1 hx w hw
theorem yfO {α:Type} {f:α→List (List UInt8)} (l:List α) (h:∀ x ∈ l,∀ w ∈ f x,okW w):∀ w ∈ yal f l,okW w:=by
 cases l with
 | nil=>intro w hw;simp [yal] at hw
 | cons x xs =>
  rw [yhm]
  intro w hw
  rcases List.mem_append.1 hw with hw|hw
  ·exact h x (List.mem_cons_self ..) w hw
  ·obtain ⟨y,hy,hw⟩:=List.mem_flatMap.1 hw
   rcases List.mem_cons.1 hw with rfl|hw
   ·exact ycn (by decide +kernel)
   ·exact h y (List.mem_cons_of_mem _ hy) w hw
theorem yof {m:Int} (h:0≤m∧m≤999999999):okW (Lib.itoa m):=by
 have e:Lib.itoa m=Lib.decDigits m.toNat:=by rw [Lib.itoa,if_neg (by omega)]
 rw [e]
 intro p hp
 rw [yew _ (by omega),List.mem_singleton] at hp
 rw [hp];exact yc5 _ (by omega)
theorem yhc {c:Cm} (h:RightC c):∀ w ∈ yaZ c,okW w:=by
 have kw:∀ {w:List UInt8},okB w=true→okW w:=fun h=>ycn h
 cases h with
 | create n hn l hl h5 h =>
  intro w hw
  have e:yaZ { cm0 with kind:=1,name:=n,cols:=l }=[w_create,w_table,n,[40]]++(yal yaV l++[[41]]):=rfl
  rw [e] at hw
  simp only [List.mem_append,List.mem_cons,List.not_mem_nil,or_false] at hw
  rcases hw with (rfl|rfl|rfl|rfl)|hw|rfl
  ·exact kw (by decide +kernel)
  ·exact kw (by decide +kernel)
  ·exact ya7 hn
  ·exact kw (by decide +kernel)
  ·refine yfO l (fun x hx w hw=>?_) w hw
   simp only [yaV,List.mem_cons,List.not_mem_nil,or_false] at hw
   rcases hw with rfl|rfl
   ·exact ya7 (h x hx).1
   ·exact kw (yd0 x.ty (h x hx).2).2.1
  ·exact kw (by decide +kernel)
 | drop n hn =>
  intro w hw
  have e:yaZ { cm0 with kind:=2,name:=n }=[w_drop,w_table,n]:=rfl
  rw [e] at hw
  simp only [List.mem_cons,List.not_mem_nil,or_false] at hw
  rcases hw with rfl|rfl|rfl <;> first|exact ya7 hn|exact kw (by decide +kernel)
 | add n c hn hc t ht v hv =>
  intro w hw
  have e:yaZ { cm0 with kind:=3,name:=n,column:=c,ty:=t,val:=v }=[w_alter,w_table,n,w_add,c,atL yaB t,w_default,yaI v]:=rfl
  rw [e] at hw
  simp only [List.mem_cons,List.not_mem_nil,or_false] at hw
  rcases hw with rfl|rfl|rfl|rfl|rfl|rfl|rfl|rfl <;> first|exact ya7 hn|exact ya7 hc|exact yem hv|exact kw (yd0 t ht).2.1|exact kw (by decide +kernel)
 | take n c hn hc =>
  intro w hw
  have e:yaZ { cm0 with kind:=4,name:=n,column:=c }=[w_alter,w_table,n,w_drop,c]:=rfl
  rw [e] at hw
  simp only [List.mem_cons,List.not_mem_nil,or_false] at hw
  rcases hw with rfl|rfl|rfl|rfl|rfl <;> first|exact ya7 hn|exact ya7 hc|exact kw (by decide +kernel)
 | column n c o hn hc ho =>
  intro w hw
  have e:yaZ { cm0 with kind:=5,name:=n,column:=c,other:=o }=[w_alter,w_table,n,w_rename,c,w_to,o]:=rfl
  rw [e] at hw
  simp only [List.mem_cons,List.not_mem_nil,or_false] at hw
  rcases hw with rfl|rfl|rfl|rfl|rfl|rfl|rfl <;> first|exact ya7 hn|exact ya7 hc|exact ya7 ho|exact kw (by decide +kernel)
 | retype n c hn hc t ht =>
  intro w hw
  have e:yaZ { cm0 with kind:=6,name:=n,column:=c,ty:=t }=[w_alter,w_table,n,w_retype,c,atL yaB t]:=rfl
  rw [e] at hw
  simp only [List.mem_cons,List.not_mem_nil,or_false] at hw
  rcases hw with rfl|rfl|rfl|rfl|rfl|rfl <;> first|exact ya7 hn|exact ya7 hc|exact kw (yd0 t ht).2.1|exact kw (by decide +kernel)
 | table n o hn ho =>
  intro w hw
  have e:yaZ { cm0 with kind:=7,name:=n,other:=o }=[w_alter,w_table,n,w_rename,w_to,o]:=rfl
  rw [e] at hw
  simp only [List.mem_cons,List.not_mem_nil,or_false] at hw
  rcases hw with rfl|rfl|rfl|rfl|rfl|rfl <;> first|exact ya7 hn|exact ya7 ho|exact kw (by decide +kernel)
 | index n c o hn hc ho =>
  intro w hw
  have e:yaZ { cm0 with kind:=8,name:=n,other:=o,column:=c }=[w_create,w_index,n,w_on,o,[40],c,[41]]:=rfl
  rw [e] at hw
  simp only [List.mem_cons,List.not_mem_nil,or_false] at hw
  rcases hw with rfl|rfl|rfl|rfl|rfl|rfl|rfl|rfl <;> first|exact ya7 hn|exact ya7 hc|exact ya7 ho|exact kw (by decide +kernel)
 | unindex n hn =>
  intro w hw
  have e:yaZ { cm0 with kind:=9,name:=n }=[w_drop,w_index,n]:=rfl
  rw [e] at hw
  simp only [List.mem_cons,List.not_mem_nil,or_false] at hw
  rcases hw with rfl|rfl|rfl <;> first|exact ya7 hn|exact kw (by decide +kernel)
 | insert n hn l hl h5 h =>
  intro w hw
  have e:yaZ { cm0 with kind:=10,name:=n,vals:=l }=[w_insert,w_into,n,w_values,[40]]++(yal (fun v=>[yaI v]) l++[[41]]):=rfl
  rw [e] at hw
  simp only [List.mem_append,List.mem_cons,List.not_mem_nil,or_false] at hw
  rcases hw with (rfl|rfl|rfl|rfl|rfl)|hw|rfl
  ·exact kw (by decide +kernel)
  ·exact kw (by decide +kernel)
  ·exact ya7 hn
  ·exact kw (by decide +kernel)
  ·exact kw (by decide +kernel)
  ·refine yfO l (fun x hx w hw=>?_) w hw
   simp only [List.mem_cons,List.not_mem_nil,or_false] at hw
   rw [hw];exact yem (h x hx)
  ·exact kw (by decide +kernel)
 | delete n hn a x hw =>
  intro w hm
  have e:yaZ { cm0 with kind:=11,name:=n,all:=a,wh:=x }=[w_delete,w_from,n]++yap { cm0 with kind:=11,name:=n,all:=a,wh:=x }:=rfl
  rw [e] at hm
  simp only [List.mem_append,List.mem_cons,List.not_mem_nil,or_false] at hm
  rcases hm with (rfl|rfl|rfl)|hm
  ·exact kw (by decide +kernel)
  ·exact kw (by decide +kernel)
  ·exact ya7 hn
  ·exact ygi hw { cm0 with kind:=11,name:=n } w hm
 | update n c hn hc y hy hs a x hw =>
  intro w hm
  have e:yaZ { cm0 with kind:=12,name:=n,column:=c,expr:=y,all:=a,wh:=x }=[w_update,n,w_set,c,[61]]++(yat y++yap { cm0 with kind:=12,name:=n,column:=c,expr:=y,all:=a,wh:=x }):=rfl
  rw [e] at hm
  simp only [List.mem_append,List.mem_cons,List.not_mem_nil,or_false] at hm
  rcases hm with (rfl|rfl|rfl|rfl|rfl)|hm|hm
  ·exact kw (by decide +kernel)
  ·exact ya7 hn
  ·exact kw (by decide +kernel)
  ·exact ya7 hc
  ·exact kw (by decide +kernel)
  ·exact ye1 hy w hm
  ·exact ygi hw { cm0 with kind:=12,name:=n,column:=c,expr:=y } w hm
 | select n hn l h5 hl a x hw o ho m hm =>
  intro w hq
  have e:yaZ { cm0 with kind:=13,name:=n,fields:=l,all:=a,wh:=x,order:=o,limit:=m }=w_select::((if l=[] then [[42]] else yal (fun s=>[s]) l)++([w_from,n]++(yap { cm0 with all:=a,wh:=x }++((if o=[] then [] else [w_order,w_by,o])++(if m < 0 then [] else [w_limit,Lib.itoa m]))))):=rfl
  rw [e] at hq
  simp only [List.mem_append,List.mem_cons,List.not_mem_nil,or_false] at hq
  rcases hq with rfl|hq|(rfl|rfl)|hq|hq|hq
  ·exact kw (by decide +kernel)
  ·split at hq
   ·simp only [List.mem_cons,List.not_mem_nil,or_false] at hq
    rw [hq];exact kw (by decide +kernel)
   ·refine yfO l (fun x hx w hw=>?_) w hq
    simp only [List.mem_cons,List.not_mem_nil,or_false] at hw
    rw [hw];exact ya7 (hl x hx)
  ·exact kw (by decide +kernel)
  ·exact ya7 hn
  ·exact ygi hw cm0 w hq
  ·split at hq
   ·simp at hq
   ·rename_i ho'
    simp only [List.mem_cons,List.not_mem_nil,or_false] at hq
    rcases hq with rfl|rfl|rfl
    ·exact kw (by decide +kernel)
    ·exact kw (by decide +kernel)
    ·exact ya7 (by rcases ho with h|h;exact absurd h ho';exact h)
  ·split at hq
   ·simp at hq
   ·simp only [List.mem_cons,List.not_mem_nil,or_false] at hq
    rcases hq with rfl|rfl
    ·exact kw (by decide +kernel)
    ·exact yof (by omega)
 | begin_=>intro w hw;have e:yaZ { cm0 with kind:=14 }=[w_begin]:=rfl;rw [e,List.mem_singleton] at hw;rw [hw];exact kw (by decide +kernel)
 | commit=>intro w hw;have e:yaZ { cm0 with kind:=15 }=[w_commit]:=rfl;rw [e,List.mem_singleton] at hw;rw [hw];exact kw (by decide +kernel)
 | rollback=>intro w hw;have e:yaZ { cm0 with kind:=16 }=[w_rollback]:=rfl;rw [e,List.mem_singleton] at hw;rw [hw];exact kw (by decide +kernel)
theorem ybw {B b:Nat} {Tb:World→Prop} {w0:World} (k:ItoaOk B Tb) (hw:w0.heap.size≤B) (c:Cm) (cv vv fv ea wa:Value) (hx:ExAt 0 w0 (exV c.wh.k c.wh.v c.wh.nm wa) c.wh) (hr:RightW c.all c.wh)
  (ws:List (List UInt8)) (W:World) (hS:PSt B b Tb w0 ws W) (hlen:(yaj (ws++yap c)).length≤1000000) :
  Calls Tryz.prog 100 #[.pointer (some ⟨b,0,none⟩),.agg (cmL c cv vv fv ea wa).toArray] W (ya0 B b Tb w0 (ws++yap c) W):=by
 have b0:=(Below.refl W.heap.size W).alloc (Nat.le_refl _) (.cells (cmL c cv vv fv ea wa).toArray 31)
 cases ha:c.all with
 | true =>
  have ew:yap c=[]:=by rw [yap,if_pos ha]
  rw [ew,List.append_nil]
  have hp:=yaa (hS.below k b0)
  have B0:=yaa b0
  clear hx hr hlen hS ew b0 hw k
  unfold cmL
  rw [ha]
  go_enter Tryz.func100,Tryz.ntmps100
  go_wp2
  go_end0
  refine ⟨rfl, ?_,yak ?_⟩
  ·have:=hp.out;unfold cmL at this;rw [ha] at this;exact this
  ·have:=B0.out;unfold cmL at this;rw [ha] at this;exact this
 | false =>
  have hre:RightE c.wh:=by
   rw [ha] at hr
   generalize c.wh=y at hr
   cases hr with
   | some x h hs=>exact h
  have ew:yap c=[w_where]++yat c.wh:=by rw [yap,if_neg (by rw [ha];decide)];rfl
  rw [ew] at hlen ⊢
  have hp:=ycb k hS (.cells (cmL c cv vv fv ea wa).toArray 31) [w_where] 1 #[.string ⟨w_where.toArray⟩] rfl rfl (by intro x hx;simp at hx;subst hx;decide) (Nat.le_trans (yaD _ (yat c.wh)) (by rw [List.append_assoc];exact hlen)) (by decide)
  have HQ:=yaa (fun w1 (s1:PSt B b Tb w0 (ws++[w_where]) w1)=>(ygK k hw hre) _ hx (ws++[w_where]) w1 s1 (by rw [List.append_assoc];exact hlen))
  have hbW:b < W.heap.size:=hS.pr.lt
  unfold cmL at hp ⊢
  rw [ha] at hp ⊢
  have HP:=yaa hp
  clear hx hr hre hlen hS ew b0 hw k hp
  go_enter Tryz.func100,Tryz.ntmps100
  go_wp2_with fail
  refine HP.out.mono ?_
  rintro e w1 ⟨rfl,s1,o1⟩
  have kb:=o1 _ _ (heap_alloc_new W _) (by simp;omega) (by intro c f e;cases e)
  have d18:w1.cell? ⟨W.heap.size,18,none⟩=some (.int .i64 c.wh.k):=by rw [Lib.cell_of_heap kb];rfl
  have d19:w1.cell? ⟨W.heap.size,19,none⟩=some (.int .i64 c.wh.v.k):=by rw [Lib.cell_of_heap kb];rfl
  have d20:w1.cell? ⟨W.heap.size,20,none⟩=some (.int .i64 c.wh.v.n):=by rw [Lib.cell_of_heap kb];rfl
  have d21:w1.cell? ⟨W.heap.size,21,none⟩=some (.string ⟨c.wh.v.s.toArray⟩):=by rw [Lib.cell_of_heap kb];rfl
  have d22:w1.cell? ⟨W.heap.size,22,none⟩=some (.string ⟨c.wh.nm.toArray⟩):=by rw [Lib.cell_of_heap kb];rfl
  have d23:w1.cell? ⟨W.heap.size,23,none⟩=some (wa):=by rw [Lib.cell_of_heap kb];rfl
  have hq:=HQ.out w1 s1
  unfold exV at hq
  have HZ:=yaa hq
  have O1:=yaa o1
  clear kb s1 o1 hq HP HQ
  go_wp2_with (go_at_call 101;refine HZ.out.mono ?_;rintro e w2 ⟨rfl,s2,o2⟩)
  go_end0
  refine ⟨rfl, ?_,fun q ob hq hne hty=>o2 q ob (O1.out q ob ((Below.heap_alloc _ _ _ (ltS hq)).trans hq) hne hty) hne hty⟩
  have:=s2
  rw [List.append_assoc] at this
  exact this
theorem yfx {B b:Nat} {Tb:World→Prop} {w0:World} (k:ItoaOk B Tb) (vb:Nat) (s:List UInt8) (hs:s≠[]) (ws:List (List UInt8)) (W:World) (hS:PSt B b Tb w0 ws W) (hv:W.cell? ⟨vb,0,none⟩=some (.pointer (some ⟨b,0,none⟩))) (hlen:(yaj (ws++[s])).length≤1000000) :
  Calls Tryz.prog 140 #[.string ⟨s.toArray⟩,.pointer (some ⟨vb,0,none⟩)] W (ya0 B b Tb w0 (ws++[s]) W):=by
 have hp:=yaa (ybG k hS [s] 1 #[.string ⟨s.toArray⟩] rfl rfl (by intro x hx;simp at hx;subst hx;exact hs) hlen (by decide))
 clear hS hlen hs k
 go_enter Tryz.func140,Tryz.ntmps140
 go_wp2_with (go_at_call 94;refine hp.out.mono ?_;rintro e w1 ⟨rfl,s1,o1⟩)
 go_end0
 exact ⟨rfl,s1,o1⟩
theorem yc7 {B b:Nat} {Tb:World→Prop} {w0:World} (k:ItoaOk B Tb) (l:List (List UInt8)) (g o ca vb:Nat) (hg:g < B) (hrow:∀ i x,l[i]?=some x→w0.cell? ⟨g,o+i,none⟩=some (.string ⟨x.toArray⟩)) (hok:∀ x ∈ l,x≠[]) (hn:l.length≤1000)
  (ws:List (List UInt8)) (W:World) (hS:PSt B b Tb w0 ws W) (hvb:W.heap[vb]?=some (.cells #[.pointer (some ⟨b,0,none⟩)] 117)) (hvn:vb≠b) (hlen:(yaj (ws++yal (fun s=>[s]) l)).length≤1000000) :
  Calls Tryz.prog 139 #[.pointer (some ⟨b,0,none⟩),.slice (some ⟨g,o,none⟩) l.length ca,.func (.func 140) #[] #[.pointer (some ⟨vb,0,none⟩)]] W (ya0 B b Tb w0 (ws++yal (fun s=>[s]) l) W):=by
 have HS:=yaa hS
 have HV:=yaa hvb
 have HROW:=yaa hrow
 have HOK:=yaa hok
 have HLEN:=yaa hlen
 have K:=yaa k
 clear hvb hS hrow hok hlen k
 go_enter Tryz.func139,Tryz.ntmps139
 go_wp2
 go_loopw [6,7,10] (fun _ _ i wl=>∃ j:Nat,j≤l.length∧i=.int .i64 (j:Int)∧Hid (PSt B b Tb w0 (ws++yal (fun s=>[s]) (l.take j)) wl)∧Hid (Lib.OthersKept 5 (some b) W wl)) (fun _ _ i _=>l.length - (intOf i).toNat)
 case atStart=>exact ⟨0,Nat.zero_le _,rfl,by simpa [yal] using HS,Lib.OthersKept.refl _ _ _⟩
 case round =>
  obtain ⟨j,hj,rfl,R,HO⟩:=hrel
  by_cases hlt:j < l.length
  ·obtain ⟨x,hx⟩:∃ x,l[j]?=some x:=⟨l[j]'hlt,List.getElem?_eq_getElem hlt⟩
   have hlt':(j:Int) < (l.length:Int):=by omega
   have up:∀ q,wr.cell? ⟨g,q,none⟩=w0.cell? ⟨g,q,none⟩:=fun q=>R.out.bel.cell (p:=⟨g,q,none⟩) hg
   have e0:=(up _).trans (HROW.out j x hx)
   have kv:wr.heap[vb]?=some (.cells #[.pointer (some ⟨b,0,none⟩)] 117):=HO.out _ _ HV.out (by simpa using hvn) (by intro c f e;cases e)
   have cv:wr.cell? ⟨vb,0,none⟩=some (.pointer (some ⟨b,0,none⟩)):=by rw [Lib.cell_of_heap kv];rfl
   have hbw:b < wr.heap.size:=R.out.pr.lt
   have hxo:=HOK.out x (List.mem_of_getElem? hx)
   have ht:=yci (fun s=>[s]) l j x hx
   have hle:(yaj (ws++yal (fun s=>[s]) (l.take (j+1)))).length≤1000000:=by
    obtain ⟨r,hr⟩:=yer (fun s=>[s]) l (j+1)
    refine Nat.le_trans (yaD _ r) ?_
    rw [List.append_assoc,← hr];exact HLEN.out
   by_cases h0:j=0
   ·rw [if_pos h0,List.nil_append] at ht
    rw [ht,← List.append_assoc] at hle
    have hq:=yaa (yfx K.out vb x hxo _ wr R.out cv hle)
    have h0':¬ ((0:Int) < (j:Int)):=by omega
    have HT:=yaa ht
    have KV:=yaa kv
    clear hx up ht hle hxo h0 kv cv
    go_wp2_with (go_at_call 140;refine hq.out.mono ?_;rintro e w2 ⟨rfl,s2,o2⟩)
    go_roundw
    case rel=>exact ⟨j+1,by omega,by go_num,by rw [HT.out,← List.append_assoc];exact s2,fun q ob hq hne hty=>o2 q ob (HO.out q ob hq hne hty) hne hty⟩
    case measure=>simp [intOf];omega
   ·rw [if_neg h0] at ht
    rw [ht,← List.append_assoc,← List.append_assoc] at hle
    have hp:=yaa (ybG K.out R.out [[44]] 1 #[.string ⟨#[44]⟩] rfl rfl (by intro x hx;simp at hx;subst hx;decide) (Nat.le_trans (yaD _ ([x])) hle) (by decide))
    have hq:=yaa (fun w1 (s1:PSt B b Tb w0 (ws++yal (fun s=>[s]) (l.take j)++[[44]]) w1) (hc:w1.cell? ⟨vb,0,none⟩=some (.pointer (some ⟨b,0,none⟩)))=>yfx K.out vb x hxo _ w1 s1 hc hle)
    have h0':((0:Int) < (j:Int)):=by omega
    have HT:=yaa ht
    have KV:=yaa kv
    clear hx up ht hle hxo h0 kv cv
    go_wp2_with fail
    refine hp.out.mono ?_
    rintro e w1 ⟨rfl,s1,o1⟩
    have kb:=o1 _ _ KV.out (by simpa using hvn) (by intro c f e;cases e)
    have d0:w1.cell? ⟨vb,0,none⟩=some (.pointer (some ⟨b,0,none⟩)):=by rw [Lib.cell_of_heap kb];rfl
    have HQ:=yaa (hq.out w1 s1 d0)
    have O1:=yaa o1
    clear kb s1 o1 hp hq
    go_wp2_with (go_at_call 140;refine HQ.out.mono ?_;rintro e w2 ⟨rfl,s2,o2⟩)
    go_roundw
    case rel=>exact ⟨j+1,by omega,by go_num,by rw [HT.out,← List.append_assoc,← List.append_assoc];exact s2,fun q ob hq hne hty=>o2 q ob (O1.out q ob (HO.out q ob hq hne hty) hne hty) hne hty⟩
    case measure=>simp [intOf];omega
  ·have hlt':¬ ((j:Int) < (l.length:Int)):=by omega
   go_wp2
   go_end0
   have e:l.take j=l:=List.take_of_length_le (by omega)
   refine ⟨rfl, ?_,HO.out⟩
   have:=R.out
   rwa [e] at this
theorem ybs {B b:Nat} {Tb:World→Prop} {w0:World} {ws:List (List UInt8)} {W:World} (k:ItoaOk B Tb) (h:PSt B b Tb w0 ws W) (o:Obj) (ts:List (List UInt8)) (n:Nat) (cs:Array Value) (hcs:cs.toList=ts.map fun x=>Value.string ⟨x.toArray⟩) (hn:ts.length=n) (hne:∀ x ∈ ts,x≠[]) (hlen:(yaj (ws++ts)).length≤1000000) (hsm:n≤1000000) :
  Calls Tryz.prog 94 #[.pointer (some ⟨b,0,none⟩),.slice (some ⟨W.heap.size+1,0,none⟩) n n] ((W.alloc o).drew.alloc (.cells cs 9)) (ya0 B b Tb w0 (ws++ts) (W.alloc o).drew):=by
 have h1:=h.below k ((Below.refl W.heap.size W).alloc (Nat.le_refl _) o).drew
 have:=ybG k h1 ts n cs hcs hn hne hlen hsm
 rw [show (W.alloc o).drew.heap.size=W.heap.size+1 by simp] at this
 exact this
theorem ysz {B b:Nat} {Tb:World→Prop} {w0:World} (k:ItoaOk B Tb) (n:List UInt8) (hn:n≠[]) (cv vv fv ea wa:Value) (ws:List (List UInt8)) (W:World) (hS:PSt B b Tb w0 ws W) (hlen:(yaj (ws++[w_drop,w_table,n])).length≤1000000) :
  Calls Tryz.prog 46 #[.pointer (some ⟨b,0,none⟩),.agg (cmL { cm0 with kind:=2,name:=n } cv vv fv ea wa).toArray] W (ya0 B b Tb w0 (ws++[w_drop,w_table,n]) W):=by
 have hp:=ybs k hS (.cells (cmL { cm0 with kind:=2,name:=n } cv vv fv ea wa).toArray 31) [w_drop,w_table,n] 3 #[.string ⟨w_drop.toArray⟩,.string ⟨w_table.toArray⟩,.string ⟨n.toArray⟩] rfl rfl (by intro x hx;simp at hx;rcases hx with rfl|rfl|rfl <;> first|assumption|decide) hlen (by decide)
 have B0:=yaa (((Below.refl W.heap.size W).alloc (Nat.le_refl _) (.cells (cmL { cm0 with kind:=2,name:=n } cv vv fv ea wa).toArray 31)).drew)
 unfold cmL at hp B0 ⊢
 simp only [cm0] at hp B0 ⊢
 have HP:=yaa hp
 clear hp hlen hS k hn
 go_enter Tryz.func46,Tryz.ntmps46
 go_wp2_with fail
 go_region_law (first|(go_simp;refine HP.out.mono ?_;rintro e w2 ⟨rfl,s2,o2⟩;dsimp only))
 all_goals
  simp only [Exit.inBlock]
  go_end0
  exact ⟨rfl,s2,fun q ob hq hne hty=>o2 q ob (yak (b:=b) B0.out q ob hq hne hty) hne hty⟩
theorem ysG {B b:Nat} {Tb:World→Prop} {w0:World} (k:ItoaOk B Tb) (n:List UInt8) (hn:n≠[]) (cv vv fv ea wa:Value) (ws:List (List UInt8)) (W:World) (hS:PSt B b Tb w0 ws W) (hlen:(yaj (ws++[w_drop,w_index,n])).length≤1000000) :
  Calls Tryz.prog 46 #[.pointer (some ⟨b,0,none⟩),.agg (cmL { cm0 with kind:=9,name:=n } cv vv fv ea wa).toArray] W (ya0 B b Tb w0 (ws++[w_drop,w_index,n]) W):=by
 have hp:=ybs k hS (.cells (cmL { cm0 with kind:=9,name:=n } cv vv fv ea wa).toArray 31) [w_drop,w_index,n] 3 #[.string ⟨w_drop.toArray⟩,.string ⟨w_index.toArray⟩,.string ⟨n.toArray⟩] rfl rfl (by intro x hx;simp at hx;rcases hx with rfl|rfl|rfl <;> first|assumption|decide) hlen (by decide)
 have B0:=yaa (((Below.refl W.heap.size W).alloc (Nat.le_refl _) (.cells (cmL { cm0 with kind:=9,name:=n } cv vv fv ea wa).toArray 31)).drew)
 unfold cmL at hp B0 ⊢
 simp only [cm0] at hp B0 ⊢
 have HP:=yaa hp
 clear hp hlen hS k hn
 go_enter Tryz.func46,Tryz.ntmps46
 go_wp2_with fail
 go_region_law (first|(go_simp;refine HP.out.mono ?_;rintro e w2 ⟨rfl,s2,o2⟩;dsimp only))
 all_goals
  simp only [Exit.inBlock]
  go_end0
  exact ⟨rfl,s2,fun q ob hq hne hty=>o2 q ob (yak (b:=b) B0.out q ob hq hne hty) hne hty⟩
theorem ysF {B b:Nat} {Tb:World→Prop} {w0:World} (k:ItoaOk B Tb) (n c o:List UInt8) (hn:n≠[]) (hc:c≠[]) (ho:o≠[]) (cv vv fv ea wa:Value) (ws:List (List UInt8)) (W:World) (hS:PSt B b Tb w0 ws W) (hlen:(yaj (ws++[w_create,w_index,n,w_on,o,[40],c,[41]])).length≤1000000) :
  Calls Tryz.prog 46 #[.pointer (some ⟨b,0,none⟩),.agg (cmL { cm0 with kind:=8,name:=n,other:=o,column:=c } cv vv fv ea wa).toArray] W (ya0 B b Tb w0 (ws++[w_create,w_index,n,w_on,o,[40],c,[41]]) W):=by
 have hp:=ybs k hS (.cells (cmL { cm0 with kind:=8,name:=n,other:=o,column:=c } cv vv fv ea wa).toArray 31) [w_create,w_index,n,w_on,o,[40],c,[41]] 8 #[.string ⟨w_create.toArray⟩,.string ⟨w_index.toArray⟩,.string ⟨n.toArray⟩,.string ⟨w_on.toArray⟩,.string ⟨o.toArray⟩,.string ⟨[40].toArray⟩,.string ⟨c.toArray⟩,.string ⟨[41].toArray⟩] rfl rfl (by intro x hx;simp at hx;rcases hx with rfl|rfl|rfl|rfl|rfl|rfl|rfl|rfl <;> first|assumption|decide) hlen (by decide)
 have B0:=yaa (((Below.refl W.heap.size W).alloc (Nat.le_refl _) (.cells (cmL { cm0 with kind:=8,name:=n,other:=o,column:=c } cv vv fv ea wa).toArray 31)).drew)
 unfold cmL at hp B0 ⊢
 simp only [cm0] at hp B0 ⊢
 have HP:=yaa hp
 clear hp hlen hS k hn hc ho
 go_enter Tryz.func46,Tryz.ntmps46
 go_wp2_with fail
 go_region_law (first|(go_simp;refine HP.out.mono ?_;rintro e w2 ⟨rfl,s2,o2⟩;dsimp only))
 all_goals
  simp only [Exit.inBlock]
  go_end0
  exact ⟨rfl,s2,fun q ob hq hne hty=>o2 q ob (yak (b:=b) B0.out q ob hq hne hty) hne hty⟩
theorem yqK {B b:Nat} {Tb:World→Prop} {w0:World} (k:ItoaOk B Tb)  (cv vv fv ea wa:Value) (ws:List (List UInt8)) (W:World) (hS:PSt B b Tb w0 ws W) (hlen:(yaj (ws++[w_begin])).length≤1000000) :
  Calls Tryz.prog 46 #[.pointer (some ⟨b,0,none⟩),.agg (cmL { cm0 with kind:=14 } cv vv fv ea wa).toArray] W (ya0 B b Tb w0 (ws++[w_begin]) W):=by
 have hp:=ycb k hS (.cells (cmL { cm0 with kind:=14 } cv vv fv ea wa).toArray 31) [w_begin] 1 #[.string ⟨w_begin.toArray⟩] rfl rfl (by intro x hx;simp at hx;rcases hx with rfl <;> first|assumption|decide) hlen (by decide)
 have B0:=yaa (((Below.refl W.heap.size W).alloc (Nat.le_refl _) (.cells (cmL { cm0 with kind:=14 } cv vv fv ea wa).toArray 31)).drew)
 unfold cmL at hp B0 ⊢
 simp only [cm0] at hp B0 ⊢
 have HP:=yaa hp
 clear hp hlen hS k
 go_enter Tryz.func46,Tryz.ntmps46
 go_wp2_with (go_at_call 94;refine HP.out.mono ?_;rintro e w1 ⟨rfl,s1,o1⟩)
 try simp only [Exit.inBlock]
 go_end0
 exact ⟨rfl,s1,fun q ob hq hne hty=>o1 q ob ((Below.heap_alloc _ _ _ (ltS hq)).trans hq) hne hty⟩
theorem yqL {B b:Nat} {Tb:World→Prop} {w0:World} (k:ItoaOk B Tb)  (cv vv fv ea wa:Value) (ws:List (List UInt8)) (W:World) (hS:PSt B b Tb w0 ws W) (hlen:(yaj (ws++[w_commit])).length≤1000000) :
  Calls Tryz.prog 46 #[.pointer (some ⟨b,0,none⟩),.agg (cmL { cm0 with kind:=15 } cv vv fv ea wa).toArray] W (ya0 B b Tb w0 (ws++[w_commit]) W):=by
 have hp:=ycb k hS (.cells (cmL { cm0 with kind:=15 } cv vv fv ea wa).toArray 31) [w_commit] 1 #[.string ⟨w_commit.toArray⟩] rfl rfl (by intro x hx;simp at hx;rcases hx with rfl <;> first|assumption|decide) hlen (by decide)
 have B0:=yaa (((Below.refl W.heap.size W).alloc (Nat.le_refl _) (.cells (cmL { cm0 with kind:=15 } cv vv fv ea wa).toArray 31)).drew)
 unfold cmL at hp B0 ⊢
 simp only [cm0] at hp B0 ⊢
 have HP:=yaa hp
 clear hp hlen hS k
 go_enter Tryz.func46,Tryz.ntmps46
 go_wp2_with (go_at_call 94;refine HP.out.mono ?_;rintro e w1 ⟨rfl,s1,o1⟩)
 try simp only [Exit.inBlock]
 go_end0
 exact ⟨rfl,s1,fun q ob hq hne hty=>o1 q ob ((Below.heap_alloc _ _ _ (ltS hq)).trans hq) hne hty⟩
theorem yqM {B b:Nat} {Tb:World→Prop} {w0:World} (k:ItoaOk B Tb)  (cv vv fv ea wa:Value) (ws:List (List UInt8)) (W:World) (hS:PSt B b Tb w0 ws W) (hlen:(yaj (ws++[w_rollback])).length≤1000000) :
  Calls Tryz.prog 46 #[.pointer (some ⟨b,0,none⟩),.agg (cmL { cm0 with kind:=16 } cv vv fv ea wa).toArray] W (ya0 B b Tb w0 (ws++[w_rollback]) W):=by
 have hp:=ycb k hS (.cells (cmL { cm0 with kind:=16 } cv vv fv ea wa).toArray 31) [w_rollback] 1 #[.string ⟨w_rollback.toArray⟩] rfl rfl (by intro x hx;simp at hx;rcases hx with rfl <;> first|assumption|decide) hlen (by decide)
 have B0:=yaa (((Below.refl W.heap.size W).alloc (Nat.le_refl _) (.cells (cmL { cm0 with kind:=16 } cv vv fv ea wa).toArray 31)).drew)
 unfold cmL at hp B0 ⊢
 simp only [cm0] at hp B0 ⊢
 have HP:=yaa hp
 clear hp hlen hS k
 go_enter Tryz.func46,Tryz.ntmps46
 go_wp2_with (go_at_call 94;refine HP.out.mono ?_;rintro e w1 ⟨rfl,s1,o1⟩)
 try simp only [Exit.inBlock]
 go_end0
 exact ⟨rfl,s1,fun q ob hq hne hty=>o1 q ob ((Below.heap_alloc _ _ _ (ltS hq)).trans hq) hne hty⟩
theorem yqH {B b:Nat} {Tb:World→Prop} {w0:World} (k:ItoaOk B Tb) (hw:w0.heap.size≤B) (n:List UInt8) (hn:n≠[]) (a:Bool) (x:Ex) (hr:RightW a x) (cv vv fv ea wa:Value) (hi:CmIn 0 w0 { cm0 with kind:=11,name:=n,all:=a,wh:=x } cv vv fv ea wa) (ws:List (List UInt8)) (W:World) (hS:PSt B b Tb w0 ws W) (hlen:(yaj (ws++([w_delete,w_from,n]++yap { cm0 with kind:=11,name:=n,all:=a,wh:=x }))).length≤1000000) :
  Calls Tryz.prog 46 #[.pointer (some ⟨b,0,none⟩),.agg (cmL { cm0 with kind:=11,name:=n,all:=a,wh:=x } cv vv fv ea wa).toArray] W (ya0 B b Tb w0 (ws++([w_delete,w_from,n]++yap { cm0 with kind:=11,name:=n,all:=a,wh:=x })) W):=by
 have hp:=ybs k hS (.cells (cmL { cm0 with kind:=11,name:=n,all:=a,wh:=x } cv vv fv ea wa).toArray 31) [w_delete,w_from,n] 3 #[.string ⟨w_delete.toArray⟩,.string ⟨w_from.toArray⟩,.string ⟨n.toArray⟩] rfl rfl (by intro x hx;simp at hx;rcases hx with rfl|rfl|rfl <;> first|assumption|decide) (Nat.le_trans (yaD _ (yap { cm0 with kind:=11,name:=n,all:=a,wh:=x })) (by rw [List.append_assoc];exact hlen)) (by decide)
 have HQ:=yaa (fun w1 (s1:PSt B b Tb w0 (ws++[w_delete,w_from,n]) w1)=>ybw k hw { cm0 with kind:=11,name:=n,all:=a,wh:=x } cv vv fv ea wa hi.wh hr (ws++[w_delete,w_from,n]) w1 s1 (by rw [List.append_assoc];exact hlen))
 have B0:=yaa (((Below.refl W.heap.size W).alloc (Nat.le_refl _) (.cells (cmL { cm0 with kind:=11,name:=n,all:=a,wh:=x } cv vv fv ea wa).toArray 31)).drew)
 have hbW:b < W.heap.size:=hS.pr.lt
 have HI:=yaa hi
 have HP:=yaa hp
 clear hp hlen hS k hn hi hr hw
 unfold cmL
 simp only [cm0]
 go_enter Tryz.func46,Tryz.ntmps46
 go_wp2_with fail
 go_region_law (first|(go_simp;refine HP.out.mono ?_;rintro e w2 ⟨rfl,s2,o2⟩;dsimp only))
 all_goals
  have kb:=o2 _ _ (show (W.alloc _).drew.heap[W.heap.size]?=_ from heap_alloc_new W _) (by simp;omega) (by intro c f e;cases e)
  have HZ:=yaa (HQ.out w2 s2)
  have O2:=yaa o2
  clear s2 o2 HP HQ
  go_wp2_with (first|(refine yag 31 _ rfl rfl _ (cmL { cm0 with kind:=11,name:=n,all:=a,wh:=x } cv vv fv ea wa) 31 _ rfl (by exact kb) Tryz.underlying31 rfl Tryz.size31 ?_)|(go_at_call 100;refine HZ.out.mono ?_;rintro e w3 ⟨rfl,s3,o3⟩))
  try simp only [Exit.inBlock]
  go_end0
  refine ⟨rfl, ?_,fun q ob hq hne hty=>o3 q ob (O2.out q ob (yak (b:=b) B0.out q ob hq hne hty) hne hty) hne hty⟩
  have:=s3
  rw [List.append_assoc] at this
  exact this
theorem yqI {B b:Nat} {Tb:World→Prop} {w0:World} (k:ItoaOk B Tb) (hw:w0.heap.size≤B) (n c:List UInt8) (hn:n≠[]) (hc:c≠[]) (y:Ex) (hy:RightE y) (a:Bool) (x:Ex) (hr:RightW a x) (cv vv fv ea wa:Value) (hi:CmIn 0 w0 { cm0 with kind:=12,name:=n,column:=c,expr:=y,all:=a,wh:=x } cv vv fv ea wa) (ws:List (List UInt8)) (W:World) (hS:PSt B b Tb w0 ws W) (hlen:(yaj (ws++([w_update,n,w_set,c,[61]]++(yat y++yap { cm0 with kind:=12,name:=n,column:=c,expr:=y,all:=a,wh:=x })))).length≤1000000) :
  Calls Tryz.prog 46 #[.pointer (some ⟨b,0,none⟩),.agg (cmL { cm0 with kind:=12,name:=n,column:=c,expr:=y,all:=a,wh:=x } cv vv fv ea wa).toArray] W (ya0 B b Tb w0 (ws++([w_update,n,w_set,c,[61]]++(yat y++yap { cm0 with kind:=12,name:=n,column:=c,expr:=y,all:=a,wh:=x }))) W):=by
 have L:∀ p q:List (List UInt8),p++q=ws++([w_update,n,w_set,c,[61]]++(yat y++yap { cm0 with kind:=12,name:=n,column:=c,expr:=y,all:=a,wh:=x }))→(yaj p).length≤1000000:=fun p q e=>Nat.le_trans (yaD p q) (by rw [e];exact hlen)
 have hp:=ybs k hS (.cells (cmL { cm0 with kind:=12,name:=n,column:=c,expr:=y,all:=a,wh:=x } cv vv fv ea wa).toArray 31) [w_update,n,w_set,c,[61]] 5 #[.string ⟨w_update.toArray⟩,.string ⟨n.toArray⟩,.string ⟨w_set.toArray⟩,.string ⟨c.toArray⟩,.string ⟨[61].toArray⟩] rfl rfl (by intro x hx;simp at hx;rcases hx with rfl|rfl|rfl|rfl|rfl <;> first|assumption|decide) (L _ ((yat y++yap { cm0 with kind:=12,name:=n,column:=c,expr:=y,all:=a,wh:=x })) (by simp only [List.append_assoc])) (by decide)
 have B0:=yaa (((Below.refl W.heap.size W).alloc (Nat.le_refl _) (.cells (cmL { cm0 with kind:=12,name:=n,column:=c,expr:=y,all:=a,wh:=x } cv vv fv ea wa).toArray 31)).drew)
 have hbW:b < W.heap.size:=hS.pr.lt
 have HE:=yaa (fun w1 (s1:PSt B b Tb w0 (ws++[w_update,n,w_set,c,[61]]) w1)=>(ygK k hw hy) _ hi.expr (ws++[w_update,n,w_set,c,[61]]) w1 s1 (L _ (yap { cm0 with kind:=12,name:=n,column:=c,expr:=y,all:=a,wh:=x }) (by simp only [List.append_assoc])))
 have HQ:=yaa (fun w1 (s1:PSt B b Tb w0 (ws++[w_update,n,w_set,c,[61]]++yat y) w1)=>ybw k hw { cm0 with kind:=12,name:=n,column:=c,expr:=y,all:=a,wh:=x } cv vv fv ea wa hi.wh hr _ w1 s1 (L _ [] (by simp only [List.append_assoc,List.append_nil])))
 have HP:=yaa hp
 clear hp hlen hS L k hn hc hy hi hr hw
 unfold cmL
 simp only [cm0]
 go_enter Tryz.func46,Tryz.ntmps46
 go_wp2_with fail
 go_region_law (first|(go_simp;refine HP.out.mono ?_;rintro e w2 ⟨rfl,s2,o2⟩;dsimp only))
 all_goals
  have kb:=o2 _ _ (show (W.alloc _).drew.heap[W.heap.size]?=_ from heap_alloc_new W _) (by simp;omega) (by intro c f e;cases e)
  have d11:w2.cell? ⟨W.heap.size,11,none⟩=some (.int .i64 y.k):=by rw [Lib.cell_of_heap kb];rfl
  have d12:w2.cell? ⟨W.heap.size,12,none⟩=some (.int .i64 y.v.k):=by rw [Lib.cell_of_heap kb];rfl
  have d13:w2.cell? ⟨W.heap.size,13,none⟩=some (.int .i64 y.v.n):=by rw [Lib.cell_of_heap kb];rfl
  have d14:w2.cell? ⟨W.heap.size,14,none⟩=some (.string ⟨y.v.s.toArray⟩):=by rw [Lib.cell_of_heap kb];rfl
  have d15:w2.cell? ⟨W.heap.size,15,none⟩=some (.string ⟨y.nm.toArray⟩):=by rw [Lib.cell_of_heap kb];rfl
  have d16:w2.cell? ⟨W.heap.size,16,none⟩=some (ea):=by rw [Lib.cell_of_heap kb];rfl
  have he:=HE.out w2 s2
  unfold exV at he
  have HZ:=yaa he
  have O2:=yaa o2
  have KB:=yaa kb
  clear s2 o2 HP HE he kb
  go_wp2_with fail
  refine HZ.out.mono ?_
  rintro e w3 ⟨rfl,s3,o3⟩
  have kb:=o3 _ _ KB.out (by simp;omega) (by intro c f e;cases e)
  have HY:=yaa (HQ.out w3 s3)
  have O3:=yaa o3
  clear s3 o3 HQ HZ d11 d12 d13 d14 d15 d16
  go_wp2_with (first|(refine yag 31 _ rfl rfl _ (cmL { cm0 with kind:=12,name:=n,column:=c,expr:=y,all:=a,wh:=x } cv vv fv ea wa) 31 _ rfl (by exact kb) Tryz.underlying31 rfl Tryz.size31 ?_)|(go_at_call 100;refine HY.out.mono ?_;rintro e w4 ⟨rfl,s4,o4⟩))
  try simp only [Exit.inBlock]
  go_end0
  refine ⟨rfl, ?_,fun q ob hq hne hty=>o4 q ob (O3.out q ob (O2.out q ob (yak (b:=b) B0.out q ob hq hne hty) hne hty) hne hty) hne hty⟩
  have:=s4
  simp only [List.append_assoc] at this
  exact this
theorem ysy {B b:Nat} {Tb:World→Prop} {w0:World} (k:ItoaOk B Tb) (hw:w0.heap.size≤B) (n:List UInt8) (hn:n≠[]) (l:List Cl) (hl0:l≠[]) (h5:l.length≤5) (hok:∀ x ∈ l,x.name≠[]∧atL yaB x.ty≠[]) (cv vv fv ea wa:Value) (hi:CmIn 0 w0 { cm0 with kind:=1,name:=n,cols:=l } cv vv fv ea wa) (ws:List (List UInt8)) (W:World) (hS:PSt B b Tb w0 ws W) (hlen:(yaj (ws++([w_create,w_table,n]++([[40]]++(yal yaV l++[[41]]))))).length≤1000000) :
  Calls Tryz.prog 46 #[.pointer (some ⟨b,0,none⟩),.agg (cmL { cm0 with kind:=1,name:=n,cols:=l } cv vv fv ea wa).toArray] W (ya0 B b Tb w0 (ws++([w_create,w_table,n]++([[40]]++(yal yaV l++[[41]])))) W):=by
 have L:∀ p q:List (List UInt8),p++q=ws++([w_create,w_table,n]++([[40]]++(yal yaV l++[[41]])))→(yaj p).length≤1000000:=fun p q e=>Nat.le_trans (yaD p q) (by rw [e];exact hlen)
 have hp:=ybs k hS (.cells (cmL { cm0 with kind:=1,name:=n,cols:=l } cv vv fv ea wa).toArray 31) [w_create,w_table,n] 3 #[.string ⟨w_create.toArray⟩,.string ⟨w_table.toArray⟩,.string ⟨n.toArray⟩] rfl rfl (by intro x hx;simp at hx;rcases hx with rfl|rfl|rfl <;> first|assumption|decide) (L _ (([[40]]++(yal yaV l++[[41]]))) (by simp only [List.append_assoc])) (by decide)
 have B0:=yaa (((Below.refl W.heap.size W).alloc (Nat.le_refl _) (.cells (cmL { cm0 with kind:=1,name:=n,cols:=l } cv vv fv ea wa).toArray 31)).drew)
 have hbW:b < W.heap.size:=hS.pr.lt
 obtain ⟨ao,ca,e0,h1⟩:=hi.cols.slice
 obtain ⟨g,o,rfl,hg,hc⟩:=h1 (List.length_pos_iff.2 hl0)
 have e0':cv=.slice (some ⟨g,o,none⟩) l.length ca:=e0
 have HQ:=yaa (fun w1 (s1:PSt B b Tb w0 (ws++[w_create,w_table,n]) w1)=>yhR k (.slice (some ⟨g,o,none⟩) l.length ca) (.func (.func 96) #[.pointer (some ⟨b,0,none⟩)] #[]) (yal yaV l) (ws++[w_create,w_table,n]) w1 s1 (fun w2 s2=>yjK k l g o ca (by omega) (fun i x hx=>⟨hc _ _ (ybc clC (m:=2) (fun _=>rfl) l i 0 x _ hx rfl),hc _ _ (ybc clC (m:=2) (fun _=>rfl) l i 1 x _ hx rfl)⟩) hok (by omega) _ w2 s2 (L _ [[41]] (by simp only [List.append_assoc]))) (L _ [] (by simp only [List.append_assoc,List.append_nil])))
 subst e0'
 have HP:=yaa hp
 clear hp hlen hS L k hn hl0 h5 hok hi hw e0 h1 hg hc
 unfold cmL
 simp only [cm0]
 go_enter Tryz.func46,Tryz.ntmps46
 go_wp2_with fail
 go_region_law (first|(go_simp;refine HP.out.mono ?_;rintro e w2 ⟨rfl,s2,o2⟩;dsimp only))
 all_goals
  have kb:=o2 _ _ (show (W.alloc _).drew.heap[W.heap.size]?=_ from heap_alloc_new W _) (by simp;omega) (by intro c f e;cases e)
  have dl:w2.cell? ⟨W.heap.size,4,none⟩=some (.slice (some ⟨g,o,none⟩) l.length ca):=by rw [Lib.cell_of_heap kb];rfl
  have HZ:=yaa (HQ.out w2 s2)
  have O2:=yaa o2
  clear s2 o2 HP HQ kb
  go_wp2_with (go_at_call 95;refine HZ.out.mono ?_;rintro e w3 ⟨rfl,s3,o3⟩)
  try simp only [Exit.inBlock]
  go_end0
  refine ⟨rfl, ?_,fun q ob hq hne hty=>o3 q ob (O2.out q ob (yak (b:=b) B0.out q ob hq hne hty) hne hty) hne hty⟩
  have:=s3
  simp only [List.append_assoc] at this
  exact this
theorem yqG {B b:Nat} {Tb:World→Prop} {w0:World} (k:ItoaOk B Tb) (hw:w0.heap.size≤B) (n:List UInt8) (hn:n≠[]) (l:List Vl) (hl0:l≠[]) (h5:l.length≤5) (hok:∀ x ∈ l,ybJ x=true) (cv vv fv ea wa:Value) (hi:CmIn 0 w0 { cm0 with kind:=10,name:=n,vals:=l } cv vv fv ea wa) (ws:List (List UInt8)) (W:World) (hS:PSt B b Tb w0 ws W) (hlen:(yaj (ws++([w_insert,w_into,n,w_values]++([[40]]++(yal (fun v=>[yaI v]) l++[[41]]))))).length≤1000000) :
  Calls Tryz.prog 46 #[.pointer (some ⟨b,0,none⟩),.agg (cmL { cm0 with kind:=10,name:=n,vals:=l } cv vv fv ea wa).toArray] W (ya0 B b Tb w0 (ws++([w_insert,w_into,n,w_values]++([[40]]++(yal (fun v=>[yaI v]) l++[[41]])))) W):=by
 have L:∀ p q:List (List UInt8),p++q=ws++([w_insert,w_into,n,w_values]++([[40]]++(yal (fun v=>[yaI v]) l++[[41]])))→(yaj p).length≤1000000:=fun p q e=>Nat.le_trans (yaD p q) (by rw [e];exact hlen)
 have hp:=ybs k hS (.cells (cmL { cm0 with kind:=10,name:=n,vals:=l } cv vv fv ea wa).toArray 31) [w_insert,w_into,n,w_values] 4 #[.string ⟨w_insert.toArray⟩,.string ⟨w_into.toArray⟩,.string ⟨n.toArray⟩,.string ⟨w_values.toArray⟩] rfl rfl (by intro x hx;simp at hx;rcases hx with rfl|rfl|rfl|rfl <;> first|assumption|decide) (L _ (([[40]]++(yal (fun v=>[yaI v]) l++[[41]]))) (by simp only [List.append_assoc])) (by decide)
 have B0:=yaa (((Below.refl W.heap.size W).alloc (Nat.le_refl _) (.cells (cmL { cm0 with kind:=10,name:=n,vals:=l } cv vv fv ea wa).toArray 31)).drew)
 have hbW:b < W.heap.size:=hS.pr.lt
 obtain ⟨ao,ca,e0,h1⟩:=hi.vals.slice
 obtain ⟨g,o,rfl,hg,hc⟩:=h1 (List.length_pos_iff.2 hl0)
 have e0':vv=.slice (some ⟨g,o,none⟩) l.length ca:=e0
 have HQ:=yaa (fun w1 (s1:PSt B b Tb w0 (ws++[w_insert,w_into,n,w_values]) w1)=>yhS k (.slice (some ⟨g,o,none⟩) l.length ca) (.func (.func 99) #[.pointer (some ⟨b,0,none⟩)] #[]) (yal (fun v=>[yaI v]) l) (ws++[w_insert,w_into,n,w_values]) w1 s1 (fun w2 s2=>yjL k l g o ca (by omega) (fun i x hx=>⟨hc _ _ (ybc vlC (m:=3) (fun _=>rfl) l i 0 x _ hx rfl),hc _ _ (ybc vlC (m:=3) (fun _=>rfl) l i 1 x _ hx rfl),hc _ _ (ybc vlC (m:=3) (fun _=>rfl) l i 2 x _ hx rfl)⟩) hok (by omega) _ w2 s2 (L _ [[41]] (by simp only [List.append_assoc]))) (L _ [] (by simp only [List.append_assoc,List.append_nil])))
 subst e0'
 have HP:=yaa hp
 clear hp hlen hS L k hn hl0 h5 hok hi hw e0 h1 hg hc
 unfold cmL
 simp only [cm0]
 go_enter Tryz.func46,Tryz.ntmps46
 go_wp2_with fail
 go_region_law (first|(go_simp;refine HP.out.mono ?_;rintro e w2 ⟨rfl,s2,o2⟩;dsimp only))
 all_goals
  have kb:=o2 _ _ (show (W.alloc _).drew.heap[W.heap.size]?=_ from heap_alloc_new W _) (by simp;omega) (by intro c f e;cases e)
  have dl:w2.cell? ⟨W.heap.size,9,none⟩=some (.slice (some ⟨g,o,none⟩) l.length ca):=by rw [Lib.cell_of_heap kb];rfl
  have HZ:=yaa (HQ.out w2 s2)
  have O2:=yaa o2
  clear s2 o2 HP HQ kb
  go_wp2_with (go_at_call 98;refine HZ.out.mono ?_;rintro e w3 ⟨rfl,s3,o3⟩)
  try simp only [Exit.inBlock]
  go_end0
  refine ⟨rfl, ?_,fun q ob hq hne hty=>o3 q ob (O2.out q ob (yak (b:=b) B0.out q ob hq hne hty) hne hty) hne hty⟩
  have:=s3
  simp only [List.append_assoc] at this
  exact this
end Go.Proofs.YtkpeklealgicpabGreatDoor
