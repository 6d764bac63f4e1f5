/-
  'isType', 'isValue', 'argsOf', and 'all' at its four kinds.
  'isNone' of package command.
  'isExpr' of package command.
  'isExpr' of package command, whole.
  'areColumns', 'areValues', 'isWhere', 'namedBy' of package command.
  'isWhere', what 'namedBy' answers of no kind, and the choice in 'isRight'.
  'isLong' of package command.
  'isLong' of package command: the loop.
-/
import Derived.Deep.RegionHeld3
import Derived.Deep.QuietTactic
import Derived.BigQuiet
import Derived.Laws.AppendOwnNone
import Derived.Test.YtkpeklealgicpabGreatDoorQa
import Derived.Test.YtkpeklealgicpabGreatDoorQe

set_option maxRecDepth 100000
set_option maxHeartbeats 8000000
namespace Go.Proofs.YtkpeklealgicpabGreatDoor
open Go.RowKit
def yfG (k:Int):Bool:=decide (atL yaI k≠[])
def ycm (x:Vl):Bool:=decide (ycw x.k x.n x.s=0)
def yeB (k:Int):Nat:=if k=3∨k=4 then 1 else if atL ya0 k≠[] then 2 else 0
def yf2 (c:Cl):Bool:=yap c.name&&yfG c.ty
theorem yf7 (k:Int) (w:World):Calls Tryz.prog 74 #[.int .i64 k] w fun e w'=>e=.returned (.bool (yfG k))∧Below w.heap.size w w':=by
 have h:=ygb k w
 unfold yfG
 cases hn:decide (atL yaI k≠[])
 all_goals
  have hq:(atL yaI k).isEmpty=!(decide (atL yaI k≠[])):=by cases atL yaI k <;> simp
  rw [hn] at hq
  clear hn
  generalize atL yaI k=s at h hq
  go_enter Tryz.func74,Tryz.ntmps74
  go_wp2_with (go_at_call 123;refine h.mono ?_;rintro e w1 ⟨rfl,b1⟩)
  go_ret
  exact ⟨yaF (by simp),b1⟩
theorem yd4 (x:Vl) (w:World) (hs:x.s.length≤140737488355328):Calls Tryz.prog 75 #[.agg #[.int .i64 x.k,.int .i64 x.n,.string ⟨x.s.toArray⟩]] w fun e w'=>e=.returned (.bool (ycm x))∧Below w.heap.size w w':=by
 have h:=yli x.k x.n ⟨x.s.toArray⟩ (w.alloc (.cells #[.int .i64 x.k,.int .i64 x.n,.string ⟨x.s.toArray⟩] 24)) (by rw [yaN];exact hs)
 have e0:(⟨x.s.toArray⟩:ByteArray).data.toList=x.s:=by simp
 rw [e0] at h
 unfold ycm
 generalize ycw x.k x.n x.s=c at h
 go_enter Tryz.func75,Tryz.ntmps75
 go_wp2_with (go_at_call 124;refine h.mono ?_;rintro e w1 ⟨rfl,b1⟩)
 go_ret
 refine ⟨yaF ?_,((Below.refl _ _).alloc (Nat.le_refl _) _).trans (b1.mono (by simp))⟩
 rw [Bool.eq_iff_iff];simp
theorem yf1 (k:Int) (w:World):Calls Tryz.prog 128 #[.int .i64 k] w fun e w'=>e=.returned (.int .i64 (yeB k:Nat))∧Below w.heap.size w w':=by
 have h:=yd0 k w
 by_cases h3:k=3
 ·subst h3
  go_enter Tryz.func128,Tryz.ntmps128
  go_wp2
  go_ret
  exact ⟨rfl,Below.refl _ _⟩
 by_cases h4:k=4
 ·subst h4
  go_enter Tryz.func128,Tryz.ntmps128
  go_wp2
  go_ret
  exact ⟨rfl,Below.refl _ _⟩
 have q3:(k == 3)=false:=by simpa using h3
 have q4:(k == 4)=false:=by simpa using h4
 have e:yeB k=if atL ya0 k≠[] then 2 else 0:=by rw [yeB,if_neg (by simp [h3,h4])]
 rw [e]
 clear h3 h4 e
 generalize atL ya0 k=s at h ⊢
 by_cases hs:s=[]
 ·subst hs
  go_enter Tryz.func128,Tryz.ntmps128
  go_wp2_with (go_at_call 138;refine h.mono ?_;rintro e w1 ⟨rfl,b1⟩)
  go_ret
  exact ⟨rfl,b1⟩
 ·have hq:s.isEmpty=false:=by simpa using hs
  rw [if_pos hs]
  go_enter Tryz.func128,Tryz.ntmps128
  go_wp2_with (go_at_call 138;refine h.mono ?_;rintro e w1 ⟨rfl,b1⟩)
  go_ret
  exact ⟨rfl,b1⟩
theorem yhe (x:Cl) (w:World) (hs:x.name.length≤140737488355328) (hl:Laid w):Calls Tryz.prog 122 #[.agg #[.string ⟨x.name.toArray⟩,.int .i64 x.ty]] w fun e w'=>e=.returned (.bool (yf2 x))∧Below w.heap.size w w':=by
 have b0:=(Below.refl w.heap.size w).alloc (Nat.le_refl _) (.cells #[.string ⟨x.name.toArray⟩,.int .i64 x.ty] 56)
 have h:=yci ⟨x.name.toArray⟩ (w.alloc (.cells #[.string ⟨x.name.toArray⟩,.int .i64 x.ty] 56)) (by rw [yaN];exact hs) (hl.below b0)
 have e0:(⟨x.name.toArray⟩:ByteArray).data.toList=x.name:=by simp
 rw [e0] at h
 unfold yf2
 cases hn:yap x.name
 ·rw [hn] at h
  go_enter Tryz.func122,Tryz.ntmps122
  go_wp2_with (go_at_call 72;refine h.mono ?_;rintro e w1 ⟨rfl,b1⟩)
  go_ret
  exact ⟨rfl,b0.trans (b1.mono (by simp))⟩
 ·rw [hn] at h
  have h2:=yf7 x.ty
  generalize yfG x.ty=t at h2 ⊢
  go_enter Tryz.func122,Tryz.ntmps122
  go_wp2_with (go_at_call 72;refine h.mono ?_;rintro e w1 ⟨rfl,b1⟩;have d1:w1.cell? ⟨w.heap.size,1,none⟩=some (.int .i64 x.ty):=(b1.cell (by simp)).trans (by simp))
  refine (h2 _).mono ?_
  rintro e w2 ⟨rfl,b2⟩
  go_wp2
  go_ret
  exact ⟨rfl,(b0.trans (b1.mono (by simp))).trans (b2.mono (by have:=b1.size;simp at this;omega))⟩
theorem yjj (x:List UInt8) (fb:Nat) (B:Bool) (w:World) (hf:w.cell? ⟨fb,0,none⟩=some (.func (.func 72) #[] #[]))
  (hp:∀ W,Below w.heap.size w W→Calls Tryz.prog 72 #[.string ⟨x.toArray⟩] W fun e w'=>e=.returned (.bool B)∧Below W.heap.size W w') :
  Calls Tryz.prog 127 #[.string ⟨x.toArray⟩,.pointer (some ⟨fb,0,none⟩)] w fun e w'=>e=.returned (.bool !B)∧Below w.heap.size w w':=by
 have h1:=hp w (Below.refl _ _)
 clear hp
 go_enter Tryz.func127,Tryz.ntmps127
 go_wp2_with (go_at_call 72;refine h1.mono ?_;rintro e w1 ⟨rfl,b1⟩)
 go_ret
 exact ⟨rfl,b1⟩
theorem yoH (b off cap fb:Nat) (l:List (List UInt8)) (w:World) (hb:b < w.heap.size) (hfb:fb < w.heap.size) (hf:w.cell? ⟨fb,0,none⟩=some (.func (.func 72) #[] #[])) (hn:l.length≤1000000000000000)
  (hc:∀ (k:Nat) x,l[k]?=some x→w.cell? ⟨b,off+k,none⟩=some (.string ⟨x.toArray⟩))
  (hp:∀ (k:Nat) x,l[k]?=some x→∀ W,Below w.heap.size w W→Calls Tryz.prog 72 #[.string ⟨x.toArray⟩] W fun e w'=>e=.returned (.bool (yap x))∧Below W.heap.size W w') :
  Calls Tryz.prog 162 #[.slice (some ⟨b,off,none⟩) l.length cap,.func (.func 127) #[] #[.pointer (some ⟨fb,0,none⟩)]] w fun e w'=>(∃ r:Int,e=.returned (.int .i64 r)∧(decide (0≤r)=!(l.all yap)))∧Below w.heap.size w w':=by
 obtain ⟨n,hl⟩:∃ n,l.length=n:=⟨_,rfl⟩
 rw [hl] at hn ⊢
 go_enter Tryz.func162,Tryz.ntmps162
 go_wp2
 go_loopw [8] (fun i wr=>∃ k:Nat,k≤n∧i=.int .i64 k∧Below w.heap.size w wr∧Hid (∀ j x,j < k→l[j]?=some x→yap x=true)) (fun i _=>n - (intOf i).toNat)
 case atStart=>exact ⟨0,Nat.zero_le _,rfl,Below.refl _ _,fun j _ hj=>absurd hj (Nat.not_lt_zero _)⟩
 case round =>
  obtain ⟨k,hk,rfl,hnx,HA⟩:=hrel
  by_cases hlt:k < n
  ·obtain ⟨x,hx⟩:∃ x,l[k]?=some x:=⟨l[k],List.getElem?_eq_getElem (by omega)⟩
   obtain e0:=hc k x hx
   have a0:=(hnx.cell (p:=⟨b,off+k,none⟩) hb).trans e0
   have hlt':(k:Int) < (n:Int):=by omega
   have hff:=(hnx.cell (p:=⟨fb,0,none⟩) hfb).trans hf
   have hsz:=hnx.size
   have hpk:=hp k x hx
   have HX:Hid (l[k]?=some x):=hx
   clear hp hc hx e0 hf
   cases hB:yap x
   ·rw [hB] at hpk
    have hq:=yjj x fb false wr hff fun W hW=>hpk W (hnx.trans (hW.mono hsz))
    have HB:Hid (yap x=false):=hB
    clear hpk hB hff
    go_wp2_with (go_at_call 127;refine hq.mono ?_;rintro e w2 ⟨rfl,b2⟩)
    go_ret
    refine ⟨⟨(k:Nat),rfl, ?_⟩,hnx.trans (b2.mono hsz)⟩
    have:l.all yap=false:=by
     rw [List.all_eq_false]
     exact ⟨x,List.mem_of_getElem? HX.out,by simp [HB.out]⟩
    rw [this];simp
   ·rw [hB] at hpk
    have hq:=yjj x fb true wr hff fun W hW=>hpk W (hnx.trans (hW.mono hsz))
    have HB:Hid (yap x=true):=hB
    clear hpk hB hff
    go_wp2_with (go_at_call 127;refine hq.mono ?_;rintro e w2 ⟨rfl,b2⟩)
    go_roundw
    case rel =>
     refine ⟨k+1,by omega,by go_num,hnx.trans (b2.mono hsz),fun j y hj hy=>?_⟩
     rcases Nat.lt_or_ge j k with h|h
     ·exact HA.out j y h hy
     ·rw [show j=k by omega,HX.out] at hy;cases hy;exact HB.out
    case measure=>simp [intOf];omega
  ·clear hp hc
   go_wp2
   go_ret
   refine ⟨⟨-1,rfl, ?_⟩,hnx⟩
   have:l.all yap=true:=by
    rw [List.all_eq_true]
    intro x hx
    obtain ⟨j,hj⟩:=List.mem_iff_getElem?.1 hx
    exact HA.out j x (by have:=(List.getElem?_eq_some_iff.1 hj).1;omega) hj
   rw [this];simp
theorem yoJ (ao:Option Addr) (cap:Nat) (f:Value) (w:World) :
  Calls Tryz.prog 162 #[.slice ao 0 cap,f] w fun e w'=>e=.returned (.int .i64 (-1))∧w'=w:=by
 go_enter Tryz.func162,Tryz.ntmps162
 go_wp2
 go_loopw [8] (fun k wr=>k=.int .i64 0∧wr=w) (fun _ _=>0)
 case atStart=>exact ⟨rfl,rfl⟩
 case round =>
  obtain ⟨rfl,rfl⟩:=hrel
  go_wp2
  go_ret
  exact ⟨rfl,rfl⟩
theorem ynM (ao:Option Addr) (cap:Nat) (f:Fn) (w:World) :
  Calls Tryz.prog 77 #[.slice ao 0 cap,.func f #[] #[]] w fun e w'=>e=.returned (.bool true)∧Below w.heap.size w w':=by
 have hm:=hmf
 go_enter Tryz.func77,Tryz.ntmps77
 go_wp2_with (first|(go_at_call 126;go_in)|(go_at_call 162;refine (yoJ _ _ _ _).mono ?_;rintro e w1 ⟨rfl,rfl⟩))
 go_ret
 exact ⟨rfl,(Below.refl _ _).alloc (Nat.le_refl _) _⟩
theorem yp3 (b off cap:Nat) (l:List (List UInt8)) (w:World) (hb:b < w.heap.size) (hn:l.length≤1000000000000000)
  (hc:∀ (k:Nat) x,l[k]?=some x→w.cell? ⟨b,off+k,none⟩=some (.string ⟨x.toArray⟩))
  (hp:∀ (k:Nat) x,l[k]?=some x→∀ W,Below w.heap.size w W→Calls Tryz.prog 72 #[.string ⟨x.toArray⟩] W fun e w'=>e=.returned (.bool (yap x))∧Below W.heap.size W w') :
  Calls Tryz.prog 77 #[.slice (some ⟨b,off,none⟩) l.length cap,.func (.func 72) #[] #[]] w fun e w'=>e=.returned (.bool (l.all yap))∧Below w.heap.size w w':=by
 have hm:=hmf
 have hi:∀ t,Calls Tryz.prog 162 #[.slice (some ⟨b,off,none⟩) l.length cap,.func (.func 127) #[] #[.pointer (some ⟨w.heap.size,0,none⟩)]] (w.alloc (.cells #[.func (.func 72) #[] #[]] t)) fun e w'=>(∃ r:Int,e=.returned (.int .i64 r)∧(decide (0≤r)=!(l.all yap)))∧Below w.heap.size w w':=by
  intro t
  have b0:=(Below.refl w.heap.size w).alloc (Nat.le_refl _) (.cells #[.func (.func 72) #[] #[]] t)
  refine (yoH b off cap w.heap.size l _ (by simp;omega) (by simp) (by simp) hn ?_ ?_).mono ?_
  ·intro k x hx
   have:=hc k x hx
   refine (ya2 _ hb).trans this
  ·intro k x hx W hW
   exact hp k x hx W (b0.trans (hW.mono (by simp)))
  ·rintro e w' ⟨hr,hb⟩
   exact ⟨hr,b0.trans (hb.mono (by simp))⟩
 generalize l.all yap=A at hi ⊢
 clear hp hc
 go_enter Tryz.func77,Tryz.ntmps77
 go_wp2_with (first|(go_at_call 126;go_in)|(go_at_call 162;refine (hi _).mono ?_;rintro e w1 ⟨⟨r,rfl,hr⟩,b1⟩))
 go_ret
 exact ⟨yaF (by simp),b1⟩
theorem yjh (x:Cl) (fb:Nat) (B:Bool) (w:World) (hfb:fb < w.heap.size) (hf:w.cell? ⟨fb,0,none⟩=some (.func (.func 122) #[] #[]))
  (hp:∀ W,Below w.heap.size w W→Calls Tryz.prog 122 #[.agg #[.string ⟨x.name.toArray⟩,.int .i64 x.ty]] W fun e w'=>e=.returned (.bool B)∧Below W.heap.size W w') :
  Calls Tryz.prog 155 #[.agg #[.string ⟨x.name.toArray⟩,.int .i64 x.ty],.pointer (some ⟨fb,0,none⟩)] w fun e w'=>e=.returned (.bool !B)∧Below w.heap.size w w':=by
 have b0:=(Below.refl w.heap.size w).alloc (Nat.le_refl _) (.cells #[.string ⟨x.name.toArray⟩,.int .i64 x.ty] 56)
 have h1:=hp _ b0
 have hf0:∀ o,(w.alloc o).cell? ⟨fb,0,none⟩=some (.func (.func 122) #[] #[]):=fun o=>(ya2 o hfb).trans hf
 clear hp
 go_enter Tryz.func155,Tryz.ntmps155
 go_wp2_with (go_at_call 122;refine h1.mono ?_;rintro e w1 ⟨rfl,b1⟩)
 go_ret
 exact ⟨rfl,b0.trans (b1.mono (by simp))⟩
theorem yoF (b off cap fb:Nat) (l:List (Cl)) (w:World) (hb:b < w.heap.size) (hfb:fb < w.heap.size) (hf:w.cell? ⟨fb,0,none⟩=some (.func (.func 122) #[] #[])) (hn:l.length≤1000000000000000)
  (hc:∀ (k:Nat) x,l[k]?=some x→w.cell? ⟨b,off+k*2,none⟩=some (.string ⟨x.name.toArray⟩)∧w.cell? ⟨b,off+k*2+1,none⟩=some (.int .i64 x.ty))
  (hp:∀ (k:Nat) x,l[k]?=some x→∀ W,Below w.heap.size w W→Calls Tryz.prog 122 #[.agg #[.string ⟨x.name.toArray⟩,.int .i64 x.ty]] W fun e w'=>e=.returned (.bool (yf2 x))∧Below W.heap.size W w') :
  Calls Tryz.prog 176 #[.slice (some ⟨b,off,none⟩) l.length cap,.func (.func 155) #[] #[.pointer (some ⟨fb,0,none⟩)]] w fun e w'=>(∃ r:Int,e=.returned (.int .i64 r)∧(decide (0≤r)=!(l.all yf2)))∧Below w.heap.size w w':=by
 obtain ⟨n,hl⟩:∃ n,l.length=n:=⟨_,rfl⟩
 rw [hl] at hn ⊢
 go_enter Tryz.func176,Tryz.ntmps176
 go_wp2
 go_loopw [8] (fun i wr=>∃ k:Nat,k≤n∧i=.int .i64 k∧Below w.heap.size w wr∧Hid (∀ j x,j < k→l[j]?=some x→yf2 x=true)) (fun i _=>n - (intOf i).toNat)
 case atStart=>exact ⟨0,Nat.zero_le _,rfl,Below.refl _ _,fun j _ hj=>absurd hj (Nat.not_lt_zero _)⟩
 case round =>
  obtain ⟨k,hk,rfl,hnx,HA⟩:=hrel
  by_cases hlt:k < n
  ·obtain ⟨x,hx⟩:∃ x,l[k]?=some x:=⟨l[k],List.getElem?_eq_getElem (by omega)⟩
   obtain ⟨e0,e1⟩:=hc k x hx
   have a0:=(hnx.cell (p:=⟨b,off+k*2,none⟩) hb).trans e0
   have a1:=(hnx.cell (p:=⟨b,off+k*2+1,none⟩) hb).trans e1
   have hlt':(k:Int) < (n:Int):=by omega
   have hff:=(hnx.cell (p:=⟨fb,0,none⟩) hfb).trans hf
   have hsz:=hnx.size
   have hpk:=hp k x hx
   have HX:Hid (l[k]?=some x):=hx
   clear hp hc hx e0 e1 hf
   cases hB:yf2 x
   ·rw [hB] at hpk
    have hq:=yjh x fb false wr (by omega) hff fun W hW=>hpk W (hnx.trans (hW.mono hsz))
    have HB:Hid (yf2 x=false):=hB
    clear hpk hB hff
    go_wp2_with (go_at_call 155;refine hq.mono ?_;rintro e w2 ⟨rfl,b2⟩)
    go_ret
    refine ⟨⟨(k:Nat),rfl, ?_⟩,hnx.trans (b2.mono hsz)⟩
    have:l.all yf2=false:=by
     rw [List.all_eq_false]
     exact ⟨x,List.mem_of_getElem? HX.out,by simp [HB.out]⟩
    rw [this];simp
   ·rw [hB] at hpk
    have hq:=yjh x fb true wr (by omega) hff fun W hW=>hpk W (hnx.trans (hW.mono hsz))
    have HB:Hid (yf2 x=true):=hB
    clear hpk hB hff
    go_wp2_with (go_at_call 155;refine hq.mono ?_;rintro e w2 ⟨rfl,b2⟩)
    go_roundw
    case rel =>
     refine ⟨k+1,by omega,by go_num,hnx.trans (b2.mono hsz),fun j y hj hy=>?_⟩
     rcases Nat.lt_or_ge j k with h|h
     ·exact HA.out j y h hy
     ·rw [show j=k by omega,HX.out] at hy;cases hy;exact HB.out
    case measure=>simp [intOf];omega
  ·clear hp hc
   go_wp2
   go_ret
   refine ⟨⟨-1,rfl, ?_⟩,hnx⟩
   have:l.all yf2=true:=by
    rw [List.all_eq_true]
    intro x hx
    obtain ⟨j,hj⟩:=List.mem_iff_getElem?.1 hx
    exact HA.out j x (by have:=(List.getElem?_eq_some_iff.1 hj).1;omega) hj
   rw [this];simp
theorem yp1 (b off cap:Nat) (l:List (Cl)) (w:World) (hb:b < w.heap.size) (hn:l.length≤1000000000000000)
  (hc:∀ (k:Nat) x,l[k]?=some x→w.cell? ⟨b,off+k*2,none⟩=some (.string ⟨x.name.toArray⟩)∧w.cell? ⟨b,off+k*2+1,none⟩=some (.int .i64 x.ty))
  (hp:∀ (k:Nat) x,l[k]?=some x→∀ W,Below w.heap.size w W→Calls Tryz.prog 122 #[.agg #[.string ⟨x.name.toArray⟩,.int .i64 x.ty]] W fun e w'=>e=.returned (.bool (yf2 x))∧Below W.heap.size W w') :
  Calls Tryz.prog 121 #[.slice (some ⟨b,off,none⟩) l.length cap,.func (.func 122) #[] #[]] w fun e w'=>e=.returned (.bool (l.all yf2))∧Below w.heap.size w w':=by
 have hm:=hmf
 have hi:∀ t,Calls Tryz.prog 176 #[.slice (some ⟨b,off,none⟩) l.length cap,.func (.func 155) #[] #[.pointer (some ⟨w.heap.size,0,none⟩)]] (w.alloc (.cells #[.func (.func 122) #[] #[]] t)) fun e w'=>(∃ r:Int,e=.returned (.int .i64 r)∧(decide (0≤r)=!(l.all yf2)))∧Below w.heap.size w w':=by
  intro t
  have b0:=(Below.refl w.heap.size w).alloc (Nat.le_refl _) (.cells #[.func (.func 122) #[] #[]] t)
  refine (yoF b off cap w.heap.size l _ (by simp;omega) (by simp) (by simp) hn ?_ ?_).mono ?_
  ·intro k x hx
   have:=hc k x hx
   refine ⟨(ya2 _ hb).trans this.1,(ya2 _ hb).trans this.2⟩
  ·intro k x hx W hW
   exact hp k x hx W (b0.trans (hW.mono (by simp)))
  ·rintro e w' ⟨hr,hb⟩
   exact ⟨hr,b0.trans (hb.mono (by simp))⟩
 generalize l.all yf2=A at hi ⊢
 clear hp hc
 go_enter Tryz.func121,Tryz.ntmps121
 go_wp2_with (first|(go_at_call 154;go_in)|(go_at_call 176;refine (hi _).mono ?_;rintro e w1 ⟨⟨r,rfl,hr⟩,b1⟩))
 go_ret
 exact ⟨yaF (by simp),b1⟩
theorem yjk (x:Vl) (fb:Nat) (B:Bool) (w:World) (hfb:fb < w.heap.size) (hf:w.cell? ⟨fb,0,none⟩=some (.func (.func 75) #[] #[]))
  (hp:∀ W,Below w.heap.size w W→Calls Tryz.prog 75 #[.agg #[.int .i64 x.k,.int .i64 x.n,.string ⟨x.s.toArray⟩]] W fun e w'=>e=.returned (.bool B)∧Below W.heap.size W w') :
  Calls Tryz.prog 161 #[.agg #[.int .i64 x.k,.int .i64 x.n,.string ⟨x.s.toArray⟩],.pointer (some ⟨fb,0,none⟩)] w fun e w'=>e=.returned (.bool !B)∧Below w.heap.size w w':=by
 have b0:=(Below.refl w.heap.size w).alloc (Nat.le_refl _) (.cells #[.int .i64 x.k,.int .i64 x.n,.string ⟨x.s.toArray⟩] 24)
 have h1:=hp _ b0
 have hf0:∀ o,(w.alloc o).cell? ⟨fb,0,none⟩=some (.func (.func 75) #[] #[]):=fun o=>(ya2 o hfb).trans hf
 clear hp
 go_enter Tryz.func161,Tryz.ntmps161
 go_wp2_with (go_at_call 75;refine h1.mono ?_;rintro e w1 ⟨rfl,b1⟩)
 go_ret
 exact ⟨rfl,b0.trans (b1.mono (by simp))⟩
theorem yoI (b off cap fb:Nat) (l:List (Vl)) (w:World) (hb:b < w.heap.size) (hfb:fb < w.heap.size) (hf:w.cell? ⟨fb,0,none⟩=some (.func (.func 75) #[] #[])) (hn:l.length≤1000000000000000)
  (hc:∀ (k:Nat) x,l[k]?=some x→w.cell? ⟨b,off+k*3,none⟩=some (.int .i64 x.k)∧w.cell? ⟨b,off+k*3+1,none⟩=some (.int .i64 x.n)∧w.cell? ⟨b,off+k*3+2,none⟩=some (.string ⟨x.s.toArray⟩))
  (hp:∀ (k:Nat) x,l[k]?=some x→∀ W,Below w.heap.size w W→Calls Tryz.prog 75 #[.agg #[.int .i64 x.k,.int .i64 x.n,.string ⟨x.s.toArray⟩]] W fun e w'=>e=.returned (.bool (ycm x))∧Below W.heap.size W w') :
  Calls Tryz.prog 177 #[.slice (some ⟨b,off,none⟩) l.length cap,.func (.func 161) #[] #[.pointer (some ⟨fb,0,none⟩)]] w fun e w'=>(∃ r:Int,e=.returned (.int .i64 r)∧(decide (0≤r)=!(l.all ycm)))∧Below w.heap.size w w':=by
 obtain ⟨n,hl⟩:∃ n,l.length=n:=⟨_,rfl⟩
 rw [hl] at hn ⊢
 go_enter Tryz.func177,Tryz.ntmps177
 go_wp2
 go_loopw [8] (fun i wr=>∃ k:Nat,k≤n∧i=.int .i64 k∧Below w.heap.size w wr∧Hid (∀ j x,j < k→l[j]?=some x→ycm x=true)) (fun i _=>n - (intOf i).toNat)
 case atStart=>exact ⟨0,Nat.zero_le _,rfl,Below.refl _ _,fun j _ hj=>absurd hj (Nat.not_lt_zero _)⟩
 case round =>
  obtain ⟨k,hk,rfl,hnx,HA⟩:=hrel
  by_cases hlt:k < n
  ·obtain ⟨x,hx⟩:∃ x,l[k]?=some x:=⟨l[k],List.getElem?_eq_getElem (by omega)⟩
   obtain ⟨e0,e1,e2⟩:=hc k x hx
   have a0:=(hnx.cell (p:=⟨b,off+k*3,none⟩) hb).trans e0
   have a1:=(hnx.cell (p:=⟨b,off+k*3+1,none⟩) hb).trans e1
   have a2:=(hnx.cell (p:=⟨b,off+k*3+2,none⟩) hb).trans e2
   have hlt':(k:Int) < (n:Int):=by omega
   have hff:=(hnx.cell (p:=⟨fb,0,none⟩) hfb).trans hf
   have hsz:=hnx.size
   have hpk:=hp k x hx
   have HX:Hid (l[k]?=some x):=hx
   clear hp hc hx e0 e1 e2 hf
   cases hB:ycm x
   ·rw [hB] at hpk
    have hq:=yjk x fb false wr (by omega) hff fun W hW=>hpk W (hnx.trans (hW.mono hsz))
    have HB:Hid (ycm x=false):=hB
    clear hpk hB hff
    go_wp2_with (go_at_call 161;refine hq.mono ?_;rintro e w2 ⟨rfl,b2⟩)
    go_ret
    refine ⟨⟨(k:Nat),rfl, ?_⟩,hnx.trans (b2.mono hsz)⟩
    have:l.all ycm=false:=by
     rw [List.all_eq_false]
     exact ⟨x,List.mem_of_getElem? HX.out,by simp [HB.out]⟩
    rw [this];simp
   ·rw [hB] at hpk
    have hq:=yjk x fb true wr (by omega) hff fun W hW=>hpk W (hnx.trans (hW.mono hsz))
    have HB:Hid (ycm x=true):=hB
    clear hpk hB hff
    go_wp2_with (go_at_call 161;refine hq.mono ?_;rintro e w2 ⟨rfl,b2⟩)
    go_roundw
    case rel =>
     refine ⟨k+1,by omega,by go_num,hnx.trans (b2.mono hsz),fun j y hj hy=>?_⟩
     rcases Nat.lt_or_ge j k with h|h
     ·exact HA.out j y h hy
     ·rw [show j=k by omega,HX.out] at hy;cases hy;exact HB.out
    case measure=>simp [intOf];omega
  ·clear hp hc
   go_wp2
   go_ret
   refine ⟨⟨-1,rfl, ?_⟩,hnx⟩
   have:l.all ycm=true:=by
    rw [List.all_eq_true]
    intro x hx
    obtain ⟨j,hj⟩:=List.mem_iff_getElem?.1 hx
    exact HA.out j x (by have:=(List.getElem?_eq_some_iff.1 hj).1;omega) hj
   rw [this];simp
theorem yp4 (b off cap:Nat) (l:List (Vl)) (w:World) (hb:b < w.heap.size) (hn:l.length≤1000000000000000)
  (hc:∀ (k:Nat) x,l[k]?=some x→w.cell? ⟨b,off+k*3,none⟩=some (.int .i64 x.k)∧w.cell? ⟨b,off+k*3+1,none⟩=some (.int .i64 x.n)∧w.cell? ⟨b,off+k*3+2,none⟩=some (.string ⟨x.s.toArray⟩))
  (hp:∀ (k:Nat) x,l[k]?=some x→∀ W,Below w.heap.size w W→Calls Tryz.prog 75 #[.agg #[.int .i64 x.k,.int .i64 x.n,.string ⟨x.s.toArray⟩]] W fun e w'=>e=.returned (.bool (ycm x))∧Below W.heap.size W w') :
  Calls Tryz.prog 125 #[.slice (some ⟨b,off,none⟩) l.length cap,.func (.func 75) #[] #[]] w fun e w'=>e=.returned (.bool (l.all ycm))∧Below w.heap.size w w':=by
 have hm:=hmf
 have hi:∀ t,Calls Tryz.prog 177 #[.slice (some ⟨b,off,none⟩) l.length cap,.func (.func 161) #[] #[.pointer (some ⟨w.heap.size,0,none⟩)]] (w.alloc (.cells #[.func (.func 75) #[] #[]] t)) fun e w'=>(∃ r:Int,e=.returned (.int .i64 r)∧(decide (0≤r)=!(l.all ycm)))∧Below w.heap.size w w':=by
  intro t
  have b0:=(Below.refl w.heap.size w).alloc (Nat.le_refl _) (.cells #[.func (.func 75) #[] #[]] t)
  refine (yoI b off cap w.heap.size l _ (by simp;omega) (by simp) (by simp) hn ?_ ?_).mono ?_
  ·intro k x hx
   have:=hc k x hx
   refine ⟨(ya2 _ hb).trans this.1,(ya2 _ hb).trans this.2.1,(ya2 _ hb).trans this.2.2⟩
  ·intro k x hx W hW
   exact hp k x hx W (b0.trans (hW.mono (by simp)))
  ·rintro e w' ⟨hr,hb⟩
   exact ⟨hr,b0.trans (hb.mono (by simp))⟩
 generalize l.all ycm=A at hi ⊢
 clear hp hc
 go_enter Tryz.func125,Tryz.ntmps125
 go_wp2_with (first|(go_at_call 160;go_in)|(go_at_call 177;refine (hi _).mono ?_;rintro e w1 ⟨⟨r,rfl,hr⟩,b1⟩))
 go_ret
 exact ⟨yaF (by simp),b1⟩
theorem yji (ao:Option Addr) (na ca:Nat) (x:Ex) (fb:Nat) (B:Bool) (w:World) (hfb:fb < w.heap.size) (hf:w.cell? ⟨fb,0,none⟩=some (.func (.func 78) #[] #[]))
  (hp:∀ W,Below w.heap.size w W→Calls Tryz.prog 78 #[.agg #[.int .i64 x.k,.int .i64 x.v.k,.int .i64 x.v.n,.string ⟨x.v.s.toArray⟩,.string ⟨x.nm.toArray⟩,.slice ao na ca]] W fun e w'=>e=.returned (.bool B)∧Below W.heap.size W w') :
  Calls Tryz.prog 164 #[.agg #[.int .i64 x.k,.int .i64 x.v.k,.int .i64 x.v.n,.string ⟨x.v.s.toArray⟩,.string ⟨x.nm.toArray⟩,.slice ao na ca],.pointer (some ⟨fb,0,none⟩)] w fun e w'=>e=.returned (.bool !B)∧Below w.heap.size w w':=by
 have b0:=(Below.refl w.heap.size w).alloc (Nat.le_refl _) (.cells #[.int .i64 x.k,.int .i64 x.v.k,.int .i64 x.v.n,.string ⟨x.v.s.toArray⟩,.string ⟨x.nm.toArray⟩,.slice ao na ca] 29)
 have h1:=hp _ b0
 have hf0:∀ o,(w.alloc o).cell? ⟨fb,0,none⟩=some (.func (.func 78) #[] #[]):=fun o=>(ya2 o hfb).trans hf
 clear hp
 go_enter Tryz.func164,Tryz.ntmps164
 go_wp2_with (go_at_call 78;refine h1.mono ?_;rintro e w1 ⟨rfl,b1⟩)
 go_ret
 exact ⟨rfl,b0.trans (b1.mono (by simp))⟩
theorem yoG (ao:Nat→Option Addr) (na ca:Nat→Nat) (pp:Ex→Bool) (b off cap fb:Nat) (l:List (Ex)) (w:World) (hb:b < w.heap.size) (hfb:fb < w.heap.size) (hf:w.cell? ⟨fb,0,none⟩=some (.func (.func 78) #[] #[])) (hn:l.length≤1000000000000000)
  (hc:∀ (k:Nat) x,l[k]?=some x→w.cell? ⟨b,off+k*6,none⟩=some (.int .i64 x.k)∧w.cell? ⟨b,off+k*6+1,none⟩=some (.int .i64 x.v.k)∧w.cell? ⟨b,off+k*6+2,none⟩=some (.int .i64 x.v.n)∧w.cell? ⟨b,off+k*6+3,none⟩=some (.string ⟨x.v.s.toArray⟩)∧w.cell? ⟨b,off+k*6+4,none⟩=some (.string ⟨x.nm.toArray⟩)∧w.cell? ⟨b,off+k*6+5,none⟩=some (.slice (ao k) (na k) (ca k)))
  (hp:∀ (k:Nat) x,l[k]?=some x→∀ W,Below w.heap.size w W→Calls Tryz.prog 78 #[.agg #[.int .i64 x.k,.int .i64 x.v.k,.int .i64 x.v.n,.string ⟨x.v.s.toArray⟩,.string ⟨x.nm.toArray⟩,.slice (ao k) (na k) (ca k)]] W fun e w'=>e=.returned (.bool (pp x))∧Below W.heap.size W w') :
  Calls Tryz.prog 178 #[.slice (some ⟨b,off,none⟩) l.length cap,.func (.func 164) #[] #[.pointer (some ⟨fb,0,none⟩)]] w fun e w'=>(∃ r:Int,e=.returned (.int .i64 r)∧(decide (0≤r)=!(l.all pp)))∧Below w.heap.size w w':=by
 obtain ⟨n,hl⟩:∃ n,l.length=n:=⟨_,rfl⟩
 rw [hl] at hn ⊢
 go_enter Tryz.func178,Tryz.ntmps178
 go_wp2
 go_loopw [8] (fun i wr=>∃ k:Nat,k≤n∧i=.int .i64 k∧Below w.heap.size w wr∧Hid (∀ j x,j < k→l[j]?=some x→pp x=true)) (fun i _=>n - (intOf i).toNat)
 case atStart=>exact ⟨0,Nat.zero_le _,rfl,Below.refl _ _,fun j _ hj=>absurd hj (Nat.not_lt_zero _)⟩
 case round =>
  obtain ⟨k,hk,rfl,hnx,HA⟩:=hrel
  by_cases hlt:k < n
  ·obtain ⟨x,hx⟩:∃ x,l[k]?=some x:=⟨l[k],List.getElem?_eq_getElem (by omega)⟩
   obtain ⟨e0,e1,e2,e3,e4,e5⟩:=hc k x hx
   have a0:=(hnx.cell (p:=⟨b,off+k*6,none⟩) hb).trans e0
   have a1:=(hnx.cell (p:=⟨b,off+k*6+1,none⟩) hb).trans e1
   have a2:=(hnx.cell (p:=⟨b,off+k*6+2,none⟩) hb).trans e2
   have a3:=(hnx.cell (p:=⟨b,off+k*6+3,none⟩) hb).trans e3
   have a4:=(hnx.cell (p:=⟨b,off+k*6+4,none⟩) hb).trans e4
   have a5:=(hnx.cell (p:=⟨b,off+k*6+5,none⟩) hb).trans e5
   have hlt':(k:Int) < (n:Int):=by omega
   have hff:=(hnx.cell (p:=⟨fb,0,none⟩) hfb).trans hf
   have hsz:=hnx.size
   have hpk:=hp k x hx
   have HX:Hid (l[k]?=some x):=hx
   clear hp hc hx e0 e1 e2 e3 e4 e5 hf
   cases hB:pp x
   ·rw [hB] at hpk
    have hq:=yji (ao k) (na k) (ca k) x fb false wr (by omega) hff fun W hW=>hpk W (hnx.trans (hW.mono hsz))
    have HB:Hid (pp x=false):=hB
    clear hpk hB hff
    go_wp2_with (go_at_call 164;refine hq.mono ?_;rintro e w2 ⟨rfl,b2⟩)
    go_ret
    refine ⟨⟨(k:Nat),rfl, ?_⟩,hnx.trans (b2.mono hsz)⟩
    have:l.all pp=false:=by
     rw [List.all_eq_false]
     exact ⟨x,List.mem_of_getElem? HX.out,by simp [HB.out]⟩
    rw [this];simp
   ·rw [hB] at hpk
    have hq:=yji (ao k) (na k) (ca k) x fb true wr (by omega) hff fun W hW=>hpk W (hnx.trans (hW.mono hsz))
    have HB:Hid (pp x=true):=hB
    clear hpk hB hff
    go_wp2_with (go_at_call 164;refine hq.mono ?_;rintro e w2 ⟨rfl,b2⟩)
    go_roundw
    case rel =>
     refine ⟨k+1,by omega,by go_num,hnx.trans (b2.mono hsz),fun j y hj hy=>?_⟩
     rcases Nat.lt_or_ge j k with h|h
     ·exact HA.out j y h hy
     ·rw [show j=k by omega,HX.out] at hy;cases hy;exact HB.out
    case measure=>simp [intOf];omega
  ·clear hp hc
   go_wp2
   go_ret
   refine ⟨⟨-1,rfl, ?_⟩,hnx⟩
   have:l.all pp=true:=by
    rw [List.all_eq_true]
    intro x hx
    obtain ⟨j,hj⟩:=List.mem_iff_getElem?.1 hx
    exact HA.out j x (by have:=(List.getElem?_eq_some_iff.1 hj).1;omega) hj
   rw [this];simp
theorem yp2 (ao:Nat→Option Addr) (na ca:Nat→Nat) (pp:Ex→Bool) (b off cap:Nat) (l:List (Ex)) (w:World) (hb:b < w.heap.size) (hn:l.length≤1000000000000000)
  (hc:∀ (k:Nat) x,l[k]?=some x→w.cell? ⟨b,off+k*6,none⟩=some (.int .i64 x.k)∧w.cell? ⟨b,off+k*6+1,none⟩=some (.int .i64 x.v.k)∧w.cell? ⟨b,off+k*6+2,none⟩=some (.int .i64 x.v.n)∧w.cell? ⟨b,off+k*6+3,none⟩=some (.string ⟨x.v.s.toArray⟩)∧w.cell? ⟨b,off+k*6+4,none⟩=some (.string ⟨x.nm.toArray⟩)∧w.cell? ⟨b,off+k*6+5,none⟩=some (.slice (ao k) (na k) (ca k)))
  (hp:∀ (k:Nat) x,l[k]?=some x→∀ W,Below w.heap.size w W→Calls Tryz.prog 78 #[.agg #[.int .i64 x.k,.int .i64 x.v.k,.int .i64 x.v.n,.string ⟨x.v.s.toArray⟩,.string ⟨x.nm.toArray⟩,.slice (ao k) (na k) (ca k)]] W fun e w'=>e=.returned (.bool (pp x))∧Below W.heap.size W w') :
  Calls Tryz.prog 129 #[.slice (some ⟨b,off,none⟩) l.length cap,.func (.func 78) #[] #[]] w fun e w'=>e=.returned (.bool (l.all pp))∧Below w.heap.size w w':=by
 have hm:=hmf
 have hi:∀ t,Calls Tryz.prog 178 #[.slice (some ⟨b,off,none⟩) l.length cap,.func (.func 164) #[] #[.pointer (some ⟨w.heap.size,0,none⟩)]] (w.alloc (.cells #[.func (.func 78) #[] #[]] t)) fun e w'=>(∃ r:Int,e=.returned (.int .i64 r)∧(decide (0≤r)=!(l.all pp)))∧Below w.heap.size w w':=by
  intro t
  have b0:=(Below.refl w.heap.size w).alloc (Nat.le_refl _) (.cells #[.func (.func 78) #[] #[]] t)
  refine (yoG ao na ca pp b off cap w.heap.size l _ (by simp;omega) (by simp) (by simp) hn ?_ ?_).mono ?_
  ·intro k x hx
   have:=hc k x hx
   refine ⟨(ya2 _ hb).trans this.1,(ya2 _ hb).trans this.2.1,(ya2 _ hb).trans this.2.2.1,(ya2 _ hb).trans this.2.2.2.1,(ya2 _ hb).trans this.2.2.2.2.1,(ya2 _ hb).trans this.2.2.2.2.2⟩
  ·intro k x hx W hW
   exact hp k x hx W (b0.trans (hW.mono (by simp)))
  ·rintro e w' ⟨hr,hb⟩
   exact ⟨hr,b0.trans (hb.mono (by simp))⟩
 generalize l.all pp=A at hi ⊢
 clear hp hc
 go_enter Tryz.func129,Tryz.ntmps129
 go_wp2_with (first|(go_at_call 163;go_in)|(go_at_call 178;refine (hi _).mono ?_;rintro e w1 ⟨⟨r,rfl,hr⟩,b1⟩))
 go_ret
 exact ⟨yaF (by simp),b1⟩
theorem Tryz.fields24:(Tryz.prog.fieldsOf 24).toList.map (fun f=>(f.name,f.type,f.offset))=[("Kind",3,0),("N",3,1),("S",9,2)]:=by kernel_rfl
theorem Tryz.under24:Tryz.prog.underlying 24=some (.struct (Tryz.prog.fieldsOf 24)):=by kernel_rfl
theorem Tryz.stood24:Tryz.prog.stoodInHeld 24=false:=by kernel_rfl
theorem yjQ (k a k' a':Int) (t t':ByteArray) (w:World) :
  (binOp .eql 24 (.agg #[.int .i64 k,.int .i64 a,.string t]) (.agg #[.int .i64 k',.int .i64 a',.string t'])).run Tryz.prog w=.ok (.bool (ydG k a t k' a' t')) w:=by
 rw [run_eql_struct,run_equalIn_struct w 9999 24 _ _ Tryz.under24 Tryz.stood24]
 obtain ⟨f0,f1,f2,hf,n0,t0,o0,n1,t1,o1,n2,t2,o2⟩:=ydA Tryz.fields24
 rw [hf]
 simp [Op.eqFields,n0,t0,o0,n1,t1,o1,n2,t2,o2,go_sem]
 unfold ydG
 by_cases h1:k=k' <;> by_cases h2:a=a' <;> by_cases h3:t.toList=t'.toList <;> simp [h1,h2,h3]
def ybU (x:Vl):Bool:=decide (x.k=0)&&decide (x.n=0)&&decide (x.s=[])
theorem yrx (x:Vl):ydG x.k x.n ⟨x.s.toArray⟩ 0 0 ⟨#[]⟩=ybU x:=by
 unfold ydG ybU
 have e1:(⟨x.s.toArray⟩:ByteArray).toList=x.s:=by rw [Lib.toList_data]
 have e2:(⟨#[]⟩:ByteArray).toList=[]:=by rw [Lib.toList_data]
 rw [e1,e2,Bool.eq_iff_iff]
 simp
def Ex.args:Ex→List Ex|.mk _ _ _ a=>a
def ybw (x:Ex):Bool:=decide (x.k=0)&&ybU x.v&&decide (x.nm=[])&&decide (x.args=[])
theorem yf5 (x:Ex) (ao:Option Addr) (ca:Nat) (w:World) :
  Calls Tryz.prog 79 #[.agg #[.int .i64 x.k,.int .i64 x.v.k,.int .i64 x.v.n,.string ⟨x.v.s.toArray⟩,.string ⟨x.nm.toArray⟩,.slice ao x.args.length ca]] w fun e w'=>e=.returned (.bool (ybw x))∧Below w.heap.size w w':=by
 have hq:=yjQ
 have hs:=yrx x.v
 unfold ybw
 generalize ybU x.v=B at hs ⊢
 have hk:(x.k == 0)=decide (x.k=0):=by rw [Bool.eq_iff_iff];simp
 have hn:x.nm.isEmpty=decide (x.nm=[]):=by cases x.nm <;> simp
 have ha:((x.args.length:Int) == 0)=decide (x.args=[]):=by rw [Bool.eq_iff_iff];cases x.args <;> simp;omega
 generalize decide (x.k=0)=K at hk ⊢
 generalize decide (x.nm=[])=M at hn ⊢
 generalize decide (x.args=[])=A at ha ⊢
 cases K <;> cases B <;> cases M
 all_goals
  go_enter Tryz.func79,Tryz.ntmps79
  go_wp2
  go_ret
  refine ⟨yaF ?_,(Below.refl _ _).alloc (Nat.le_refl _) _⟩
  first|rfl|simp_all
theorem yjc (k:Int) (x:Vl) (nm:List UInt8) (ao:Option Addr) (n ca:Nat) (w:World) (hk:k=1) (hs:x.s.length≤140737488355328) :
  Calls Tryz.prog 78 #[.agg #[.int .i64 k,.int .i64 x.k,.int .i64 x.n,.string ⟨x.s.toArray⟩,.string ⟨nm.toArray⟩,.slice ao n ca]] w fun e w'=>e=.returned (.bool (ycm x&&decide (nm=[])&&decide (n=0)))∧Below w.heap.size w w':=by
 subst hk
 have b0:=(Below.refl w.heap.size w).alloc (Nat.le_refl _) (.cells #[.int .i64 1,.int .i64 x.k,.int .i64 x.n,.string ⟨x.s.toArray⟩,.string ⟨nm.toArray⟩,.slice ao n ca] 29)
 have h:=yd4 x (w.alloc (.cells #[.int .i64 1,.int .i64 x.k,.int .i64 x.n,.string ⟨x.s.toArray⟩,.string ⟨nm.toArray⟩,.slice ao n ca] 29)) hs
 generalize ycm x=B at h ⊢
 have hn:nm.isEmpty=decide (nm=[]):=by cases nm <;> simp
 have ha:((n:Int) == 0)=decide (n=0):=by rw [Bool.eq_iff_iff];simp
 generalize decide (nm=[])=M at hn ⊢
 generalize decide (n=0)=A at ha ⊢
 cases B <;> cases M
 all_goals
  go_enter Tryz.func78,Tryz.ntmps78
  go_wp2_with (go_at_call 75;refine h.mono ?_;rintro e w1 ⟨rfl,b1⟩;have d4:w1.cell? ⟨w.heap.size,4,none⟩=some (.string ⟨nm.toArray⟩):=(b1.cell (by simp)).trans (by simp);have d5:w1.cell? ⟨w.heap.size,5,none⟩=some (.slice ao n ca):=(b1.cell (by simp)).trans (by simp))
  go_ret
  refine ⟨yaF ?_,b0.trans (b1.mono (by simp))⟩
  first|rfl|simp_all
theorem yjd (k:Int) (x:Vl) (nm:List UInt8) (ao:Option Addr) (n ca:Nat) (w:World) (hk:k=2) (hs:nm.length≤140737488355328) (hl:Laid w) :
  Calls Tryz.prog 78 #[.agg #[.int .i64 k,.int .i64 x.k,.int .i64 x.n,.string ⟨x.s.toArray⟩,.string ⟨nm.toArray⟩,.slice ao n ca]] w fun e w'=>e=.returned (.bool (ybU x&&yap nm&&decide (n=0)))∧Below w.heap.size w w':=by
 subst hk
 have b0:=(Below.refl w.heap.size w).alloc (Nat.le_refl _) (.cells #[.int .i64 2,.int .i64 x.k,.int .i64 x.n,.string ⟨x.s.toArray⟩,.string ⟨nm.toArray⟩,.slice ao n ca] 29)
 have h:=yci ⟨nm.toArray⟩ (w.alloc (.cells #[.int .i64 2,.int .i64 x.k,.int .i64 x.n,.string ⟨x.s.toArray⟩,.string ⟨nm.toArray⟩,.slice ao n ca] 29)) (by rw [yaN];exact hs) (hl.below b0)
 have e0:(⟨nm.toArray⟩:ByteArray).data.toList=nm:=by simp
 rw [e0] at h
 have hq:=yjQ
 have hv:=yrx x
 generalize ybU x=B at hv ⊢
 generalize yap nm=M at h ⊢
 have ha:((n:Int) == 0)=decide (n=0):=by rw [Bool.eq_iff_iff];simp
 generalize decide (n=0)=A at ha ⊢
 cases B
 ·go_enter Tryz.func78,Tryz.ntmps78
  go_wp2_with fail
  go_ret
  exact ⟨yaF (by first|rfl|simp_all),b0⟩
 ·cases M
  all_goals
   go_enter Tryz.func78,Tryz.ntmps78
   go_wp2_with (go_at_call 72;refine h.mono ?_;rintro e w1 ⟨rfl,b1⟩;have d5:w1.cell? ⟨w.heap.size,5,none⟩=some (.slice ao n ca):=(b1.cell (by simp)).trans (by simp))
   go_ret
   refine ⟨yaF ?_,b0.trans (b1.mono (by simp))⟩
   first|rfl|simp_all
theorem yq9 {w W W':World} {k:Int} {x:Vl} {nm:List UInt8} {ao:Option Addr} {n ca:Nat}
  (h:W.cell? ⟨w.heap.size,0,none⟩=some (.int .i64 k)∧W.cell? ⟨w.heap.size,1,none⟩=some (.int .i64 x.k)∧W.cell? ⟨w.heap.size,2,none⟩=some (.int .i64 x.n)∧W.cell? ⟨w.heap.size,3,none⟩=some (.string ⟨x.s.toArray⟩)∧W.cell? ⟨w.heap.size,4,none⟩=some (.string ⟨nm.toArray⟩)∧W.cell? ⟨w.heap.size,5,none⟩=some (.slice ao n ca)∧Below w.heap.size w W∧w.heap.size < W.heap.size) (hb:Below W.heap.size W W') :
  W'.cell? ⟨w.heap.size,0,none⟩=some (.int .i64 k)∧W'.cell? ⟨w.heap.size,1,none⟩=some (.int .i64 x.k)∧W'.cell? ⟨w.heap.size,2,none⟩=some (.int .i64 x.n)∧W'.cell? ⟨w.heap.size,3,none⟩=some (.string ⟨x.s.toArray⟩)∧W'.cell? ⟨w.heap.size,4,none⟩=some (.string ⟨nm.toArray⟩)∧W'.cell? ⟨w.heap.size,5,none⟩=some (.slice ao n ca)∧Below w.heap.size w W'∧w.heap.size < W'.heap.size:=by
 obtain ⟨h0,h1,h2,h3,h4,h5,h6,h7⟩:=h
 exact ⟨(hb.cell h7).trans h0,(hb.cell h7).trans h1,(hb.cell h7).trans h2,(hb.cell h7).trans h3,(hb.cell h7).trans h4,(hb.cell h7).trans h5,h6.trans (hb.mono h6.size),Nat.lt_of_lt_of_le h7 hb.size⟩
theorem ygy (k:Int) (x:Vl) (nm:List UInt8) (ao:Option Addr) (n ca:Nat) (w:World) (h1:(k == 1)=false) (h2:(k == 2)=false) (B M:Bool) (hv:ydG x.k x.n ⟨x.s.toArray⟩ 0 0 ⟨#[]⟩=B) (hn:nm.isEmpty=M) (hoff:B=false∨M=false∨n=0) :
  Calls Tryz.prog 78 #[.agg #[.int .i64 k,.int .i64 x.k,.int .i64 x.n,.string ⟨x.s.toArray⟩,.string ⟨nm.toArray⟩,.slice ao n ca]] w fun e w'=>e=.returned (.bool false)∧Below w.heap.size w w':=by
 have b0:=(Below.refl w.heap.size w).alloc (Nat.le_refl _) (.cells #[.int .i64 k,.int .i64 x.k,.int .i64 x.n,.string ⟨x.s.toArray⟩,.string ⟨nm.toArray⟩,.slice ao n ca] 29)
 have hq:=yjQ
 cases B
 ·clear hoff
  go_enter Tryz.func78,Tryz.ntmps78
  go_wp2_with fail
  go_quiet (fail)
  go_wp2
  go_ret
  exact ⟨rfl,below_drewN b0 _⟩
 ·cases M
  ·clear hoff
   go_enter Tryz.func78,Tryz.ntmps78
   go_wp2_with fail
   go_quiet (fail)
   go_wp2
   go_ret
   exact ⟨rfl,below_drewN b0 _⟩
  ·have h0:n=0:=by simpa using hoff
   subst h0
   clear hoff
   go_enter Tryz.func78,Tryz.ntmps78
   go_wp2_with fail
   go_quiet (fail)
   go_wp2
   go_ret
   exact ⟨rfl,below_drewN b0 _⟩
theorem yay {P:Program} {ops:Array Oper} {Q:Exit→Act→World→Prop} {md:Region.Mode} {S:World→Prop} (i d:Nat) {oi:Oper} {v:Value} {fuel:Nat} {listed:Array Bool} {a:Act} {w:World} (hi:ops[i]?=some oi) (hd:oi.dst=some d)
  (hs:Region.noSelect ops=true) (hf:Region.free md ops listed i=true) (hr:(Region.ready md ops listed).contains i=true)
  (hQ:∀ c a w,Q (.panic c) (a.put (some d) v) w→Q (.panic c) a w) (hy:YieldsIf P ops S oi v a) (hS:S w)
  (h:wpAnyH P md ops Q S fuel (listed.setIfInBounds i true) { tmps:=a.tmps.setIfInBounds d v,defers:=a.defers } w):wpAnyH P md ops Q S (fuel+1) listed a w :=
 wpAnyH_take hi hs hf hr (by rw [hd];exact hQ) hy hS (by rw [hd];exact h)
theorem yoP (k:Int) (x:Vl) (nm:List UInt8) (ao:Option Addr) (n ca:Nat) (w:World) (h1:(k == 1)=false) (h2:(k == 2)=false) (hv:ydG x.k x.n ⟨x.s.toArray⟩ 0 0 ⟨#[]⟩=true) (hn:nm.isEmpty=true) (h0:0 < n) (r:Nat) (hr:((n:Int) == (r:Int))=false)
  (ha:∀ W,Calls Tryz.prog 128 #[.int .i64 k] W fun e w'=>e=.returned (.int .i64 (r:Int))∧Below W.heap.size W w') :
  Calls Tryz.prog 78 #[.agg #[.int .i64 k,.int .i64 x.k,.int .i64 x.n,.string ⟨x.s.toArray⟩,.string ⟨nm.toArray⟩,.slice ao n ca]] w fun e w'=>e=.returned (.bool false)∧Below w.heap.size w w':=by
 have b0:=(Below.refl w.heap.size w).alloc (Nat.le_refl _) (.cells #[.int .i64 k,.int .i64 x.k,.int .i64 x.n,.string ⟨x.s.toArray⟩,.string ⟨nm.toArray⟩,.slice ao n ca] 29)
 have hq:=yjQ
 have h0':(0:Int) < (n:Int):=by omega
 have hr2:(n == r)=false:=by rw [beq_eq_false_iff_ne] at hr ⊢;omega
 have hr3:¬ n=r:=by rw [beq_eq_false_iff_ne] at hr;omega
 have hr4:decide (n=r)=false:=by simpa using hr3
 have hr5:¬ (n:Int)=(r:Int):=by omega
 have hr6:decide ((n:Int)=(r:Int))=false:=by simpa using hr5
 have hd0:decide ((0:Int) < (n:Int))=true:=by simpa using h0
 have hd1:decide (0 < n)=true:=by simpa using h0
 have y0:(w.alloc (.cells #[.int .i64 k,.int .i64 x.k,.int .i64 x.n,.string ⟨x.s.toArray⟩,.string ⟨nm.toArray⟩,.slice ao n ca] 29)).drew.cell? ⟨w.heap.size,0,none⟩=some (.int .i64 k):=(Lib.cell_of_heap (heap_alloc_new w (.cells #[.int .i64 k,.int .i64 x.k,.int .i64 x.n,.string ⟨x.s.toArray⟩,.string ⟨nm.toArray⟩,.slice ao n ca] 29)) 0).trans rfl
 have y1:(w.alloc (.cells #[.int .i64 k,.int .i64 x.k,.int .i64 x.n,.string ⟨x.s.toArray⟩,.string ⟨nm.toArray⟩,.slice ao n ca] 29)).drew.cell? ⟨w.heap.size,1,none⟩=some (.int .i64 x.k):=(Lib.cell_of_heap (heap_alloc_new w (.cells #[.int .i64 k,.int .i64 x.k,.int .i64 x.n,.string ⟨x.s.toArray⟩,.string ⟨nm.toArray⟩,.slice ao n ca] 29)) 1).trans rfl
 have y2:(w.alloc (.cells #[.int .i64 k,.int .i64 x.k,.int .i64 x.n,.string ⟨x.s.toArray⟩,.string ⟨nm.toArray⟩,.slice ao n ca] 29)).drew.cell? ⟨w.heap.size,2,none⟩=some (.int .i64 x.n):=(Lib.cell_of_heap (heap_alloc_new w (.cells #[.int .i64 k,.int .i64 x.k,.int .i64 x.n,.string ⟨x.s.toArray⟩,.string ⟨nm.toArray⟩,.slice ao n ca] 29)) 2).trans rfl
 have y3:(w.alloc (.cells #[.int .i64 k,.int .i64 x.k,.int .i64 x.n,.string ⟨x.s.toArray⟩,.string ⟨nm.toArray⟩,.slice ao n ca] 29)).drew.cell? ⟨w.heap.size,3,none⟩=some (.string ⟨x.s.toArray⟩):=(Lib.cell_of_heap (heap_alloc_new w (.cells #[.int .i64 k,.int .i64 x.k,.int .i64 x.n,.string ⟨x.s.toArray⟩,.string ⟨nm.toArray⟩,.slice ao n ca] 29)) 3).trans rfl
 have y4:(w.alloc (.cells #[.int .i64 k,.int .i64 x.k,.int .i64 x.n,.string ⟨x.s.toArray⟩,.string ⟨nm.toArray⟩,.slice ao n ca] 29)).drew.cell? ⟨w.heap.size,4,none⟩=some (.string ⟨nm.toArray⟩):=(Lib.cell_of_heap (heap_alloc_new w (.cells #[.int .i64 k,.int .i64 x.k,.int .i64 x.n,.string ⟨x.s.toArray⟩,.string ⟨nm.toArray⟩,.slice ao n ca] 29)) 4).trans rfl
 have y5:(w.alloc (.cells #[.int .i64 k,.int .i64 x.k,.int .i64 x.n,.string ⟨x.s.toArray⟩,.string ⟨nm.toArray⟩,.slice ao n ca] 29)).drew.cell? ⟨w.heap.size,5,none⟩=some (.slice ao n ca):=(Lib.cell_of_heap (heap_alloc_new w (.cells #[.int .i64 k,.int .i64 x.k,.int .i64 x.n,.string ⟨x.s.toArray⟩,.string ⟨nm.toArray⟩,.slice ao n ca] 29)) 5).trans rfl
 have yl:w.heap.size < (w.alloc (.cells #[.int .i64 k,.int .i64 x.k,.int .i64 x.n,.string ⟨x.s.toArray⟩,.string ⟨nm.toArray⟩,.slice ao n ca] 29)).drew.heap.size:=(Array.getElem?_eq_some_iff.1 (heap_alloc_new w (.cells #[.int .i64 k,.int .i64 x.k,.int .i64 x.n,.string ⟨x.s.toArray⟩,.string ⟨nm.toArray⟩,.slice ao n ca] 29))).1
 have yb:Below w.heap.size w (w.alloc (.cells #[.int .i64 k,.int .i64 x.k,.int .i64 x.n,.string ⟨x.s.toArray⟩,.string ⟨nm.toArray⟩,.slice ao n ca] 29)).drew:=b0.drew
 go_enter Tryz.func78,Tryz.ntmps78
 go_wp2_with fail
 refine wp_region_held_drew (S:=(fun w'=>w'.cell? ⟨w.heap.size,0,none⟩=some (.int .i64 k)∧w'.cell? ⟨w.heap.size,1,none⟩=some (.int .i64 x.k)∧w'.cell? ⟨w.heap.size,2,none⟩=some (.int .i64 x.n)∧w'.cell? ⟨w.heap.size,3,none⟩=some (.string ⟨x.s.toArray⟩)∧w'.cell? ⟨w.heap.size,4,none⟩=some (.string ⟨nm.toArray⟩)∧w'.cell? ⟨w.heap.size,5,none⟩=some (.slice ao n ca)∧Below w.heap.size w w'∧w.heap.size < w'.heap.size)) (by kernel_rfl) ⟨y0,y1,y2,y3,y4,y5,yb,yl⟩ (fun hHeld=>?_)
 refine yay 0 38 (v:=?_) (by simp only [List.getElem?_toArray,List.getElem?_cons_zero];rfl) rfl (by kernel_rfl) (by kernel_rfl) (by kernel_rfl) (fun _ _ _ h=>h) (Or.inl ⟨by rfl, ?_⟩) (by assumption) ?_
 rotate_left
 ·intro W hSw
  obtain ⟨i0,i1,i2,i3,i4,i5,-,-⟩:=hSw
  go_simp
  try with_reducible rfl
 simp only [List.setIfInBounds_toArray,List.set_cons_succ,List.set_cons_zero]
 refine yay 1 39 (v:=?_) (by simp only [List.getElem?_toArray,List.getElem?_cons_succ,List.getElem?_cons_zero];rfl) rfl (by kernel_rfl) (by kernel_rfl) (by kernel_rfl) (fun _ _ _ h=>h) (Or.inl ⟨by rfl, ?_⟩) (by assumption) ?_
 rotate_left
 ·intro W hSw
  obtain ⟨i0,i1,i2,i3,i4,i5,-,-⟩:=hSw
  go_simp
  try with_reducible rfl
 simp only [List.setIfInBounds_toArray,List.set_cons_succ,List.set_cons_zero]
 refine yay 2 40 (v:=?_) (by simp only [List.getElem?_toArray,List.getElem?_cons_succ,List.getElem?_cons_zero];rfl) rfl (by kernel_rfl) (by kernel_rfl) (by kernel_rfl) (fun _ _ _ h=>h) (Or.inl ⟨by rfl, ?_⟩) (by assumption) ?_
 rotate_left
 ·intro W hSw
  obtain ⟨i0,i1,i2,i3,i4,i5,-,-⟩:=hSw
  go_simp
  try with_reducible rfl
 simp only [List.setIfInBounds_toArray,List.set_cons_succ,List.set_cons_zero]
 refine yay 3 41 (v:=?_) (by simp only [List.getElem?_toArray,List.getElem?_cons_succ,List.getElem?_cons_zero];rfl) rfl (by kernel_rfl) (by kernel_rfl) (by kernel_rfl) (fun _ _ _ h=>h) (Or.inl ⟨by rfl, ?_⟩) (by assumption) ?_
 rotate_left
 ·intro W hSw
  obtain ⟨i0,i1,i2,i3,i4,i5,-,-⟩:=hSw
  go_simp
  try with_reducible rfl
 simp only [List.setIfInBounds_toArray,List.set_cons_succ,List.set_cons_zero]
 refine yay 4 42 (v:=?_) (by simp only [List.getElem?_toArray,List.getElem?_cons_succ,List.getElem?_cons_zero];rfl) rfl (by kernel_rfl) (by kernel_rfl) (by kernel_rfl) (fun _ _ _ h=>h) (Or.inl ⟨by rfl, ?_⟩) (by assumption) ?_
 rotate_left
 ·intro W hSw
  obtain ⟨i0,i1,i2,i3,i4,i5,-,-⟩:=hSw
  go_simp
  try with_reducible rfl
 simp only [List.setIfInBounds_toArray,List.set_cons_succ,List.set_cons_zero]
 refine yay 5 43 (v:=?_) (by simp only [List.getElem?_toArray,List.getElem?_cons_succ,List.getElem?_cons_zero];rfl) rfl (by kernel_rfl) (by kernel_rfl) (by kernel_rfl) (fun _ _ _ h=>h) (Or.inl ⟨by rfl, ?_⟩) (by assumption) ?_
 rotate_left
 ·intro W hSw
  obtain ⟨i0,i1,i2,i3,i4,i5,-,-⟩:=hSw
  go_simp
  try with_reducible rfl
 simp only [List.setIfInBounds_toArray,List.set_cons_succ,List.set_cons_zero]
 refine yay 6 44 (v:=?_) (by simp only [List.getElem?_toArray,List.getElem?_cons_succ,List.getElem?_cons_zero];rfl) rfl (by kernel_rfl) (by kernel_rfl) (by kernel_rfl) (fun _ _ _ h=>h) (Or.inl ⟨by rfl, ?_⟩) (by assumption) ?_
 rotate_left
 ·intro W hSw
  obtain ⟨i0,i1,i2,i3,i4,i5,-,-⟩:=hSw
  go_simp
  try with_reducible rfl
 simp only [List.setIfInBounds_toArray,List.set_cons_succ,List.set_cons_zero]
 refine yay 7 45 (v:=?_) (by simp only [List.getElem?_toArray,List.getElem?_cons_succ,List.getElem?_cons_zero];rfl) rfl (by kernel_rfl) (by kernel_rfl) (by kernel_rfl) (fun _ _ _ h=>h) (Or.inl ⟨by rfl, ?_⟩) (by assumption) ?_
 rotate_left
 ·intro W hSw
  obtain ⟨i0,i1,i2,i3,i4,i5,-,-⟩:=hSw
  go_simp
  try with_reducible rfl
 simp only [List.setIfInBounds_toArray,List.set_cons_succ,List.set_cons_zero]
 refine yay 8 46 (v:=?_) (by simp only [List.getElem?_toArray,List.getElem?_cons_succ,List.getElem?_cons_zero];rfl) rfl (by kernel_rfl) (by kernel_rfl) (by kernel_rfl) (fun _ _ _ h=>h) (Or.inl ⟨by rfl, ?_⟩) (by assumption) ?_
 rotate_left
 ·intro W hSw
  obtain ⟨i0,i1,i2,i3,i4,i5,-,-⟩:=hSw
  go_simp
  try with_reducible rfl
 simp only [List.setIfInBounds_toArray,List.set_cons_succ,List.set_cons_zero]
 refine yay 9 47 (v:=?_) (by simp only [List.getElem?_toArray,List.getElem?_cons_succ,List.getElem?_cons_zero];rfl) rfl (by kernel_rfl) (by kernel_rfl) (by kernel_rfl) (fun _ _ _ h=>h) (Or.inl ⟨by rfl, ?_⟩) (by assumption) ?_
 rotate_left
 ·intro W hSw
  obtain ⟨i0,i1,i2,i3,i4,i5,-,-⟩:=hSw
  go_simp
  try with_reducible rfl
 simp only [List.setIfInBounds_toArray,List.set_cons_succ,List.set_cons_zero]
 refine yay 10 48 (v:=?_) (by simp only [List.getElem?_toArray,List.getElem?_cons_succ,List.getElem?_cons_zero];rfl) rfl (by kernel_rfl) (by kernel_rfl) (by kernel_rfl) (fun _ _ _ h=>h) (Or.inl ⟨by rfl, ?_⟩) (by assumption) ?_
 rotate_left
 ·intro W hSw
  obtain ⟨i0,i1,i2,i3,i4,i5,-,-⟩:=hSw
  go_simp
  try with_reducible rfl
 simp only [List.setIfInBounds_toArray,List.set_cons_succ,List.set_cons_zero]
 refine yay 11 49 (v:=?_) (by simp only [List.getElem?_toArray,List.getElem?_cons_succ,List.getElem?_cons_zero];rfl) rfl (by kernel_rfl) (by kernel_rfl) (by kernel_rfl) (fun _ _ _ h=>h) (Or.inl ⟨by rfl, ?_⟩) (by assumption) ?_
 rotate_left
 ·intro W hSw
  obtain ⟨i0,i1,i2,i3,i4,i5,-,-⟩:=hSw
  go_simp
  try with_reducible rfl
 simp only [List.setIfInBounds_toArray,List.set_cons_succ,List.set_cons_zero]
 refine yay 12 50 (v:=?_) (by simp only [List.getElem?_toArray,List.getElem?_cons_succ,List.getElem?_cons_zero];rfl) rfl (by kernel_rfl) (by kernel_rfl) (by kernel_rfl) (fun _ _ _ h=>h) (Or.inl ⟨by rfl, ?_⟩) (by assumption) ?_
 rotate_left
 ·intro W hSw
  obtain ⟨i0,i1,i2,i3,i4,i5,-,-⟩:=hSw
  go_simp
  try with_reducible rfl
 simp only [List.setIfInBounds_toArray,List.set_cons_succ,List.set_cons_zero]
 refine yay 13 51 (v:=?_) (by simp only [List.getElem?_toArray,List.getElem?_cons_succ,List.getElem?_cons_zero];rfl) rfl (by kernel_rfl) (by kernel_rfl) (by kernel_rfl) (fun _ _ _ h=>h) (Or.inl ⟨by rfl, ?_⟩) (by assumption) ?_
 rotate_left
 ·intro W hSw
  obtain ⟨i0,i1,i2,i3,i4,i5,-,-⟩:=hSw
  go_simp
  try with_reducible rfl
 simp only [List.setIfInBounds_toArray,List.set_cons_succ,List.set_cons_zero]
 refine yay 14 52 (v:=?_) (by simp only [List.getElem?_toArray,List.getElem?_cons_succ,List.getElem?_cons_zero];rfl) rfl (by kernel_rfl) (by kernel_rfl) (by kernel_rfl) (fun _ _ _ h=>h) (Or.inl ⟨by rfl, ?_⟩) (by assumption) ?_
 rotate_left
 ·intro W hSw
  obtain ⟨i0,i1,i2,i3,i4,i5,-,-⟩:=hSw
  go_simp
  try with_reducible rfl
 simp only [List.setIfInBounds_toArray,List.set_cons_succ,List.set_cons_zero]
 refine yay 15 53 (v:=?_) (by simp only [List.getElem?_toArray,List.getElem?_cons_succ,List.getElem?_cons_zero];rfl) rfl (by kernel_rfl) (by kernel_rfl) (by kernel_rfl) (fun _ _ _ h=>h) (Or.inl ⟨by rfl, ?_⟩) (by assumption) ?_
 rotate_left
 ·intro W hSw
  obtain ⟨i0,i1,i2,i3,i4,i5,-,-⟩:=hSw
  go_simp
  try with_reducible rfl
 simp only [List.setIfInBounds_toArray,List.set_cons_succ,List.set_cons_zero]
 refine yay 16 54 (v:=?_) (by simp only [List.getElem?_toArray,List.getElem?_cons_succ,List.getElem?_cons_zero];rfl) rfl (by kernel_rfl) (by kernel_rfl) (by kernel_rfl) (fun _ _ _ h=>h) (Or.inl ⟨by rfl, ?_⟩) (by assumption) ?_
 rotate_left
 ·intro W hSw
  obtain ⟨i0,i1,i2,i3,i4,i5,-,-⟩:=hSw
  go_simp
  try with_reducible rfl
 simp only [List.setIfInBounds_toArray,List.set_cons_succ,List.set_cons_zero]
 refine yay 17 55 (v:=?_) (by simp only [List.getElem?_toArray,List.getElem?_cons_succ,List.getElem?_cons_zero];rfl) rfl (by kernel_rfl) (by kernel_rfl) (by kernel_rfl) (fun _ _ _ h=>h) (Or.inl ⟨by rfl, ?_⟩) (by assumption) ?_
 rotate_left
 ·intro W hSw
  obtain ⟨i0,i1,i2,i3,i4,i5,-,-⟩:=hSw
  go_simp
  try with_reducible rfl
 simp only [List.setIfInBounds_toArray,List.set_cons_succ,List.set_cons_zero]
 refine yay 18 56 (v:=?_) (by simp only [List.getElem?_toArray,List.getElem?_cons_succ,List.getElem?_cons_zero];rfl) rfl (by kernel_rfl) (by kernel_rfl) (by kernel_rfl) (fun _ _ _ h=>h) (Or.inl ⟨by rfl, ?_⟩) (by assumption) ?_
 rotate_left
 ·intro W hSw
  obtain ⟨i0,i1,i2,i3,i4,i5,-,-⟩:=hSw
  go_simp
  try with_reducible rfl
 simp only [List.setIfInBounds_toArray,List.set_cons_succ,List.set_cons_zero]
 refine yay 19 57 (v:=?_) (by simp only [List.getElem?_toArray,List.getElem?_cons_succ,List.getElem?_cons_zero];rfl) rfl (by kernel_rfl) (by kernel_rfl) (by kernel_rfl) (fun _ _ _ h=>h) (Or.inl ⟨by rfl, ?_⟩) (by assumption) ?_
 rotate_left
 ·intro W hSw
  obtain ⟨i0,i1,i2,i3,i4,i5,-,-⟩:=hSw
  go_simp
  try with_reducible rfl
 simp only [List.setIfInBounds_toArray,List.set_cons_succ,List.set_cons_zero]
 refine yay 20 58 (v:=?_) (by simp only [List.getElem?_toArray,List.getElem?_cons_succ,List.getElem?_cons_zero];rfl) rfl (by kernel_rfl) (by kernel_rfl) (by kernel_rfl) (fun _ _ _ h=>h) (Or.inl ⟨by rfl, ?_⟩) (by assumption) ?_
 rotate_left
 ·intro W hSw
  obtain ⟨i0,i1,i2,i3,i4,i5,-,-⟩:=hSw
  go_simp
  try with_reducible rfl
 simp only [List.setIfInBounds_toArray,List.set_cons_succ,List.set_cons_zero]
 refine wpAnyH_ready (rs:=[21]) (by kernel_rfl) (by simp) ?_
 refine AllReadyH.cons rfl (fun K hK=>?_) AllReadyH.nil
 go_simp
 go_wp2_with (first|(go_at_call 128;refine (ha _).mono ?_;rintro e w1 ⟨rfl,hb⟩))
 refine hK.out _ _ (yq9 hHeld hb) (fun hHeld2=>?_)
 clear hK K hHeld
 refine yay 22 60 (v:=?_) (by simp only [List.getElem?_toArray,List.getElem?_cons_succ,List.getElem?_cons_zero];rfl) rfl (by kernel_rfl) (by kernel_rfl) (by kernel_rfl) (fun _ _ _ h=>h) (Or.inl ⟨by rfl, ?_⟩) (by assumption) ?_
 rotate_left
 ·intro W hSw
  obtain ⟨i0,i1,i2,i3,i4,i5,-,-⟩:=hSw
  go_simp
  try with_reducible rfl
 simp only [List.setIfInBounds_toArray,List.set_cons_succ,List.set_cons_zero]
 refine yay 23 61 (v:=?_) (by simp only [List.getElem?_toArray,List.getElem?_cons_succ,List.getElem?_cons_zero];rfl) rfl (by kernel_rfl) (by kernel_rfl) (by kernel_rfl) (fun _ _ _ h=>h) (Or.inl ⟨by rfl, ?_⟩) (by assumption) ?_
 rotate_left
 ·intro W hSw
  obtain ⟨i0,i1,i2,i3,i4,i5,-,-⟩:=hSw
  go_simp
  try with_reducible rfl
 simp only [List.setIfInBounds_toArray,List.set_cons_succ,List.set_cons_zero]
 refine yay 24 62 (v:=?_) (by simp only [List.getElem?_toArray,List.getElem?_cons_succ,List.getElem?_cons_zero];rfl) rfl (by kernel_rfl) (by kernel_rfl) (by kernel_rfl) (fun _ _ _ h=>h) (Or.inl ⟨by rfl, ?_⟩) (by assumption) ?_
 rotate_left
 ·intro W hSw
  obtain ⟨i0,i1,i2,i3,i4,i5,-,-⟩:=hSw
  go_simp
  try with_reducible rfl
 simp only [List.setIfInBounds_toArray,List.set_cons_succ,List.set_cons_zero]
 refine yay 25 63 (v:=undef) (by simp only [List.getElem?_toArray,List.getElem?_cons_succ,List.getElem?_cons_zero];rfl) rfl (by kernel_rfl) (by kernel_rfl) (by kernel_rfl) (fun _ _ _ h=>h) (Or.inr ⟨by rfl,rfl⟩) (by assumption) ?_
 simp only [List.setIfInBounds_toArray,List.set_cons_succ,List.set_cons_zero]
 refine yay 26 64 (v:=undef) (by simp only [List.getElem?_toArray,List.getElem?_cons_succ,List.getElem?_cons_zero];rfl) rfl (by kernel_rfl) (by kernel_rfl) (by kernel_rfl) (fun _ _ _ h=>h) (Or.inr ⟨by rfl,rfl⟩) (by assumption) ?_
 simp only [List.setIfInBounds_toArray,List.set_cons_succ,List.set_cons_zero]
 refine yay 27 65 (v:=undef) (by simp only [List.getElem?_toArray,List.getElem?_cons_succ,List.getElem?_cons_zero];rfl) rfl (by kernel_rfl) (by kernel_rfl) (by kernel_rfl) (fun _ _ _ h=>h) (Or.inr ⟨by rfl,rfl⟩) (by assumption) ?_
 simp only [List.setIfInBounds_toArray,List.set_cons_succ,List.set_cons_zero]
 refine yay 28 66 (v:=?_) (by simp only [List.getElem?_toArray,List.getElem?_cons_succ,List.getElem?_cons_zero];rfl) rfl (by kernel_rfl) (by kernel_rfl) (by kernel_rfl) (fun _ _ _ h=>h) (Or.inl ⟨by rfl, ?_⟩) (by assumption) ?_
 rotate_left
 ·intro W hSw
  obtain ⟨i0,i1,i2,i3,i4,i5,-,-⟩:=hSw
  go_simp
  try with_reducible rfl
 simp only [List.setIfInBounds_toArray,List.set_cons_succ,List.set_cons_zero]
 refine yay 29 2 (v:=?_) (by simp only [List.getElem?_toArray,List.getElem?_cons_succ,List.getElem?_cons_zero];rfl) rfl (by kernel_rfl) (by kernel_rfl) (by kernel_rfl) (fun _ _ _ h=>h) (Or.inl ⟨by rfl, ?_⟩) (by assumption) ?_
 rotate_left
 ·intro W hSw
  obtain ⟨i0,i1,i2,i3,i4,i5,-,-⟩:=hSw
  go_simp
  try with_reducible rfl
 simp only [List.setIfInBounds_toArray,List.set_cons_succ,List.set_cons_zero]
 refine wpAnyH_done (by kernel_rfl) ?_ _
 go_wp2
 go_ret
 exact ⟨rfl,hHeld2.2.2.2.2.2.2.1⟩
theorem yoO (k:Int) (x:Vl) (nm:List UInt8) (ao:Option Addr) (n ca:Nat) (w:World) (h1:(k == 1)=false) (h2:(k == 2)=false) (hv:ydG x.k x.n ⟨x.s.toArray⟩ 0 0 ⟨#[]⟩=true) (hn:nm.isEmpty=true) (h0:0 < n) (A:Bool)
  (ha:∀ W,Calls Tryz.prog 128 #[.int .i64 k] W fun e w'=>e=.returned (.int .i64 (n:Int))∧Below W.heap.size W w')
  (hc:∀ W,Below w.heap.size w W→Calls Tryz.prog 129 #[.slice ao n ca,.func (.func 78) #[] #[]] W fun e w'=>e=.returned (.bool A)∧Below W.heap.size W w') :
  Calls Tryz.prog 78 #[.agg #[.int .i64 k,.int .i64 x.k,.int .i64 x.n,.string ⟨x.s.toArray⟩,.string ⟨nm.toArray⟩,.slice ao n ca]] w fun e w'=>e=.returned (.bool A)∧Below w.heap.size w w':=by
 have b0:=(Below.refl w.heap.size w).alloc (Nat.le_refl _) (.cells #[.int .i64 k,.int .i64 x.k,.int .i64 x.n,.string ⟨x.s.toArray⟩,.string ⟨nm.toArray⟩,.slice ao n ca] 29)
 have hq:=yjQ
 have h0':(0:Int) < (n:Int):=by omega
 have hd0:decide ((0:Int) < (n:Int))=true:=by simpa using h0
 have hd1:decide (0 < n)=true:=by simpa using h0
 have y0:(w.alloc (.cells #[.int .i64 k,.int .i64 x.k,.int .i64 x.n,.string ⟨x.s.toArray⟩,.string ⟨nm.toArray⟩,.slice ao n ca] 29)).drew.cell? ⟨w.heap.size,0,none⟩=some (.int .i64 k):=(Lib.cell_of_heap (heap_alloc_new w (.cells #[.int .i64 k,.int .i64 x.k,.int .i64 x.n,.string ⟨x.s.toArray⟩,.string ⟨nm.toArray⟩,.slice ao n ca] 29)) 0).trans rfl
 have y1:(w.alloc (.cells #[.int .i64 k,.int .i64 x.k,.int .i64 x.n,.string ⟨x.s.toArray⟩,.string ⟨nm.toArray⟩,.slice ao n ca] 29)).drew.cell? ⟨w.heap.size,1,none⟩=some (.int .i64 x.k):=(Lib.cell_of_heap (heap_alloc_new w (.cells #[.int .i64 k,.int .i64 x.k,.int .i64 x.n,.string ⟨x.s.toArray⟩,.string ⟨nm.toArray⟩,.slice ao n ca] 29)) 1).trans rfl
 have y2:(w.alloc (.cells #[.int .i64 k,.int .i64 x.k,.int .i64 x.n,.string ⟨x.s.toArray⟩,.string ⟨nm.toArray⟩,.slice ao n ca] 29)).drew.cell? ⟨w.heap.size,2,none⟩=some (.int .i64 x.n):=(Lib.cell_of_heap (heap_alloc_new w (.cells #[.int .i64 k,.int .i64 x.k,.int .i64 x.n,.string ⟨x.s.toArray⟩,.string ⟨nm.toArray⟩,.slice ao n ca] 29)) 2).trans rfl
 have y3:(w.alloc (.cells #[.int .i64 k,.int .i64 x.k,.int .i64 x.n,.string ⟨x.s.toArray⟩,.string ⟨nm.toArray⟩,.slice ao n ca] 29)).drew.cell? ⟨w.heap.size,3,none⟩=some (.string ⟨x.s.toArray⟩):=(Lib.cell_of_heap (heap_alloc_new w (.cells #[.int .i64 k,.int .i64 x.k,.int .i64 x.n,.string ⟨x.s.toArray⟩,.string ⟨nm.toArray⟩,.slice ao n ca] 29)) 3).trans rfl
 have y4:(w.alloc (.cells #[.int .i64 k,.int .i64 x.k,.int .i64 x.n,.string ⟨x.s.toArray⟩,.string ⟨nm.toArray⟩,.slice ao n ca] 29)).drew.cell? ⟨w.heap.size,4,none⟩=some (.string ⟨nm.toArray⟩):=(Lib.cell_of_heap (heap_alloc_new w (.cells #[.int .i64 k,.int .i64 x.k,.int .i64 x.n,.string ⟨x.s.toArray⟩,.string ⟨nm.toArray⟩,.slice ao n ca] 29)) 4).trans rfl
 have y5:(w.alloc (.cells #[.int .i64 k,.int .i64 x.k,.int .i64 x.n,.string ⟨x.s.toArray⟩,.string ⟨nm.toArray⟩,.slice ao n ca] 29)).drew.cell? ⟨w.heap.size,5,none⟩=some (.slice ao n ca):=(Lib.cell_of_heap (heap_alloc_new w (.cells #[.int .i64 k,.int .i64 x.k,.int .i64 x.n,.string ⟨x.s.toArray⟩,.string ⟨nm.toArray⟩,.slice ao n ca] 29)) 5).trans rfl
 have yl:w.heap.size < (w.alloc (.cells #[.int .i64 k,.int .i64 x.k,.int .i64 x.n,.string ⟨x.s.toArray⟩,.string ⟨nm.toArray⟩,.slice ao n ca] 29)).drew.heap.size:=(Array.getElem?_eq_some_iff.1 (heap_alloc_new w (.cells #[.int .i64 k,.int .i64 x.k,.int .i64 x.n,.string ⟨x.s.toArray⟩,.string ⟨nm.toArray⟩,.slice ao n ca] 29))).1
 have yb:Below w.heap.size w (w.alloc (.cells #[.int .i64 k,.int .i64 x.k,.int .i64 x.n,.string ⟨x.s.toArray⟩,.string ⟨nm.toArray⟩,.slice ao n ca] 29)).drew:=b0.drew
 go_enter Tryz.func78,Tryz.ntmps78
 go_wp2_with fail
 refine wp_region_held_drew (S:=(fun w'=>w'.cell? ⟨w.heap.size,0,none⟩=some (.int .i64 k)∧w'.cell? ⟨w.heap.size,1,none⟩=some (.int .i64 x.k)∧w'.cell? ⟨w.heap.size,2,none⟩=some (.int .i64 x.n)∧w'.cell? ⟨w.heap.size,3,none⟩=some (.string ⟨x.s.toArray⟩)∧w'.cell? ⟨w.heap.size,4,none⟩=some (.string ⟨nm.toArray⟩)∧w'.cell? ⟨w.heap.size,5,none⟩=some (.slice ao n ca)∧Below w.heap.size w w'∧w.heap.size < w'.heap.size)) (by kernel_rfl) ⟨y0,y1,y2,y3,y4,y5,yb,yl⟩ (fun hHeld=>?_)
 refine yay 0 38 (v:=?_) (by simp only [List.getElem?_toArray,List.getElem?_cons_zero];rfl) rfl (by kernel_rfl) (by kernel_rfl) (by kernel_rfl) (fun _ _ _ h=>h) (Or.inl ⟨by rfl, ?_⟩) (by assumption) ?_
 rotate_left
 ·intro W hSw
  obtain ⟨i0,i1,i2,i3,i4,i5,-,-⟩:=hSw
  go_simp
  try with_reducible rfl
 simp only [List.setIfInBounds_toArray,List.set_cons_succ,List.set_cons_zero]
 refine yay 1 39 (v:=?_) (by simp only [List.getElem?_toArray,List.getElem?_cons_succ,List.getElem?_cons_zero];rfl) rfl (by kernel_rfl) (by kernel_rfl) (by kernel_rfl) (fun _ _ _ h=>h) (Or.inl ⟨by rfl, ?_⟩) (by assumption) ?_
 rotate_left
 ·intro W hSw
  obtain ⟨i0,i1,i2,i3,i4,i5,-,-⟩:=hSw
  go_simp
  try with_reducible rfl
 simp only [List.setIfInBounds_toArray,List.set_cons_succ,List.set_cons_zero]
 refine yay 2 40 (v:=?_) (by simp only [List.getElem?_toArray,List.getElem?_cons_succ,List.getElem?_cons_zero];rfl) rfl (by kernel_rfl) (by kernel_rfl) (by kernel_rfl) (fun _ _ _ h=>h) (Or.inl ⟨by rfl, ?_⟩) (by assumption) ?_
 rotate_left
 ·intro W hSw
  obtain ⟨i0,i1,i2,i3,i4,i5,-,-⟩:=hSw
  go_simp
  try with_reducible rfl
 simp only [List.setIfInBounds_toArray,List.set_cons_succ,List.set_cons_zero]
 refine yay 3 41 (v:=?_) (by simp only [List.getElem?_toArray,List.getElem?_cons_succ,List.getElem?_cons_zero];rfl) rfl (by kernel_rfl) (by kernel_rfl) (by kernel_rfl) (fun _ _ _ h=>h) (Or.inl ⟨by rfl, ?_⟩) (by assumption) ?_
 rotate_left
 ·intro W hSw
  obtain ⟨i0,i1,i2,i3,i4,i5,-,-⟩:=hSw
  go_simp
  try with_reducible rfl
 simp only [List.setIfInBounds_toArray,List.set_cons_succ,List.set_cons_zero]
 refine yay 4 42 (v:=?_) (by simp only [List.getElem?_toArray,List.getElem?_cons_succ,List.getElem?_cons_zero];rfl) rfl (by kernel_rfl) (by kernel_rfl) (by kernel_rfl) (fun _ _ _ h=>h) (Or.inl ⟨by rfl, ?_⟩) (by assumption) ?_
 rotate_left
 ·intro W hSw
  obtain ⟨i0,i1,i2,i3,i4,i5,-,-⟩:=hSw
  go_simp
  try with_reducible rfl
 simp only [List.setIfInBounds_toArray,List.set_cons_succ,List.set_cons_zero]
 refine yay 5 43 (v:=?_) (by simp only [List.getElem?_toArray,List.getElem?_cons_succ,List.getElem?_cons_zero];rfl) rfl (by kernel_rfl) (by kernel_rfl) (by kernel_rfl) (fun _ _ _ h=>h) (Or.inl ⟨by rfl, ?_⟩) (by assumption) ?_
 rotate_left
 ·intro W hSw
  obtain ⟨i0,i1,i2,i3,i4,i5,-,-⟩:=hSw
  go_simp
  try with_reducible rfl
 simp only [List.setIfInBounds_toArray,List.set_cons_succ,List.set_cons_zero]
 refine yay 6 44 (v:=?_) (by simp only [List.getElem?_toArray,List.getElem?_cons_succ,List.getElem?_cons_zero];rfl) rfl (by kernel_rfl) (by kernel_rfl) (by kernel_rfl) (fun _ _ _ h=>h) (Or.inl ⟨by rfl, ?_⟩) (by assumption) ?_
 rotate_left
 ·intro W hSw
  obtain ⟨i0,i1,i2,i3,i4,i5,-,-⟩:=hSw
  go_simp
  try with_reducible rfl
 simp only [List.setIfInBounds_toArray,List.set_cons_succ,List.set_cons_zero]
 refine yay 7 45 (v:=?_) (by simp only [List.getElem?_toArray,List.getElem?_cons_succ,List.getElem?_cons_zero];rfl) rfl (by kernel_rfl) (by kernel_rfl) (by kernel_rfl) (fun _ _ _ h=>h) (Or.inl ⟨by rfl, ?_⟩) (by assumption) ?_
 rotate_left
 ·intro W hSw
  obtain ⟨i0,i1,i2,i3,i4,i5,-,-⟩:=hSw
  go_simp
  try with_reducible rfl
 simp only [List.setIfInBounds_toArray,List.set_cons_succ,List.set_cons_zero]
 refine yay 8 46 (v:=?_) (by simp only [List.getElem?_toArray,List.getElem?_cons_succ,List.getElem?_cons_zero];rfl) rfl (by kernel_rfl) (by kernel_rfl) (by kernel_rfl) (fun _ _ _ h=>h) (Or.inl ⟨by rfl, ?_⟩) (by assumption) ?_
 rotate_left
 ·intro W hSw
  obtain ⟨i0,i1,i2,i3,i4,i5,-,-⟩:=hSw
  go_simp
  try with_reducible rfl
 simp only [List.setIfInBounds_toArray,List.set_cons_succ,List.set_cons_zero]
 refine yay 9 47 (v:=?_) (by simp only [List.getElem?_toArray,List.getElem?_cons_succ,List.getElem?_cons_zero];rfl) rfl (by kernel_rfl) (by kernel_rfl) (by kernel_rfl) (fun _ _ _ h=>h) (Or.inl ⟨by rfl, ?_⟩) (by assumption) ?_
 rotate_left
 ·intro W hSw
  obtain ⟨i0,i1,i2,i3,i4,i5,-,-⟩:=hSw
  go_simp
  try with_reducible rfl
 simp only [List.setIfInBounds_toArray,List.set_cons_succ,List.set_cons_zero]
 refine yay 10 48 (v:=?_) (by simp only [List.getElem?_toArray,List.getElem?_cons_succ,List.getElem?_cons_zero];rfl) rfl (by kernel_rfl) (by kernel_rfl) (by kernel_rfl) (fun _ _ _ h=>h) (Or.inl ⟨by rfl, ?_⟩) (by assumption) ?_
 rotate_left
 ·intro W hSw
  obtain ⟨i0,i1,i2,i3,i4,i5,-,-⟩:=hSw
  go_simp
  try with_reducible rfl
 simp only [List.setIfInBounds_toArray,List.set_cons_succ,List.set_cons_zero]
 refine yay 11 49 (v:=?_) (by simp only [List.getElem?_toArray,List.getElem?_cons_succ,List.getElem?_cons_zero];rfl) rfl (by kernel_rfl) (by kernel_rfl) (by kernel_rfl) (fun _ _ _ h=>h) (Or.inl ⟨by rfl, ?_⟩) (by assumption) ?_
 rotate_left
 ·intro W hSw
  obtain ⟨i0,i1,i2,i3,i4,i5,-,-⟩:=hSw
  go_simp
  try with_reducible rfl
 simp only [List.setIfInBounds_toArray,List.set_cons_succ,List.set_cons_zero]
 refine yay 12 50 (v:=?_) (by simp only [List.getElem?_toArray,List.getElem?_cons_succ,List.getElem?_cons_zero];rfl) rfl (by kernel_rfl) (by kernel_rfl) (by kernel_rfl) (fun _ _ _ h=>h) (Or.inl ⟨by rfl, ?_⟩) (by assumption) ?_
 rotate_left
 ·intro W hSw
  obtain ⟨i0,i1,i2,i3,i4,i5,-,-⟩:=hSw
  go_simp
  try with_reducible rfl
 simp only [List.setIfInBounds_toArray,List.set_cons_succ,List.set_cons_zero]
 refine yay 13 51 (v:=?_) (by simp only [List.getElem?_toArray,List.getElem?_cons_succ,List.getElem?_cons_zero];rfl) rfl (by kernel_rfl) (by kernel_rfl) (by kernel_rfl) (fun _ _ _ h=>h) (Or.inl ⟨by rfl, ?_⟩) (by assumption) ?_
 rotate_left
 ·intro W hSw
  obtain ⟨i0,i1,i2,i3,i4,i5,-,-⟩:=hSw
  go_simp
  try with_reducible rfl
 simp only [List.setIfInBounds_toArray,List.set_cons_succ,List.set_cons_zero]
 refine yay 14 52 (v:=?_) (by simp only [List.getElem?_toArray,List.getElem?_cons_succ,List.getElem?_cons_zero];rfl) rfl (by kernel_rfl) (by kernel_rfl) (by kernel_rfl) (fun _ _ _ h=>h) (Or.inl ⟨by rfl, ?_⟩) (by assumption) ?_
 rotate_left
 ·intro W hSw
  obtain ⟨i0,i1,i2,i3,i4,i5,-,-⟩:=hSw
  go_simp
  try with_reducible rfl
 simp only [List.setIfInBounds_toArray,List.set_cons_succ,List.set_cons_zero]
 refine yay 15 53 (v:=?_) (by simp only [List.getElem?_toArray,List.getElem?_cons_succ,List.getElem?_cons_zero];rfl) rfl (by kernel_rfl) (by kernel_rfl) (by kernel_rfl) (fun _ _ _ h=>h) (Or.inl ⟨by rfl, ?_⟩) (by assumption) ?_
 rotate_left
 ·intro W hSw
  obtain ⟨i0,i1,i2,i3,i4,i5,-,-⟩:=hSw
  go_simp
  try with_reducible rfl
 simp only [List.setIfInBounds_toArray,List.set_cons_succ,List.set_cons_zero]
 refine yay 16 54 (v:=?_) (by simp only [List.getElem?_toArray,List.getElem?_cons_succ,List.getElem?_cons_zero];rfl) rfl (by kernel_rfl) (by kernel_rfl) (by kernel_rfl) (fun _ _ _ h=>h) (Or.inl ⟨by rfl, ?_⟩) (by assumption) ?_
 rotate_left
 ·intro W hSw
  obtain ⟨i0,i1,i2,i3,i4,i5,-,-⟩:=hSw
  go_simp
  try with_reducible rfl
 simp only [List.setIfInBounds_toArray,List.set_cons_succ,List.set_cons_zero]
 refine yay 17 55 (v:=?_) (by simp only [List.getElem?_toArray,List.getElem?_cons_succ,List.getElem?_cons_zero];rfl) rfl (by kernel_rfl) (by kernel_rfl) (by kernel_rfl) (fun _ _ _ h=>h) (Or.inl ⟨by rfl, ?_⟩) (by assumption) ?_
 rotate_left
 ·intro W hSw
  obtain ⟨i0,i1,i2,i3,i4,i5,-,-⟩:=hSw
  go_simp
  try with_reducible rfl
 simp only [List.setIfInBounds_toArray,List.set_cons_succ,List.set_cons_zero]
 refine yay 18 56 (v:=?_) (by simp only [List.getElem?_toArray,List.getElem?_cons_succ,List.getElem?_cons_zero];rfl) rfl (by kernel_rfl) (by kernel_rfl) (by kernel_rfl) (fun _ _ _ h=>h) (Or.inl ⟨by rfl, ?_⟩) (by assumption) ?_
 rotate_left
 ·intro W hSw
  obtain ⟨i0,i1,i2,i3,i4,i5,-,-⟩:=hSw
  go_simp
  try with_reducible rfl
 simp only [List.setIfInBounds_toArray,List.set_cons_succ,List.set_cons_zero]
 refine yay 19 57 (v:=?_) (by simp only [List.getElem?_toArray,List.getElem?_cons_succ,List.getElem?_cons_zero];rfl) rfl (by kernel_rfl) (by kernel_rfl) (by kernel_rfl) (fun _ _ _ h=>h) (Or.inl ⟨by rfl, ?_⟩) (by assumption) ?_
 rotate_left
 ·intro W hSw
  obtain ⟨i0,i1,i2,i3,i4,i5,-,-⟩:=hSw
  go_simp
  try with_reducible rfl
 simp only [List.setIfInBounds_toArray,List.set_cons_succ,List.set_cons_zero]
 refine yay 20 58 (v:=?_) (by simp only [List.getElem?_toArray,List.getElem?_cons_succ,List.getElem?_cons_zero];rfl) rfl (by kernel_rfl) (by kernel_rfl) (by kernel_rfl) (fun _ _ _ h=>h) (Or.inl ⟨by rfl, ?_⟩) (by assumption) ?_
 rotate_left
 ·intro W hSw
  obtain ⟨i0,i1,i2,i3,i4,i5,-,-⟩:=hSw
  go_simp
  try with_reducible rfl
 simp only [List.setIfInBounds_toArray,List.set_cons_succ,List.set_cons_zero]
 refine wpAnyH_ready (rs:=[21]) (by kernel_rfl) (by simp) ?_
 refine AllReadyH.cons rfl (fun K hK=>?_) AllReadyH.nil
 go_simp
 go_wp2_with (first|(go_at_call 128;refine (ha _).mono ?_;rintro e w1 ⟨rfl,hb⟩))
 refine hK.out _ _ (yq9 hHeld hb) (fun hHeld2=>?_)
 clear hK K hHeld hb
 refine yay 22 60 (v:=?_) (by simp only [List.getElem?_toArray,List.getElem?_cons_succ,List.getElem?_cons_zero];rfl) rfl (by kernel_rfl) (by kernel_rfl) (by kernel_rfl) (fun _ _ _ h=>h) (Or.inl ⟨by rfl, ?_⟩) (by assumption) ?_
 rotate_left
 ·intro W hSw
  obtain ⟨i0,i1,i2,i3,i4,i5,-,-⟩:=hSw
  go_simp
  try with_reducible rfl
 simp only [List.setIfInBounds_toArray,List.set_cons_succ,List.set_cons_zero]
 refine yay 23 61 (v:=?_) (by simp only [List.getElem?_toArray,List.getElem?_cons_succ,List.getElem?_cons_zero];rfl) rfl (by kernel_rfl) (by kernel_rfl) (by kernel_rfl) (fun _ _ _ h=>h) (Or.inl ⟨by rfl, ?_⟩) (by assumption) ?_
 rotate_left
 ·intro W hSw
  obtain ⟨i0,i1,i2,i3,i4,i5,-,-⟩:=hSw
  go_simp
  try with_reducible rfl
 simp only [List.setIfInBounds_toArray,List.set_cons_succ,List.set_cons_zero]
 refine yay 24 62 (v:=?_) (by simp only [List.getElem?_toArray,List.getElem?_cons_succ,List.getElem?_cons_zero];rfl) rfl (by kernel_rfl) (by kernel_rfl) (by kernel_rfl) (fun _ _ _ h=>h) (Or.inl ⟨by rfl, ?_⟩) (by assumption) ?_
 rotate_left
 ·intro W hSw
  obtain ⟨i0,i1,i2,i3,i4,i5,-,-⟩:=hSw
  go_simp
  try with_reducible rfl
 simp only [List.setIfInBounds_toArray,List.set_cons_succ,List.set_cons_zero]
 refine yay 25 63 (v:=?_) (by simp only [List.getElem?_toArray,List.getElem?_cons_succ,List.getElem?_cons_zero];rfl) rfl (by kernel_rfl) (by kernel_rfl) (by kernel_rfl) (fun _ _ _ h=>h) (Or.inl ⟨by rfl, ?_⟩) (by assumption) ?_
 rotate_left
 ·intro W hSw
  obtain ⟨i0,i1,i2,i3,i4,i5,-,-⟩:=hSw
  go_simp
  try with_reducible rfl
 simp only [List.setIfInBounds_toArray,List.set_cons_succ,List.set_cons_zero]
 refine yay 26 64 (v:=?_) (by simp only [List.getElem?_toArray,List.getElem?_cons_succ,List.getElem?_cons_zero];rfl) rfl (by kernel_rfl) (by kernel_rfl) (by kernel_rfl) (fun _ _ _ h=>h) (Or.inl ⟨by rfl, ?_⟩) (by assumption) ?_
 rotate_left
 ·intro W hSw
  obtain ⟨i0,i1,i2,i3,i4,i5,-,-⟩:=hSw
  go_simp
  try with_reducible rfl
 simp only [List.setIfInBounds_toArray,List.set_cons_succ,List.set_cons_zero]
 refine wpAnyH_ready (rs:=[27]) (by kernel_rfl) (by simp) ?_
 refine AllReadyH.cons rfl (fun K hK=>?_) AllReadyH.nil
 go_simp
 go_wp2_with (first|(go_at_call 129;refine (hc _ hHeld2.2.2.2.2.2.2.1).mono ?_;rintro e w2 ⟨rfl,hb⟩))
 refine hK.out _ _ (yq9 hHeld2 hb) (fun hHeld3=>?_)
 clear hK K hHeld2 hb
 refine yay 28 66 (v:=?_) (by simp only [List.getElem?_toArray,List.getElem?_cons_succ,List.getElem?_cons_zero];rfl) rfl (by kernel_rfl) (by kernel_rfl) (by kernel_rfl) (fun _ _ _ h=>h) (Or.inl ⟨by rfl, ?_⟩) (by assumption) ?_
 rotate_left
 ·intro W hSw
  obtain ⟨i0,i1,i2,i3,i4,i5,-,-⟩:=hSw
  go_simp
  try with_reducible rfl
 simp only [List.setIfInBounds_toArray,List.set_cons_succ,List.set_cons_zero]
 refine yay 29 2 (v:=?_) (by simp only [List.getElem?_toArray,List.getElem?_cons_succ,List.getElem?_cons_zero];rfl) rfl (by kernel_rfl) (by kernel_rfl) (by kernel_rfl) (fun _ _ _ h=>h) (Or.inl ⟨by rfl, ?_⟩) (by assumption) ?_
 rotate_left
 ·intro W hSw
  obtain ⟨i0,i1,i2,i3,i4,i5,-,-⟩:=hSw
  go_simp
  try with_reducible rfl
 simp only [List.setIfInBounds_toArray,List.set_cons_succ,List.set_cons_zero]
 refine wpAnyH_done (by kernel_rfl) ?_ _
 go_wp2
 go_ret
 exact ⟨rfl,hHeld3.2.2.2.2.2.2.1⟩
mutual
def ycL:Ex→Bool
 | .mk k v nm args =>
  if k=1 then ycm v&&decide (nm=[])&&decide (args.length=0)
  else if k=2 then ybU v&&yap nm&&decide (args.length=0)
  else ybU v&&decide (nm=[])&&decide (0 < args.length)&&decide (args.length=yeB k)&&yeX args
def yeX:List Ex→Bool
 | []=>true
 | x::xs=>ycL x&&yeX xs
end
theorem ykC:∀ l:List Ex,yeX l=l.all ycL:=by
 intro l
 induction l with
 | nil=>rw [yeX];rfl
 | cons x xs ih=>rw [yeX,ih];rfl
inductive Fit:Ex→Prop where
 | mk (k:Int) (v:Vl) (nm:List UInt8) (args:List Ex) (hv:v.s.length≤140737488355328) (hn:nm.length≤140737488355328) (ha:args.length*80≤140737488351232) (h:∀ y ∈ args,Fit y):Fit (.mk k v nm args)
theorem yf3 {B:Nat} {w0:World} {u:Value} {x:Ex} (h:ExAt B w0 u x):Fit x→∀ W:World,Below w0.heap.size w0 W→Laid W →
  Calls Tryz.prog 78 #[u] W fun e w'=>e=.returned (.bool (ycL x))∧Below W.heap.size W w':=by
 induction h with
 | nil k v nm ao cap _ =>
  intro hf W hb hl
  cases hf with
  | mk _ _ _ _ hv hn ha hh =>
  rw [ycL,exV]
  by_cases h1:k=1
  ·rw [if_pos h1]
   exact yjc k v nm ao 0 cap W h1 hv
  rw [if_neg h1]
  by_cases h2:k=2
  ·rw [if_pos h2]
   exact yjd k v nm ao 0 cap W h2 hn hl
  rw [if_neg h2]
  have:=ygy k v nm ao 0 cap W (by simpa using h1) (by simpa using h2) _ _ rfl rfl (.inr (.inr rfl))
  simpa using this
 | args k v nm b off cap xs us hx hB hsz hc h ih =>
  intro hf W hb hl
  cases hf with
  | mk _ _ _ _ hv hn ha hh =>
  have hpos:0 < xs.length:=List.length_pos_iff.2 hx
  rw [ycL,exV]
  by_cases h1:k=1
  ·rw [if_pos h1]
   exact yjc k v nm _ xs.length cap W h1 hv
  rw [if_neg h1]
  by_cases h2:k=2
  ·rw [if_pos h2]
   exact yjd k v nm _ xs.length cap W h2 hn hl
  rw [if_neg h2]
  have q1:(k == 1)=false:=by simpa using h1
  have q2:(k == 2)=false:=by simpa using h2
  have hs:=yrx v
  have hne:nm.isEmpty=decide (nm=[]):=by cases nm <;> simp
  cases hN:ybU v
  ·rw [hN] at hs
   have:=ygy k v nm (some ⟨b,off,none⟩) xs.length cap W q1 q2 false _ hs rfl (.inl rfl)
   simpa using this
  rw [hN] at hs
  by_cases hm:nm=[]
  ·have hne':nm.isEmpty=true:=by rw [hne];simp [hm]
   by_cases hr:xs.length=yeB k
   ·have hall:∀ W',Below W.heap.size W W'→Calls Tryz.prog 129 #[.slice (some ⟨b,off,none⟩) xs.length cap,.func (.func 78) #[] #[]] W' fun e w'=>e=.returned (.bool (xs.all ycL))∧Below W'.heap.size W' w':=by
     intro W' hW'
     have hb':Below w0.heap.size w0 W':=hb.trans (hW'.mono hb.size)
     have hform:∀ i:Nat,∃ p:Option Addr×Nat×Nat,∀ y,xs[i]?=some y→us i=exV y.k y.v y.nm (.slice p.1 p.2.1 p.2.2):=by
      intro i
      cases hi:xs[i]? with
      | none=>exact ⟨(none,0,0),fun y hy=>by cases hy⟩
      | some z =>
       obtain ⟨k',v',nm',ao,n,ca,e⟩:=(h i z hi).form
       have hp:=ExAt.parts (e ▸ h i z hi)
       refine ⟨(ao,n,ca),fun y hy=>?_⟩
       cases hy
       rw [e,hp.1,hp.2.1,hp.2.2]
     have hf:=fun i=>Classical.choose_spec (hform i)
     refine yp2 (fun i=>(Classical.choose (hform i)).1) (fun i=>(Classical.choose (hform i)).2.1) (fun i=>(Classical.choose (hform i)).2.2) ycL b off cap xs W' (Nat.lt_of_lt_of_le hsz hb'.size) (by omega) ?_ ?_
     ·intro i y hy
      obtain ⟨k',v',nm',a',e,c0,c1,c2,c3,c4,c5⟩:=hc i (List.getElem?_eq_some_iff.1 hy).1
      have e2:=e.symm.trans (hf i y hy)
      simp only [exV,Value.agg.injEq,Array.mk.injEq,List.cons.injEq,and_true] at e2
      obtain ⟨r0,r1,r2,r3,r4,r5⟩:=e2
      have cl:∀ o,W'.cell? ⟨b,o,none⟩=w0.cell? ⟨b,o,none⟩:=fun o=>hb'.cell (p:=⟨b,o,none⟩) hsz
      rw [Nat.mul_comm i 6]
      exact ⟨(cl _).trans (c0.trans (congrArg some r0)),(cl _).trans (c1.trans (congrArg some r1)),(cl _).trans (c2.trans (congrArg some r2)),(cl _).trans (c3.trans (congrArg some r3)),(cl _).trans (c4.trans (congrArg some r4)),(cl _).trans (c5.trans (congrArg some r5))⟩
     ·intro i y hy W2 hW2
      have:=ih i y hy (hh y (List.mem_of_getElem? hy)) W2 (hb'.trans (hW2.mono hb'.size)) ((hl.below hW').below hW2)
      rw [hf i y hy] at this
      exact this
    have:=yoO k v nm (some ⟨b,off,none⟩) xs.length cap W q1 q2 hs hne' hpos (xs.all ycL) (fun W'=>by have:=yf1 k W';rw [← hr] at this;exact this) hall
    rw [ykC,decide_eq_true hm,decide_eq_true hpos,decide_eq_true hr]
    simpa only [Bool.true_and] using this
   ·have:=yoP k v nm (some ⟨b,off,none⟩) xs.length cap W q1 q2 hs hne' hpos (yeB k) (by rw [beq_eq_false_iff_ne];omega) (fun W'=>yf1 k W')
    simpa [hr] using this
  ·have hne':nm.isEmpty=false:=by rw [hne];simp [hm]
   have:=ygy k v nm (some ⟨b,off,none⟩) xs.length cap W q1 q2 true false hs hne' (.inr (.inl rfl))
   simpa [hm] using this
theorem yco {α:Type} (cf:α→List Value) (sz:Nat) (hsz:∀ x,(cf x).length=sz):∀ (l:List α) (k:Nat) (x:α),l[k]?=some x→∀ q,q < sz→(l.flatMap cf)[k*sz+q]?=(cf x)[q]?:=by
 intro l
 induction l with
 | nil=>intro k x h;simp at h
 | cons y r ih =>
  intro k x h q hq
  rw [List.flatMap_cons]
  cases k with
  | zero =>
   simp only [List.getElem?_cons_zero,Option.some.injEq] at h
   subst h
   rw [Nat.zero_mul,Nat.zero_add,List.getElem?_append_left (by rw [hsz];exact hq)]
  | succ k =>
   have e:(k+1)*sz+q=(cf y).length+(k*sz+q):=by rw [hsz,Nat.succ_mul];omega
   rw [e,List.getElem?_append_right (by omega),Nat.add_sub_cancel_left]
   exact ih k x (by simpa using h) q hq
def ydv (l:List Cl):Bool:=decide (0 < l.length)&&l.all yf2
def ydw (l:List Vl):Bool:=decide (0 < l.length)&&l.all ycm
theorem ynQ {B:Nat} {u:Value} (l:List Cl) (w:World) (h:RowAt B w u l.length (l.flatMap clC)) (hn:l.length≤1000000000000000) (hs:∀ x ∈ l,x.name.length≤140737488355328) (hl:Laid w) :
  Calls Tryz.prog 73 #[u] w fun e w'=>e=.returned (.bool (ydv l))∧Below w.heap.size w w':=by
 unfold ydv
 rcases h with ⟨h0,ao,cap,rfl⟩|⟨b,off,cap,rfl,hB,hlt,hc⟩
 ·rw [h0]
  go_enter Tryz.func73,Tryz.ntmps73
  go_wp2
  go_ret
  exact ⟨rfl,Below.refl _ _⟩
 ·have ha:=yp1 b off cap l w hlt hn (fun k x hx=>?_) (fun k x hx W hW=>yhe x W (hs x (List.mem_of_getElem? hx)) (hl.below hW))
  rotate_left
  ·have g:=yco clC 2 (fun _=>rfl) l k x hx
   exact ⟨hc _ _ (g 0 (by decide)),hc _ _ (g 1 (by decide))⟩
  by_cases hp:0 < l.length
  ·have hp':(0:Int) < (l.length:Int):=by omega
   rw [decide_eq_true hp,Bool.true_and]
   generalize l.all yf2=A at ha ⊢
   generalize l.length=n at ha hp hp' ⊢
   go_enter Tryz.func73,Tryz.ntmps73
   go_wp2_with (go_at_call 121;refine ha.mono ?_;rintro e w1 ⟨rfl,b1⟩)
   go_ret
   exact ⟨rfl,b1⟩
  ·have h0:l.length=0:=by omega
   rw [h0]
   clear ha
   go_enter Tryz.func73,Tryz.ntmps73
   go_wp2
   go_ret
   exact ⟨rfl,Below.refl _ _⟩
theorem ypG {B:Nat} {u:Value} (l:List Vl) (w:World) (h:RowAt B w u l.length (l.flatMap vlC)) (hn:l.length≤1000000000000000) (hs:∀ x ∈ l,x.s.length≤140737488355328) :
  Calls Tryz.prog 76 #[u] w fun e w'=>e=.returned (.bool (ydw l))∧Below w.heap.size w w':=by
 unfold ydw
 rcases h with ⟨h0,ao,cap,rfl⟩|⟨b,off,cap,rfl,hB,hlt,hc⟩
 ·rw [h0]
  go_enter Tryz.func76,Tryz.ntmps76
  go_wp2
  go_ret
  exact ⟨rfl,Below.refl _ _⟩
 ·have ha:=yp4 b off cap l w hlt hn (fun k x hx=>?_) (fun k x hx W hW=>yd4 x W (hs x (List.mem_of_getElem? hx)))
  rotate_left
  ·have g:=yco vlC 3 (fun _=>rfl) l k x hx
   exact ⟨hc _ _ (g 0 (by decide)),hc _ _ (g 1 (by decide)),hc _ _ (g 2 (by decide))⟩
  by_cases hp:0 < l.length
  ·have hp':(0:Int) < (l.length:Int):=by omega
   rw [decide_eq_true hp,Bool.true_and]
   generalize l.all ycm=A at ha ⊢
   generalize l.length=n at ha hp hp' ⊢
   go_enter Tryz.func76,Tryz.ntmps76
   go_wp2_with (go_at_call 125;refine ha.mono ?_;rintro e w1 ⟨rfl,b1⟩)
   go_ret
   exact ⟨rfl,b1⟩
  ·have h0:l.length=0:=by omega
   rw [h0]
   clear ha
   go_enter Tryz.func76,Tryz.ntmps76
   go_wp2
   go_ret
   exact ⟨rfl,Below.refl _ _⟩
def ydn (k:Int):Nat:=if k=1 then 9 else if k=2∨k=9 then 1 else if k=3 then 53 else if k=4 then 5 else if k=5∨k=8 then 7 else if k=6 then 21 else if k=7 then 3 else if k=10 then 65 else if k=11 then 513 else if k=12 then 773 else if k=13 then 3713 else 0
def ygz (k:Int):Bool:=decide (1≤k∧k≤16)
theorem yko (w:World):∀ k:Nat,1≤k→k≤16→Calls Tryz.prog 70 #[.int .i64 (k:Int)] w fun e w'=>e=.returned (.tuple #[.int .i64 (ydn k:Nat),.bool true])∧w'=w:=by
 intro k h1 h2
 obtain rfl|rfl|rfl|rfl|rfl|rfl|rfl|rfl|rfl|rfl|rfl|rfl|rfl|rfl|rfl|rfl:k=1∨k=2∨k=3∨k=4∨k=5∨k=6∨k=7∨k=8∨k=9∨k=10∨k=11∨k=12∨k=13∨k=14∨k=15∨k=16:=by omega
 all_goals
  go_enter Tryz.func70,Tryz.ntmps70
  go_wp2
  go_ret2
  exact ⟨rfl,rfl⟩
theorem ExAt.len {B:Nat} {w:World} {u:Value} {x:Ex} (h:ExAt B w u x):∃ ao ca,u=exV x.k x.v x.nm (.slice ao x.args.length ca):=by
 cases h with
 | nil k v nm ao cap _=>exact ⟨_,_,rfl⟩
 | args k v nm b off cap xs us=>exact ⟨_,_,rfl⟩
def yey (all:Bool) (x:Ex):Bool:=if all=true then ybw x else ycL x
theorem yin {B:Nat} {w:World} {u:Value} {x:Ex} (all:Bool) (h:ExAt B w u x) (hf:Fit x) (hl:Laid w) :
  Calls Tryz.prog 80 #[.bool all,u] w fun e w'=>e=.returned (.bool (yey all x))∧Below w.heap.size w w':=by
 obtain ⟨ao,ca,rfl⟩:=h.len
 have hx:=yf3 h hf
 rw [exV] at hx ⊢
 have b0:=(Below.refl w.heap.size w).alloc (Nat.le_refl _) (.cells #[.int .i64 x.k,.int .i64 x.v.k,.int .i64 x.v.n,.string ⟨x.v.s.toArray⟩,.string ⟨x.nm.toArray⟩,.slice ao x.args.length ca] 29)
 have h1:=hx _ b0 (hl.below b0)
 have h2:=yf5 x ao ca (w.alloc (.cells #[.int .i64 x.k,.int .i64 x.v.k,.int .i64 x.v.n,.string ⟨x.v.s.toArray⟩,.string ⟨x.nm.toArray⟩,.slice ao x.args.length ca] 29))
 clear hx h hf
 unfold yey
 cases all
 ·simp only [Bool.false_eq_true,if_false]
  generalize ycL x=R at h1 ⊢
  go_enter Tryz.func80,Tryz.ntmps80
  go_wp2_with (go_at_call 78;refine h1.mono ?_;rintro e w1 ⟨rfl,b1⟩)
  go_ret
  exact ⟨rfl,b0.trans (b1.mono (by simp))⟩
 ·simp only [if_true]
  generalize ybw x=R at h2 ⊢
  go_enter Tryz.func80,Tryz.ntmps80
  go_wp2_with (go_at_call 79;refine h2.mono ?_;rintro e w1 ⟨rfl,b1⟩)
  go_ret
  exact ⟨rfl,b0.trans (b1.mono (by simp))⟩
theorem yiv (w:World) (k:Int) (h:¬ (1≤k∧k≤16)):Calls Tryz.prog 70 #[.int .i64 k] w fun e w'=>e=.returned (.tuple #[.int .i64 0,.bool false])∧w'=w:=by
 have q:∀ j:Int,1≤j→j≤16→(k == j)=false:=fun j h1 h2=>by rw [beq_eq_false_iff_ne];omega
 have a1:=q 1 (by decide) (by decide)
 have a2:=q 2 (by decide) (by decide)
 have a3:=q 3 (by decide) (by decide)
 have a4:=q 4 (by decide) (by decide)
 have a5:=q 5 (by decide) (by decide)
 have a6:=q 6 (by decide) (by decide)
 have a7:=q 7 (by decide) (by decide)
 have a8:=q 8 (by decide) (by decide)
 have a9:=q 9 (by decide) (by decide)
 have a10:=q 10 (by decide) (by decide)
 have a11:=q 11 (by decide) (by decide)
 have a12:=q 12 (by decide) (by decide)
 have a13:=q 13 (by decide) (by decide)
 have a14:=q 14 (by decide) (by decide)
 have a15:=q 15 (by decide) (by decide)
 have a16:=q 16 (by decide) (by decide)
 clear q h
 go_enter Tryz.func70,Tryz.ntmps70
 go_wp2
 go_ret2
 exact ⟨rfl,rfl⟩
def ya1 (m o:Int):Bool:=bits BinOp.and IntKind.i64 m o != 0
theorem ysr (m o:Int) (r e:Bool) (nb:Nat) (w:World) (hc:w.cell? ⟨nb,0,none⟩=some (.int .i64 m)) :
  Calls Tryz.prog 71 #[.int .i64 o,.bool r,.bool e,.pointer (some ⟨nb,0,none⟩)] w fun e' w'=>e'=.returned (.bool (if ya1 m o=true then r else e))∧w'=w:=by
 have hh:ya1 m o=(bits BinOp.and IntKind.i64 m o != 0):=rfl
 cases hq:(bits BinOp.and IntKind.i64 m o != 0)
 ·rw [hh,hq]
  simp only [Bool.false_eq_true,if_false]
  clear hh
  go_enter Tryz.func71,Tryz.ntmps71
  go_wp2
  go_ret
  exact ⟨rfl,rfl⟩
 ·rw [hh,hq]
  simp only [if_true]
  clear hh
  go_enter Tryz.func71,Tryz.ntmps71
  go_wp2
  go_ret
  exact ⟨rfl,rfl⟩
mutual
def ya4:Ex→Nat
 | .mk _ _ _ args=>ybE args+1
def ybE:List Ex→Nat
 | []=>0
 | x::xs=>ya4 x+ybE xs
end
theorem yhI (a b:List Ex):ybE (a++b)=ybE a+ybE b:=by
 induction a with
 | nil=>rw [List.nil_append,ybE,Nat.zero_add]
 | cons x r ih=>rw [List.cons_append,ybE,ybE,ih];omega
theorem yev (x:Ex):1≤ya4 x:=by
 cases x;rw [ya4];omega
theorem yns (l:List Ex):l.length≤ybE l:=by
 induction l with
 | nil=>rw [ybE];exact Nat.le_refl _
 | cons x r ih=>rw [ybE,List.length_cons];have:=yev x;omega
theorem yeO (x:Ex):ya4 x=ybE x.args+1:=by cases x;rw [ya4];rfl
def exC (p:Ex×Value):List Value:=[.int .i64 p.1.k,.int .i64 p.1.v.k,.int .i64 p.1.v.n,.string ⟨p.1.v.s.toArray⟩,.string ⟨p.1.nm.toArray⟩,p.2]
theorem yg9 (l:List (Ex×Value)):(l.flatMap exC).length=l.length*6:=by
 induction l with
 | nil=>rfl
 | cons x r ih=>rw [List.flatMap_cons,List.length_append,ih,List.length_cons];simp only [exC,List.length_cons,List.length_nil];omega
theorem ExAt.pairs {B:Nat} {w:World} {x:Ex} {a:Value} (h:ExAt B w (exV x.k x.v x.nm a) x) :
  ∃ (ao:Option Addr) (ca:Nat) (ps:List (Ex×Value)),a=.slice ao x.args.length ca∧ps.map (·.1)=x.args∧(∀ p ∈ ps,ExAt B w (exV p.1.k p.1.v p.1.nm p.2) p.1)∧(x.args=[]→ao=none→ca=0) ∧
   (x.args≠[]→∃ b off,ao=some ⟨b,off,none⟩∧b < w.heap.size∧∀ j u,(ps.flatMap exC)[j]?=some u→w.cell? ⟨b,off+j,none⟩=some u):=by
 have go:∀ u,ExAt B w u x→u=exV x.k x.v x.nm a→∃ (ao:Option Addr) (ca:Nat) (ps:List (Ex×Value)),a=.slice ao x.args.length ca∧ps.map (·.1)=x.args∧(∀ p ∈ ps,ExAt B w (exV p.1.k p.1.v p.1.nm p.2) p.1)∧(x.args=[]→ao=none→ca=0) ∧
   (x.args≠[]→∃ b off,ao=some ⟨b,off,none⟩∧b < w.heap.size∧∀ j u,(ps.flatMap exC)[j]?=some u→w.cell? ⟨b,off+j,none⟩=some u):=by
  intro u hu e
  cases hu with
  | nil k v nm ao cap hz =>
   simp only [exV,Value.agg.injEq,Array.mk.injEq,List.cons.injEq,and_true] at e
   exact ⟨ao,cap,[],e.2.2.2.2.2.symm,rfl,(by intro p hp;cases hp),fun _=>hz,fun hh=>absurd rfl hh⟩
  | args k v nm b off cap xs us hx hB hs hc hh =>
   simp only [exV,Value.agg.injEq,Array.mk.injEq,List.cons.injEq,and_true] at e
   have hform:∀ i:Nat,∃ s:Value,∀ y,xs[i]?=some y→us i=exV y.k y.v y.nm s:=by
    intro i
    cases hi:xs[i]? with
    | none=>exact ⟨undef,fun y hy=>by cases hy⟩
    | some z =>
     obtain ⟨k',v',nm',ao,n,ca,e⟩:=(hh i z hi).form
     have hp:=ExAt.parts (e ▸ hh i z hi)
     refine ⟨.slice ao n ca,fun y hy=>?_⟩
     cases hy
     rw [e,hp.1,hp.2.1,hp.2.2]
   have hf:=fun i=>Classical.choose_spec (hform i)
   generalize hS:(fun i=>Classical.choose (hform i))=S at hf
   have hf':∀ i y,xs[i]?=some y→us i=exV y.k y.v y.nm (S i):=fun i y hy=>by have:=hf i y hy;rw [← hS];exact this
   let ps:List (Ex×Value):=xs.mapIdx fun i y=>(y,S i)
   have hget:∀ i:Nat,ps[i]?=(xs[i]?).map fun y=>(y,S i):=fun i=>List.getElem?_mapIdx
   refine ⟨some ⟨b,off,none⟩,cap,ps,e.2.2.2.2.2.symm, ?_, ?_,(fun _ hh=>by cases hh),fun _=>⟨b,off,rfl,hs, ?_⟩⟩
   ·apply List.ext_getElem?
    intro i
    rw [List.getElem?_map,hget,Option.map_map]
    show Option.map _ xs[i]?=xs[i]?
    cases xs[i]? <;> rfl
   ·intro p hp
    obtain ⟨i,hi⟩:=List.mem_iff_getElem?.1 hp
    rw [hget] at hi
    obtain ⟨y,hy,rfl⟩:=Option.map_eq_some_iff.1 hi
    have:=hh i y hy
    rw [hf' i y hy] at this
    exact this
   ·intro j u hj
    have hjl:=(List.getElem?_eq_some_iff.1 hj).1
    rw [yg9] at hjl
    have hq:j % 6 < 6:=Nat.mod_lt _ (by decide)
    have hjk:j=(j / 6)*6+j % 6:=by omega
    have hk:j / 6 < ps.length:=by omega
    have hx':ps[j / 6]?=some ps[j / 6]:=List.getElem?_eq_getElem hk
    have hfg:=yco exC 6 (fun _=>rfl) ps (j / 6) _ hx' (j % 6) hq
    rw [← hjk] at hfg
    rw [hfg] at hj
    rw [hget] at hx'
    obtain ⟨y,hy,hyp⟩:=Option.map_eq_some_iff.1 hx'
    rw [← hyp] at hj
    obtain ⟨k',v',nm',a',e',c0,c1,c2,c3,c4,c5⟩:=hc (j / 6) (List.getElem?_eq_some_iff.1 hy).1
    have e2:=e'.symm.trans (hf' (j / 6) y hy)
    simp only [exV,Value.agg.injEq,Array.mk.injEq,List.cons.injEq,and_true] at e2
    obtain ⟨r0,r1,r2,r3,r4,r5⟩:=e2
    have hoff:off+j=off+6*(j / 6)+j % 6:=by omega
    rw [hoff]
    generalize j % 6=q at hj hq
    match q,hq,hj with
    | 0,_,hj=>exact c0.trans ((congrArg some r0).trans hj)
    | 1,_,hj=>exact c1.trans ((congrArg some r1).trans hj)
    | 2,_,hj=>exact c2.trans ((congrArg some r2).trans hj)
    | 3,_,hj=>exact c3.trans ((congrArg some r3).trans hj)
    | 4,_,hj=>exact c4.trans ((congrArg some r4).trans hj)
    | 5,_,hj=>exact c5.trans ((congrArg some r5).trans hj)
 exact go _ h rfl
theorem Tryz.info_ex:(Tryz.prog.info? 29).map (fun i=>(i.zero,i.size,i.bytes))=some (some (.agg #[.int .i64 0,.int .i64 0,.int .i64 0,.string ⟨#[]⟩,.string ⟨#[]⟩,.slice none 0 0]),6,80):=by kernel_rfl
theorem Fit.args {x:Ex} (h:Fit x):x.args.length*80≤140737488351232∧∀ y ∈ x.args,Fit y:=by
 cases h with
 | mk k v nm args hv hn ha hh=>exact ⟨ha,hh⟩
theorem yf4 {w:World} {u:Value} {x:Ex} (h:ExAt 0 w u x) (hf:Fit x) :
  Calls Tryz.prog 69 #[u] w fun e w'=>e=.returned (.bool (decide (15 < ya4 x)))∧Below w.heap.size w w':=by
 obtain ⟨i0,hi,hz0,hz1,hz2⟩:=info_parts Tryz.info_ex
 obtain ⟨ao,ca,rfl⟩:=h.len
 have hx0:ExAt 0 w (exV x.k x.v x.nm (.slice ao x.args.length ca)) x:=h
 rw [exV]
 have b0:=(Below.refl w.heap.size w).alloc (Nat.le_refl _) (.cells #[.int .i64 x.k,.int .i64 x.v.k,.int .i64 x.v.n,.string ⟨x.v.s.toArray⟩,.string ⟨x.nm.toArray⟩,.slice ao x.args.length ca] 29)
 have b1:=b0.alloc (by simp) (.cells #[.int .i64 x.k,.int .i64 x.v.k,.int .i64 x.v.n,.string ⟨x.v.s.toArray⟩,.string ⟨x.nm.toArray⟩,.slice ao x.args.length ca] 29)
 have ow:=ye6 (w.alloc (.cells #[.int .i64 x.k,.int .i64 x.v.k,.int .i64 x.v.n,.string ⟨x.v.s.toArray⟩,.string ⟨x.nm.toArray⟩,.slice ao x.args.length ca] 29)) w.heap.size 29 6 #[.int .i64 x.k,.int .i64 x.v.k,.int .i64 x.v.n,.string ⟨x.v.s.toArray⟩,.string ⟨x.nm.toArray⟩,.slice ao x.args.length ca] rfl (by simp)
 have hpl:(w.alloc (.cells #[.int .i64 x.k,.int .i64 x.v.k,.int .i64 x.v.n,.string ⟨x.v.s.toArray⟩,.string ⟨x.nm.toArray⟩,.slice ao x.args.length ca] 29)).heap.size=w.heap.size+1:=by simp
 rw [hpl] at ow
 have HS:Hid (ya4 x=0+ybE (([(x,Value.slice ao x.args.length ca)].drop 0).map (·.1))):=by show _=_;simp [ybE]
 go_enter Tryz.func69,Tryz.ntmps69
 go_wp2
 go_loopw [3,4] (fun v i wr=>∃ (ps:List (Ex×Value)) (k:Nat),i=.int .i64 (k:Int)∧wr.ownsRow w.heap.size 29 6 v ps.length (ps.flatMap exC)∧Below w.heap.size w wr∧k≤ps.length∧Hid (∀ p ∈ ps,ExAt 0 w (exV p.1.k p.1.v p.1.nm p.2) p.1∧Fit p.1)∧ps.length≤2000000000000 ∧
   Hid (ya4 x=k+ybE ((ps.drop k).map (·.1)))) (fun _ i _=>16 - (intOf i).toNat)
 case atStart =>
  exact ⟨[(x,.slice ao x.args.length ca)],0,rfl,ow,b1,by simp,(by intro p hp;simp at hp;subst hp;exact ⟨hx0,hf⟩),by simp,HS⟩
 case round =>
  obtain ⟨ps,k,rfl,hown,hnx,hk,HP,hlen,HE⟩:=hrel
  clear ow HS b0 b1 hpl h
  by_cases hlt:k < ps.length
  ·obtain ⟨g,cap',hv,hg1,hg2⟩:=yen hown (by omega)
   subst hv
   by_cases h15:ps.length≤15
   ·obtain ⟨⟨y,s⟩,hy⟩:∃ p,ps[k]?=some p:=⟨ps[k],List.getElem?_eq_getElem hlt⟩
    obtain ⟨hye,hyf⟩:=HP.out _ (List.mem_of_getElem? hy)
    obtain ⟨ao2,ca2,qs,hs,hmap,hall,hnil,hcells⟩:=ExAt.pairs hye
    have hs:s=.slice ao2 y.args.length ca2:=hs
    have hmap:qs.map (·.1)=y.args:=hmap
    have hql:qs.length=y.args.length:=by rw [← hmap,List.length_map]
    have hfl:=yco exC 6 (fun _=>rfl) ps k _ hy 5 (by decide)
    have a5:wr.cell? ⟨g,k*6+5,none⟩=some (.slice ao2 y.args.length ca2):=(ydR hown _ s (hfl.trans rfl)).trans (by rw [hs])
    have hd1:(k:Int) < (ps.length:Int):=by omega
    have hd2:(ps.length:Int)≤15:=by omega
    have hfit:=hyf.args.1
    have HP2:Hid (∀ p ∈ ps++qs,ExAt 0 w (exV p.1.k p.1.v p.1.nm p.2) p.1∧Fit p.1):=by
     intro p hp
     rcases List.mem_append.1 hp with hp|hp
     ·exact HP.out p hp
     ·refine ⟨hall p hp,hyf.args.2 p.1 ?_⟩
      rw [← hmap];exact List.mem_map.2 ⟨p,hp,rfl⟩
    have HE2:Hid (ya4 x=(k+1)+ybE (((ps++qs).drop (k+1)).map (·.1))):=by
     show _=_
     rw [HE.out,List.drop_eq_getElem_cons hlt,List.map_cons,ybE]
     have e1:ps[k]=(y,s):=(List.getElem?_eq_some_iff.1 hy).2
     rw [e1,yeO,List.drop_append_of_le_length (by omega),List.map_append,yhI,hmap]
     dsimp only
     omega
    have hR:∀ {v':Value} {w':World},w'.ownsRow w.heap.size 29 6 v' (ps.length+y.args.length) (ps.flatMap exC++qs.flatMap exC)→w'.ownsRow w.heap.size 29 6 v' (ps++qs).length ((ps++qs).flatMap exC):=by
     intro v' w' hh
     rw [List.length_append,List.flatMap_append,hql];exact hh
    have hsz:=hnx.size
    have hlt5:=hown.lt
    have hnone:∀ u ∈ qs.flatMap exC,u.oneCell'=true:=by
     intro u hu
     obtain ⟨p,hp,hup⟩:=List.mem_flatMap.1 hu
     have hone:=(hall p hp).one
     simp only [exC,List.mem_cons,List.not_mem_nil,or_false] at hup
     rcases hup with rfl|rfl|rfl|rfl|rfl|rfl <;> first|rfl|exact hone
    clear HP HE hye hfl hy
    cases ao2 with
    | none =>
     have hy0:y.args=[]:=by
      rcases Classical.em (y.args=[]) with h|h
      ·exact h
      ·obtain ⟨b,off,hh,-⟩:=hcells h;cases hh
     have hc0:=hnil hy0 rfl
     subst hc0
     have hq0:qs=[]:=by rw [hy0] at hql;exact List.length_eq_zero_iff.1 hql
     rw [hy0] at a5
     simp only [List.length_nil] at a5
     go_wp2_with (at_builtin;refine wpList_append_own_none rfl _ _ 27 rfl w.heap.size 29 i0 6 Tryz.underlying27 hi _ _ _ rfl hown rfl ?_)
     go_roundw
     case rel=>exact ⟨ps,k+1,by go_num,hown,hnx,by omega,(by have:=HP2;rw [hq0,List.append_nil] at this;exact this),hlen,(by have:=HE2;rw [hq0,List.append_nil] at this;exact this)⟩
     case measure=>simp [intOf];omega
    | some ad =>
     have hnews:∀ j u,(qs.flatMap exC)[j]?=some u→wr.cell? (ad.add j)=some u:=by
      rcases Classical.em (y.args=[]) with h|h
      ·intro j u hj
       have hq0:qs=[]:=by rw [h] at hql;exact List.length_eq_zero_iff.1 hql
       rw [hq0] at hj;simp at hj
      ·obtain ⟨b,off,hh,hb,hc⟩:=hcells h
       intro j u hj
       cases hh
       rw [Addr.add_mid]
       exact (hnx.cell (p:=⟨b,off+j,none⟩) hb).trans (hc j u hj)
     have hnl:(qs.flatMap exC).length=y.args.length*6:=by rw [yg9,hql]
     clear hcells hall hnil
     go_wp2_with (at_builtin;refine wpList_append_own _ rfl _ _ 27 rfl w.heap.size 29 i0 (.agg #[.int .i64 0,.int .i64 0,.int .i64 0,.string ⟨#[]⟩,.string ⟨#[]⟩,.slice none 0 0]) 6 80 Tryz.underlying27 hi hz0 hz1 hz2 rfl (by decide) _ _ _ rfl hown ad y.args.length ca2 (qs.flatMap exC) rfl hnl hnews hnone ?c3 ?c4 ?c5 ?_)
     case c3=>unfold maxLen;omega
     case c4=>omega
     intro v' w3 hown' hgrow _
     have hB3:Below w.heap.size w w3:=hnx.grown hgrow hsz (fun j hj=>(hlt5 j hj).1)
     have R3:=hR hown'
     clear hown' hgrow hown hlt5 hnews
     go_wp2
     go_roundw
     case rel=>exact ⟨ps++qs,k+1,by go_num,R3,hB3,by simp;omega,HP2,by simp;omega,HE2⟩
     case measure=>simp [intOf];omega
   ·have hd1:(k:Int) < (ps.length:Int):=by omega
    have HZ:Hid (15 < ya4 x):=by
     show _ < _
     rw [HE.out]
     have:=yns ((ps.drop k).map (·.1))
     rw [List.length_map,List.length_drop] at this
     omega
    have hd2:decide ((ps.length:Int)≤15)=false:=by simp;omega
    have hd3:decide (ps.length≤15)=false:=by simp;omega
    have hd4:(15:Int) < (ps.length:Int):=by omega
    clear HE HP
    go_wp2
    go_ret
    exact ⟨yaF (by simp [HZ.out]),hnx⟩
  ·obtain ⟨ao',cap',hv⟩:=ybV hown
   subst hv
   have hkn:k=ps.length:=by omega
   have HZ:Hid (ya4 x=ps.length):=by
    show _=_
    rw [HE.out,hkn,List.drop_length]
    simp [ybE]
   have hd0:decide ((k:Int) < (ps.length:Int))=false:=by simp;omega
   clear HE HP
   go_wp2
   go_ret
   exact ⟨yaF (by rw [HZ.out,Bool.eq_iff_iff];simp;omega),hnx⟩
end Go.Proofs.YtkpeklealgicpabGreatDoor
